/- What the least box of a list of places is, and what the model answers for it. -/
import Derived.Test.YtokncfhpmjohdaaGreatM20
import Derived.Test.YtokncfhpmjohdaaGreatM21
import Derived.StillTailTactics
import Derived.Test.YtokncfhpmjohdaaGreatM19
import Derived.Test.YtokncfhpmjohdaaGreatM5
set_option linter.unusedVariables false
set_option linter.unusedSimpArgs false
namespace Go.Proofs.YtokncfhpmjohdaaGreat.Bo
open Go.RowKit Go.Proofs.YtokncfhpmjohdaaGreat.Mem Go.Proofs.YtokncfhpmjohdaaGreat.Cm Go.Proofs.YtokncfhpmjohdaaGreat.Pl Go.Proofs.YtokncfhpmjohdaaGreat.Str Go.Proofs.YtokncfhpmjohdaaGreat.Pw Go.Proofs.YtokncfhpmjohdaaGreat.P2 Go.Proofs.YtokncfhpmjohdaaGreat.Bx Go.Proofs.YtokncfhpmjohdaaGreat.Tb Go.Proofs.YtokncfhpmjohdaaGreat.Pls
set_option linter.unusedVariables false

abbrev Q4 := Int × Int × Int × Int
def step (q : Q4) (p : Int × Int) : Q4 := (min q.1 p.1, min q.2.1 p.2, max q.2.2.1 p.1, max q.2.2.2 p.2)
def one (p : Int × Int) : Q4 := (p.1, p.2, p.1, p.2)
/-- The least box of these places; zeros of none. -/
def boxA : List (Int × Int) → Q4
  | [] => (0, 0, 0, 0)
  | p :: ps => ps.foldl step (one p)
def good (ps : List (Int × Int)) : Bool := ps.all fun p => ms p.1 && ms p.2
def val (ps : List (Int × Int)) : Q4 := if good ps = true then boxA ps else (0, 0, 0, 0)
def bq (q : Q4) : Value := box4 q.1 q.2.1 q.2.2.1 q.2.2.2

/-- Block b holds these four, and may be written. -/
structure B4 (w : World) (b : Nat) (x y z u : Int) : Prop where
  c0 : w.cell? ⟨b, 0, none⟩ = some (.int .i64 x)
  c1 : w.cell? ⟨b, 1, none⟩ = some (.int .i64 y)
  c2 : w.cell? ⟨b, 2, none⟩ = some (.int .i64 z)
  c3 : w.cell? ⟨b, 3, none⟩ = some (.int .i64 u)
  f0 : w.frozen? ⟨b, 0, none⟩ = false
  f1 : w.frozen? ⟨b, 1, none⟩ = false
  f2 : w.frozen? ⟨b, 2, none⟩ = false
  f3 : w.frozen? ⟨b, 3, none⟩ = false

theorem cell_set {W : World} {b i j : Nat} {v u : Value} (h : W.cell? ⟨b, j, none⟩ = some u) : (W.setCell ⟨b, i, none⟩ v).cell? ⟨b, j, none⟩ = some (if i = j then v else u) := by
  by_cases e : i = j
  · subst e; rw [if_pos rfl]; exact World.cell?_setCell_same' _ _ _ (by rw [h]; rfl)
  · rw [if_neg e]; exact (World.cell?_setCell_other _ _ _ _ (by simp [e])).trans h
theorem cell_far {W : World} {b b' i j : Nat} {v u : Value} (e : b' ≠ b) (h : W.cell? ⟨b, j, none⟩ = some u) : (W.setCell ⟨b', i, none⟩ v).cell? ⟨b, j, none⟩ = some u := (World.cell?_setCell_other _ _ _ _ (by simp [e])).trans h
theorem frozen_set {W : World} {a p : Addr} {v : Value} (h : W.frozen? p = false) : (W.setCell a v).frozen? p = false := by rw [World.frozen?_setCell]; exact h

section
variable {W W' : World} {b b' i : Nat} {x y z u n : Int} {v : Value}
theorem B4.far (e : b' ≠ b) (h : B4 W b x y z u) : B4 (W.setCell ⟨b', i, none⟩ v) b x y z u := ⟨cell_far e h.c0, cell_far e h.c1, cell_far e h.c2, cell_far e h.c3, frozen_set h.f0, frozen_set h.f1, frozen_set h.f2, frozen_set h.f3⟩
theorem B4.set0 (h : B4 W b x y z u) : B4 (W.setCell ⟨b, 0, none⟩ (.int .i64 n)) b n y z u := ⟨cell_set h.c0, cell_set h.c1, cell_set h.c2, cell_set h.c3, frozen_set h.f0, frozen_set h.f1, frozen_set h.f2, frozen_set h.f3⟩
theorem B4.set1 (h : B4 W b x y z u) : B4 (W.setCell ⟨b, 1, none⟩ (.int .i64 n)) b x n z u := ⟨cell_set h.c0, cell_set h.c1, cell_set h.c2, cell_set h.c3, frozen_set h.f0, frozen_set h.f1, frozen_set h.f2, frozen_set h.f3⟩
theorem B4.set2 (h : B4 W b x y z u) : B4 (W.setCell ⟨b, 2, none⟩ (.int .i64 n)) b x y n u := ⟨cell_set h.c0, cell_set h.c1, cell_set h.c2, cell_set h.c3, frozen_set h.f0, frozen_set h.f1, frozen_set h.f2, frozen_set h.f3⟩
theorem B4.set3 (h : B4 W b x y z u) : B4 (W.setCell ⟨b, 3, none⟩ (.int .i64 n)) b x y z n := ⟨cell_set h.c0, cell_set h.c1, cell_set h.c2, cell_set h.c3, frozen_set h.f0, frozen_set h.f1, frozen_set h.f2, frozen_set h.f3⟩
theorem B4.below (h : B4 W b x y z u) (hb : Below W.heap.size W W') : B4 W' b x y z u := ⟨cell_below hb h.c0, cell_below hb h.c1, cell_below hb h.c2, cell_below hb h.c3, frozen_below hb h.c0 h.f0, frozen_below hb h.c1 h.f1, frozen_below hb h.c2 h.f2, frozen_below hb h.c3 h.f3⟩
end

theorem wp_still_tail {P : Program} {id : Nat} {Q : Exit → Act → World → Prop} {a : Act} {w : World} {l : List Oper} (n : Nat) (hm : P.follows .mixedOrders = true) (hB : Region.lexTailB .any l.toArray n = true)
    (h : ∀ W2, W2 = w.drew → wpStill P l.toArray W2 (fun a' => wpList P l.toArray Q (l.drop n) a' W2) (l.take n) a) : (Code.region id l.toArray true).wp P Q a w := wp_region_still_tail n hm hB (h _ rfl)

end Go.Proofs.YtokncfhpmjohdaaGreat.Bo
namespace Go.Proofs.YtokncfhpmjohdaaGreat.Bi
open Go.RowKit Go.Proofs.YtokncfhpmjohdaaGreat.Mem Go.Proofs.YtokncfhpmjohdaaGreat.Cx Go.Proofs.YtokncfhpmjohdaaGreat.Cm Go.Proofs.YtokncfhpmjohdaaGreat.Pl Go.Proofs.YtokncfhpmjohdaaGreat.Str Go.Proofs.YtokncfhpmjohdaaGreat.Pw Go.Proofs.YtokncfhpmjohdaaGreat.P2 Go.Proofs.YtokncfhpmjohdaaGreat.Bx Go.Proofs.YtokncfhpmjohdaaGreat.Tb Go.Proofs.YtokncfhpmjohdaaGreat.Pls Go.Proofs.YtokncfhpmjohdaaGreat.Bo
set_option linter.unusedVariables false

/-- The places as words. -/
def cx (zs : List (Int × Int)) : List Value := zs.map fun p => .complex .f32 (Meas.f32 p.1) (Meas.f32 p.2)
theorem infoC : (Tryz.prog.info? 82).map (fun i => (i.zero, i.size, i.bytes)) = some (some (.complex .f32 0 0), 1, 8) := by kernel_rfl
@[go_sem] theorem run_store_complex (P : Program) (w : World) (a : Addr) (m : Mode) (k : FloatKind) (b c : Nat) : (store a (.complex k b c) m).run P w = stored P w a (.complex k b c) m := run_store P w a _ m rfl

theorem ms_le {x y : Int} (h : (ms x && ms y) = true) : V x ∧ V y := pl_yes h
theorem V.min {a b : Int} (h : V a) (k : V b) : V (min a b) := by unfold V at *; omega
theorem V.max {a b : Int} (h : V a) (k : V b) : V (max a b) := by unfold V at *; omega

end Go.Proofs.YtokncfhpmjohdaaGreat.Bi
namespace Go.Proofs.YtokncfhpmjohdaaGreat.Wx
open Go.RowKit Go.Proofs.YtokncfhpmjohdaaGreat.Mem Go.Proofs.YtokncfhpmjohdaaGreat.Rw Go.Proofs.YtokncfhpmjohdaaGreat.Bk Go.Proofs.YtokncfhpmjohdaaGreat.Cx Go.Proofs.YtokncfhpmjohdaaGreat.Cm Go.Proofs.YtokncfhpmjohdaaGreat.Jt Go.Proofs.YtokncfhpmjohdaaGreat.Pl Go.Proofs.YtokncfhpmjohdaaGreat.Str Go.Proofs.YtokncfhpmjohdaaGreat.Pw Go.Proofs.YtokncfhpmjohdaaGreat.P2 Go.Proofs.YtokncfhpmjohdaaGreat.Gs Go.Proofs.YtokncfhpmjohdaaGreat.Wm Go.Proofs.YtokncfhpmjohdaaGreat.Wi Go.Proofs.YtokncfhpmjohdaaGreat.Wa Go.Proofs.YtokncfhpmjohdaaGreat.Wb Go.Proofs.YtokncfhpmjohdaaGreat.Wc Go.Proofs.YtokncfhpmjohdaaGreat.We Go.Proofs.YtokncfhpmjohdaaGreat.Pls Go.Proofs.YtokncfhpmjohdaaGreat.Bi Go.Proofs.YtokncfhpmjohdaaGreat.Bo Go.Proofs.YtokncfhpmjohdaaGreat.Tb Go.Proofs.YtokncfhpmjohdaaGreat.Wr
set_option linter.unusedVariables false
set_option linter.unusedSimpArgs false

def fUp (zs : List G) (ps : List (Int × Int)) (k : Nat) : Bool := (List.range k).all fun j : Nat => decide (dr zs (j : Int) ∈ ps)
/-- Whether a wind fits a rose for n ticks. -/
def fr (zs : List G) (ps : List (Int × Int)) (t : Int) : Bool := wd zs && rs ps && decide (t ≤ 128) && fUp zs ps t.toNat
/-- None of the first k is p. -/
def Not (ps : List (Int × Int)) (p : Int × Int) (k : Nat) : Prop := ∀ j, j < k → ps[j]? ≠ some p
theorem Not.zero (ps : List (Int × Int)) (p : Int × Int) : Not ps p 0 := fun j hj => absurd hj (Nat.not_lt_zero _)
theorem Not.next {ps : List (Int × Int)} {p q : Int × Int} {k : Nat} (h : Not ps p k) (hq : ps[k]? = some q) (hne : q ≠ p) : Not ps p (k + 1) := by
  intro j hj
  by_cases e : j = k
  · subst e; rw [hq]; intro h; injection h with h; exact hne h
  · exact h j (by omega)
theorem Not.all {ps : List (Int × Int)} {p : Int × Int} {k : Nat} (h : Not ps p k) (hk : ps.length = k) : decide (p ∈ ps) = false := by
  apply decide_eq_false
  intro hp
  obtain ⟨j, hj, e⟩ := List.mem_iff_getElem.1 hp
  exact h j (by omega) (by rw [List.getElem?_eq_getElem hj, e])

theorem roseI {A : Option Addr} {n c : Nat} {zs : List (Int × Int)} {H : Nat} {r : Bool} (hn : zs.length = n) (hb : n ≤ 1048576) (h : rs zs = r) (w : World) (hH : H ≤ w.heap.size) (hr : Rd w H A (pls zs)) :
    Calls Tryz.prog 62 #[.slice A n c] w fun e w' => e = .returned (.bool r) ∧ Below w.heap.size w w' := h ▸ isRoseI A n c zs H w hn hb hH hr
theorem roseS {A : Option Addr} {n c : Nat} {zs : List (Int × Int)} {H : Nat} {r : Bool} (hn : zs.length = n) (hb : n ≤ 1048576) (h : rs zs = r) (w : World) (hH : H ≤ w.heap.size) (hr : Rd w H A (pls zs)) :
    Calls Tryz.prog 33 #[.slice A n c] w fun e w' => e = .returned (.bool r) ∧ Below w.heap.size w w' := h ▸ isRoseS A n c zs H w hn hb hH hr
/-- The places of a rose are near. -/
theorem near_rs {ps : List (Int × Int)} (h : rs ps = true) : Near 8 ps := by
  intro p hp
  obtain ⟨j, hj, e⟩ := List.mem_iff_getElem.1 hp
  exact rs_each h (k := j) (by rw [List.getElem?_eq_getElem hj, e])
end Go.Proofs.YtokncfhpmjohdaaGreat.Wx
namespace Go.Proofs.YtokncfhpmjohdaaGreat.Hd
end Go.Proofs.YtokncfhpmjohdaaGreat.Hd
