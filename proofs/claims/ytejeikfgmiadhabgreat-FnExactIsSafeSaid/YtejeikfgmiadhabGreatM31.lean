/- What the program answers for the least box of a list of places. -/
import Derived.Test.YtejeikfgmiadhabGreatM30
import Derived.Test.YtejeikfgmiadhabGreatM28
import Derived.Test.YtejeikfgmiadhabGreatWr
import Derived.Test.YtejeikfgmiadhabGreatM9
set_option linter.unusedVariables false
set_option linter.unusedSimpArgs false
namespace Go.Proofs.YtejeikfgmiadhabGreat.Bi
open Go.RowKit Go.Proofs.YtejeikfgmiadhabGreat.Mem Go.Proofs.YtejeikfgmiadhabGreat.Cx Go.Proofs.YtejeikfgmiadhabGreat.Cm Go.Proofs.YtejeikfgmiadhabGreat.Pl Go.Proofs.YtejeikfgmiadhabGreat.Str Go.Proofs.YtejeikfgmiadhabGreat.Pw Go.Proofs.YtejeikfgmiadhabGreat.P2 Go.Proofs.YtejeikfgmiadhabGreat.Bx Go.Proofs.YtejeikfgmiadhabGreat.Tb Go.Proofs.YtejeikfgmiadhabGreat.Pls Go.Proofs.YtejeikfgmiadhabGreat.Bo
set_option linter.unusedVariables false

/-- The places as words. -/
def cx (zs : List (Int × Int)) : List Value := zs.map fun p => .complex .f32 (Meas.f32 p.1) (Meas.f32 p.2)
theorem infoC : (Tryz.prog.info? 81).map (fun i => (i.zero, i.size, i.bytes)) = some (some (.complex .f32 0 0), 1, 8) := by kernel_rfl
@[go_sem] theorem run_store_complex (P : Program) (w : World) (a : Addr) (m : Mode) (k : FloatKind) (b c : Nat) : (store a (.complex k b c) m).run P w = stored P w a (.complex k b c) m := run_store P w a _ m rfl

theorem ms_le {x y : Int} (h : (ms x && ms y) = true) : V x ∧ V y := pl_yes h
theorem V.min {a b : Int} (h : V a) (k : V b) : V (min a b) := by unfold V at *; omega
theorem V.max {a b : Int} (h : V a) (k : V b) : V (max a b) := by unfold V at *; omega

end Go.Proofs.YtejeikfgmiadhabGreat.Bi
namespace Go.Proofs.YtejeikfgmiadhabGreat.Wx
open Go.RowKit Go.Proofs.YtejeikfgmiadhabGreat.Mem Go.Proofs.YtejeikfgmiadhabGreat.Rw Go.Proofs.YtejeikfgmiadhabGreat.Bk Go.Proofs.YtejeikfgmiadhabGreat.Cx Go.Proofs.YtejeikfgmiadhabGreat.Cm Go.Proofs.YtejeikfgmiadhabGreat.Jt Go.Proofs.YtejeikfgmiadhabGreat.Pl Go.Proofs.YtejeikfgmiadhabGreat.Str Go.Proofs.YtejeikfgmiadhabGreat.Pw Go.Proofs.YtejeikfgmiadhabGreat.P2 Go.Proofs.YtejeikfgmiadhabGreat.Gs Go.Proofs.YtejeikfgmiadhabGreat.Wm Go.Proofs.YtejeikfgmiadhabGreat.Wi Go.Proofs.YtejeikfgmiadhabGreat.Wa Go.Proofs.YtejeikfgmiadhabGreat.Wb Go.Proofs.YtejeikfgmiadhabGreat.Wc Go.Proofs.YtejeikfgmiadhabGreat.We Go.Proofs.YtejeikfgmiadhabGreat.Pls Go.Proofs.YtejeikfgmiadhabGreat.Bi Go.Proofs.YtejeikfgmiadhabGreat.Bo Go.Proofs.YtejeikfgmiadhabGreat.Tb Go.Proofs.YtejeikfgmiadhabGreat.Wr
set_option linter.unusedVariables false
set_option linter.unusedSimpArgs false

def fUp (zs : List G) (ps : List (Int × Int)) (k : Nat) : Bool := (List.range k).all fun j : Nat => decide (dr zs (j : Int) ∈ ps)
/-- Whether a wind fits a rose for n ticks. -/
def fr (zs : List G) (ps : List (Int × Int)) (t : Int) : Bool := wd zs && rs ps && decide (t ≤ 128) && fUp zs ps t.toNat
/-- None of the first k is p. -/
def Not (ps : List (Int × Int)) (p : Int × Int) (k : Nat) : Prop := ∀ j, j < k → ps[j]? ≠ some p
theorem Not.zero (ps : List (Int × Int)) (p : Int × Int) : Not ps p 0 := fun j hj => absurd hj (Nat.not_lt_zero _)
theorem Not.next {ps : List (Int × Int)} {p q : Int × Int} {k : Nat} (h : Not ps p k) (hq : ps[k]? = some q) (hne : q ≠ p) : Not ps p (k + 1) := by
  intro j hj
  by_cases e : j = k
  · subst e; rw [hq]; intro h; injection h with h; exact hne h
  · exact h j (by omega)
theorem Not.all {ps : List (Int × Int)} {p : Int × Int} {k : Nat} (h : Not ps p k) (hk : ps.length = k) : decide (p ∈ ps) = false := by
  apply decide_eq_false
  intro hp
  obtain ⟨j, hj, e⟩ := List.mem_iff_getElem.1 hp
  exact h j (by omega) (by rw [List.getElem?_eq_getElem hj, e])

theorem roseI {A : Option Addr} {n c : Nat} {zs : List (Int × Int)} {H : Nat} {r : Bool} (hn : zs.length = n) (hb : n ≤ 1048576) (h : rs zs = r) (w : World) (hH : H ≤ w.heap.size) (hr : Rd w H A (pls zs)) :
    Calls Tryz.prog 41 #[.slice A n c] w fun e w' => e = .returned (.bool r) ∧ Below w.heap.size w w' := h ▸ isRoseI A n c zs H w hn hb hH hr
theorem roseS {A : Option Addr} {n c : Nat} {zs : List (Int × Int)} {H : Nat} {r : Bool} (hn : zs.length = n) (hb : n ≤ 1048576) (h : rs zs = r) (w : World) (hH : H ≤ w.heap.size) (hr : Rd w H A (pls zs)) :
    Calls Tryz.prog 33 #[.slice A n c] w fun e w' => e = .returned (.bool r) ∧ Below w.heap.size w w' := h ▸ isRoseS A n c zs H w hn hb hH hr
/-- The places of a rose are near. -/
theorem near_rs {ps : List (Int × Int)} (h : rs ps = true) : Near 8 ps := by
  intro p hp
  obtain ⟨j, hj, e⟩ := List.mem_iff_getElem.1 hp
  exact rs_each h (k := j) (by rw [List.getElem?_eq_getElem hj, e])
theorem good_rs {ps : List (Int × Int)} (h : rs ps = true) : good ps = true := by
  unfold good
  rw [List.all_eq_true]
  intro p hp
  have := near_rs h p hp
  exact pl_mk (by omega) (by omega)
end Go.Proofs.YtejeikfgmiadhabGreat.Wx
namespace Go.Proofs.YtejeikfgmiadhabGreat.Hd
end Go.Proofs.YtejeikfgmiadhabGreat.Hd
