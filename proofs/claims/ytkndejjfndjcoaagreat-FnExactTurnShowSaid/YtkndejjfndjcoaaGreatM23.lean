/- Drifts at a tick and lists of them, of the model. -/
import Derived.Test.YtkndejjfndjcoaaGreatWi
import Derived.Test.YtkndejjfndjcoaaGreatM7
import Derived.Laws.AppendOwn
import Derived.ArgAppend
import Derived.Deep.DeepCutAuto
import Derived.Handy
import Derived.ProofKit
import Derived.Test.YtkndejjfndjcoaaGreatM22
import Derived.Test.YtkndejjfndjcoaaGreatM4
namespace Go.Proofs.YtkndejjfndjcoaaGreat.Wa
open Go.RowKit Go.Proofs.YtkndejjfndjcoaaGreat.Mem Go.Proofs.YtkndejjfndjcoaaGreat.Rw Go.Proofs.YtkndejjfndjcoaaGreat.Bk Go.Proofs.YtkndejjfndjcoaaGreat.Jt Go.Proofs.YtkndejjfndjcoaaGreat.Pw Go.Proofs.YtkndejjfndjcoaaGreat.P2 Go.Proofs.YtkndejjfndjcoaaGreat.Gs Go.Proofs.YtkndejjfndjcoaaGreat.Wm Go.Proofs.YtkndejjfndjcoaaGreat.Wi
set_option linter.unusedVariables false
set_option linter.unusedSimpArgs false

abbrev pq (p : Int × Int) : Value := .agg #[.int .i64 p.1, .int .i64 p.2]
abbrev pc (x y : Int) : Array Value := #[.int .i64 x, .int .i64 y]

theorem infoPlace : (Tryz.prog.info? 46).map (fun i => (i.zero, i.size, i.bytes)) = some (some (.agg #[.int .i64 0, .int .i64 0]), 2, 16) := by kernel_rfl
/-- The cells of a list of places. -/
def pcs (ps : List (Int × Int)) : List Value := ps.flatMap fun p => [.int .i64 p.1, .int .i64 p.2]
theorem pcs_len (ps : List (Int × Int)) : (pcs ps).length = ps.length * 2 := flat_len (cells := fun p : Int × Int => [Value.int .i64 p.1, .int .i64 p.2]) (fun _ => rfl) ps
theorem pcs_snoc (ps : List (Int × Int)) (p : Int × Int) : pcs ps ++ [.int .i64 p.1, .int .i64 p.2] = pcs (ps ++ [p]) := by unfold pcs; simp
theorem pcs_get {ps : List (Int × Int)} {k : Nat} {p : Int × Int} (h : ps[k]? = some p) : (pcs ps)[k * 2]? = some (.int .i64 p.1) ∧ (pcs ps)[k * 2 + 1]? = some (.int .i64 p.2) :=
  ⟨(flat_get (K := 2) (cells := fun p : Int × Int => [Value.int .i64 p.1, .int .i64 p.2]) (fun _ => rfl) h 0 (by omega)).trans rfl, (flat_get (K := 2) (cells := fun p : Int × Int => [Value.int .i64 p.1, .int .i64 p.2]) (fun _ => rfl) h 1 (by omega)).trans rfl⟩

/-- A row of one's own with these places; what was there is as it was. -/
def Row2 (w : World) (ps : List (Int × Int)) (e : Ending) (w' : World) : Prop :=
  ∃ g c, e = .returned (.slice (some ⟨g, 0, none⟩) ps.length c) ∧ w'.ownsRow w.heap.size 46 2 (.slice (some ⟨g, 0, none⟩) ps.length c) ps.length (pcs ps) ∧ Below w.heap.size w w'
/-- A row of one's own with these gusts; what was there is as it was. -/
def Row3 (w : World) (zs : List G) (e : Ending) (w' : World) : Prop :=
  ∃ g c, e = .returned (.slice (some ⟨g, 0, none⟩) zs.length c) ∧ w'.ownsRow w.heap.size 82 3 (.slice (some ⟨g, 0, none⟩) zs.length c) zs.length (gls zs) ∧ Below w.heap.size w w'
theorem own_base {w : World} {base n : Nat} {e : TypeId} {s : Nat} {v : Value} {xs : List Value} (h : w.ownsRow base e s v n xs) : ∀ k, v.ownBlock = some k → base ≤ k := fun k e => (h.lt k e).1

end Go.Proofs.YtkndejjfndjcoaaGreat.Wa
namespace Go.Proofs.YtkndejjfndjcoaaGreat.Wc
open Go.RowKit Go.Proofs.YtkndejjfndjcoaaGreat.Mem Go.Proofs.YtkndejjfndjcoaaGreat.Rw Go.Proofs.YtkndejjfndjcoaaGreat.Bk Go.Proofs.YtkndejjfndjcoaaGreat.Cx Go.Proofs.YtkndejjfndjcoaaGreat.Cm Go.Proofs.YtkndejjfndjcoaaGreat.Jt Go.Proofs.YtkndejjfndjcoaaGreat.Pl Go.Proofs.YtkndejjfndjcoaaGreat.Str Go.Proofs.YtkndejjfndjcoaaGreat.Pw Go.Proofs.YtkndejjfndjcoaaGreat.P2 Go.Proofs.YtkndejjfndjcoaaGreat.Gs Go.Proofs.YtkndejjfndjcoaaGreat.Wm Go.Proofs.YtkndejjfndjcoaaGreat.Wi Go.Proofs.YtkndejjfndjcoaaGreat.Wa
set_option linter.unusedVariables false
set_option linter.unusedSimpArgs false

abbrev zv (p : Int × Int) : Value := .complex .f32 (Meas.f32 p.1) (Meas.f32 p.2)
/-- The places as words. -/
def zs2 (l : List (Int × Int)) : List Value := l.map zv
theorem zs2_len (l : List (Int × Int)) : (zs2 l).length = l.length := List.length_map ..
theorem zs2_get {l : List (Int × Int)} {k : Nat} {p : Int × Int} (h : l[k]? = some p) : (zs2 l)[k]? = some (zv p) := by
  unfold zs2; rw [List.getElem?_map, h]; rfl
theorem f32_0 : Meas.f32 0 = 0 := by decide
theorem infoC : (Tryz.prog.info? 144).map (fun i => (i.zero, i.size, i.bytes)) = some (some (.complex .f32 0 0), 1, 8) := by kernel_rfl
theorem made_c (n : Nat) : (madeCells (Value.complex .f32 0 0).cells (n * 1)).toList = List.replicate n (.complex .f32 0 0) := by
  apply List.ext_getElem?
  intro j
  rw [Nat.mul_one, Array.getElem?_toList, List.getElem?_replicate]
  simp only [madeCells, Value.cells]
  by_cases h : j < n <;> simp [h, Nat.mod_one]
@[go_sem] theorem run_store_complex (P : Program) (w : World) (a : Addr) (m : Mode) (k : FloatKind) (b c : Nat) : (store a (.complex k b c) m).run P w = stored P w a (.complex k b c) m := run_store P w a _ m rfl

/-- The drifts at the first 128 ticks, the ticks below t by k + 1 gusts, the others by k. -/
def mixed (zs : List G) (k t : Nat) : List (Int × Int) := (List.range 128).map fun j => if j < t then dr (zs.take (k + 1)) (j : Int) else dr (zs.take k) (j : Int)
theorem mixed_len (zs : List G) (k t : Nat) : (mixed zs k t).length = 128 := by simp [mixed]
theorem mixed_get {zs : List G} {k t j : Nat} (h : j < 128) : (mixed zs k t)[j]? = some (if j < t then dr (zs.take (k + 1)) (j : Int) else dr (zs.take k) (j : Int)) := by
  unfold mixed; rw [List.getElem?_map, List.getElem?_range h]; rfl
theorem mixed_from {zs : List G} {k : Nat} {z : G} (hz : zs[k]? = some z) {t : Nat} (ht : (t : Int) ≤ z.1) : mixed zs k t = mixed zs k 0 := by
  unfold mixed
  apply List.map_congr_left
  intro j hj
  by_cases h : j < t
  · rw [if_pos h, if_neg (by omega), dr_take hz, if_neg (by omega)]
  · rw [if_neg h, if_neg (by omega)]
theorem mixed_end {zs : List G} {k : Nat} : mixed zs k 128 = mixed zs (k + 1) 0 := by
  unfold mixed
  apply List.map_congr_left
  intro j hj
  have := List.mem_range.1 hj
  rw [if_pos this, if_neg (by omega)]
theorem mixed_set {zs : List G} {k t : Nat} {z : G} (hz : zs[k]? = some z) (ht : z.1 ≤ (t : Int)) (h8 : t < 128) : (zs2 (mixed zs k t)).set t (zv z.2) = zs2 (mixed zs k (t + 1)) := by
  unfold zs2
  rw [← List.map_set]
  congr 1
  apply List.ext_getElem?
  intro j
  rw [List.getElem?_set]
  by_cases h : t = j
  · subst h
    rw [if_pos rfl, if_pos (by rw [mixed_len]; exact h8), mixed_get h8, if_pos (by omega), dr_take hz, if_pos ht]
  · rw [if_neg h]
    by_cases hj : j < 128
    · rw [mixed_get hj, mixed_get hj]
      by_cases h2 : j < t
      · rw [if_pos h2, if_pos (by omega)]
      · rw [if_neg h2, if_neg (by omega)]
    · rw [List.getElem?_eq_none (by rw [mixed_len]; omega), List.getElem?_eq_none (by rw [mixed_len]; omega)]
theorem mixed_zero (zs : List G) : zs2 (mixed zs 0 0) = List.replicate 128 (.complex .f32 0 0) := by
  apply List.ext_getElem?
  intro j
  rw [List.getElem?_replicate]
  by_cases h : j < 128
  · rw [zs2_get (mixed_get h), if_pos h, if_neg (by omega)]
    show some (Value.complex .f32 (Meas.f32 0) (Meas.f32 0)) = _
    rw [f32_0]
  · rw [if_neg h, List.getElem?_eq_none (by rw [zs2_len, mixed_len]; omega)]
theorem mixed_all (zs : List G) {n : Nat} (hn : zs.length = n) : mixed zs n 0 = drs zs 0 128 := by
  unfold mixed drs
  apply List.map_congr_left
  intro j hj
  rw [if_neg (by omega), ← hn, List.take_length, Nat.zero_add]

/-- A row of one's own with these words; what was there is as it was. -/
def RowC (w : World) (l : List (Int × Int)) (e : Ending) (w' : World) : Prop :=
  ∃ g, e = .returned (.slice (some ⟨g, 0, none⟩) l.length l.length) ∧ w'.ownsRow w.heap.size 144 1 (.slice (some ⟨g, 0, none⟩) l.length l.length) l.length (zs2 l) ∧ Below w.heap.size w w'

end Go.Proofs.YtkndejjfndjcoaaGreat.Wc
namespace Go.Proofs.YtkndejjfndjcoaaGreat.Wb
open Go.RowKit Go.Proofs.YtkndejjfndjcoaaGreat.Mem Go.Proofs.YtkndejjfndjcoaaGreat.Rw Go.Proofs.YtkndejjfndjcoaaGreat.Bk Go.Proofs.YtkndejjfndjcoaaGreat.Jt Go.Proofs.YtkndejjfndjcoaaGreat.Pw Go.Proofs.YtkndejjfndjcoaaGreat.P2 Go.Proofs.YtkndejjfndjcoaaGreat.Gs Go.Proofs.YtkndejjfndjcoaaGreat.Wm Go.Proofs.YtkndejjfndjcoaaGreat.Wi Go.Proofs.YtkndejjfndjcoaaGreat.Wa
set_option linter.unusedVariables false
set_option linter.unusedSimpArgs false

end Go.Proofs.YtkndejjfndjcoaaGreat.Wb
namespace Go.Proofs.YtkndejjfndjcoaaGreat.Wc
open Go.RowKit Go.Proofs.YtkndejjfndjcoaaGreat.Mem Go.Proofs.YtkndejjfndjcoaaGreat.Rw Go.Proofs.YtkndejjfndjcoaaGreat.Bk Go.Proofs.YtkndejjfndjcoaaGreat.Cx Go.Proofs.YtkndejjfndjcoaaGreat.Cm Go.Proofs.YtkndejjfndjcoaaGreat.Jt Go.Proofs.YtkndejjfndjcoaaGreat.Pl Go.Proofs.YtkndejjfndjcoaaGreat.Str Go.Proofs.YtkndejjfndjcoaaGreat.Pw Go.Proofs.YtkndejjfndjcoaaGreat.P2 Go.Proofs.YtkndejjfndjcoaaGreat.Gs Go.Proofs.YtkndejjfndjcoaaGreat.Wm Go.Proofs.YtkndejjfndjcoaaGreat.Wi Go.Proofs.YtkndejjfndjcoaaGreat.Wa
set_option linter.unusedVariables false
set_option linter.unusedSimpArgs false

/-- Words that tell these places, to be read. -/
def Win (w : World) (l : List (Int × Int)) (e : Ending) (w' : World) : Prop :=
  ∃ g o, e = .returned (.slice (some ⟨g, o, none⟩) l.length l.length) ∧ Rd w' w'.heap.size (some ⟨g, o, none⟩) (zs2 l) ∧ Below w.heap.size w w'

theorem rd_part {w : World} {B g : Nat} {xs : List Value} (h : Rd w B (some ⟨g, 0, none⟩) xs) (a m : Nat) : Rd w B (some ⟨g, a, none⟩) ((xs.drop a).take m) := by
  rcases h with rfl | ⟨b, o, e, hb, hx⟩
  · exact Or.inl (by simp)
  · injection e with e
    injection e with e1 e2
    subst e1 e2
    refine Or.inr ⟨g, a, rfl, hb, fun j v hv => ?_⟩
    rw [List.getElem?_take] at hv
    split at hv
    · rw [List.getElem?_drop] at hv
      have := hx _ _ hv
      rwa [Nat.zero_add] at this
    · cases hv
theorem rd_any {w : World} {B g o o' : Nat} : Rd w B (some ⟨g, o, none⟩) (zs2 []) := Or.inl rfl
theorem zs2_part (zs : List G) (a m : Nat) (h : a + m ≤ 128) : ((zs2 (drs zs 0 128)).drop a).take m = zs2 (drs zs a m) := by
  unfold zs2
  rw [← List.map_drop, ← List.map_take, drs_drop, drs_take (by omega)]

theorem i32_zero : I32 0 0 := ⟨false, by decide, by decide⟩
theorem cneq {P : Program} {a b c d : Int} {x y u v : Nat} (ha : a.natAbs < 16777216) (hb : b.natAbs < 16777216) (hc : c.natAbs < 16777216) (hd : d.natAbs < 16777216) (hx : I32 a x) (hy : I32 b y) (hu : I32 c u) (hv : I32 d v) (r : Bool) (hr : r = (!(decide (a = c) && decide (b = d)))) (t : TypeId) (w : World) :
    (binOp .neq t (.complex .f32 x y) (.complex .f32 u v)).run P w = .ok (.bool r) w := by
  have key : ∀ {a b : Int}, (some (compare a b) == some Ordering.eq) = decide (a = b) := by
    intro a b
    by_cases h : a = b
    · subst h; simp [compare, compareOfLessAndEq]
    · simp [compare, compareOfLessAndEq, h]
      split <;> simp
  rw [run_neq_complex]
  have e1 : FloatKind.f32.format.order x u = some (compare a c) := order_is (s32 a ha) (s32 c hc) hx hu
  have e2 : FloatKind.f32.format.order y v = some (compare b d) := order_is (s32 b hb) (s32 d hd) hy hv
  rw [e1, e2, key, key, hr]

/-- All places of a list lie so near. -/
def Near (D : Int) (l : List (Int × Int)) : Prop := ∀ p ∈ l, (-D ≤ p.1 ∧ p.1 ≤ D) ∧ (-D ≤ p.2 ∧ p.2 ≤ D)
theorem Near.at {D : Int} {l : List (Int × Int)} (h : Near D l) {k : Nat} {p : Int × Int} (hp : l[k]? = some p) : (-D ≤ p.1 ∧ p.1 ≤ D) ∧ (-D ≤ p.2 ∧ p.2 ≤ D) := h p (List.mem_of_getElem? hp)
theorem Near.was {D : Int} {l : List (Int × Int)} (h : Near D l) (h0 : 0 ≤ D) {k : Nat} (hk : k ≤ l.length) : (-D ≤ (was l k).1 ∧ (was l k).1 ≤ D) ∧ (-D ≤ (was l k).2 ∧ (was l k).2 ≤ D) := by
  cases k with
  | zero => rw [was_zero]; simp only; omega
  | succ k =>
    obtain ⟨p, hp⟩ : ∃ p, l[k]? = some p := ⟨_, List.getElem?_eq_getElem (by omega)⟩
    rw [was_next hp]; exact h.at hp
theorem near_drs {zs : List G} (h : wd zs = true) (a m : Nat) : Near 8 (drs zs a m) := by
  intro p hp
  unfold drs at hp
  obtain ⟨j, _, rfl⟩ := List.mem_map.1 hp
  exact dr_bound h _

end Go.Proofs.YtkndejjfndjcoaaGreat.Wc
namespace Go.Proofs.YtkndejjfndjcoaaGreat.We
open Go.RowKit Go.Proofs.YtkndejjfndjcoaaGreat.Mem Go.Proofs.YtkndejjfndjcoaaGreat.Rw Go.Proofs.YtkndejjfndjcoaaGreat.Bk Go.Proofs.YtkndejjfndjcoaaGreat.Cx Go.Proofs.YtkndejjfndjcoaaGreat.Cm Go.Proofs.YtkndejjfndjcoaaGreat.Jt Go.Proofs.YtkndejjfndjcoaaGreat.Pl Go.Proofs.YtkndejjfndjcoaaGreat.Str Go.Proofs.YtkndejjfndjcoaaGreat.Pw Go.Proofs.YtkndejjfndjcoaaGreat.P2 Go.Proofs.YtkndejjfndjcoaaGreat.Gs Go.Proofs.YtkndejjfndjcoaaGreat.Wm Go.Proofs.YtkndejjfndjcoaaGreat.Wi Go.Proofs.YtkndejjfndjcoaaGreat.Wa Go.Proofs.YtkndejjfndjcoaaGreat.Wb Go.Proofs.YtkndejjfndjcoaaGreat.Wc
set_option linter.unusedVariables false
set_option linter.unusedSimpArgs false

/-- The drift that is told: none of a list that is no wind. -/
def dv (zs : List G) (t : Int) : Int × Int := if wd zs = true then dr zs t else (0, 0)
theorem dv_no {zs : List G} {t : Int} (h : wd zs = false) : dv zs t = (0, 0) := by unfold dv; rw [h]; rfl
theorem dv_yes {zs : List G} {t : Int} (h : wd zs = true) : dv zs t = dr zs t := by unfold dv; rw [h]; rfl

theorem windI {A : Option Addr} {n c : Nat} {zs : List G} {H : Nat} {r : Bool} (hn : zs.length = n) (hb : n ≤ 1048576) (h : wd zs = r) (w : World) (hH : H ≤ w.heap.size) (hr : Rd w H A (gls zs)) :
    Calls Tryz.prog 79 #[.slice A n c] w fun e w' => e = .returned (.bool r) ∧ Below w.heap.size w w' := h ▸ isWindI A n c zs H w hn hb hH hr
theorem windS {A : Option Addr} {n c : Nat} {zs : List G} {H : Nat} {r : Bool} (hn : zs.length = n) (hb : n ≤ 1048576) (h : wd zs = r) (w : World) (hH : H ≤ w.heap.size) (hr : Rd w H A (gls zs)) :
    Calls Tryz.prog 69 #[.slice A n c] w fun e w' => e = .returned (.bool r) ∧ Below w.heap.size w w' := h ▸ isWindS A n c zs H w hn hb hH hr


end Go.Proofs.YtkndejjfndjcoaaGreat.We
namespace Go.Proofs.YtkndejjfndjcoaaGreat.Wg
open Go.RowKit Go.Proofs.YtkndejjfndjcoaaGreat.Mem Go.Proofs.YtkndejjfndjcoaaGreat.Rw Go.Proofs.YtkndejjfndjcoaaGreat.Bk Go.Proofs.YtkndejjfndjcoaaGreat.Cx Go.Proofs.YtkndejjfndjcoaaGreat.Cm Go.Proofs.YtkndejjfndjcoaaGreat.Jt Go.Proofs.YtkndejjfndjcoaaGreat.Pl Go.Proofs.YtkndejjfndjcoaaGreat.Str Go.Proofs.YtkndejjfndjcoaaGreat.Pw Go.Proofs.YtkndejjfndjcoaaGreat.P2 Go.Proofs.YtkndejjfndjcoaaGreat.Gs Go.Proofs.YtkndejjfndjcoaaGreat.Wm Go.Proofs.YtkndejjfndjcoaaGreat.Wi Go.Proofs.YtkndejjfndjcoaaGreat.Wa Go.Proofs.YtkndejjfndjcoaaGreat.Wb Go.Proofs.YtkndejjfndjcoaaGreat.Wc Go.Proofs.YtkndejjfndjcoaaGreat.We
set_option linter.unusedVariables false
set_option linter.unusedSimpArgs false

/-- The changes up to k speak of the first k places only. -/
theorem chgs_pre {l m : List (Int × Int)} {k : Nat} (h : ∀ j, j < k → l[j]? = m[j]?) : chgs l k = chgs m k := by
  induction k with
  | zero => rfl
  | succ k ih =>
    have ih := ih (fun j hj => h j (by omega))
    have hk := h k (by omega)
    have hw : was l k = was m k := by
      cases k with
      | zero => rfl
      | succ k => unfold was; rw [if_neg (by omega), if_neg (by omega), Nat.add_sub_cancel, List.getD_eq_getElem?_getD, List.getD_eq_getElem?_getD, h k (by omega)]
    have hd : l.getD k (0, 0) = m.getD k (0, 0) := by rw [List.getD_eq_getElem?_getD, List.getD_eq_getElem?_getD, hk]
    unfold chgs at ih ⊢
    rw [List.range_succ, List.filter_append, List.filter_append, List.map_append, List.map_append, ih]
    simp only [List.filter_cons, List.filter_nil, hd, hw]
    split <;> simp [hk]
/-- Behind the last tick there is no change. -/
theorem later_cut {zs : List G} (h : wd zs = true) {n : Nat} (hn : n ≤ 64) : chg (drs zs n 65) = chg (drs zs n (65 - n)) := by
  have key : ∀ j, 65 - n + j ≤ 65 → chgs (drs zs n 65) (65 - n + j) = chgs (drs zs n 65) (65 - n) := by
    intro j
    induction j with
    | zero => intro _; rfl
    | succ j ih =>
      intro hj
      rw [← Nat.add_assoc, chgs_no (p := dr zs ((n + (65 - n + j) : Nat) : Int)) (drs_get (by omega)), ih (by omega)]
      have e : was (drs zs n 65) (65 - n + j) = dr zs ((n + (65 - n + j - 1) : Nat) : Int) := by
        unfold was; rw [if_neg (by omega), List.getD_eq_getElem?_getD, drs_get (by omega)]; rfl
      rw [e, dr_late h (by omega), dr_late h (t := ((n + (65 - n + j - 1) : Nat) : Int)) (by omega)]
  unfold chg
  rw [drs_len, drs_len]
  have k0 := key n (by omega)
  rw [show 65 - n + n = 65 by omega] at k0
  rw [k0]
  exact chgs_pre fun j hj => by rw [drs_get (by omega), drs_get (by omega)]

/-- The wind that is told from a tick on. -/
def lat (zs : List G) (t : Int) : List G := if wd zs = true ∧ 0 ≤ t ∧ t ≤ 64 then chg (drs zs t.toNat 65) else []
theorem lat_no {zs : List G} {t : Int} (h : wd zs = false ∨ t < 0 ∨ 64 < t) : lat zs t = [] := by
  unfold lat; rw [if_neg]; rintro ⟨a, b, c⟩
  rcases h with h | h | h
  · rw [h] at a; cases a
  · omega
  · omega
theorem lat_yes {zs : List G} (h : wd zs = true) {k : Nat} (hk : k ≤ 64) : lat zs (k : Int) = chg (drs zs k 65) := by
  unfold lat; rw [if_pos ⟨h, by omega, by omega⟩]; rfl
theorem lat_len (zs : List G) (t : Int) : (lat zs t).length ≤ 65 := by
  unfold lat; split
  · have := chgs_len (drs zs t.toNat 65) (drs zs t.toNat 65).length
    unfold chg
    rw [drs_len] at this ⊢
    exact this
  · simp

theorem row_none {w u : World} (h : Below w.heap.size w u) : Row3 w [] (.returned (.slice (some ⟨u.heap.size, 0, none⟩) 0 0)) (u.alloc (.cells #[] 82)) :=
  ⟨u.heap.size, 0, rfl, World.ownsRow_lit u #[] 0 h.size (Nat.zero_le _) rfl, h.alloc h.size _⟩
theorem row_in {w u v : World} {zs : List G} {e : Ending} (h : Below w.heap.size w u) (r : Row3 u zs e v) : Row3 w zs e v := by
  obtain ⟨g, c, rfl, o, b⟩ := r
  exact ⟨g, c, rfl, owns_base o (Nat.le_trans h.size (own_base o g rfl)), below_in h b⟩

end Go.Proofs.YtkndejjfndjcoaaGreat.Wg

