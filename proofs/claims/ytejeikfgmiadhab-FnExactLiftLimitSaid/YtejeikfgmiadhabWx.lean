/- Whether a wind fits a rose, of the program and of the model. -/
import Derived.Test.YtejeikfgmiadhabWg
import Derived.Test.YtejeikfgmiadhabWr
import Derived.Test.YtejeikfgmiadhabBiq
set_option linter.unusedVariables false
set_option linter.unusedSimpArgs false
namespace Go.Proofs.Ytejeikfgmiadhab.Wx
open Go.RowKit Go.Proofs.Ytejeikfgmiadhab.Mem Go.Proofs.Ytejeikfgmiadhab.Rw Go.Proofs.Ytejeikfgmiadhab.Bk Go.Proofs.Ytejeikfgmiadhab.Cx Go.Proofs.Ytejeikfgmiadhab.Cm Go.Proofs.Ytejeikfgmiadhab.Jt Go.Proofs.Ytejeikfgmiadhab.Pl Go.Proofs.Ytejeikfgmiadhab.Str Go.Proofs.Ytejeikfgmiadhab.Pw Go.Proofs.Ytejeikfgmiadhab.P2 Go.Proofs.Ytejeikfgmiadhab.Gs Go.Proofs.Ytejeikfgmiadhab.Wm Go.Proofs.Ytejeikfgmiadhab.Wi Go.Proofs.Ytejeikfgmiadhab.Wa Go.Proofs.Ytejeikfgmiadhab.Wb Go.Proofs.Ytejeikfgmiadhab.Wc Go.Proofs.Ytejeikfgmiadhab.We Go.Proofs.Ytejeikfgmiadhab.Pls Go.Proofs.Ytejeikfgmiadhab.Bi Go.Proofs.Ytejeikfgmiadhab.Bo Go.Proofs.Ytejeikfgmiadhab.Tb Go.Proofs.Ytejeikfgmiadhab.Wr
set_option linter.unusedVariables false
set_option linter.unusedSimpArgs false

def fUp (zs : List G) (ps : List (Int × Int)) (k : Nat) : Bool := (List.range k).all fun j : Nat => decide (dr zs (j : Int) ∈ ps)
theorem fUp_zero (zs : List G) (ps : List (Int × Int)) : fUp zs ps 0 = true := rfl
theorem fUp_succ {zs : List G} {ps : List (Int × Int)} {k : Nat} : fUp zs ps (k + 1) = (fUp zs ps k && decide (dr zs (k : Int) ∈ ps)) := by
  unfold fUp; rw [List.range_succ, List.all_append]; simp
theorem fUp_no {zs : List G} {ps : List (Int × Int)} {k m : Nat} (hk : k < m) (h : decide (dr zs (k : Int) ∈ ps) = false) : fUp zs ps m = false := by
  unfold fUp; rw [List.all_eq_false]; exact ⟨k, List.mem_range.2 hk, by rw [h]; decide⟩
/-- Whether a wind fits a rose for n ticks. -/
def fr (zs : List G) (ps : List (Int × Int)) (t : Int) : Bool := wd zs && rs ps && decide (t ≤ 128) && fUp zs ps t.toNat
theorem fr_no {zs : List G} {ps : List (Int × Int)} {t : Int} (h : wd zs = false ∨ rs ps = false ∨ 128 < t) : fr zs ps t = false := by
  unfold fr
  rcases h with h | h | h
  · rw [h]; rfl
  · rw [h]; simp
  · rw [decide_eq_false (p := t ≤ 128) (by omega)]; simp
theorem fr_yes {zs : List G} {ps : List (Int × Int)} {t : Int} (h : wd zs = true) (h2 : rs ps = true) (ht : t ≤ 128) : fr zs ps t = fUp zs ps t.toNat := by
  unfold fr; rw [h, h2, decide_eq_true ht]; rfl
theorem f_cases (zs : List G) (ps : List (Int × Int)) (t : Int) : wd zs = false ∨ wd zs = true ∧ rs ps = false ∨ wd zs = true ∧ rs ps = true ∧ 128 < t ∨ wd zs = true ∧ rs ps = true ∧ t ≤ 128 := by
  cases wd zs
  · exact Or.inl rfl
  cases rs ps
  · exact Or.inr (Or.inl ⟨rfl, rfl⟩)
  by_cases h : 128 < t
  · exact Or.inr (Or.inr (Or.inl ⟨rfl, rfl, h⟩))
  · exact Or.inr (Or.inr (Or.inr ⟨rfl, rfl, by omega⟩))

theorem ceql {P : Program} {a b c d : Int} {x y u v : Nat} (ha : a.natAbs < 16777216) (hb : b.natAbs < 16777216) (hc : c.natAbs < 16777216) (hd : d.natAbs < 16777216) (hx : I32 a x) (hy : I32 b y) (hu : I32 c u) (hv : I32 d v) (r : Bool) (hr : r = (decide (a = c) && decide (b = d))) (t : TypeId) (w : World) :
    (binOp .eql t (.complex .f32 x y) (.complex .f32 u v)).run P w = .ok (.bool r) w := by
  have key : ∀ {a b : Int}, (some (compare a b) == some Ordering.eq) = decide (a = b) := by
    intro a b
    by_cases h : a = b
    · subst h; simp [compare, compareOfLessAndEq]
    · simp [compare, compareOfLessAndEq, h]
      split <;> simp
  rw [run_eql_complex]
  have e1 : FloatKind.f32.format.order x u = some (compare a c) := order_is (s32 a ha) (s32 c hc) hx hu
  have e2 : FloatKind.f32.format.order y v = some (compare b d) := order_is (s32 b hb) (s32 d hd) hy hv
  rw [e1, e2, key, key, hr]

/-- None of the first k is p. -/
def Not (ps : List (Int × Int)) (p : Int × Int) (k : Nat) : Prop := ∀ j, j < k → ps[j]? ≠ some p
theorem Not.zero (ps : List (Int × Int)) (p : Int × Int) : Not ps p 0 := fun j hj => absurd hj (Nat.not_lt_zero _)
theorem Not.next {ps : List (Int × Int)} {p q : Int × Int} {k : Nat} (h : Not ps p k) (hq : ps[k]? = some q) (hne : q ≠ p) : Not ps p (k + 1) := by
  intro j hj
  by_cases e : j = k
  · subst e; rw [hq]; intro h; injection h with h; exact hne h
  · exact h j (by omega)
theorem Not.all {ps : List (Int × Int)} {p : Int × Int} {k : Nat} (h : Not ps p k) (hk : ps.length = k) : decide (p ∈ ps) = false := by
  apply decide_eq_false
  intro hp
  obtain ⟨j, hj, e⟩ := List.mem_iff_getElem.1 hp
  exact h j (by omega) (by rw [List.getElem?_eq_getElem hj, e])

theorem roseI {A : Option Addr} {n c : Nat} {zs : List (Int × Int)} {H : Nat} {r : Bool} (hn : zs.length = n) (hb : n ≤ 1048576) (h : rs zs = r) (w : World) (hH : H ≤ w.heap.size) (hr : Rd w H A (pls zs)) :
    Calls Try.prog 19 #[.slice A n c] w fun e w' => e = .returned (.bool r) ∧ Below w.heap.size w w' := h ▸ isRoseI A n c zs H w hn hb hH hr
theorem roseS {A : Option Addr} {n c : Nat} {zs : List (Int × Int)} {H : Nat} {r : Bool} (hn : zs.length = n) (hb : n ≤ 1048576) (h : rs zs = r) (w : World) (hH : H ≤ w.heap.size) (hr : Rd w H A (pls zs)) :
    Calls Try.prog 47 #[.slice A n c] w fun e w' => e = .returned (.bool r) ∧ Below w.heap.size w w' := h ▸ isRoseS A n c zs H w hn hb hH hr
/-- The places of a rose are near. -/
theorem near_rs {ps : List (Int × Int)} (h : rs ps = true) : Near 8 ps := by
  intro p hp
  obtain ⟨j, hj, e⟩ := List.mem_iff_getElem.1 hp
  exact rs_each h (k := j) (by rw [List.getElem?_eq_getElem hj, e])
theorem good_rs {ps : List (Int × Int)} (h : rs ps = true) : good ps = true := by
  unfold good
  rw [List.all_eq_true]
  intro p hp
  have := near_rs h p hp
  exact pl_mk (by omega) (by omega)
theorem cx_zs2 (ps : List (Int × Int)) : cx ps = zs2 ps := rfl

end Go.Proofs.Ytejeikfgmiadhab.Wx
