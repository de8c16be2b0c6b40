/- What the least box of two places, and a box that is turned, answer, of the program and of the model. -/
import Derived.Test.YtejeikfgmiadhabBxq
import Derived.Test.YtejeikfgmiadhabTp4
import Derived.Deep.DeepCutAuto
set_option linter.unusedVariables false
set_option linter.unusedSimpArgs false
namespace Go.Proofs.Ytejeikfgmiadhab.Tb
open Go.RowKit Go.Proofs.Ytejeikfgmiadhab.Cx Go.Proofs.Ytejeikfgmiadhab.Cm Go.Proofs.Ytejeikfgmiadhab.Pl Go.Proofs.Ytejeikfgmiadhab.Str Go.Proofs.Ytejeikfgmiadhab.Pw Go.Proofs.Ytejeikfgmiadhab.P2 Go.Proofs.Ytejeikfgmiadhab.Bx
set_option linter.unusedVariables false

section
variable {P : Program}
theorem fmin {a b : Int} {x y : Nat} (ha : a.natAbs < 16777216) (hb : b.natAbs < 16777216) (hx : I32 a x) (hy : I32 b y) :
    ∃ r, (∀ ts t w, (Builtin.min_ ts t #[.float .f32 x, .float .f32 y]).run P w = .ok (.float .f32 r) w) ∧ I32 (min a b) r := by
  have o := order_is (s32 a ha) (s32 b hb) hx hy
  rcases Int.lt_trichotomy a b with h | h | h
  · rw [Meas.cmp_lt h] at o
    exact ⟨x, fun ts t w => by simp [Builtin.min_, Builtin.min2, show FloatKind.f32.format.order x y = _ from o], by rw [Int.min_eq_left (by omega)]; exact hx⟩
  · rw [Meas.cmp_eq h] at o
    subst h
    cases hn : (FloatKind.f32.decode x).neg
    · exact ⟨y, fun ts t w => by simp [Builtin.min_, Builtin.min2, show FloatKind.f32.format.order x y = _ from o, hn], by rw [Int.min_self]; exact hy⟩
    · exact ⟨x, fun ts t w => by simp [Builtin.min_, Builtin.min2, show FloatKind.f32.format.order x y = _ from o, hn], by rw [Int.min_self]; exact hx⟩
  · rw [Meas.cmp_gt h] at o
    exact ⟨y, fun ts t w => by simp [Builtin.min_, Builtin.min2, show FloatKind.f32.format.order x y = _ from o], by rw [Int.min_eq_right (by omega)]; exact hy⟩
theorem fmax {a b : Int} {x y : Nat} (ha : a.natAbs < 16777216) (hb : b.natAbs < 16777216) (hx : I32 a x) (hy : I32 b y) :
    ∃ r, (∀ ts t w, (Builtin.max_ ts t #[.float .f32 x, .float .f32 y]).run P w = .ok (.float .f32 r) w) ∧ I32 (max a b) r := by
  have o := order_is (s32 a ha) (s32 b hb) hx hy
  rcases Int.lt_trichotomy a b with h | h | h
  · rw [Meas.cmp_lt h] at o
    exact ⟨y, fun ts t w => by simp [Builtin.max_, Builtin.max2, show FloatKind.f32.format.order x y = _ from o], by rw [Int.max_eq_right (by omega)]; exact hy⟩
  · rw [Meas.cmp_eq h] at o
    subst h
    cases hn : (FloatKind.f32.decode x).neg
    · exact ⟨x, fun ts t w => by simp [Builtin.max_, Builtin.max2, show FloatKind.f32.format.order x y = _ from o, hn], by rw [Int.max_self]; exact hx⟩
    · exact ⟨y, fun ts t w => by simp [Builtin.max_, Builtin.max2, show FloatKind.f32.format.order x y = _ from o, hn], by rw [Int.max_self]; exact hy⟩
  · rw [Meas.cmp_gt h] at o
    exact ⟨x, fun ts t w => by simp [Builtin.max_, Builtin.max2, show FloatKind.f32.format.order x y = _ from o], by rw [Int.max_eq_left (by omega)]; exact hx⟩
end

abbrev V (x : Int) : Prop := -4096 ≤ x ∧ x ≤ 4096

theorem frozen_below {W w' : World} {p : Addr} {v : Value} (hb : Below W.heap.size W w') (h : W.cell? p = some v) (hf : W.frozen? p = false) : w'.frozen? p = false := (hb.frozen (World.block_lt_of_cell? W p h)).trans hf

theorem set4 {W : World} {g : Nat} {a b c d p q r s : Value} (h0 : W.cell? ⟨g, 0, none⟩ = some p) (h1 : W.cell? ⟨g, 1, none⟩ = some q) (h2 : W.cell? ⟨g, 2, none⟩ = some r) (h3 : W.cell? ⟨g, 3, none⟩ = some s) :
    ((((W.setCell ⟨g, 0, none⟩ a).setCell ⟨g, 1, none⟩ b).setCell ⟨g, 2, none⟩ c).setCell ⟨g, 3, none⟩ d).cell? ⟨g, 0, none⟩ = some a ∧
    ((((W.setCell ⟨g, 0, none⟩ a).setCell ⟨g, 1, none⟩ b).setCell ⟨g, 2, none⟩ c).setCell ⟨g, 3, none⟩ d).cell? ⟨g, 1, none⟩ = some b ∧
    ((((W.setCell ⟨g, 0, none⟩ a).setCell ⟨g, 1, none⟩ b).setCell ⟨g, 2, none⟩ c).setCell ⟨g, 3, none⟩ d).cell? ⟨g, 2, none⟩ = some c ∧
    ((((W.setCell ⟨g, 0, none⟩ a).setCell ⟨g, 1, none⟩ b).setCell ⟨g, 2, none⟩ c).setCell ⟨g, 3, none⟩ d).cell? ⟨g, 3, none⟩ = some d := by
  have o : ∀ (X : World) (i j : Nat) (v : Value), i ≠ j → (X.setCell ⟨g, i, none⟩ v).cell? ⟨g, j, none⟩ = X.cell? ⟨g, j, none⟩ := fun X i j v h => World.cell?_setCell_other _ _ _ _ (by simp [h])
  refine ⟨?_, ?_, ?_, ?_⟩
  · rw [o _ 3 0 _ (by decide), o _ 2 0 _ (by decide), o _ 1 0 _ (by decide)]; exact World.cell?_setCell_same' _ _ _ (by rw [h0]; rfl)
  · rw [o _ 3 1 _ (by decide), o _ 2 1 _ (by decide)]; exact World.cell?_setCell_same' _ _ _ (by rw [o _ 0 1 _ (by decide), h1]; rfl)
  · rw [o _ 3 2 _ (by decide)]; exact World.cell?_setCell_same' _ _ _ (by rw [o _ 1 2 _ (by decide), o _ 0 2 _ (by decide), h2]; rfl)
  · exact World.cell?_setCell_same' _ _ _ (by rw [o _ 2 3 _ (by decide), o _ 1 3 _ (by decide), o _ 0 3 _ (by decide), h3]; rfl)

abbrev box4 (x y z u : Int) : Value := .agg #[.int .i64 x, .int .i64 y, .int .i64 z, .int .i64 u]

theorem l1Min (a b : Int) (w : World) : Calls Try.prog 61 #[.int .i64 a, .int .i64 b] w fun e w' => e = .returned (.int .i64 (min a b)) ∧ w = w' := by
  go_enter Try.func61, Try.ntmps61
  go_wp2
  all_goals go_returns
  · rename_i h
    refine ⟨?_, rfl⟩
    show Ending.returned (.int .i64 a) = _
    rw [Int.min_eq_left (by omega)]
  · rename_i h
    refine ⟨?_, rfl⟩
    show Ending.returned (.int .i64 b) = _
    rw [Int.min_eq_right (by omega)]
theorem l1Max (a b : Int) (w : World) : Calls Try.prog 62 #[.int .i64 a, .int .i64 b] w fun e w' => e = .returned (.int .i64 (max a b)) ∧ w = w' := by
  go_enter Try.func62, Try.ntmps62
  go_wp2
  all_goals go_returns
  · rename_i h
    refine ⟨?_, rfl⟩
    show Ending.returned (.int .i64 a) = _
    rw [Int.max_eq_left (by omega)]
  · rename_i h
    refine ⟨?_, rfl⟩
    show Ending.returned (.int .i64 b) = _
    rw [Int.max_eq_right (by omega)]

end Go.Proofs.Ytejeikfgmiadhab.Tb
