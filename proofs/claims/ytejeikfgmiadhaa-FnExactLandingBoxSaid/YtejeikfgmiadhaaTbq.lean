/- What the least box of two places, and a box that is turned, answer, of the program and of the model. -/
import Derived.Test.YtejeikfgmiadhaaBxq
import Derived.Test.YtejeikfgmiadhaaTp4
import Derived.Deep.DeepCutAuto
set_option linter.unusedVariables false
set_option linter.unusedSimpArgs false
namespace Go.Proofs.Ytejeikfgmiadhaa.Tb
open Go.RowKit Go.Proofs.Ytejeikfgmiadhaa.Cx Go.Proofs.Ytejeikfgmiadhaa.Cm Go.Proofs.Ytejeikfgmiadhaa.Pl Go.Proofs.Ytejeikfgmiadhaa.Str Go.Proofs.Ytejeikfgmiadhaa.Pw Go.Proofs.Ytejeikfgmiadhaa.P2 Go.Proofs.Ytejeikfgmiadhaa.Bx
set_option linter.unusedVariables false

section
variable {P : Program}
theorem fmin {a b : Int} {x y : Nat} (ha : a.natAbs < 16777216) (hb : b.natAbs < 16777216) (hx : I32 a x) (hy : I32 b y) :
    ∃ r, (∀ ts t w, (Builtin.min_ ts t #[.float .f32 x, .float .f32 y]).run P w = .ok (.float .f32 r) w) ∧ I32 (min a b) r := by
  have o := order_is (s32 a ha) (s32 b hb) hx hy
  rcases Int.lt_trichotomy a b with h | h | h
  · rw [Meas.cmp_lt h] at o
    exact ⟨x, fun ts t w => by simp [Builtin.min_, Builtin.min2, show FloatKind.f32.format.order x y = _ from o], by rw [Int.min_eq_left (by omega)]; exact hx⟩
  · rw [Meas.cmp_eq h] at o
    subst h
    cases hn : (FloatKind.f32.decode x).neg
    · exact ⟨y, fun ts t w => by simp [Builtin.min_, Builtin.min2, show FloatKind.f32.format.order x y = _ from o, hn], by rw [Int.min_self]; exact hy⟩
    · exact ⟨x, fun ts t w => by simp [Builtin.min_, Builtin.min2, show FloatKind.f32.format.order x y = _ from o, hn], by rw [Int.min_self]; exact hx⟩
  · rw [Meas.cmp_gt h] at o
    exact ⟨y, fun ts t w => by simp [Builtin.min_, Builtin.min2, show FloatKind.f32.format.order x y = _ from o], by rw [Int.min_eq_right (by omega)]; exact hy⟩
theorem fmax {a b : Int} {x y : Nat} (ha : a.natAbs < 16777216) (hb : b.natAbs < 16777216) (hx : I32 a x) (hy : I32 b y) :
    ∃ r, (∀ ts t w, (Builtin.max_ ts t #[.float .f32 x, .float .f32 y]).run P w = .ok (.float .f32 r) w) ∧ I32 (max a b) r := by
  have o := order_is (s32 a ha) (s32 b hb) hx hy
  rcases Int.lt_trichotomy a b with h | h | h
  · rw [Meas.cmp_lt h] at o
    exact ⟨y, fun ts t w => by simp [Builtin.max_, Builtin.max2, show FloatKind.f32.format.order x y = _ from o], by rw [Int.max_eq_right (by omega)]; exact hy⟩
  · rw [Meas.cmp_eq h] at o
    subst h
    cases hn : (FloatKind.f32.decode x).neg
    · exact ⟨x, fun ts t w => by simp [Builtin.max_, Builtin.max2, show FloatKind.f32.format.order x y = _ from o, hn], by rw [Int.max_self]; exact hx⟩
    · exact ⟨y, fun ts t w => by simp [Builtin.max_, Builtin.max2, show FloatKind.f32.format.order x y = _ from o, hn], by rw [Int.max_self]; exact hy⟩
  · rw [Meas.cmp_gt h] at o
    exact ⟨x, fun ts t w => by simp [Builtin.max_, Builtin.max2, show FloatKind.f32.format.order x y = _ from o], by rw [Int.max_eq_left (by omega)]; exact hx⟩
end

abbrev V (x : Int) : Prop := -4096 ≤ x ∧ x ≤ 4096

set_option maxHeartbeats 4000000 in
theorem leastBox2 {a b c d : Int} {x y z u : Nat} (ha : V a) (hb : V b) (hc : V c) (hd : V d) (hx : I32 a x) (hy : I32 b y) (hz : I32 c z) (hu : I32 d u) (g : Nat) (w : World)
    (c0 : w.cell? ⟨g, 0, none⟩ = some (.complex .f32 x y)) (c1 : w.cell? ⟨g, 1, none⟩ = some (.complex .f32 z u)) :
    Calls Try.prog 19 #[.slice (some ⟨g, 0, none⟩) 2 2] w fun e w' => e = .returned (.agg #[.int .i64 (min a c), .int .i64 (min b d), .int .i64 (max a c), .int .i64 (max b d)]) ∧ Below w.heap.size w w' := by
  obtain ⟨r1, f1, i1⟩ := fmin (P := Try.prog) (by omega) (by omega) hx hx
  obtain ⟨r2, f2, i2⟩ := fmin (P := Try.prog) (by omega) (by omega) hy hy
  obtain ⟨r3, f3, i3⟩ := fmax (P := Try.prog) (by omega) (by omega) hx hx
  obtain ⟨r4, f4, i4⟩ := fmax (P := Try.prog) (by omega) (by omega) hy hy
  rw [Int.min_self] at i1 i2
  rw [Int.max_self] at i3 i4
  obtain ⟨s1, g1, j1⟩ := fmin (P := Try.prog) (by omega) (by omega) i1 hz
  obtain ⟨s2, g2, j2⟩ := fmin (P := Try.prog) (by omega) (by omega) i2 hu
  obtain ⟨s3, g3, j3⟩ := fmax (P := Try.prog) (by omega) (by omega) i3 hz
  obtain ⟨s4, g4, j4⟩ := fmax (P := Try.prog) (by omega) (by omega) i4 hu
  have D1 := Lib.hid (toldYes (by omega) (by omega) j1 j2)
  have D2 := Lib.hid (toldYes (by omega) (by omega) j3 j4)
  generalize min a c = A1 at *
  generalize min b d = A2 at *
  generalize max a c = A3 at *
  generalize max b d = A4 at *
  have lg := World.block_lt_of_cell? w _ c0
  have lg2 : ∀ j, g < w.heap.size + j := fun j => Nat.lt_of_lt_of_le lg (Nat.le_add_right _ j)
  clear ha hb hc hd hx hy hz hu i1 i2 i3 i4 j1 j2 j3 j4
  go_enter Try.func19, Try.ntmps19
  go_wp2_with fail
  go_region_held3 (fun w' => w'.cell? ⟨g, 0, none⟩ = some (.complex .f32 x y)) (simp [go_sem, *]) (fail)
  go_wp2_with fail
  refine wp_loop_rounds 3 ?_
  repeat any_goals (rw [rounds_succ]; go_wp2_with fail)
  refine (D1.out _).mono ?_
  rintro e w' ⟨rfl, rfl⟩
  go_wp2_with fail
  refine (D2.out _).mono ?_
  rintro e w' ⟨rfl, rfl⟩
  go_wp2_with fail
  go_returns
  exact ⟨rfl, by go_grown⟩

theorem frozen_below {W w' : World} {p : Addr} {v : Value} (hb : Below W.heap.size W w') (h : W.cell? p = some v) (hf : W.frozen? p = false) : w'.frozen? p = false := (hb.frozen (World.block_lt_of_cell? W p h)).trans hf

theorem set4 {W : World} {g : Nat} {a b c d p q r s : Value} (h0 : W.cell? ⟨g, 0, none⟩ = some p) (h1 : W.cell? ⟨g, 1, none⟩ = some q) (h2 : W.cell? ⟨g, 2, none⟩ = some r) (h3 : W.cell? ⟨g, 3, none⟩ = some s) :
    ((((W.setCell ⟨g, 0, none⟩ a).setCell ⟨g, 1, none⟩ b).setCell ⟨g, 2, none⟩ c).setCell ⟨g, 3, none⟩ d).cell? ⟨g, 0, none⟩ = some a ∧
    ((((W.setCell ⟨g, 0, none⟩ a).setCell ⟨g, 1, none⟩ b).setCell ⟨g, 2, none⟩ c).setCell ⟨g, 3, none⟩ d).cell? ⟨g, 1, none⟩ = some b ∧
    ((((W.setCell ⟨g, 0, none⟩ a).setCell ⟨g, 1, none⟩ b).setCell ⟨g, 2, none⟩ c).setCell ⟨g, 3, none⟩ d).cell? ⟨g, 2, none⟩ = some c ∧
    ((((W.setCell ⟨g, 0, none⟩ a).setCell ⟨g, 1, none⟩ b).setCell ⟨g, 2, none⟩ c).setCell ⟨g, 3, none⟩ d).cell? ⟨g, 3, none⟩ = some d := by
  have o : ∀ (X : World) (i j : Nat) (v : Value), i ≠ j → (X.setCell ⟨g, i, none⟩ v).cell? ⟨g, j, none⟩ = X.cell? ⟨g, j, none⟩ := fun X i j v h => World.cell?_setCell_other _ _ _ _ (by simp [h])
  refine ⟨?_, ?_, ?_, ?_⟩
  · rw [o _ 3 0 _ (by decide), o _ 2 0 _ (by decide), o _ 1 0 _ (by decide)]; exact World.cell?_setCell_same' _ _ _ (by rw [h0]; rfl)
  · rw [o _ 3 1 _ (by decide), o _ 2 1 _ (by decide)]; exact World.cell?_setCell_same' _ _ _ (by rw [o _ 0 1 _ (by decide), h1]; rfl)
  · rw [o _ 3 2 _ (by decide)]; exact World.cell?_setCell_same' _ _ _ (by rw [o _ 1 2 _ (by decide), o _ 0 2 _ (by decide), h2]; rfl)
  · exact World.cell?_setCell_same' _ _ _ (by rw [o _ 2 3 _ (by decide), o _ 1 3 _ (by decide), o _ 0 3 _ (by decide), h3]; rfl)

abbrev box4 (x y z u : Int) : Value := .agg #[.int .i64 x, .int .i64 y, .int .i64 z, .int .i64 u]

theorem l1Min (a b : Int) (w : World) : Calls Try.prog 36 #[.int .i64 a, .int .i64 b] w fun e w' => e = .returned (.int .i64 (min a b)) ∧ w = w' := by
  go_enter Try.func36, Try.ntmps36
  go_wp2
  all_goals go_returns
  · rename_i h
    refine ⟨?_, rfl⟩
    show Ending.returned (.int .i64 a) = _
    rw [Int.min_eq_left (by omega)]
  · rename_i h
    refine ⟨?_, rfl⟩
    show Ending.returned (.int .i64 b) = _
    rw [Int.min_eq_right (by omega)]
theorem l1Max (a b : Int) (w : World) : Calls Try.prog 37 #[.int .i64 a, .int .i64 b] w fun e w' => e = .returned (.int .i64 (max a b)) ∧ w = w' := by
  go_enter Try.func37, Try.ntmps37
  go_wp2
  all_goals go_returns
  · rename_i h
    refine ⟨?_, rfl⟩
    show Ending.returned (.int .i64 a) = _
    rw [Int.max_eq_left (by omega)]
  · rename_i h
    refine ⟨?_, rfl⟩
    show Ending.returned (.int .i64 b) = _
    rw [Int.max_eq_right (by omega)]

end Go.Proofs.Ytejeikfgmiadhaa.Tb
