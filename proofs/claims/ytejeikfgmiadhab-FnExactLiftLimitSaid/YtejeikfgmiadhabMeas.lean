/- What the program's own helpers on measures answer: a measure as a float is exact, and is read back. -/
import Derived.Test.YtejeikfgmiadhabRows
import Derived.Test.YtejeikfgmiadhabFlt
import Derived.WalkKit
import Derived.WalkLawsBesides
import Derived.Laws.Cover2
import Derived.Laws.FloatArith
set_option linter.unusedVariables false
set_option linter.unusedSimpArgs false
namespace Go.Proofs.Ytejeikfgmiadhab.Meas
open Go.RowKit Go.Proofs.Ytejeikfgmiadhab.Flt

/-- The float32 of n eighths. -/
def f32 (n : Int) : Nat := fl Ieee.single n (-3)

theorem fits32 (n : Int) (h : n.natAbs < 16777216) : Fits Ieee.single n (-3) := fits_single _ _ h (by decide) (by decide)
theorem fits0 (n : Int) (h : n.natAbs < 16777216) : Fits Ieee.single n 0 := fits_single _ _ h (by decide) (by decide)

theorem order32 (a b : Int) (ha : a.natAbs < 16777216) (hb : b.natAbs < 16777216) : FloatKind.f32.format.order (f32 a) (f32 b) = some (compare a b) := order_fl Ieee.single a b (-3) (fits32 a ha) (fits32 b hb)
theorem e512 : f32 4096 = 1140850688 := c512
theorem en512 : f32 (-4096) = 3288334336 := cneg512

theorem cmp_lt {a b : Int} (h : a < b) : compare a b = .lt := by simp [compare, compareOfLessAndEq, h]
theorem cmp_eq {a b : Int} (h : a = b) : compare a b = .eq := by simp [compare, compareOfLessAndEq, h]
theorem cmp_gt {a b : Int} (h : b < a) : compare a b = .gt := by
  have h1 : ¬ a < b := by omega
  have h2 : ¬ a = b := by omega
  simp [compare, compareOfLessAndEq, h1, h2]

theorem quo8 (x : Int) (hx : x.natAbs < 16777216) (w : World) : (binOp .quo 73 (.float .f32 (floatOfInt .f32 x)) (.float .f32 1090519040)).run Try.prog w = .ok (.float .f32 (f32 x)) w :=
  run_float_arith w .quo _ .f32 _ _ _ (by
    have := div8_fl x hx
    rw [c8] at this
    exact this)

theorem mul8 (x : Int) (hx : x.natAbs < 16777216) (w : World) : (binOp .mul 73 (.float .f32 (f32 x)) (.float .f32 1090519040)).run Try.prog w = .ok (.float .f32 (fl Ieee.single x 0)) w :=
  run_float_arith w .mul _ .f32 _ _ _ (by
    have := mul8_fl x (-3) (fits32 x hx)
    rw [c8] at this
    exact this)

theorem toInt (x : Int) (hx : x.natAbs < 16777216) (w : World) : (convert 73 3 (.float .f32 (fl Ieee.single x 0))).run Try.prog w = .ok (.int .i64 x) w :=
  run_convert_float_int w _ _ .f32 .i64 _ x (by kernel_rfl) (by kernel_rfl) (by
    unfold floatToIntVal
    rw [show (FloatKind.f32.decode (fl Ieee.single x 0)).toInt .zero = some x from toInt_fl Ieee.single x (fits0 x hx)]
    simp only
    rw [if_pos]
    have h1 : IntKind.i64.min = -9223372036854775808 := rfl
    have h2 : IntKind.i64.max = 9223372036854775807 := rfl
    rw [h1, h2]; omega)

/-- impl.wholesOf. -/
theorem wholesOf (x : Int) (hx : x.natAbs < 16777216) (w : World) : Calls Try.prog 67 #[.int .i64 x] w fun e w' => e = .returned (.float .f32 (f32 x)) ∧ w = w' := by
  have q := quo8 x hx
  clear hx
  go_enter Try.func67, Try.ntmps67
  go_wp2
  go_ret
  exact ⟨rfl, rfl⟩

/-- impl.toldMeasure at a measure. -/
theorem told (n : Int) (h1 : -4096 ≤ n) (h2 : n ≤ 4096) (w : World) : Calls Try.prog 79 #[.float .f32 (f32 n)] w fun e w' => e = .returned (.tuple #[.int .i64 n, .bool true]) ∧ w = w' := by
  have o1 := order32 n (-4096) (by omega) (by decide)
  have o2 := order32 n 4096 (by omega) (by decide)
  rw [en512] at o1
  rw [e512] at o2
  have m := mul8 n (by omega)
  have t := toInt n (by omega)
  have b1 : (FloatKind.f32.format.order (f32 n) 3288334336 == some .gt || FloatKind.f32.format.order (f32 n) 3288334336 == some .eq) = true := by
    rw [o1]
    by_cases c : n = -4096
    · rw [cmp_eq c]; rfl
    · rw [cmp_gt (by omega)]; rfl
  have b2 : (FloatKind.f32.format.order (f32 n) 1140850688 == some .lt || FloatKind.f32.format.order (f32 n) 1140850688 == some .eq) = true := by
    rw [o2]
    by_cases c : n = 4096
    · rw [cmp_eq c]; rfl
    · rw [cmp_lt (by omega)]; rfl
  clear o1 o2 h1 h2
  go_enter Try.func79, Try.ntmps79
  go_wp2
  go_ret2
  exact ⟨rfl, rfl⟩

/-- impl.toldMeasure beyond the measures. -/
theorem told_no (n : Int) (h1 : n < -4096 ∨ 4096 < n) (h2 : n.natAbs < 16777216) (w : World) : Calls Try.prog 79 #[.float .f32 (f32 n)] w fun e w' => e = .returned (.tuple #[.int .i64 0, .bool false]) ∧ w = w' := by
  have o1 := order32 n (-4096) h2 (by decide)
  have o2 := order32 n 4096 h2 (by decide)
  rw [en512] at o1
  rw [e512] at o2
  rcases h1 with h1 | h1
  · have b1 : (FloatKind.f32.format.order (f32 n) 3288334336 == some .gt || FloatKind.f32.format.order (f32 n) 3288334336 == some .eq) = false := by
      rw [o1, cmp_lt (by omega)]; rfl
    clear o1 o2 h1 h2
    go_enter Try.func79, Try.ntmps79
    go_wp2
    go_ret2
    exact ⟨rfl, rfl⟩
  · have b1 : (FloatKind.f32.format.order (f32 n) 3288334336 == some .gt || FloatKind.f32.format.order (f32 n) 3288334336 == some .eq) = true := by
      rw [o1, cmp_gt (by omega)]; rfl
    have b2 : (FloatKind.f32.format.order (f32 n) 1140850688 == some .lt || FloatKind.f32.format.order (f32 n) 1140850688 == some .eq) = false := by
      rw [o2, cmp_gt (by omega)]; rfl
    clear o1 o2 h1 h2
    go_enter Try.func79, Try.ntmps79
    go_wp2
    go_ret2
    exact ⟨rfl, rfl⟩

/-- impl.toldMeasure at the zero with a sign. -/
theorem told_zero (w : World) : Calls Try.prog 79 #[.float .f32 2147483648] w fun e w' => e = .returned (.tuple #[.int .i64 0, .bool true]) ∧ w = w' := by
  have b1 : (FloatKind.f32.format.order 2147483648 3288334336 == some .gt || FloatKind.f32.format.order 2147483648 3288334336 == some .eq) = true := by decide
  have b2 : (FloatKind.f32.format.order 2147483648 1140850688 == some .lt || FloatKind.f32.format.order 2147483648 1140850688 == some .eq) = true := by decide
  have m : ∀ w, (binOp .mul 73 (.float .f32 2147483648) (.float .f32 1090519040)).run Try.prog w = .ok (.float .f32 2147483648) w := fun w => run_float_arith w .mul _ .f32 _ _ _ (by decide)
  have t : ∀ w, (convert 73 3 (.float .f32 2147483648)).run Try.prog w = .ok (.int .i64 0) w := fun w => run_convert_float_int w _ _ .f32 .i64 _ 0 (by kernel_rfl) (by kernel_rfl) (by decide)
  go_enter Try.func79, Try.ntmps79
  go_wp2
  go_ret2
  exact ⟨rfl, rfl⟩

end Go.Proofs.Ytejeikfgmiadhab.Meas
