/- What the program's own helpers on measures answer: a measure as a float is exact, and is read back. -/
import Derived.Test.YtgcheplneolonabRows
import Derived.Test.YtgcheplneolonabFlt
import Derived.WalkKit
import Derived.WalkLawsBesides
import Derived.Laws.Cover2
import Derived.Laws.FloatArith
namespace Go.Proofs.Ytgcheplneolonab.Meas
open Go.RowKit Go.Proofs.Ytgcheplneolonab.Flt

/-- The float32 of n eighths. -/
def f32 (n : Int) : Nat := fl Ieee.single n (-3)

theorem fits32 (n : Int) (h : n.natAbs < 16777216) : Fits Ieee.single n (-3) := fits_single _ _ h (by decide) (by decide)
theorem fits0 (n : Int) (h : n.natAbs < 16777216) : Fits Ieee.single n 0 := fits_single _ _ h (by decide) (by decide)

theorem order32 (a b : Int) (ha : a.natAbs < 16777216) (hb : b.natAbs < 16777216) : FloatKind.f32.format.order (f32 a) (f32 b) = some (compare a b) := order_fl Ieee.single a b (-3) (fits32 a ha) (fits32 b hb)
theorem e512 : f32 4096 = 1140850688 := c512
theorem en512 : f32 (-4096) = 3288334336 := cneg512

theorem cmp_lt {a b : Int} (h : a < b) : compare a b = .lt := by simp [compare, compareOfLessAndEq, h]
theorem cmp_eq {a b : Int} (h : a = b) : compare a b = .eq := by simp [compare, compareOfLessAndEq, h]
theorem cmp_gt {a b : Int} (h : b < a) : compare a b = .gt := by
  have h1 : ¬ a < b := by omega
  have h2 : ¬ a = b := by omega
  simp [compare, compareOfLessAndEq, h1, h2]

end Go.Proofs.Ytgcheplneolonab.Meas
