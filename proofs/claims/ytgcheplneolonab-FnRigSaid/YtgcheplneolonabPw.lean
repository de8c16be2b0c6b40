/- What the program's functions between places and complex numbers answer, and the model's turns, with the memory that they make. -/
import Derived.Test.YtgcheplneolonabPl
import Derived.Test.YtgcheplneolonabStr
import Derived.Deep.RegionHeld3
namespace Go.Proofs.Ytgcheplneolonab.Pw
open Go.RowKit Go.Proofs.Ytgcheplneolonab.Cm Go.Proofs.Ytgcheplneolonab.Pl Go.Proofs.Ytgcheplneolonab.Str
set_option linter.unusedVariables false

/-- The memory of a place that a call has laid. -/
abbrev cell2 (x y : Int) : Obj := .cells #[.int .i64 x, .int .i64 y] 26

theorem isPlaceI (x y : Int) (w : World) : Calls Try.prog 124 #[.agg #[.int .i64 x, .int .i64 y]] w fun e w' => e = .returned (.bool (ms x && ms y)) ∧ w' = w.alloc (.cells #[.int .i64 x, .int .i64 y] 26) := by
  go_enter Try.func124, Try.ntmps124
  go_wp2_with (go_at_call 125; refine (isMeasureI _ _).mono ?_; rintro e w' ⟨rfl, rfl⟩)
  all_goals go_returns
  all_goals refine ⟨?_, rfl⟩
  all_goals simp [*]

theorem isPlaceS (x y : Int) (w : World) : Calls Try.prog 58 #[.agg #[.int .i64 x, .int .i64 y]] w fun e w' => e = .returned (.bool (ms x && ms y)) ∧ w' = w.alloc (.cells #[.int .i64 x, .int .i64 y] 26) := by
  go_enter Try.func58, Try.ntmps58
  go_wp2_with (go_at_call 82; refine (isMeasureS _ _).mono ?_; rintro e w' ⟨rfl, rfl⟩)
  all_goals go_returns
  all_goals refine ⟨?_, rfl⟩
  all_goals simp [*]

theorem toPlace (x y : Int) (w : World) : Calls Try.prog 38 #[.agg #[.int .i64 x, .int .i64 y]] w fun e w' => e = .returned (.agg #[.int .i64 x, .int .i64 y]) ∧ w' = ((w.alloc (.cells #[.int .i64 x, .int .i64 y] 40)).alloc (.cells #[.int .i64 x, .int .i64 y] 26)).alloc (.cells #[.int .i64 x, .int .i64 y] 26) := by
  go_enter Try.func38, Try.ntmps38
  go_wp2
  go_returns
  exact ⟨rfl, rfl⟩

theorem eqPlace (x y : Int) (w : World) : Calls Try.prog 59 #[.agg #[.int .i64 x, .int .i64 y], .agg #[.int .i64 x, .int .i64 y]] w fun e w' => e = .returned (.bool true) ∧ w' = (w.alloc (.cells #[.int .i64 x, .int .i64 y] 26)).alloc (.cells #[.int .i64 x, .int .i64 y] 26) := by
  go_enter Try.func59, Try.ntmps59
  go_wp2
  all_goals go_returns
  exact ⟨rfl, rfl⟩

theorem txle {k : Nat} {x y B : Int} (hx : -B ≤ x ∧ x ≤ B) (hy : -B ≤ y ∧ y ≤ B) : -B ≤ tx k x y ∧ tx k x y ≤ B := by
  unfold tx; split <;> omega
theorem tyle {k : Nat} {x y B : Int} (hx : -B ≤ x ∧ x ≤ B) (hy : -B ≤ y ∧ y ≤ B) : -B ≤ ty k x y ∧ ty k x y ≤ B := by
  unfold ty; split <;> omega

theorem pl_yes {x y : Int} (h : (ms x && ms y) = true) : (-4096 ≤ x ∧ x ≤ 4096) ∧ (-4096 ≤ y ∧ y ≤ 4096) := by
  rw [Bool.and_eq_true, ms_iff, ms_iff] at h
  exact h
theorem pl_mk {x y : Int} (hx : -4096 ≤ x ∧ x ≤ 4096) (hy : -4096 ≤ y ∧ y ≤ 4096) : (ms x && ms y) = true := by rw [ms_yes hx.1 hx.2, ms_yes hy.1 hy.2]; rfl

/-- IsPlace of both, at a known answer. -/
theorem isPlaceI_of {x y : Int} {b : Bool} (h : (ms x && ms y) = b) (w : World) : Calls Try.prog 124 #[.agg #[.int .i64 x, .int .i64 y]] w fun e w' => e = .returned (.bool b) ∧ w' = w.alloc (.cells #[.int .i64 x, .int .i64 y] 26) := h ▸ isPlaceI x y w
theorem isPlaceS_of {x y : Int} {b : Bool} (h : (ms x && ms y) = b) (w : World) : Calls Try.prog 58 #[.agg #[.int .i64 x, .int .i64 y]] w fun e w' => e = .returned (.bool b) ∧ w' = w.alloc (.cells #[.int .i64 x, .int .i64 y] 26) := h ▸ isPlaceS x y w

end Go.Proofs.Ytgcheplneolonab.Pw
