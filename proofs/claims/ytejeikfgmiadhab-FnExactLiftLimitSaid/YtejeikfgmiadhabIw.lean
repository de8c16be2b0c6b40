/- Whether a number is within two others, of the program and of the model. -/
import Derived.Test.YtejeikfgmiadhabPb
set_option linter.unusedVariables false
set_option linter.unusedSimpArgs false
namespace Go.Proofs.Ytejeikfgmiadhab.Jt
open Go.RowKit
set_option linter.unusedVariables false
set_option linter.unusedSimpArgs false

def iw (x a b : Int) : Bool := decide (a ≤ x) && decide (x ≤ b)
theorem iw_iff {x a b : Int} : iw x a b = true ↔ a ≤ x ∧ x ≤ b := by unfold iw; rw [Bool.and_eq_true, decide_eq_true_eq, decide_eq_true_eq]
theorem iw_yes {x a b : Int} (h : a ≤ x ∧ x ≤ b) : iw x a b = true := iw_iff.2 h
theorem iw_no {x a b : Int} (h : x < a ∨ b < x) : iw x a b = false := by
  rw [← Bool.not_eq_true, iw_iff]; omega

theorem isWithin (x a b : Int) (w : World) : Calls Try.prog 36 #[.int .i64 x, .int .i64 a, .int .i64 b] w fun e w' => e = .returned (.bool (iw x a b)) ∧ w = w' := by
  go_enter Try.func36, Try.ntmps36
  go_wp2
  all_goals go_returns
  · rename_i h
    refine ⟨?_, rfl⟩
    show Ending.returned (.bool (decide (x ≤ b))) = _
    unfold iw; rw [decide_eq_true h]; rfl
  · rename_i h
    refine ⟨?_, rfl⟩
    show Ending.returned (.bool false) = _
    rw [iw_no (by omega)]
theorem l1In (x a b : Int) (w : World) : Calls Try.prog 27 #[.int .i64 x, .int .i64 a, .int .i64 b] w fun e w' => e = .returned (.bool (iw x a b)) ∧ w = w' := by
  go_enter Try.func27, Try.ntmps27
  go_wp2
  all_goals go_returns
  · rename_i h
    refine ⟨?_, rfl⟩
    show Ending.returned (.bool (decide (x ≤ b))) = _
    unfold iw; rw [decide_eq_true h]; rfl
  · rename_i h
    refine ⟨?_, rfl⟩
    show Ending.returned (.bool false) = _
    rw [iw_no (by omega)]

theorem isWithin_of {x a b : Int} {r : Bool} (e : iw x a b = r) (w : World) : Calls Try.prog 36 #[.int .i64 x, .int .i64 a, .int .i64 b] w fun e w' => e = .returned (.bool r) ∧ w = w' := e ▸ isWithin x a b w
theorem l1In_of {x a b : Int} {r : Bool} (e : iw x a b = r) (w : World) : Calls Try.prog 27 #[.int .i64 x, .int .i64 a, .int .i64 b] w fun e w' => e = .returned (.bool r) ∧ w = w' := e ▸ l1In x a b w

end Go.Proofs.Ytejeikfgmiadhab.Jt
