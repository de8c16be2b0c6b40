/- What is said of headings: whether one is one, and what it is behind a number of turns. -/
import Derived.Test.YtejeikfgmiadhabPl
set_option linter.unusedVariables false
set_option linter.unusedSimpArgs false
namespace Go.Proofs.Ytejeikfgmiadhab.Hd
open Go.RowKit Go.Proofs.Ytejeikfgmiadhab.Cm Go.Proofs.Ytejeikfgmiadhab.Pl
set_option linter.unusedVariables false

def hd (h : Int) : Bool := decide (0 ≤ h) && decide (h ≤ 3)
theorem hd_yes {h : Int} (e : hd h = true) : 0 ≤ h ∧ h ≤ 3 := by
  unfold hd at e; rw [Bool.and_eq_true, decide_eq_true_eq, decide_eq_true_eq] at e; exact e
theorem hd_mk {h : Int} (e : 0 ≤ h ∧ h ≤ 3) : hd h = true := by unfold hd; rw [decide_eq_true e.1, decide_eq_true e.2]; rfl

theorem isHeadingI (h : Int) (w : World) : Calls Try.prog 68 #[.int .i64 h] w fun e w' => e = .returned (.bool (hd h)) ∧ w = w' := by
  go_enter Try.func68, Try.ntmps68
  go_wp2
  all_goals go_returns
  · rename_i h1
    refine ⟨?_, rfl⟩
    show Ending.returned (.bool (decide (h < 4))) = _
    unfold hd
    rw [decide_eq_true h1, Bool.true_and]
    congr 2
    rw [decide_eq_decide]; omega
  · rename_i h1
    refine ⟨?_, rfl⟩
    show Ending.returned (.bool false) = _
    unfold hd
    rw [decide_eq_false (by omega)]; rfl
theorem isHeadingS (h : Int) (w : World) : Calls Try.prog 59 #[.int .i64 h] w fun e w' => e = .returned (.bool (hd h)) ∧ w = w' := by
  go_enter Try.func59, Try.ntmps59
  go_wp2
  all_goals go_returns
  · rename_i h1
    refine ⟨?_, rfl⟩
    show Ending.returned (.bool (decide (h ≤ 3))) = _
    unfold hd
    rw [decide_eq_true h1, Bool.true_and]
  · rename_i h1
    refine ⟨?_, rfl⟩
    show Ending.returned (.bool false) = _
    unfold hd
    rw [decide_eq_false (by omega)]; rfl

theorem isHeadingI_of {h : Int} {b : Bool} (e : hd h = b) (w : World) : Calls Try.prog 68 #[.int .i64 h] w fun e w' => e = .returned (.bool b) ∧ w = w' := e ▸ isHeadingI h w
theorem isHeadingS_of {h : Int} {b : Bool} (e : hd h = b) (w : World) : Calls Try.prog 59 #[.int .i64 h] w fun e w' => e = .returned (.bool b) ∧ w = w' := e ▸ isHeadingS h w

/-- The heading behind n quarter turns. -/
def th (h n : Int) : Int := if hd h then (h + n) % 4 else 0

end Go.Proofs.Ytejeikfgmiadhab.Hd
