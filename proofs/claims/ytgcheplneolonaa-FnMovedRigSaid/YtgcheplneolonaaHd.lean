/- What is said of headings: whether one is one, and what it is behind a number of turns. -/
import Derived.Test.YtgcheplneolonaaPl
namespace Go.Proofs.Ytgcheplneolonaa.Hd
open Go.RowKit Go.Proofs.Ytgcheplneolonaa.Cm Go.Proofs.Ytgcheplneolonaa.Pl
set_option linter.unusedVariables false

def hd (h : Int) : Bool := decide (0 ≤ h) && decide (h ≤ 3)
theorem hd_yes {h : Int} (e : hd h = true) : 0 ≤ h ∧ h ≤ 3 := by
  unfold hd at e; rw [Bool.and_eq_true, decide_eq_true_eq, decide_eq_true_eq] at e; exact e
theorem hd_mk {h : Int} (e : 0 ≤ h ∧ h ≤ 3) : hd h = true := by unfold hd; rw [decide_eq_true e.1, decide_eq_true e.2]; rfl

theorem isHeadingI (h : Int) (w : World) : Calls Try.prog 102 #[.int .i64 h] w fun e w' => e = .returned (.bool (hd h)) ∧ w = w' := by
  go_enter Try.func102, Try.ntmps102
  go_wp2
  all_goals go_returns
  · rename_i h1
    refine ⟨?_, rfl⟩
    show Ending.returned (.bool (decide (h < 4))) = _
    unfold hd
    rw [decide_eq_true h1, Bool.true_and]
    congr 2
    rw [decide_eq_decide]; omega
  · rename_i h1
    refine ⟨?_, rfl⟩
    show Ending.returned (.bool false) = _
    unfold hd
    rw [decide_eq_false (by omega)]; rfl
theorem isHeadingS (h : Int) (w : World) : Calls Try.prog 66 #[.int .i64 h] w fun e w' => e = .returned (.bool (hd h)) ∧ w = w' := by
  go_enter Try.func66, Try.ntmps66
  go_wp2
  all_goals go_returns
  · rename_i h1
    refine ⟨?_, rfl⟩
    show Ending.returned (.bool (decide (h ≤ 3))) = _
    unfold hd
    rw [decide_eq_true h1, Bool.true_and]
  · rename_i h1
    refine ⟨?_, rfl⟩
    show Ending.returned (.bool false) = _
    unfold hd
    rw [decide_eq_false (by omega)]; rfl

theorem isHeadingI_of {h : Int} {b : Bool} (e : hd h = b) (w : World) : Calls Try.prog 102 #[.int .i64 h] w fun e w' => e = .returned (.bool b) ∧ w = w' := e ▸ isHeadingI h w
theorem isHeadingS_of {h : Int} {b : Bool} (e : hd h = b) (w : World) : Calls Try.prog 66 #[.int .i64 h] w fun e w' => e = .returned (.bool b) ∧ w = w' := e ▸ isHeadingS h w

/-- The heading behind n quarter turns. -/
def th (h n : Int) : Int := if hd h then (h + n) % 4 else 0

theorem turnHeadingI (h n : Int) (w : World) : Calls Try.prog 104 #[.int .i64 h, .int .i64 n] w fun e w' => e = .returned (.int .i64 (th h n)) ∧ w = w' := by
  cases c : hd h
  · have C := Lib.hid (isHeadingI_of c)
    go_enter Try.func104, Try.ntmps104
    go_wp2_with fail
    refine (C.out _).mono ?_
    rintro e w' ⟨rfl, rfl⟩
    go_wp2_with fail
    go_returns
    refine ⟨?_, rfl⟩
    unfold th; rw [c]; rfl
  · have C := Lib.hid (isHeadingI_of c)
    have ⟨h1, h2⟩ := hd_yes c
    have s : wrap64 (h + n % 4) = h + n % 4 := IntWalk.wrap64_in _ (by omega)
    have f : (h + n % 4) % 4 = th h n := by unfold th; rw [c]; simp
    generalize th h n = r at *
    have Q := Lib.hid (fun w => f ▸ quartersOf (h + n % 4) w)
    clear f c h1 h2
    go_enter Try.func104, Try.ntmps104
    go_wp2_with fail
    refine (C.out _).mono ?_
    rintro e w' ⟨rfl, rfl⟩
    go_wp2_with fail
    refine (quartersOf n _).mono ?_
    rintro e w' ⟨rfl, rfl⟩
    go_wp2_with fail
    refine (Q.out _).mono ?_
    rintro e w' ⟨rfl, rfl⟩
    go_wp2_with fail
    go_returns
    exact ⟨rfl, rfl⟩
end Go.Proofs.Ytgcheplneolonaa.Hd
