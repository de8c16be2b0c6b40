/- Whether a jet is one, of the program and of the model. -/
import Derived.Test.YtejeikfgmiadhabP2
import Derived.Test.YtejeikfgmiadhabIw
import Derived.Test.YtejeikfgmiadhabHd
set_option linter.unusedVariables false
set_option linter.unusedSimpArgs false
namespace Go.Proofs.Ytejeikfgmiadhab.Jt
open Go.RowKit Go.Proofs.Ytejeikfgmiadhab.Cm Go.Proofs.Ytejeikfgmiadhab.Pl Go.Proofs.Ytejeikfgmiadhab.Str Go.Proofs.Ytejeikfgmiadhab.Pw Go.Proofs.Ytejeikfgmiadhab.P2 Go.Proofs.Ytejeikfgmiadhab.Hd
set_option linter.unusedVariables false
set_option linter.unusedSimpArgs false

/-- A jet's value. -/
abbrev jv (x y h t l : Int) : Value := .agg #[.int .i64 x, .int .i64 y, .int .i64 h, .int .i64 t, .int .i64 l]
/-- The memory of a jet. -/
abbrev jc (x y h t l : Int) : Array Value := #[.int .i64 x, .int .i64 y, .int .i64 h, .int .i64 t, .int .i64 l]

/-- Whether a jet is valid. -/
def jt (x y h t l : Int) : Bool := iw x (-1024) 1024 && iw y (-1024) 1024 && hd h && iw t 0 16 && iw l 1 32
theorem jt_iff {x y h t l : Int} : jt x y h t l = true ↔ (-1024 ≤ x ∧ x ≤ 1024) ∧ (-1024 ≤ y ∧ y ≤ 1024) ∧ (0 ≤ h ∧ h ≤ 3) ∧ (0 ≤ t ∧ t ≤ 16) ∧ (1 ≤ l ∧ l ≤ 32) := by
  unfold jt hd
  simp only [Bool.and_eq_true, iw_iff, decide_eq_true_eq]
  omega

set_option maxHeartbeats 1000000 in
theorem isJetI (x y h t l : Int) (w : World) : Calls Try.prog 69 #[jv x y h t l] w fun e w' => e = .returned (.bool (jt x y h t l)) ∧ w' = w.alloc (.cells (jc x y h t l) 48) := by
  unfold jt
  have H := isHeadingI h
  generalize hd h = b3 at *
  generalize e1 : iw x (-1024) 1024 = b1
  generalize e2 : iw y (-1024) 1024 = b2
  generalize e4 : iw t 0 16 = b4
  generalize e5 : iw l 1 32 = b5
  have C1 := Lib.hid (fun w => e1 ▸ isWithin x (-1024) 1024 w)
  have C2 := Lib.hid (fun w => e2 ▸ isWithin y (-1024) 1024 w)
  have C3 := Lib.hid H
  have C4 := Lib.hid (fun w => e4 ▸ isWithin t 0 16 w)
  have C5 := Lib.hid (fun w => e5 ▸ isWithin l 1 32 w)
  clear e1 e2 e4 e5 H
  cases b1 <;> cases b2 <;> cases b3 <;> cases b4
  all_goals
    go_enter Try.func69, Try.ntmps69
    go_wp2_with fail
    refine (C1.out _).mono ?_
    rintro e w' ⟨rfl, rfl⟩
    go_wp2_with fail
    try (refine (C2.out _).mono ?_; rintro e w' ⟨rfl, rfl⟩; go_wp2_with fail)
    try (refine (C3.out _).mono ?_; rintro e w' ⟨rfl, rfl⟩; go_wp2_with fail)
    try (refine (C4.out _).mono ?_; rintro e w' ⟨rfl, rfl⟩; go_wp2_with fail)
    try (refine (C5.out _).mono ?_; rintro e w' ⟨rfl, rfl⟩; go_wp2_with fail)
    go_returns
    exact ⟨rfl, rfl⟩

set_option maxHeartbeats 1000000 in
theorem isJetS (x y h t l : Int) (w : World) : Calls Try.prog 43 #[jv x y h t l] w fun e w' => e = .returned (.bool (jt x y h t l)) ∧ w' = w.alloc (.cells (jc x y h t l) 48) := by
  unfold jt
  have H := isHeadingS h
  generalize hd h = b3 at *
  generalize e1 : iw x (-1024) 1024 = b1
  generalize e2 : iw y (-1024) 1024 = b2
  generalize e4 : iw t 0 16 = b4
  generalize e5 : iw l 1 32 = b5
  have C1 := Lib.hid (fun w => e1 ▸ l1In x (-1024) 1024 w)
  have C2 := Lib.hid (fun w => e2 ▸ l1In y (-1024) 1024 w)
  have C3 := Lib.hid H
  have C4 := Lib.hid (fun w => e4 ▸ l1In t 0 16 w)
  have C5 := Lib.hid (fun w => e5 ▸ l1In l 1 32 w)
  clear e1 e2 e4 e5 H
  cases b1 <;> cases b2 <;> cases b3 <;> cases b4
  all_goals
    go_enter Try.func43, Try.ntmps43
    go_wp2_with fail
    refine (C1.out _).mono ?_
    rintro e w' ⟨rfl, rfl⟩
    go_wp2_with fail
    try (refine (C2.out _).mono ?_; rintro e w' ⟨rfl, rfl⟩; go_wp2_with fail)
    try (refine (C3.out _).mono ?_; rintro e w' ⟨rfl, rfl⟩; go_wp2_with fail)
    try (refine (C4.out _).mono ?_; rintro e w' ⟨rfl, rfl⟩; go_wp2_with fail)
    try (refine (C5.out _).mono ?_; rintro e w' ⟨rfl, rfl⟩; go_wp2_with fail)
    go_returns
    exact ⟨rfl, rfl⟩

theorem isJetI_of {x y h t l : Int} {b : Bool} (e : jt x y h t l = b) (w : World) : Calls Try.prog 69 #[jv x y h t l] w fun e w' => e = .returned (.bool b) ∧ w' = w.alloc (.cells (jc x y h t l) 48) := e ▸ isJetI x y h t l w
theorem isJetS_of {x y h t l : Int} {b : Bool} (e : jt x y h t l = b) (w : World) : Calls Try.prog 43 #[jv x y h t l] w fun e w' => e = .returned (.bool b) ∧ w' = w.alloc (.cells (jc x y h t l) 48) := e ▸ isJetS x y h t l w

end Go.Proofs.Ytejeikfgmiadhab.Jt
