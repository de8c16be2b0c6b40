/- Whether a list is a wind, of the program and of the model. -/
import Derived.Test.YtejeikfgmiadhabWm
import Derived.BigQuiet
import Derived.Deep.QuietTactic
import Derived.Deep.RegionHeld3
set_option linter.unusedVariables false
set_option linter.unusedSimpArgs false
namespace Go.Proofs.Ytejeikfgmiadhab.Wi
open Go.RowKit Go.Proofs.Ytejeikfgmiadhab.Mem Go.Proofs.Ytejeikfgmiadhab.Rw Go.Proofs.Ytejeikfgmiadhab.Jt Go.Proofs.Ytejeikfgmiadhab.Pw Go.Proofs.Ytejeikfgmiadhab.P2 Go.Proofs.Ytejeikfgmiadhab.Gs Go.Proofs.Ytejeikfgmiadhab.Wm
set_option linter.unusedVariables false
set_option linter.unusedSimpArgs false

theorem isDriftI {x y : Int} {r : Bool} (h : dk x y = r) (w : World) : Calls Try.prog 37 #[.agg #[.int .i64 x, .int .i64 y]] w fun e w' => e = .returned (.bool r) ∧ w' = w.alloc (.cells #[.int .i64 x, .int .i64 y] 32) := by
  subst h
  unfold dk
  have C := isWithin x (-8) 8
  have D := isWithin y (-8) 8
  generalize iw x (-8) 8 = p at *
  generalize iw y (-8) 8 = q at *
  have C := Lib.hid C
  have D := Lib.hid D
  cases p
  all_goals
    go_enter Try.func37, Try.ntmps37
    go_wp2_with (first
      | (go_at_call 36; ((with_reducible refine (C.out _).mono ?_); rintro e w' ⟨rfl, rfl⟩))
      | (go_at_call 36; ((with_reducible refine (D.out _).mono ?_); rintro e w' ⟨rfl, rfl⟩)))
    go_returns
    exact ⟨rfl, rfl⟩

theorem driftS {x y : Int} {r : Bool} (h : dk x y = r) (w : World) : Calls Try.prog 63 #[.agg #[.int .i64 x, .int .i64 y]] w fun e w' => e = .returned (.bool r) ∧ w' = w.alloc (.cells #[.int .i64 x, .int .i64 y] 32) := by
  subst h
  unfold dk
  have C := l1In x (-8) 8
  have D := l1In y (-8) 8
  generalize iw x (-8) 8 = p at *
  generalize iw y (-8) 8 = q at *
  have C := Lib.hid C
  have D := Lib.hid D
  cases p
  all_goals
    go_enter Try.func63, Try.ntmps63
    go_wp2_with (first
      | (go_at_call 27; ((with_reducible refine (C.out _).mono ?_); rintro e w' ⟨rfl, rfl⟩))
      | (go_at_call 27; ((with_reducible refine (D.out _).mono ?_); rintro e w' ⟨rfl, rfl⟩)))
    go_returns
    exact ⟨rfl, rfl⟩


end Go.Proofs.Ytejeikfgmiadhab.Wi
