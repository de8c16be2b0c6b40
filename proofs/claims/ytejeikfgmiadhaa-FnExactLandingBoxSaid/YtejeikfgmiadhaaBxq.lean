/- What the functions on boxes answer that only look at them: whether a box is one, whether a place is in it; and the laws' own helpers on boxes. -/
import Derived.Test.YtejeikfgmiadhaaPb
set_option linter.unusedVariables false
set_option linter.unusedSimpArgs false
namespace Go.Proofs.Ytejeikfgmiadhaa.Bx
open Go.RowKit Go.Proofs.Ytejeikfgmiadhaa.Cm Go.Proofs.Ytejeikfgmiadhaa.Pl Go.Proofs.Ytejeikfgmiadhaa.Str Go.Proofs.Ytejeikfgmiadhaa.Pw Go.Proofs.Ytejeikfgmiadhaa.P2
set_option linter.unusedVariables false

theorem eqBox (x y z u : Int) (w : World) : Calls Try.prog 9 #[.agg #[.int .i64 x, .int .i64 y, .int .i64 z, .int .i64 u], .agg #[.int .i64 x, .int .i64 y, .int .i64 z, .int .i64 u]] w fun e w' => e = .returned (.bool true) ∧ Below w.heap.size w w' := by
  go_enter Try.func9, Try.ntmps9
  go_wp2_with (go_at_call 20; refine (eqPlace _ _ _).mono ?_; rintro e w' ⟨rfl, rfl⟩)
  all_goals go_returns
  all_goals exact ⟨rfl, by go_grown⟩


end Go.Proofs.Ytejeikfgmiadhaa.Bx
