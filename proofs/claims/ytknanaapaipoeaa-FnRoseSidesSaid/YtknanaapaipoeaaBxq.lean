/- What the functions on boxes answer that only look at them: whether a box is one, whether a place is in it; and the laws' own helpers on boxes. -/
import Derived.Test.YtknanaapaipoeaaPb
namespace Go.Proofs.Ytknanaapaipoeaa.Bx
open Go.RowKit Go.Proofs.Ytknanaapaipoeaa.Cm Go.Proofs.Ytknanaapaipoeaa.Pl Go.Proofs.Ytknanaapaipoeaa.Str Go.Proofs.Ytknanaapaipoeaa.Pw Go.Proofs.Ytknanaapaipoeaa.P2
set_option linter.unusedVariables false

theorem eqBox (x y z u : Int) (w : World) : Calls Try.prog 51 #[.agg #[.int .i64 x, .int .i64 y, .int .i64 z, .int .i64 u], .agg #[.int .i64 x, .int .i64 y, .int .i64 z, .int .i64 u]] w fun e w' => e = .returned (.bool true) ∧ Below w.heap.size w w' := by
  go_enter Try.func51, Try.ntmps51
  go_wp2_with (go_at_call 53; refine (eqPlace _ _ _).mono ?_; rintro e w' ⟨rfl, rfl⟩)
  all_goals go_returns
  all_goals exact ⟨rfl, by go_grown⟩


end Go.Proofs.Ytknanaapaipoeaa.Bx
