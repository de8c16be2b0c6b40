/- A box of the laws, turned into one of the program. -/
import Derived.Test.YtokncfhpmjohdaaGreatM5
set_option linter.unusedVariables false
set_option linter.unusedSimpArgs false
namespace Go.Proofs.YtokncfhpmjohdaaGreat.Bxb
open Go.RowKit Go.Proofs.YtokncfhpmjohdaaGreat.Cm Go.Proofs.YtokncfhpmjohdaaGreat.Pl Go.Proofs.YtokncfhpmjohdaaGreat.Str Go.Proofs.YtokncfhpmjohdaaGreat.Pw Go.Proofs.YtokncfhpmjohdaaGreat.P2
set_option linter.unusedVariables false
theorem toBox (x y z u : Int) (w : World) : Calls Tryz.prog 12 #[.agg #[.int .i64 x, .int .i64 y, .int .i64 z, .int .i64 u]] w fun e w' => e = .returned (.agg #[.int .i64 x, .int .i64 y, .int .i64 z, .int .i64 u]) ∧ Below w.heap.size w w' := by
  go_enter Tryz.func12, Tryz.ntmps12
  go_wp2_with (go_at_call 41; refine (toPlace _ _ _).mono ?_; rintro e w' ⟨rfl, rfl⟩)
  go_returns
  exact ⟨rfl, by go_grown⟩

end Go.Proofs.YtokncfhpmjohdaaGreat.Bxb
