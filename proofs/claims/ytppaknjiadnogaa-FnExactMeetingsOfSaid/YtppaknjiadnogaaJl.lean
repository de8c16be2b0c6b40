/- The laws' own helpers on jets. -/
import Derived.Test.YtppaknjiadnogaaJt
namespace Go.Proofs.Ytppaknjiadnogaa.Jt
open Go.RowKit Go.Proofs.Ytppaknjiadnogaa.Cm Go.Proofs.Ytppaknjiadnogaa.Pl Go.Proofs.Ytppaknjiadnogaa.Str Go.Proofs.Ytppaknjiadnogaa.Pw Go.Proofs.Ytppaknjiadnogaa.P2 Go.Proofs.Ytppaknjiadnogaa.Hd
set_option linter.unusedVariables false
set_option linter.unusedSimpArgs false

theorem toJet (x y h t l : Int) (w : World) : Calls Try.prog 39 #[jv x y h t l] w fun e w' => e = .returned (jv x y h t l) ∧ Below w.heap.size w w' := by
  go_enter Try.func39, Try.ntmps39
  go_wp2_with (go_at_call 55; refine (toPlace _ _ _).mono ?_; rintro e w' ⟨rfl, rfl⟩)
  go_returns
  exact ⟨rfl, by go_grown⟩

end Go.Proofs.Ytppaknjiadnogaa.Jt
