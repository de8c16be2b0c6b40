/- The laws' own helpers on jets. -/
import Derived.Test.YtbbdbmelohaonaaJt
namespace Go.Proofs.Ytbbdbmelohaonaa.Jt
open Go.RowKit Go.Proofs.Ytbbdbmelohaonaa.Cm Go.Proofs.Ytbbdbmelohaonaa.Pl Go.Proofs.Ytbbdbmelohaonaa.Str Go.Proofs.Ytbbdbmelohaonaa.Pw Go.Proofs.Ytbbdbmelohaonaa.P2 Go.Proofs.Ytbbdbmelohaonaa.Hd
set_option linter.unusedVariables false
set_option linter.unusedSimpArgs false

theorem toJet (x y h t l : Int) (w : World) : Calls Try.prog 16 #[jv x y h t l] w fun e w' => e = .returned (jv x y h t l) ∧ Below w.heap.size w w' := by
  go_enter Try.func16, Try.ntmps16
  go_wp2_with (go_at_call 34; refine (toPlace _ _ _).mono ?_; rintro e w' ⟨rfl, rfl⟩)
  go_returns
  exact ⟨rfl, by go_grown⟩

end Go.Proofs.Ytbbdbmelohaonaa.Jt
