/- The laws' own helpers on jets. -/
import Derived.Test.YtejeikfgmiadhaaJt
set_option linter.unusedVariables false
set_option linter.unusedSimpArgs false
namespace Go.Proofs.Ytejeikfgmiadhaa.Jt
open Go.RowKit Go.Proofs.Ytejeikfgmiadhaa.Cm Go.Proofs.Ytejeikfgmiadhaa.Pl Go.Proofs.Ytejeikfgmiadhaa.Str Go.Proofs.Ytejeikfgmiadhaa.Pw Go.Proofs.Ytejeikfgmiadhaa.P2 Go.Proofs.Ytejeikfgmiadhaa.Hd
set_option linter.unusedVariables false
set_option linter.unusedSimpArgs false

theorem toJet (x y h t l : Int) (w : World) : Calls Try.prog 6 #[jv x y h t l] w fun e w' => e = .returned (jv x y h t l) ∧ Below w.heap.size w w' := by
  go_enter Try.func6, Try.ntmps6
  go_wp2_with (go_at_call 15; refine (toPlace _ _ _).mono ?_; rintro e w' ⟨rfl, rfl⟩)
  go_returns
  exact ⟨rfl, by go_grown⟩

end Go.Proofs.Ytejeikfgmiadhaa.Jt
