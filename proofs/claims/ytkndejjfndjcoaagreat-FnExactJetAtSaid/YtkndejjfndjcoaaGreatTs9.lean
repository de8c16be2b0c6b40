/- Two equal jets. -/
import Derived.Test.YtkndejjfndjcoaaGreatM11
import Derived.Test.YtkndejjfndjcoaaGreatM4
namespace Go.Proofs.YtkndejjfndjcoaaGreat.Ts9
open Go.RowKit Go.Proofs.YtkndejjfndjcoaaGreat.Cm Go.Proofs.YtkndejjfndjcoaaGreat.Pl Go.Proofs.YtkndejjfndjcoaaGreat.Str Go.Proofs.YtkndejjfndjcoaaGreat.Pw Go.Proofs.YtkndejjfndjcoaaGreat.P2 Go.Proofs.YtkndejjfndjcoaaGreat.Jt
set_option linter.unusedVariables false
set_option linter.unusedSimpArgs false
theorem eqJet (x y h t l : Int) (w : World) : Calls Tryz.prog 25 #[jv x y h t l, jv x y h t l] w fun e w' => e = .returned (.bool true) ∧ Below w.heap.size w w' := by
  go_enter Tryz.func25, Tryz.ntmps25
  go_wp2_with (go_at_call 63; ((with_reducible refine (eqPlace _ _ _).mono ?_); rintro e w' ⟨rfl, rfl⟩))
  all_goals go_returns
  all_goals exact ⟨rfl, by go_grown⟩
end Go.Proofs.YtkndejjfndjcoaaGreat.Ts9
