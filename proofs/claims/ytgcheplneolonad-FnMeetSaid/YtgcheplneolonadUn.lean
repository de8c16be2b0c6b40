/- The four units of the program's headings. -/
import Derived.Test.YtgcheplneolonadP2
namespace Go.Proofs.Ytgcheplneolonad.Sf
open Go.RowKit Go.Proofs.Ytgcheplneolonad.Cm Go.Proofs.Ytgcheplneolonad.Pl Go.Proofs.Ytgcheplneolonad.Str Go.Proofs.Ytgcheplneolonad.Pw Go.Proofs.Ytgcheplneolonad.P2
set_option linter.unusedVariables false

theorem units (w : World) : Calls Try.prog 60 #[] w fun e w' => e = .returned (.slice (some ⟨w.heap.size, 0, none⟩) 4 4) ∧ w' = w.alloc (.cells #[.complex .f32 1065353216 0, .complex .f32 0 1065353216, .complex .f32 3212836864 0, .complex .f32 0 3212836864] 65) := by
  go_enter Try.func60, Try.ntmps60
  go_wp2
  go_returns
  exact ⟨rfl, rfl⟩

theorem i32_0 : I32 0 0 := ⟨false, by decide, by decide⟩

end Go.Proofs.Ytgcheplneolonad.Sf
