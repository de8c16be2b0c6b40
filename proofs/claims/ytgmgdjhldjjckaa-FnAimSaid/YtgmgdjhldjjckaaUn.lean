/- The four units of the program's headings. -/
import Derived.Test.YtgmgdjhldjjckaaP2
namespace Go.Proofs.Ytgmgdjhldjjckaa.Sf
open Go.RowKit Go.Proofs.Ytgmgdjhldjjckaa.Cm Go.Proofs.Ytgmgdjhldjjckaa.Pl Go.Proofs.Ytgmgdjhldjjckaa.Str Go.Proofs.Ytgmgdjhldjjckaa.Pw Go.Proofs.Ytgmgdjhldjjckaa.P2
set_option linter.unusedVariables false

theorem units (w : World) : Calls Try.prog 73 #[] w fun e w' => e = .returned (.slice (some ⟨w.heap.size, 0, none⟩) 4 4) ∧ w' = w.alloc (.cells #[.complex .f32 1065353216 0, .complex .f32 0 1065353216, .complex .f32 3212836864 0, .complex .f32 0 3212836864] 101) := by
  go_enter Try.func73, Try.ntmps73
  go_wp2
  go_returns
  exact ⟨rfl, rfl⟩

theorem i32_0 : I32 0 0 := ⟨false, by decide, by decide⟩

end Go.Proofs.Ytgmgdjhldjjckaa.Sf
