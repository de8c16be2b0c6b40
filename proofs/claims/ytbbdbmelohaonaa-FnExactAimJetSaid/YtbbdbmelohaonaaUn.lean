/- The four units of the program's headings. -/
import Derived.Test.YtbbdbmelohaonaaP2
namespace Go.Proofs.Ytbbdbmelohaonaa.Sf
open Go.RowKit Go.Proofs.Ytbbdbmelohaonaa.Cm Go.Proofs.Ytbbdbmelohaonaa.Pl Go.Proofs.Ytbbdbmelohaonaa.Str Go.Proofs.Ytbbdbmelohaonaa.Pw Go.Proofs.Ytbbdbmelohaonaa.P2
set_option linter.unusedVariables false

theorem units (w : World) : Calls Try.prog 70 #[] w fun e w' => e = .returned (.slice (some ⟨w.heap.size, 0, none⟩) 4 4) ∧ w' = w.alloc (.cells #[.complex .f32 1065353216 0, .complex .f32 0 1065353216, .complex .f32 3212836864 0, .complex .f32 0 3212836864] 67) := by
  go_enter Try.func70, Try.ntmps70
  go_wp2
  go_returns
  exact ⟨rfl, rfl⟩

theorem i32_0 : I32 0 0 := ⟨false, by decide, by decide⟩

end Go.Proofs.Ytbbdbmelohaonaa.Sf
