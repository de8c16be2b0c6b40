/- What the functions on winds answer, of the program and of the model. -/
import Derived.Test.YtejeikfgmiadhaaWd
import Derived.Deep.DeepCutAuto
import Derived.Handy
set_option linter.unusedVariables false
set_option linter.unusedSimpArgs false
namespace Go.Proofs.Ytejeikfgmiadhaa.We
open Go.RowKit Go.Proofs.Ytejeikfgmiadhaa.Mem Go.Proofs.Ytejeikfgmiadhaa.Rw Go.Proofs.Ytejeikfgmiadhaa.Bk Go.Proofs.Ytejeikfgmiadhaa.Cx Go.Proofs.Ytejeikfgmiadhaa.Cm Go.Proofs.Ytejeikfgmiadhaa.Jt Go.Proofs.Ytejeikfgmiadhaa.Pl Go.Proofs.Ytejeikfgmiadhaa.Str Go.Proofs.Ytejeikfgmiadhaa.Pw Go.Proofs.Ytejeikfgmiadhaa.P2 Go.Proofs.Ytejeikfgmiadhaa.Gs Go.Proofs.Ytejeikfgmiadhaa.Wm Go.Proofs.Ytejeikfgmiadhaa.Wi Go.Proofs.Ytejeikfgmiadhaa.Wa Go.Proofs.Ytejeikfgmiadhaa.Wb Go.Proofs.Ytejeikfgmiadhaa.Wc
set_option linter.unusedVariables false
set_option linter.unusedSimpArgs false

/-- The drift that is told: none of a list that is no wind. -/
def dv (zs : List G) (t : Int) : Int × Int := if wd zs = true then dr zs t else (0, 0)
theorem dv_no {zs : List G} {t : Int} (h : wd zs = false) : dv zs t = (0, 0) := by unfold dv; rw [h]; rfl
theorem dv_yes {zs : List G} {t : Int} (h : wd zs = true) : dv zs t = dr zs t := by unfold dv; rw [h]; rfl


end Go.Proofs.Ytejeikfgmiadhaa.We
