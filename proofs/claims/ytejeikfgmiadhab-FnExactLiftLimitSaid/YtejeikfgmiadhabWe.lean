/- What the functions on winds answer, of the program and of the model. -/
import Derived.Test.YtejeikfgmiadhabWd
import Derived.Deep.DeepCutAuto
import Derived.Handy
set_option linter.unusedVariables false
set_option linter.unusedSimpArgs false
namespace Go.Proofs.Ytejeikfgmiadhab.We
open Go.RowKit Go.Proofs.Ytejeikfgmiadhab.Mem Go.Proofs.Ytejeikfgmiadhab.Rw Go.Proofs.Ytejeikfgmiadhab.Bk Go.Proofs.Ytejeikfgmiadhab.Cx Go.Proofs.Ytejeikfgmiadhab.Cm Go.Proofs.Ytejeikfgmiadhab.Jt Go.Proofs.Ytejeikfgmiadhab.Pl Go.Proofs.Ytejeikfgmiadhab.Str Go.Proofs.Ytejeikfgmiadhab.Pw Go.Proofs.Ytejeikfgmiadhab.P2 Go.Proofs.Ytejeikfgmiadhab.Gs Go.Proofs.Ytejeikfgmiadhab.Wm Go.Proofs.Ytejeikfgmiadhab.Wi Go.Proofs.Ytejeikfgmiadhab.Wa Go.Proofs.Ytejeikfgmiadhab.Wb Go.Proofs.Ytejeikfgmiadhab.Wc
set_option linter.unusedVariables false
set_option linter.unusedSimpArgs false

/-- The drift that is told: none of a list that is no wind. -/
def dv (zs : List G) (t : Int) : Int × Int := if wd zs = true then dr zs t else (0, 0)
theorem dv_no {zs : List G} {t : Int} (h : wd zs = false) : dv zs t = (0, 0) := by unfold dv; rw [h]; rfl
theorem dv_yes {zs : List G} {t : Int} (h : wd zs = true) : dv zs t = dr zs t := by unfold dv; rw [h]; rfl


end Go.Proofs.Ytejeikfgmiadhab.We
