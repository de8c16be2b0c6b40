/- Winds made of lists of drifts, of the model. -/
import Derived.Test.YtejeikfgmiadhabWa
set_option linter.unusedVariables false
set_option linter.unusedSimpArgs false
namespace Go.Proofs.Ytejeikfgmiadhab.Wb
open Go.RowKit Go.Proofs.Ytejeikfgmiadhab.Mem Go.Proofs.Ytejeikfgmiadhab.Rw Go.Proofs.Ytejeikfgmiadhab.Bk Go.Proofs.Ytejeikfgmiadhab.Jt Go.Proofs.Ytejeikfgmiadhab.Pw Go.Proofs.Ytejeikfgmiadhab.P2 Go.Proofs.Ytejeikfgmiadhab.Gs Go.Proofs.Ytejeikfgmiadhab.Wm Go.Proofs.Ytejeikfgmiadhab.Wi Go.Proofs.Ytejeikfgmiadhab.Wa
set_option linter.unusedVariables false
set_option linter.unusedSimpArgs false

end Go.Proofs.Ytejeikfgmiadhab.Wb
