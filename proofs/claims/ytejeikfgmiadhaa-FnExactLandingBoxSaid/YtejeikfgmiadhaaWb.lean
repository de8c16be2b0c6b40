/- Winds made of lists of drifts, of the model. -/
import Derived.Test.YtejeikfgmiadhaaWa
set_option linter.unusedVariables false
set_option linter.unusedSimpArgs false
namespace Go.Proofs.Ytejeikfgmiadhaa.Wb
open Go.RowKit Go.Proofs.Ytejeikfgmiadhaa.Mem Go.Proofs.Ytejeikfgmiadhaa.Rw Go.Proofs.Ytejeikfgmiadhaa.Bk Go.Proofs.Ytejeikfgmiadhaa.Jt Go.Proofs.Ytejeikfgmiadhaa.Pw Go.Proofs.Ytejeikfgmiadhaa.P2 Go.Proofs.Ytejeikfgmiadhaa.Gs Go.Proofs.Ytejeikfgmiadhaa.Wm Go.Proofs.Ytejeikfgmiadhaa.Wi Go.Proofs.Ytejeikfgmiadhaa.Wa
set_option linter.unusedVariables false
set_option linter.unusedSimpArgs false

end Go.Proofs.Ytejeikfgmiadhaa.Wb
