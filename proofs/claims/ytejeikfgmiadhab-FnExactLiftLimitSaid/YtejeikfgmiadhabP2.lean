/- What AddPlaces answers, of the program, and that it leaves all old memory as it was. -/
import Derived.Test.YtejeikfgmiadhabPb
set_option linter.unusedVariables false
set_option linter.unusedSimpArgs false
namespace Go.Proofs.Ytejeikfgmiadhab.P2
open Go.RowKit Go.Proofs.Ytejeikfgmiadhab.Cm Go.Proofs.Ytejeikfgmiadhab.Pl Go.Proofs.Ytejeikfgmiadhab.Str Go.Proofs.Ytejeikfgmiadhab.Pw
set_option linter.unusedVariables false

end Go.Proofs.Ytejeikfgmiadhab.P2
