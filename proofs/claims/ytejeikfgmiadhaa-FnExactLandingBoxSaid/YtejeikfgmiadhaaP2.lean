/- What AddPlaces answers, of the program, and that it leaves all old memory as it was. -/
import Derived.Test.YtejeikfgmiadhaaPb
set_option linter.unusedVariables false
set_option linter.unusedSimpArgs false
namespace Go.Proofs.Ytejeikfgmiadhaa.P2
open Go.RowKit Go.Proofs.Ytejeikfgmiadhaa.Cm Go.Proofs.Ytejeikfgmiadhaa.Pl Go.Proofs.Ytejeikfgmiadhaa.Str Go.Proofs.Ytejeikfgmiadhaa.Pw
set_option linter.unusedVariables false

end Go.Proofs.Ytejeikfgmiadhaa.P2
