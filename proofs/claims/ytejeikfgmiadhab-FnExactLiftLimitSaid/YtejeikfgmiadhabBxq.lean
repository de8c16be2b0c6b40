/- What the functions on boxes answer that only look at them: whether a box is one, whether a place is in it; and the laws' own helpers on boxes. -/
import Derived.Test.YtejeikfgmiadhabPb
set_option linter.unusedVariables false
set_option linter.unusedSimpArgs false
namespace Go.Proofs.Ytejeikfgmiadhab.Bx
open Go.RowKit Go.Proofs.Ytejeikfgmiadhab.Cm Go.Proofs.Ytejeikfgmiadhab.Pl Go.Proofs.Ytejeikfgmiadhab.Str Go.Proofs.Ytejeikfgmiadhab.Pw Go.Proofs.Ytejeikfgmiadhab.P2
set_option linter.unusedVariables false


end Go.Proofs.Ytejeikfgmiadhab.Bx
