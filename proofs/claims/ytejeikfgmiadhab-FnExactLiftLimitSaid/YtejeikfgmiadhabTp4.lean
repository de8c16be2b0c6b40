/- Turned places. -/
import Derived.Test.YtejeikfgmiadhabTp
import Derived.Test.YtejeikfgmiadhabPb
set_option linter.unusedVariables false
set_option linter.unusedSimpArgs false
namespace Go.Proofs.Ytejeikfgmiadhab.Stub
end Go.Proofs.Ytejeikfgmiadhab.Stub
