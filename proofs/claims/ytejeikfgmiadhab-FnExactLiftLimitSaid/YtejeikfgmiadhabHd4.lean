/- Headings of chapter 4: those of chapter 2. -/
import Derived.Test.YtejeikfgmiadhabHd
set_option linter.unusedVariables false
set_option linter.unusedSimpArgs false
namespace Go.Proofs.Ytejeikfgmiadhab.Hd
end Go.Proofs.Ytejeikfgmiadhab.Hd
