/- Headings of chapter 4: those of chapter 2. -/
import Derived.Test.YtejeikfgmiadhaaHd
set_option linter.unusedVariables false
set_option linter.unusedSimpArgs false
namespace Go.Proofs.Ytejeikfgmiadhaa.Hd
end Go.Proofs.Ytejeikfgmiadhaa.Hd
