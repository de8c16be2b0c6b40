/- The laws' copy of a cue, their comparison, and how much of what is left it takes. -/
import Derived.Test.YtgcheplneolonacCd
import Derived.Test.YtgcheplneolonacGe
namespace Go.Proofs.Ytgcheplneolonac.Cv
open Go.RowKit Go.Proofs.Ytgcheplneolonac.Cd
set_option linter.unusedVariables false
set_option linter.unusedSimpArgs false

end Go.Proofs.Ytgcheplneolonac.Cv
