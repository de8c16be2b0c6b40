/- What the model answers for a heading that is turned. -/
import Derived.Test.YtgcheplneolonabHd
namespace Go.Proofs.Ytgcheplneolonab.Hd
open Go.RowKit Go.Proofs.Ytgcheplneolonab.Cm Go.Proofs.Ytgcheplneolonab.Pl
set_option linter.unusedVariables false

end Go.Proofs.Ytgcheplneolonab.Hd
