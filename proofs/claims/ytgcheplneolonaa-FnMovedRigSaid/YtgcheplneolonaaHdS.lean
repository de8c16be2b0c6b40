/- What the model answers for a heading that is turned. -/
import Derived.Test.YtgcheplneolonaaHd
namespace Go.Proofs.Ytgcheplneolonaa.Hd
open Go.RowKit Go.Proofs.Ytgcheplneolonaa.Cm Go.Proofs.Ytgcheplneolonaa.Pl
set_option linter.unusedVariables false

end Go.Proofs.Ytgcheplneolonaa.Hd
