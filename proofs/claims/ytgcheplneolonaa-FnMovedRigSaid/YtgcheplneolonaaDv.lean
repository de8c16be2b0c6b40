/- The laws' copy of a device, their comparison, and how much of what is left it takes. -/
import Derived.Test.YtgcheplneolonaaDd
import Derived.Test.YtgcheplneolonaaPb
namespace Go.Proofs.Ytgcheplneolonaa.Dv
open Go.RowKit Go.Proofs.Ytgcheplneolonaa.Dd Go.Proofs.Ytgcheplneolonaa.Pw
set_option linter.unusedVariables false
set_option linter.unusedSimpArgs false

end Go.Proofs.Ytgcheplneolonaa.Dv
