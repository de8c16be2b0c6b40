/- What the model answers for the height of a jet's drop. -/
import Derived.Test.YtgcheplneolonadFm
namespace Go.Proofs.Ytgcheplneolonad.Dp
open Go.RowKit Go.Proofs.Ytgcheplneolonad.Cx Go.Proofs.Ytgcheplneolonad.Cm Go.Proofs.Ytgcheplneolonad.Pl Go.Proofs.Ytgcheplneolonad.Str Go.Proofs.Ytgcheplneolonad.Pw Go.Proofs.Ytgcheplneolonad.P2 Go.Proofs.Ytgcheplneolonad.Hd Go.Proofs.Ytgcheplneolonad.Sf Go.Proofs.Ytgcheplneolonad.Jt
set_option linter.unusedVariables false
set_option linter.unusedSimpArgs false

end Go.Proofs.Ytgcheplneolonad.Dp
