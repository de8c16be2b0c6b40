/- Helpers on lists of strings. -/
import Derived.Test.YtokncfhpmjohdabGreatM4
set_option linter.unusedVariables false
set_option linter.unusedSimpArgs false
namespace Go.Proofs.YtokncfhpmjohdabGreat.Strs
open Go.RowKit
end Go.Proofs.YtokncfhpmjohdabGreat.Strs
