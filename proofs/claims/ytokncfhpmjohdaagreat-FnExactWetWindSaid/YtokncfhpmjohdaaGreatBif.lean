/- What the program answers for the least box of a list of places. -/
import Derived.Test.YtokncfhpmjohdaaGreatM22
set_option linter.unusedVariables false
set_option linter.unusedSimpArgs false
namespace Go.Proofs.YtokncfhpmjohdaaGreat.Bi
open Go.RowKit Go.Proofs.YtokncfhpmjohdaaGreat.Mem Go.Proofs.YtokncfhpmjohdaaGreat.Cx Go.Proofs.YtokncfhpmjohdaaGreat.Cm Go.Proofs.YtokncfhpmjohdaaGreat.Pl Go.Proofs.YtokncfhpmjohdaaGreat.Str Go.Proofs.YtokncfhpmjohdaaGreat.Pw Go.Proofs.YtokncfhpmjohdaaGreat.P2 Go.Proofs.YtokncfhpmjohdaaGreat.Bx Go.Proofs.YtokncfhpmjohdaaGreat.Tb Go.Proofs.YtokncfhpmjohdaaGreat.Pls Go.Proofs.YtokncfhpmjohdaaGreat.Bo
set_option linter.unusedVariables false

end Go.Proofs.YtokncfhpmjohdaaGreat.Bi
