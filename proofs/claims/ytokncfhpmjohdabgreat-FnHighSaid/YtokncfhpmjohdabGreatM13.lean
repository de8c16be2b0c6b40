/- OnLine of the program and of the model. -/
import Derived.Test.YtokncfhpmjohdabGreatM12
import Derived.Test.YtokncfhpmjohdabGreatEqs
import Derived.Test.YtokncfhpmjohdabGreatM11
import Derived.Maps.AppendAt
set_option linter.unusedVariables false
set_option linter.unusedSimpArgs false
namespace Go.Proofs.YtokncfhpmjohdabGreat.Ol
open Go.RowKit Go.ChangeShapes Go.WideShapes Go.WideElems Go.Deep Go.Proofs.YtokncfhpmjohdabGreat.Mem Go.Proofs.YtokncfhpmjohdabGreat.Rw Go.Proofs.YtokncfhpmjohdabGreat.Pw Go.Proofs.YtokncfhpmjohdabGreat.P2 Go.Proofs.YtokncfhpmjohdabGreat.Dd Go.Proofs.YtokncfhpmjohdabGreat.Dv Go.Proofs.YtokncfhpmjohdabGreat.Dl Go.Proofs.YtokncfhpmjohdabGreat.Ds Go.Proofs.YtokncfhpmjohdabGreat.Fd Go.Proofs.YtokncfhpmjohdabGreat.Ch Go.Proofs.YtokncfhpmjohdabGreat.Hn Go.Proofs.YtokncfhpmjohdabGreat.Po
set_option linter.unusedVariables false
set_option linter.unusedSimpArgs false
open Go.Proofs.YtokncfhpmjohdabGreat.Ho Go.Proofs.YtokncfhpmjohdabGreat.Pa Go.Proofs.YtokncfhpmjohdabGreat.Di Go.Proofs.YtokncfhpmjohdabGreat.Ig Go.Proofs.YtokncfhpmjohdabGreat.Ir Go.Proofs.YtokncfhpmjohdabGreat.Iq Go.Proofs.YtokncfhpmjohdabGreat.IsName Go.Proofs.YtokncfhpmjohdabGreat.Pu Go.Proofs.YtokncfhpmjohdabGreat.Sl

open Go.Proofs.YtokncfhpmjohdabGreat.Rw (owns_below owns_grown)

end Go.Proofs.YtokncfhpmjohdabGreat.Ol
namespace Go.Proofs.YtokncfhpmjohdabGreat.Rk
open Go.RowKit Go.ChangeShapes Go.WideShapes Go.WideElems Go.Deep Go.Proofs.YtokncfhpmjohdabGreat.Mem Go.Proofs.YtokncfhpmjohdabGreat.Rw Go.Proofs.YtokncfhpmjohdabGreat.Pw Go.Proofs.YtokncfhpmjohdabGreat.P2 Go.Proofs.YtokncfhpmjohdabGreat.Dd Go.Proofs.YtokncfhpmjohdabGreat.Dv Go.Proofs.YtokncfhpmjohdabGreat.Dl Go.Proofs.YtokncfhpmjohdabGreat.Ds Go.Proofs.YtokncfhpmjohdabGreat.Fd Go.Proofs.YtokncfhpmjohdabGreat.Ch Go.Proofs.YtokncfhpmjohdabGreat.Hn Go.Proofs.YtokncfhpmjohdabGreat.Po
set_option linter.unusedVariables false
set_option linter.unusedSimpArgs false
open Go.Proofs.YtokncfhpmjohdabGreat.Cm Go.Proofs.YtokncfhpmjohdabGreat.Pl Go.Proofs.YtokncfhpmjohdabGreat.Str Go.Proofs.YtokncfhpmjohdabGreat.Hd Go.Proofs.YtokncfhpmjohdabGreat.Jt Go.Proofs.YtokncfhpmjohdabGreat.Ho Go.Proofs.YtokncfhpmjohdabGreat.Pa Go.Proofs.YtokncfhpmjohdabGreat.Di Go.Proofs.YtokncfhpmjohdabGreat.Ig Go.Proofs.YtokncfhpmjohdabGreat.Ir Go.Proofs.YtokncfhpmjohdabGreat.Iq Go.Proofs.YtokncfhpmjohdabGreat.IsName Go.Proofs.YtokncfhpmjohdabGreat.Mo Go.Proofs.YtokncfhpmjohdabGreat.Sg Go.Proofs.YtokncfhpmjohdabGreat.Rm Go.Proofs.YtokncfhpmjohdabGreat.Ol
open Go.Proofs.YtokncfhpmjohdabGreat.Rw (owns_below owns_grown)

end Go.Proofs.YtokncfhpmjohdabGreat.Rk
