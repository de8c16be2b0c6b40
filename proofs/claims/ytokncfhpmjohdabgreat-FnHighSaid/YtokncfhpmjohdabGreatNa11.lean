/- Numbers behind FnAllDrops, FnWater and FnHigh. -/
import Derived.Test.YtokncfhpmjohdabGreatM25
import Derived.Test.YtokncfhpmjohdabGreatM31
import Derived.Test.YtokncfhpmjohdabGreatM29
import Derived.Test.YtokncfhpmjohdabGreatM16
import Derived.Test.YtokncfhpmjohdabGreatM21
set_option linter.unusedVariables false
set_option linter.unusedSimpArgs false
namespace Go.Proofs.YtokncfhpmjohdabGreat.Na11
open Go.Proofs.YtokncfhpmjohdabGreat.Sv hiding D C G
open Go.Proofs.YtokncfhpmjohdabGreat.Tn9 Go.Proofs.YtokncfhpmjohdabGreat.Pd9
open Go.Proofs.YtokncfhpmjohdabGreat.Lw9 (dpL dpV)
open Go.Proofs.YtokncfhpmjohdabGreat.Lp9 (ldV)
open Go.Proofs.YtokncfhpmjohdabGreat.Dm (tot tot_append dm)
open Go.Proofs.YtokncfhpmjohdabGreat.Dn (tot_set)
open Go.Proofs.YtokncfhpmjohdabGreat.Ig (rig)
open Go.Proofs.YtokncfhpmjohdabGreat.Jt (jt jt_iff)
open Go.Proofs.YtokncfhpmjohdabGreat.Dp (ha)
set_option linter.unusedVariables false
set_option linter.unusedSimpArgs false

abbrev D := Dd.D
abbrev C := Cd.C
abbrev G := Int × Int × Int

end Go.Proofs.YtokncfhpmjohdabGreat.Na11
