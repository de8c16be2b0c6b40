/- The winds that are told from later ticks on, of the program and of the model. -/
import Derived.Test.YtejeikfgmiadhabGreatM27
import Derived.ArgAppend
import Derived.ProofKit
import Derived.Test.YtejeikfgmiadhabGreatM25
import Derived.Test.YtejeikfgmiadhabGreatM4
import Derived.Deep.AppendLies
import Derived.Deep.RegionHeld3
set_option linter.unusedVariables false
set_option linter.unusedSimpArgs false
namespace Go.Proofs.YtejeikfgmiadhabGreat.Wg
open Go.RowKit Go.Proofs.YtejeikfgmiadhabGreat.Mem Go.Proofs.YtejeikfgmiadhabGreat.Rw Go.Proofs.YtejeikfgmiadhabGreat.Bk Go.Proofs.YtejeikfgmiadhabGreat.Cx Go.Proofs.YtejeikfgmiadhabGreat.Cm Go.Proofs.YtejeikfgmiadhabGreat.Jt Go.Proofs.YtejeikfgmiadhabGreat.Pl Go.Proofs.YtejeikfgmiadhabGreat.Str Go.Proofs.YtejeikfgmiadhabGreat.Pw Go.Proofs.YtejeikfgmiadhabGreat.P2 Go.Proofs.YtejeikfgmiadhabGreat.Gs Go.Proofs.YtejeikfgmiadhabGreat.Wm Go.Proofs.YtejeikfgmiadhabGreat.Wi Go.Proofs.YtejeikfgmiadhabGreat.Wa Go.Proofs.YtejeikfgmiadhabGreat.Wb Go.Proofs.YtejeikfgmiadhabGreat.Wc Go.Proofs.YtejeikfgmiadhabGreat.We
set_option linter.unusedVariables false
set_option linter.unusedSimpArgs false

end Go.Proofs.YtejeikfgmiadhabGreat.Wg

namespace Go.Proofs.YtejeikfgmiadhabGreat.Wt
open Go.RowKit Go.Proofs.YtejeikfgmiadhabGreat.Mem Go.Proofs.YtejeikfgmiadhabGreat.Rw Go.Proofs.YtejeikfgmiadhabGreat.Bk Go.Proofs.YtejeikfgmiadhabGreat.Cx Go.Proofs.YtejeikfgmiadhabGreat.Cm Go.Proofs.YtejeikfgmiadhabGreat.Jt Go.Proofs.YtejeikfgmiadhabGreat.Pl Go.Proofs.YtejeikfgmiadhabGreat.Str Go.Proofs.YtejeikfgmiadhabGreat.Pw Go.Proofs.YtejeikfgmiadhabGreat.P2 Go.Proofs.YtejeikfgmiadhabGreat.Tp Go.Proofs.YtejeikfgmiadhabGreat.Gs Go.Proofs.YtejeikfgmiadhabGreat.Wm Go.Proofs.YtejeikfgmiadhabGreat.Wi Go.Proofs.YtejeikfgmiadhabGreat.Wa Go.Proofs.YtejeikfgmiadhabGreat.Wb Go.Proofs.YtejeikfgmiadhabGreat.Wc Go.Proofs.YtejeikfgmiadhabGreat.We Go.Proofs.YtejeikfgmiadhabGreat.Wg
set_option linter.unusedVariables false
set_option linter.unusedSimpArgs false

end Go.Proofs.YtejeikfgmiadhabGreat.Wt
