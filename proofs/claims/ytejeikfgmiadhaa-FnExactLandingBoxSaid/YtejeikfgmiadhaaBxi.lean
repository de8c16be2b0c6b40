/- Whether a place is in a box: the program's answer. -/
import Derived.Test.YtejeikfgmiadhaaBxq
set_option linter.unusedVariables false
set_option linter.unusedSimpArgs false
namespace Go.Proofs.Ytejeikfgmiadhaa.Bxi
open Go.RowKit Go.Proofs.Ytejeikfgmiadhaa.Cm Go.Proofs.Ytejeikfgmiadhaa.Pl Go.Proofs.Ytejeikfgmiadhaa.Str Go.Proofs.Ytejeikfgmiadhaa.Pw Go.Proofs.Ytejeikfgmiadhaa.P2
set_option linter.unusedVariables false

def bx (x y z u : Int) : Bool := (ms x && ms y) && (ms z && ms u) && decide (x ≤ z) && decide (y ≤ u)
def ib (x y z u a b : Int) : Bool := bx x y z u && decide (x ≤ a) && decide (a ≤ z) && decide (y ≤ b) && decide (b ≤ u)

end Go.Proofs.Ytejeikfgmiadhaa.Bxi
