/- The box of all places where a drop can land. -/
import Derived.Test.YtokncfhpmjohdaaGreatM24
import Derived.Test.YtokncfhpmjohdaaGreatM16
import Derived.Test.YtokncfhpmjohdaaGreatM23
import Derived.Test.YtokncfhpmjohdaaGreatM3
import Derived.Deep.RegionHeld3
set_option linter.unusedVariables false
set_option linter.unusedSimpArgs false
namespace Go.Proofs.YtokncfhpmjohdaaGreat.Lb10
open Go.RowKit Go.ChangeShapes Go.WideShapes Go.WideElems Go.Deep Go.Proofs.YtokncfhpmjohdaaGreat.Mem Go.Proofs.YtokncfhpmjohdaaGreat.Rw Go.Proofs.YtokncfhpmjohdaaGreat.P2 Go.Proofs.YtokncfhpmjohdaaGreat.Bk Go.Proofs.YtokncfhpmjohdaaGreat.Jt Go.Proofs.YtokncfhpmjohdaaGreat.Cm Go.Proofs.YtokncfhpmjohdaaGreat.Cx Go.Proofs.YtokncfhpmjohdaaGreat.Pl Go.Proofs.YtokncfhpmjohdaaGreat.Hd Go.Proofs.YtokncfhpmjohdaaGreat.Str
open Go.Proofs.YtokncfhpmjohdaaGreat.Wz Go.Proofs.YtokncfhpmjohdaaGreat.Fw10 Go.Proofs.YtokncfhpmjohdaaGreat.Fa10 Go.Proofs.YtokncfhpmjohdaaGreat.Wy
open Go.Proofs.YtokncfhpmjohdaaGreat.Wr (rs)
open Go.Proofs.YtokncfhpmjohdaaGreat.Pls (pls)
open Go.Proofs.YtokncfhpmjohdaaGreat.Bo (boxA Q4 bq)
open Go.Proofs.YtokncfhpmjohdaaGreat.Tb (box4 set4)
open Go.Proofs.YtokncfhpmjohdaaGreat.Tw9 (step_store_row row_grown row_bk)
open Go.Proofs.YtokncfhpmjohdaaGreat.Bxi (bx)
open Go.Proofs.YtokncfhpmjohdaaGreat.Dp (landV landI flightI fl_yes inF_iff told2_yes told2_no)
set_option linter.unusedVariables false
set_option linter.unusedSimpArgs false

def lbB (x y h t l : Int) (ps : List (Int × Int)) : Bool := jt x y h t l && rs ps
/-- The box of all places where a drop can land; zeros if there is none. -/
def lbQ (x y h t l : Int) (ps : List (Int × Int)) : Q4 := if lbB x y h t l ps = true then lbox x y h t l ps else (0, 0, 0, 0)
end Go.Proofs.YtokncfhpmjohdaaGreat.Lb10
