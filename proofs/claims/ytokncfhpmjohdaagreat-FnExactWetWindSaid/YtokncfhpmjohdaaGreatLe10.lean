/- The least basin of a show. -/
import Derived.Test.YtokncfhpmjohdaaGreatLb10
import Derived.Test.YtokncfhpmjohdaaGreatM17
import Derived.Test.YtokncfhpmjohdaaGreatSw9
import Derived.Test.YtokncfhpmjohdaaGreatBif
import Derived.Test.YtokncfhpmjohdaaGreatM22
import Derived.Maps.AppendAt
import Derived.Test.YtokncfhpmjohdaaGreatM16
import Derived.Test.YtokncfhpmjohdaaGreatM23
import Derived.Test.YtokncfhpmjohdaaGreatM3
import Derived.Deep.RegionHeld3
set_option linter.unusedVariables false
set_option linter.unusedSimpArgs false
namespace Go.Proofs.YtokncfhpmjohdaaGreat.Le10
open Go.RowKit Go.ChangeShapes Go.WideShapes Go.WideElems Go.Deep Go.Proofs.YtokncfhpmjohdaaGreat.Mem Go.Proofs.YtokncfhpmjohdaaGreat.Rw Go.Proofs.YtokncfhpmjohdaaGreat.P2 Go.Proofs.YtokncfhpmjohdaaGreat.Bk Go.Proofs.YtokncfhpmjohdaaGreat.Jt Go.Proofs.YtokncfhpmjohdaaGreat.Cm Go.Proofs.YtokncfhpmjohdaaGreat.Cx Go.Proofs.YtokncfhpmjohdaaGreat.Pl Go.Proofs.YtokncfhpmjohdaaGreat.Hd Go.Proofs.YtokncfhpmjohdaaGreat.Str
open Go.Proofs.YtokncfhpmjohdaaGreat.Wz Go.Proofs.YtokncfhpmjohdaaGreat.Fw10 Go.Proofs.YtokncfhpmjohdaaGreat.Fa10 Go.Proofs.YtokncfhpmjohdaaGreat.Wy
open Go.Proofs.YtokncfhpmjohdaaGreat.Wr (rs)
open Go.Proofs.YtokncfhpmjohdaaGreat.Pls (pls pls_len infoPlace)
open Go.Proofs.YtokncfhpmjohdaaGreat.Bo (boxA Q4 bq)
open Go.Proofs.YtokncfhpmjohdaaGreat.Tb (box4 set4)
open Go.Proofs.YtokncfhpmjohdaaGreat.Tw9 (step_store_row row_grown row_bk)
open Go.Proofs.YtokncfhpmjohdaaGreat.Bxi (bx)
open Go.Proofs.YtokncfhpmjohdaaGreat.Dp (landV landI flightI fl_yes inF_iff told2_yes told2_no)
open Go.Proofs.YtokncfhpmjohdaaGreat.Lb10 (lbB lbQ)
open Go.Proofs.YtokncfhpmjohdaaGreat.Sp Go.Proofs.YtokncfhpmjohdaaGreat.Sq
open Go.Proofs.YtokncfhpmjohdaaGreat.Sv hiding D C G
open Go.Proofs.YtokncfhpmjohdaaGreat.Bo (val good)
open Go.Proofs.YtokncfhpmjohdaaGreat.Tw9 (T9 WOk tls tls_get Thr)
open Go.Proofs.YtokncfhpmjohdaaGreat.Tm9 (bls bls_get)
set_option linter.unusedVariables false
set_option linter.unusedSimpArgs false

theorem cT {w : World} {base g n c k : Nat} {us : List T9} {u : T9} (o : w.ownsRow base 84 9 (.slice (some ⟨g, 0, none⟩) n c) n (tls us)) (h : us[k]? = some u) (hk : k < n) :
    w.cell? ⟨g, k * 9, none⟩ = some (.string u.z.d.nm) ∧ w.cell? ⟨g, k * 9 + 1, none⟩ = some (.int .i64 u.z.b) ∧ w.cell? ⟨g, k * 9 + 2, none⟩ = some (.int .i64 (u.z.b + (u.z.l + 1))) ∧ w.cell? ⟨g, k * 9 + 3, none⟩ = some (.int .i64 u.z.d.x) ∧ w.cell? ⟨g, k * 9 + 4, none⟩ = some (.int .i64 u.z.d.y) ∧ w.cell? ⟨g, k * 9 + 5, none⟩ = some (.int .i64 u.z.d.hd) ∧ w.cell? ⟨g, k * 9 + 6, none⟩ = some (.int .i64 u.z.d.tl) ∧ w.cell? ⟨g, k * 9 + 7, none⟩ = some (.int .i64 u.z.l) ∧ w.cell? ⟨g, k * 9 + 8, none⟩ = some (.complex .f32 u.re u.im) :=
  have g := tls_get h
  ⟨(o.cellAt (k * 9) (by omega)).trans g.1, (o.cellAt (k * 9 + 1) (by omega)).trans g.2.1, (o.cellAt (k * 9 + 2) (by omega)).trans g.2.2.1, (o.cellAt (k * 9 + 3) (by omega)).trans g.2.2.2.1, (o.cellAt (k * 9 + 4) (by omega)).trans g.2.2.2.2.1, (o.cellAt (k * 9 + 5) (by omega)).trans g.2.2.2.2.2.1, (o.cellAt (k * 9 + 6) (by omega)).trans g.2.2.2.2.2.2.1, (o.cellAt (k * 9 + 7) (by omega)).trans g.2.2.2.2.2.2.2.1, (o.cellAt (k * 9 + 8) (by omega)).trans g.2.2.2.2.2.2.2.2⟩
theorem cB {w : World} {base g n c k : Nat} {us : List B} {z : B} (o : w.ownsRow base 71 7 (.slice (some ⟨g, 0, none⟩) n c) n (bls us)) (h : us[k]? = some z) (hk : k < n) :
    w.cell? ⟨g, k * 7, none⟩ = some (.string z.d.nm) ∧ w.cell? ⟨g, k * 7 + 1, none⟩ = some (.int .i64 z.b) ∧ w.cell? ⟨g, k * 7 + 2, none⟩ = some (.int .i64 z.d.x) ∧ w.cell? ⟨g, k * 7 + 3, none⟩ = some (.int .i64 z.d.y) ∧ w.cell? ⟨g, k * 7 + 4, none⟩ = some (.int .i64 z.d.hd) ∧ w.cell? ⟨g, k * 7 + 5, none⟩ = some (.int .i64 z.d.tl) ∧ w.cell? ⟨g, k * 7 + 6, none⟩ = some (.int .i64 z.l) :=
  have g := bls_get h
  ⟨(o.cellAt (k * 7) (by omega)).trans g.1, (o.cellAt (k * 7 + 1) (by omega)).trans g.2.1, (o.cellAt (k * 7 + 2) (by omega)).trans g.2.2.1, (o.cellAt (k * 7 + 3) (by omega)).trans g.2.2.2.1, (o.cellAt (k * 7 + 4) (by omega)).trans g.2.2.2.2.1, (o.cellAt (k * 7 + 5) (by omega)).trans g.2.2.2.2.2.1, (o.cellAt (k * 7 + 6) (by omega)).trans g.2.2.2.2.2.2⟩

/-- The corners of the box of the landings of a drop. -/
def cn (ps : List (Int × Int)) (z : B) : List (Int × Int) := [((lbQ z.d.x z.d.y z.d.hd z.d.tl z.l ps).1, (lbQ z.d.x z.d.y z.d.hd z.d.tl z.l ps).2.1), ((lbQ z.d.x z.d.y z.d.hd z.d.tl z.l ps).2.2.1, (lbQ z.d.x z.d.y z.d.hd z.d.tl z.l ps).2.2.2)]
end Go.Proofs.YtokncfhpmjohdaaGreat.Le10
