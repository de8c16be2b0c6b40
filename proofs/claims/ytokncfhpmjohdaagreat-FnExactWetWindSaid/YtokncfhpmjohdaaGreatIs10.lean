/- Whether a show is safe. -/
import Derived.Test.YtokncfhpmjohdaaGreatLe10
import Derived.Test.YtokncfhpmjohdaaGreatWw10
import Derived.Test.YtokncfhpmjohdaaGreatSw9
import Derived.Test.YtokncfhpmjohdaaGreatM19
import Derived.Test.YtokncfhpmjohdaaGreatM16
import Derived.Test.YtokncfhpmjohdaaGreatM23
import Derived.Test.YtokncfhpmjohdaaGreatM3
import Derived.Deep.RegionHeld3
set_option linter.unusedVariables false
set_option linter.unusedSimpArgs false
namespace Go.Proofs.YtokncfhpmjohdaaGreat.Is10
open Go.RowKit Go.ChangeShapes Go.WideShapes Go.WideElems Go.Deep Go.Proofs.YtokncfhpmjohdaaGreat.Mem Go.Proofs.YtokncfhpmjohdaaGreat.Rw Go.Proofs.YtokncfhpmjohdaaGreat.P2 Go.Proofs.YtokncfhpmjohdaaGreat.Bk Go.Proofs.YtokncfhpmjohdaaGreat.Jt Go.Proofs.YtokncfhpmjohdaaGreat.Cm Go.Proofs.YtokncfhpmjohdaaGreat.Cx Go.Proofs.YtokncfhpmjohdaaGreat.Pl Go.Proofs.YtokncfhpmjohdaaGreat.Hd Go.Proofs.YtokncfhpmjohdaaGreat.Str
open Go.Proofs.YtokncfhpmjohdaaGreat.Wz Go.Proofs.YtokncfhpmjohdaaGreat.Fw10 Go.Proofs.YtokncfhpmjohdaaGreat.Fa10 Go.Proofs.YtokncfhpmjohdaaGreat.Wy
open Go.Proofs.YtokncfhpmjohdaaGreat.Wr (rs)
open Go.Proofs.YtokncfhpmjohdaaGreat.Pls (pls)
open Go.Proofs.YtokncfhpmjohdaaGreat.Bo (boxA Q4 bq)
open Go.Proofs.YtokncfhpmjohdaaGreat.Tb (box4 set4)
open Go.Proofs.YtokncfhpmjohdaaGreat.Tw9 (step_store_row row_grown row_bk)
open Go.Proofs.YtokncfhpmjohdaaGreat.Bxi (bx)
open Go.Proofs.YtokncfhpmjohdaaGreat.Dp (landV landI flightI fl_yes inF_iff told2_yes told2_no)
open Go.Proofs.YtokncfhpmjohdaaGreat.Sp Go.Proofs.YtokncfhpmjohdaaGreat.Sq
open Go.Proofs.YtokncfhpmjohdaaGreat.Sv hiding D C G
open Go.Proofs.YtokncfhpmjohdaaGreat.Tw9 (T9 WOk tls tls_get Thr)
open Go.Proofs.YtokncfhpmjohdaaGreat.Bxi (isBoxI)
open Go.Proofs.YtokncfhpmjohdaaGreat.Ww10
open Go.Proofs.YtokncfhpmjohdaaGreat.Le10 (cn)
open Go.Proofs.YtokncfhpmjohdaaGreat.Lb10 (lbQ)
open Go.Proofs.YtokncfhpmjohdaaGreat.Bo (val good)
open Go.Proofs.YtokncfhpmjohdaaGreat.Wg (lat)
open Go.Proofs.YtokncfhpmjohdaaGreat.Gs (gls)
set_option linter.unusedVariables false
set_option linter.unusedSimpArgs false


section
open Go.Proofs.YtokncfhpmjohdaaGreat.Bxi (bx)
open Go.Proofs.YtokncfhpmjohdaaGreat.Pw
theorem isBoxS (x y z u : Int) (w : World) : Calls Tryz.prog 34 #[.agg #[.int .i64 x, .int .i64 y, .int .i64 z, .int .i64 u]] w fun e w' => e = .returned (.bool (bx x y z u)) ∧ Below w.heap.size w w' := by
  unfold bx
  cases p : (ms x && ms y)
  · have C1 := Lib.hid (isPlaceS_of p)
    clear p
    go_enter Tryz.func34, Tryz.ntmps34
    go_wp2_with fail
    refine (C1.out _).mono ?_
    rintro e w' ⟨rfl, rfl⟩
    go_wp2_with fail
    go_returns
    exact ⟨rfl, by go_grown⟩
  cases q : (ms z && ms u)
  · have C1 := Lib.hid (isPlaceS_of p)
    have C2 := Lib.hid (isPlaceS_of q)
    clear p q
    go_enter Tryz.func34, Tryz.ntmps34
    go_wp2_with fail
    refine (C1.out _).mono ?_
    rintro e w' ⟨rfl, rfl⟩
    go_wp2_with fail
    refine (C2.out _).mono ?_
    rintro e w' ⟨rfl, rfl⟩
    go_wp2_with fail
    go_returns
    exact ⟨rfl, by go_grown⟩
  · have C1 := Lib.hid (isPlaceS_of p)
    have C2 := Lib.hid (isPlaceS_of q)
    clear p q
    by_cases h1 : x ≤ z <;> by_cases h2 : y ≤ u
    all_goals
      go_enter Tryz.func34, Tryz.ntmps34
      go_wp2_with fail
      refine (C1.out _).mono ?_
      rintro e w' ⟨rfl, rfl⟩
      go_wp2_with fail
      refine (C2.out _).mono ?_
      rintro e w' ⟨rfl, rfl⟩
      go_wp2_with fail
      all_goals first | omega | skip
      all_goals go_returns
      all_goals refine ⟨?_, by go_grown⟩
      all_goals first | (simp [*]; done) | (simp [*]; omega)

end
end Go.Proofs.YtokncfhpmjohdaaGreat.Is10
