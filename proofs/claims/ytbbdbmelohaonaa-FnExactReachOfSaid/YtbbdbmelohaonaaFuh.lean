/- How far a jet reaches, of the model. -/
import Derived.Test.YtbbdbmelohaonaaFu
namespace Go.Proofs.Ytbbdbmelohaonaa.Dp
open Go.RowKit Go.Proofs.Ytbbdbmelohaonaa.Cx Go.Proofs.Ytbbdbmelohaonaa.Cm Go.Proofs.Ytbbdbmelohaonaa.Pl Go.Proofs.Ytbbdbmelohaonaa.Str Go.Proofs.Ytbbdbmelohaonaa.Pw Go.Proofs.Ytbbdbmelohaonaa.P2 Go.Proofs.Ytbbdbmelohaonaa.Hd Go.Proofs.Ytbbdbmelohaonaa.Sf Go.Proofs.Ytbbdbmelohaonaa.Jt
set_option linter.unusedVariables false
set_option linter.unusedSimpArgs false

set_option maxHeartbeats 2000000 in
set_option maxRecDepth 100000 in
theorem reachS (x y h t l : Int) (w : World) : Calls Try.prog 29 #[jv x y h t l] w fun e w' => e = .returned (.int .i64 (rc x y h t l)) ∧ Below w.heap.size w w' := by
  have F := flightS x y h t l
  have b := rc_wrap x y h t l
  unfold rc at *
  have m1 : IntKind.i64.wrap (fl x y h t l * t) = fl x y h t l * t := IntWalk.i64_in _ (by omega)
  have m2 : wrap64 (fl x y h t l * t) = fl x y h t l * t := IntWalk.wrap64_in _ (by omega)
  generalize fl x y h t l = f at *
  replace F := Lib.hid F
  clear b
  go_enter Try.func29, Try.ntmps29
  go_wp2_with fail
  go_region_held3 (fun w' => w'.cell? ⟨w.heap.size, 0, none⟩ = some (.int .i64 x) ∧ w'.cell? ⟨w.heap.size, 1, none⟩ = some (.int .i64 y) ∧ w'.cell? ⟨w.heap.size, 2, none⟩ = some (.int .i64 h) ∧ w'.cell? ⟨w.heap.size, 3, none⟩ = some (.int .i64 t) ∧ w'.cell? ⟨w.heap.size, 4, none⟩ = some (.int .i64 l)) ((first | (with_reducible exact hJ) | exact J5.drew (J5.new _ _ _ _ _ _ _)))
    (first
      | (go_at_call 18; ((with_reducible refine (F.out _).mono ?_); rintro e v ⟨rfl, hb⟩; have hJ := J5.below (J5.drew (J5.new w x y h t l 29)) hb; have HB := Lib.hid (show Below w.heap.size w v from Below.trans (by go_grown) (hb.mono (by go_size))); clear hb)))
  all_goals clear hJ
  all_goals go_wp2_with fail
  all_goals go_returns
  all_goals exact ⟨rfl, HB.out⟩

end Go.Proofs.Ytbbdbmelohaonaa.Dp
