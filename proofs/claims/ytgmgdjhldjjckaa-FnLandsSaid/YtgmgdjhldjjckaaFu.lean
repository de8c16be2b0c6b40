/- How far a jet reaches, of the program and of the model. -/
import Derived.Test.YtgmgdjhldjjckaaFs
namespace Go.Proofs.Ytgmgdjhldjjckaa.Dp
open Go.RowKit Go.Proofs.Ytgmgdjhldjjckaa.Cx Go.Proofs.Ytgmgdjhldjjckaa.Cm Go.Proofs.Ytgmgdjhldjjckaa.Pl Go.Proofs.Ytgmgdjhldjjckaa.Str Go.Proofs.Ytgmgdjhldjjckaa.Pw Go.Proofs.Ytgmgdjhldjjckaa.P2 Go.Proofs.Ytgmgdjhldjjckaa.Hd Go.Proofs.Ytgmgdjhldjjckaa.Sf Go.Proofs.Ytgmgdjhldjjckaa.Jt
set_option linter.unusedVariables false
set_option linter.unusedSimpArgs false

/-- How far it reaches. -/
def rc (x y h t l : Int) : Int := fl x y h t l * t
theorem rc_wrap (x y h t l : Int) : -9223372036854775808 ≤ rc x y h t l ∧ rc x y h t l ≤ 9223372036854775807 := by
  unfold rc
  cases hj : jt x y h t l
  · rw [fl_no hj]; simp
  · obtain ⟨_, _, _, ht, hl⟩ := jt_iff.1 hj
    rw [fl_yes hj]
    have h1 : (l + 1) * t ≤ 33 * 16 := Int.mul_le_mul (by omega) ht.2 ht.1 (by omega)
    have h2 : 0 ≤ (l + 1) * t := Int.mul_nonneg (by omega) ht.1
    omega

set_option maxHeartbeats 2000000 in
set_option maxRecDepth 100000 in
theorem reachI (x y h t l : Int) (w : World) : Calls Try.prog 23 #[jv x y h t l] w fun e w' => e = .returned (.int .i64 (rc x y h t l)) ∧ Below w.heap.size w w' := by
  have F := flightI x y h t l
  have b := rc_wrap x y h t l
  cases hj : jt x y h t l
  · have C := Lib.hid (isJetI_of hj)
    have e : rc x y h t l = 0 := by unfold rc; rw [fl_no hj]; simp
    rw [e]
    clear hj e b F
    go_enter Try.func23, Try.ntmps23
    go_wp2_with fail
    refine (C.out _).mono ?_
    rintro e w' ⟨rfl, rfl⟩
    go_wp2_with fail
    go_returns
    exact ⟨rfl, by go_grown⟩
  · have C := Lib.hid (isJetI_of hj)
    obtain ⟨_, _, _, ht, hl⟩ := jt_iff.1 hj
    have h1 : (l + 1) * t ≤ 33 * 16 := Int.mul_le_mul (by omega) ht.2 ht.1 (by omega)
    have h2 : 0 ≤ (l + 1) * t := Int.mul_nonneg (by omega) ht.1
    have e : rc x y h t l = (l + 1) * t := by unfold rc; rw [fl_yes hj]
    have TI := Times.impl t (l + 1) (WalkArith.wf_i64 (by omega)) (WalkArith.wf_i64 (by omega))
    have hc := Int.mul_comm t (l + 1)
    obtain ⟨g1, g2⟩ := Times.mk_yes (x := t) (n := l + 1) (by omega)
    rw [g1, g2, hc] at TI
    rw [e]
    rw [fl_yes hj] at F
    generalize (l + 1) * t = r at *
    replace F := Lib.hid F
    replace TI := Lib.hid TI
    clear hj e b hc g1 g2 h1 h2
    go_enter Try.func23, Try.ntmps23
    go_wp2_with fail
    refine (C.out _).mono ?_
    rintro e w' ⟨rfl, rfl⟩
    go_wp2_with fail
    go_region_held3 (fun w' => w'.cell? ⟨w.heap.size, 0, none⟩ = some (.int .i64 x) ∧ w'.cell? ⟨w.heap.size, 1, none⟩ = some (.int .i64 y) ∧ w'.cell? ⟨w.heap.size, 2, none⟩ = some (.int .i64 h) ∧ w'.cell? ⟨w.heap.size, 3, none⟩ = some (.int .i64 t) ∧ w'.cell? ⟨w.heap.size, 4, none⟩ = some (.int .i64 l)) ((first | (with_reducible exact hJ) | exact J5.drew (J5.alloc (J5.new _ _ _ _ _ _ _))))
      (first
        | (go_at_call 17; ((with_reducible refine (F.out _).mono ?_); rintro e v ⟨rfl, hb⟩; have hJ := J5.below (J5.drew (J5.alloc (J5.new w x y h t l 27))) hb; have HB := Lib.hid (show Below w.heap.size w v from Below.trans (by go_grown) (hb.mono (by go_size))); clear hb))
        | (go_at_call 60; ((with_reducible refine (TI.out _).mono ?_); rintro e w' ⟨rfl, rfl⟩)))
    all_goals clear hJ
    all_goals go_wp2_with fail
    all_goals go_returns
    all_goals exact ⟨rfl, HB.out⟩

end Go.Proofs.Ytgmgdjhldjjckaa.Dp
