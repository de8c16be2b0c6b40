/- The peak of a jet, of the model. -/
import Derived.Test.YtkndejjfndjcoabGreatM22
namespace Go.Proofs.YtkndejjfndjcoabGreat.Dp
open Go.RowKit Go.Proofs.YtkndejjfndjcoabGreat.Cx Go.Proofs.YtkndejjfndjcoabGreat.Cm Go.Proofs.YtkndejjfndjcoabGreat.Pl Go.Proofs.YtkndejjfndjcoabGreat.Str Go.Proofs.YtkndejjfndjcoabGreat.Pw Go.Proofs.YtkndejjfndjcoabGreat.P2 Go.Proofs.YtkndejjfndjcoabGreat.Hd Go.Proofs.YtkndejjfndjcoabGreat.Sf Go.Proofs.YtkndejjfndjcoabGreat.Jt
set_option linter.unusedVariables false
set_option linter.unusedSimpArgs false

set_option maxHeartbeats 4000000 in
set_option maxRecDepth 100000 in
theorem peakS (x y h t l : Int) (w : World) : Calls Tryz.prog 43 #[jv x y h t l] w fun e w' => e = .returned (peakV x y h t l) ∧ Below w.heap.size w w' := by
  have F := flightS x y h t l
  obtain ⟨f, hf⟩ : ∃ f : Nat, fl x y h t l = f := by
    cases hj : jt x y h t l
    · exact ⟨0, fl_no hj⟩
    · exact ⟨(l + 1).toNat, by rw [fl_yes hj]; have := (jt_iff.1 hj).2.2.2.2; omega⟩
  rw [hf] at F
  have hf2 : f ≠ 0 → jt x y h t l = true ∧ (f : Int) = l + 1 ∧ 1 ≤ l ∧ l ≤ 32 := by
    intro h0
    cases hj : jt x y h t l
    · rw [fl_no hj] at hf; omega
    · rw [fl_yes hj] at hf; exact ⟨rfl, hf.symm, (jt_iff.1 hj).2.2.2.2⟩
  have hf0 : f ≤ 33 := by
    by_cases c : f = 0
    · omega
    · have := hf2 c; omega
  obtain ⟨M, hM⟩ : ∃ M : Nat, M = ((l + 1) / 2).toNat := ⟨_, rfl⟩
  have EP := Lib.hid (show pk x y h t l = min f M by
    cases hj : jt x y h t l
    · rw [pk_no hj]; rw [fl_no hj] at hf; omega
    · rw [pk_yes hj]; rw [fl_yes hj] at hf; omega)
  replace F := Lib.hid F
  have HM0 := Lib.hid hM
  have HF2 := Lib.hid hf2
  clear hf hf2 hM
  go_enter Tryz.func43, Tryz.ntmps43
  go_wp2_with fail
  go_loopw [4, 5] (fun a s wr => ∃ k m : Nat, 1 ≤ k ∧ k ≤ f + 1 ∧ a = .int .i64 m ∧ s = .int .i64 k ∧ Hid (m = min (k - 1) M) ∧ Hid (J5 wr w.heap.size x y h t l) ∧ Hid (Below w.heap.size w wr)) (fun _ s _ => f + 1 - (intOf s).toNat)
  case atStart => exact ⟨1, 0, by omega, by omega, rfl, rfl, Lib.hid (by omega), Lib.hid (J5.new w x y h t l 53), Lib.hid (by go_grown)⟩
  case round =>
    obtain ⟨k, m, k1, k2, rfl, rfl, HM, HJ, HB⟩ := hrel
    obtain ⟨j0, j1, j2, j3, j4⟩ := HJ.out
    by_cases hlt : k ≤ f
    · obtain ⟨hj, hl0, hl1, hl2⟩ := HF2.out (by omega)
      have hM := HM0.out
      by_cases hup : k ≤ M
      · clear j0
        have j0 := HJ.out.1
        have hd : (ha x y h t l m < ha x y h t l k) := by
          have e := HM.out
          rw [ha_in hj (by omega), ha_in hj (by omega)]
          have e2 : k = m + 1 := by omega
          rw [e2]; exact hg_up (by omega)
        have HK := heightS x y h t l (k : Int) (by omega) (by omega)
        have HMM := heightS x y h t l (m : Int) (by have := HM.out; omega) (by omega)
        generalize ha x y h t l (k : Int) = A at *
        generalize ha x y h t l (m : Int) = B at *
        replace HK := Lib.hid HK
        replace HMM := Lib.hid HMM
        have NX := Lib.hid (show k = min (k + 1 - 1) M by omega)
        clear hj
        go_wp2_with fail
        refine (F.out _).mono ?_
        rintro e v1 ⟨rfl, hb⟩
        have hJ := J5.below HJ.out hb
        have HB1 := Lib.hid (HB.out.trans (hb.mono HB.out.size))
        clear hb
        go_wp2_with fail
        go_region_held3 (fun w' => w'.cell? ⟨w.heap.size, 0, none⟩ = some (.int .i64 x) ∧ w'.cell? ⟨w.heap.size, 1, none⟩ = some (.int .i64 y) ∧ w'.cell? ⟨w.heap.size, 2, none⟩ = some (.int .i64 h) ∧ w'.cell? ⟨w.heap.size, 3, none⟩ = some (.int .i64 t) ∧ w'.cell? ⟨w.heap.size, 4, none⟩ = some (.int .i64 l)) ((first | (with_reducible exact hJ) | (with_reducible exact hJ2) | (with_reducible exact hJ3) | exact J5.drew hJ))
          (first
            | (go_at_call 72; ((with_reducible refine (HK.out _).mono ?_); rintro e v2 ⟨rfl, hb⟩; have hJ2 := J5.below (J5.drew hJ) hb; have HB2 := Lib.hid (HB1.out.trans (Below.trans (show Below w.heap.size v1 v1.drew from (Below.refl _ _).drew) (hb.mono HB1.out.size))); clear hb))
            | (go_at_call 72; ((with_reducible refine (HMM.out _).mono ?_); rintro e v3 ⟨rfl, hb⟩; have hJ3 := J5.below hJ2 hb; have HB3 := Lib.hid (HB2.out.trans (hb.mono HB2.out.size)); clear hb)))
        have HJ3 := Lib.hid hJ3
        clear hJ hJ2 hJ3
        go_wp2_with fail
        go_roundw
        case rel => exact ⟨k + 1, k, by omega, by omega, rfl, by go_num, NX, HJ3, HB3⟩
        case measure => simp [intOf]; omega
      · clear j0
        have j0 := HJ.out.1
        have hd : ¬ (ha x y h t l m < ha x y h t l k) := by
          have e := HM.out
          rw [ha_in hj (by omega), ha_in hj (by omega)]
          have e2 : m = M := by omega
          rw [e2]; exact hg_down (by omega) (by omega)
        have HK := heightS x y h t l (k : Int) (by omega) (by omega)
        have HMM := heightS x y h t l (m : Int) (by have := HM.out; omega) (by omega)
        generalize ha x y h t l (k : Int) = A at *
        generalize ha x y h t l (m : Int) = B at *
        replace HK := Lib.hid HK
        replace HMM := Lib.hid HMM
        have NX := Lib.hid (show m = min (k + 1 - 1) M by have := HM.out; omega)
        clear hj
        go_wp2_with fail
        refine (F.out _).mono ?_
        rintro e v1 ⟨rfl, hb⟩
        have hJ := J5.below HJ.out hb
        have HB1 := Lib.hid (HB.out.trans (hb.mono HB.out.size))
        clear hb
        go_wp2_with fail
        go_region_held3 (fun w' => w'.cell? ⟨w.heap.size, 0, none⟩ = some (.int .i64 x) ∧ w'.cell? ⟨w.heap.size, 1, none⟩ = some (.int .i64 y) ∧ w'.cell? ⟨w.heap.size, 2, none⟩ = some (.int .i64 h) ∧ w'.cell? ⟨w.heap.size, 3, none⟩ = some (.int .i64 t) ∧ w'.cell? ⟨w.heap.size, 4, none⟩ = some (.int .i64 l)) ((first | (with_reducible exact hJ) | (with_reducible exact hJ2) | (with_reducible exact hJ3) | exact J5.drew hJ))
          (first
            | (go_at_call 72; ((with_reducible refine (HK.out _).mono ?_); rintro e v2 ⟨rfl, hb⟩; have hJ2 := J5.below (J5.drew hJ) hb; have HB2 := Lib.hid (HB1.out.trans (Below.trans (show Below w.heap.size v1 v1.drew from (Below.refl _ _).drew) (hb.mono HB1.out.size))); clear hb))
            | (go_at_call 72; ((with_reducible refine (HMM.out _).mono ?_); rintro e v3 ⟨rfl, hb⟩; have hJ3 := J5.below hJ2 hb; have HB3 := Lib.hid (HB2.out.trans (hb.mono HB2.out.size)); clear hb)))
        have HJ3 := Lib.hid hJ3
        clear hJ hJ2 hJ3
        go_wp2_with fail
        go_roundw
        case rel => exact ⟨k + 1, m, by omega, by omega, rfl, by go_num, NX, HJ3, HB3⟩
        case measure => simp [intOf]; omega
    · have HMM := heightS x y h t l (m : Int) (by have := HM.out; omega) (by omega)
      have e := HM.out
      have em := EP.out
      have hm2 : m = pk x y h t l := by rw [em, e]; omega
      rw [hm2] at HMM
      have RP := Lib.hid (show Ending.returned (.tuple #[.int .i64 (pk x y h t l), .int .i64 (ha x y h t l (pk x y h t l))]) = .returned (peakV x y h t l) from rfl)
      subst hm2
      clear e em
      generalize pk x y h t l = m at *
      generalize ha x y h t l (m : Int) = B at *
      replace HMM := Lib.hid HMM
      go_wp2_with fail
      refine (F.out _).mono ?_
      rintro e v1 ⟨rfl, hb⟩
      have HB1 := Lib.hid (HB.out.trans (hb.mono HB.out.size))
      obtain ⟨i0, i1, i2, i3, i4⟩ := J5.below HJ.out hb
      clear hb j0 j1 j2 j3 j4
      go_wp2_with fail
      refine (HMM.out _).mono ?_
      rintro e v2 ⟨rfl, hb⟩
      have HB2 := Lib.hid (HB1.out.trans (hb.mono HB1.out.size))
      clear hb
      go_wp2_with fail
      go_returns
      exact ⟨RP.out, HB2.out⟩

end Go.Proofs.YtkndejjfndjcoabGreat.Dp
