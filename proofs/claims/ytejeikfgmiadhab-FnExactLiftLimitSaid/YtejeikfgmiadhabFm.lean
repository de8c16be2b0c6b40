/- What the model answers for a jet: its flight, its heights. -/
import Derived.Test.YtejeikfgmiadhabFf
set_option linter.unusedVariables false
set_option linter.unusedSimpArgs false
namespace Go.Proofs.Ytejeikfgmiadhab.Dp
open Go.RowKit Go.Proofs.Ytejeikfgmiadhab.Cx Go.Proofs.Ytejeikfgmiadhab.Cm Go.Proofs.Ytejeikfgmiadhab.Pl Go.Proofs.Ytejeikfgmiadhab.Str Go.Proofs.Ytejeikfgmiadhab.Pw Go.Proofs.Ytejeikfgmiadhab.P2 Go.Proofs.Ytejeikfgmiadhab.Hd Go.Proofs.Ytejeikfgmiadhab.Sf Go.Proofs.Ytejeikfgmiadhab.Jt
set_option linter.unusedVariables false
set_option linter.unusedSimpArgs false

theorem hg_one (l : Int) : hg l 1 = l := by unfold hg; simp

set_option maxHeartbeats 1000000 in
theorem flightS (x y h t l : Int) (w : World) : Calls Try.prog 31 #[jv x y h t l] w fun e w' => e = .returned (.int .i64 (fl x y h t l)) ∧ Below w.heap.size w w' := by
  cases hj : jt x y h t l
  · rw [fl_no hj]
    have C := Lib.hid (isJetS_of hj)
    clear hj
    go_enter Try.func31, Try.ntmps31
    go_wp2_with fail
    refine (C.out _).mono ?_
    rintro e w' ⟨rfl, rfl⟩
    go_wp2_with fail
    go_returns
    exact ⟨rfl, by go_grown⟩
  · rw [fl_yes hj]
    have hl := (jt_iff.1 hj).2.2.2.2
    have C := Lib.hid (isJetS_of hj)
    have H1 := Lib.hid (hg_one l)
    clear hj
    go_enter Try.func31, Try.ntmps31
    go_wp2_with fail
    refine (C.out _).mono ?_
    rintro e w' ⟨rfl, rfl⟩
    go_wp2_with fail
    go_loop [3, 4, 5] (fun a b c => ∃ (k : Nat) (H s : Int), 1 ≤ k ∧ (k : Int) ≤ l + 1 ∧ a = .int .i64 k ∧ b = .int .i64 H ∧ c = .int .i64 s ∧ Hid (H = hg l k) ∧ Hid (s = l - 2 * k)) (fun a _ _ => (l + 1 - intOf a).toNat)
    case atStart => exact ⟨1, l, l - 2, by omega, by omega, rfl, rfl, rfl, Lib.hid H1.out.symm, Lib.hid (by omega)⟩
    case round =>
      obtain ⟨k, H, s, k1, k2, rfl, rfl, rfl, HH, HS⟩ := hrel
      have b3 := hg_le (k := k) k2 hl.2
      have b4 := hg_nonneg (l := l) (k := k) k2
      rw [← HH.out] at b3 b4
      have b5 : -66 ≤ s ∧ s ≤ 32 := by have := HS.out; omega
      have NX := Lib.hid (show H + s = hg l (k + 1) by rw [HH.out, HS.out, hg_succ])
      have NS := Lib.hid (show s - 2 = l - 2 * ((k + 1 : Nat) : Int) by rw [HS.out]; omega)
      by_cases hlt : (k : Int) ≤ l
      · have hpos : 0 < H := by have := hg_pos (l := l) k1 hlt; rw [← HH.out] at this; exact this
        go_wp2_with fail
        go_round
        case rel => exact ⟨k + 1, H + s, s - 2, by omega, by omega, by go_num, rfl, rfl, NX, NS⟩
        case measure => simp [intOf]; omega
      · have hz : ¬ 0 < H := by have := hg_end (l := l) (k := k) (by omega); rw [← HH.out] at this; omega
        have RI := Lib.hid (ret_i (show (k : Int) = l + 1 by omega))
        go_wp2_with fail
        go_returns
        exact ⟨RI.out, by go_grown⟩

end Go.Proofs.Ytejeikfgmiadhab.Dp
