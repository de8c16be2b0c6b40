/- What the model answers for the height of a jet's drop. -/
import Derived.Test.YtppaknjiadnogaaFm
namespace Go.Proofs.Ytppaknjiadnogaa.Dp
open Go.RowKit Go.Proofs.Ytppaknjiadnogaa.Cx Go.Proofs.Ytppaknjiadnogaa.Cm Go.Proofs.Ytppaknjiadnogaa.Pl Go.Proofs.Ytppaknjiadnogaa.Str Go.Proofs.Ytppaknjiadnogaa.Pw Go.Proofs.Ytppaknjiadnogaa.P2 Go.Proofs.Ytppaknjiadnogaa.Hd Go.Proofs.Ytppaknjiadnogaa.Sf Go.Proofs.Ytppaknjiadnogaa.Jt
set_option linter.unusedVariables false
set_option linter.unusedSimpArgs false

set_option maxHeartbeats 1000000 in
theorem heightS (x y h t l n : Int) (hn : n ≤ 9223372036854775807) (hn2 : -9223372036854775808 ≤ n) (w : World) : Calls Try.prog 96 #[jv x y h t l, .int .i64 n] w fun e w' => e = .returned (.int .i64 (ha x y h t l n)) ∧ Below w.heap.size w w' := by
  have F := flightS x y h t l
  by_cases c1 : fl x y h t l < n
  · have e : ha x y h t l n = 0 := by
      unfold ha
      rw [if_neg]
      intro hc
      obtain ⟨hj, h1, h2⟩ := inF_iff.1 hc
      rw [fl_yes hj] at c1
      omega
    rw [e]
    generalize fl x y h t l = f at *
    replace F := Lib.hid F
    clear e
    go_enter Try.func96, Try.ntmps96
    go_wp2_with fail
    refine (F.out _).mono ?_
    rintro e w1 ⟨rfl, hb⟩
    have HB := Lib.hid (show Below w.heap.size w w1 from Below.trans (by go_grown) (hb.mono (by go_size)))
    clear hb
    go_wp2_with fail
    go_returns
    exact ⟨rfl, HB.out⟩
  by_cases c2 : n ≤ 0
  · have e : ha x y h t l n = 0 := by
      unfold ha
      split
      · rename_i hc
        obtain ⟨hj, h1, h2⟩ := inF_iff.1 hc
        rw [show n.toNat = 0 by omega, hg_zero]
      · rfl
    rw [e]
    generalize fl x y h t l = f at *
    replace F := Lib.hid F
    clear e
    go_enter Try.func96, Try.ntmps96
    go_wp2_with fail
    refine (F.out _).mono ?_
    rintro e w1 ⟨rfl, hb⟩
    have HB := Lib.hid (show Below w.heap.size w w1 from Below.trans (by go_grown) (hb.mono (by go_size)))
    clear hb
    go_wp2_with fail
    refine wp_loop_rounds 1 ?_
    repeat any_goals (rw [rounds_succ]; go_wp2_with fail)
    go_returns
    exact ⟨rfl, HB.out⟩
  · have hj : jt x y h t l = true := by
      cases hj : jt x y h t l
      · rw [fl_no hj] at c1; omega
      · rfl
    rw [fl_yes hj] at F c1
    obtain ⟨N, rfl⟩ : ∃ N : Nat, n = N := ⟨n.toNat, by omega⟩
    have hl := (jt_iff.1 hj).2.2.2.2
    have e : ha x y h t l N = hg l N := by
      unfold ha
      rw [if_pos (inF_iff.2 ⟨hj, by omega, by omega⟩), Int.toNat_natCast]
    rw [e]
    replace F := Lib.hid F
    clear hj e
    go_enter Try.func96, Try.ntmps96
    go_wp2_with fail
    refine (F.out _).mono ?_
    rintro e w1 ⟨rfl, hb⟩
    have m4 : w1.cell? ⟨w.heap.size, 4, none⟩ = some (.int .i64 l) := cell_below hb (by simp [go_sem])
    have HB := Lib.hid (show Below w.heap.size w w1 from Below.trans (by go_grown) (hb.mono (by go_size)))
    clear hb
    go_wp2_with fail
    go_loop [5, 6] (fun b a => ∃ (k : Nat) (H : Int), k ≤ N ∧ a = .int .i64 k ∧ b = .int .i64 H ∧ Hid (H = hg l k)) (fun _ a => N - (intOf a).toNat)
    case atStart => exact ⟨0, 0, by omega, rfl, rfl, Lib.hid (hg_zero l).symm⟩
    case round =>
      obtain ⟨k, H, k2, rfl, rfl, HH⟩ := hrel
      have b3 := hg_le (l := l) (k := k) (by omega) hl.2
      have b4 := hg_nonneg (l := l) (k := k) (by omega)
      rw [← HH.out] at b3 b4
      by_cases hlt : k < N
      · have NX := Lib.hid (show H + l - 2 * (k : Int) = hg l (k + 1) by rw [← hg_succ, HH.out]; omega)
        go_wp2_with fail
        go_round
        case rel => exact ⟨k + 1, _, by omega, by go_num, rfl, NX⟩
        case measure => simp [intOf]; omega
      · have RI := Lib.hid (show H = hg l N by rw [HH.out, show k = N by omega])
        go_wp2_with fail
        go_returns
        exact ⟨ret_i RI.out, HB.out⟩

end Go.Proofs.Ytppaknjiadnogaa.Dp
