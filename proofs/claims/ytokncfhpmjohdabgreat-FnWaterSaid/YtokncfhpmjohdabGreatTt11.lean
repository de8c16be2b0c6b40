/- The laws' sum of a list of integers. -/
import Derived.Test.YtokncfhpmjohdabGreatM18
import Derived.Test.YtokncfhpmjohdabGreatM1
import Derived.Test.YtokncfhpmjohdabGreatM16
set_option linter.unusedVariables false
set_option linter.unusedSimpArgs false
namespace Go.Proofs.YtokncfhpmjohdabGreat.Tt11
open Go.RowKit Go.Proofs.YtokncfhpmjohdabGreat.Mem Go.Proofs.YtokncfhpmjohdabGreat.Ints Go.Proofs.YtokncfhpmjohdabGreat.Dm
set_option linter.unusedVariables false
set_option linter.unusedSimpArgs false

theorem tot_part {zs : List Int} {B : Int} (hz : ∀ z ∈ zs, 0 ≤ z ∧ z ≤ B) (h0 : 0 ≤ B) (k : Nat) : 0 ≤ tot (zs.take k) ∧ tot (zs.take k) ≤ B * zs.length := by
  have h1 := tot_bound (B := B) (zs := zs.take k) fun z h => hz z (List.mem_of_mem_take h)
  have h2 := Int.mul_le_mul_of_nonneg_left (c := B) (show ((zs.take k).length : Int) ≤ zs.length by rw [List.length_take]; omega) h0
  omega
set_option maxHeartbeats 1000000 in
theorem totalL (A : Option Addr) (n c : Nat) (zs : List Int) (H : Nat) (w : World) (hn : zs.length = n) (hb : n ≤ 1048576) (hz : ∀ z ∈ zs, 0 ≤ z ∧ z ≤ 512) (hr : Rd w H A (ints zs)) :
    Calls Tryz.prog 12 #[.slice A n c] w fun e w' => e = .returned (.int .i64 (tot zs)) ∧ w = w' := by
  have HR := Lib.hid hr
  have HN := Lib.hid hn
  have HT := Lib.hid (tot_part hz (by omega))
  clear hr hn hz
  go_enter Tryz.func12, Tryz.ntmps12
  go_wp2
  go_loop [3, 4] (fun t i => ∃ k : Nat, k ≤ n ∧ i = .int .i64 k ∧ t = .int .i64 (tot (zs.take k))) (fun _ i => n - (intOf i).toNat)
  case atStart => exact ⟨0, Nat.zero_le _, rfl, rfl⟩
  case round =>
    obtain ⟨k, hk, rfl, rfl⟩ := hrel
    by_cases hlt : k < n
    · have hkz : k < zs.length := by rw [HN.out]; exact hlt
      obtain ⟨z, hz⟩ : ∃ z, zs[k]? = some z := ⟨_, List.getElem?_eq_getElem hkz⟩
      obtain ⟨b1, o1, eA, _, c1⟩ := Wp.rd_cell HR.out hz
      have hs := Lib.hid (tot_take hz)
      have t1 := HT.out k
      have t2 := HT.out (k + 1)
      rw [hs.out] at t2
      rw [HN.out] at t1 t2
      subst eA
      clear hz hkz
      obtain ⟨T9, hT9⟩ : ∃ T9, tot (zs.take k) = T9 := ⟨_, rfl⟩
      rw [hT9] at t1 t2 hs ⊢
      clear hT9
      go_wp2
      go_round
      case rel => exact ⟨k + 1, by omega, by go_num, by rw [hs.out]⟩
      case measure => simp [intOf]; omega
    · obtain rfl : k = n := by omega
      have hK : tot (zs.take k) = tot zs := by rw [List.take_of_length_le (Nat.le_of_eq HN.out)]
      rw [hK]
      clear hK
      go_wp2
      go_ret
      exact ⟨rfl, rfl⟩
end Go.Proofs.YtokncfhpmjohdabGreat.Tt11
