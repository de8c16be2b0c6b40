/- How much lists of texts take, of any number. -/
import Derived.Test.YtdhdmdjahfnicaaStrs
import Derived.Test.YtdhdmdjahfnicaaGe
namespace Go.Proofs.Ytdhdmdjahfnicaa.Sw
open Go.RowKit Go.Proofs.Ytdhdmdjahfnicaa.Mem Go.Proofs.Ytdhdmdjahfnicaa.Strs
set_option linter.unusedVariables false
set_option linter.unusedSimpArgs false

def leftW (L : Int) (ss : List ByteArray) : Int := if (ss.length : Int) + byteSum ss ≤ L then L - (ss.length : Int) - byteSum ss else -1
theorem leftW_no {L : Int} {ss : List ByteArray} (h : L < (ss.length : Int) + byteSum ss) : leftW L ss = -1 := if_neg (by omega)
theorem leftW_yes {L : Int} {ss : List ByteArray} (h : (ss.length : Int) + byteSum ss ≤ L) : leftW L ss = L - (ss.length : Int) - byteSum ss := if_pos h

set_option maxHeartbeats 1000000 in
theorem szStringW (A : Option Addr) (n c : Nat) (ss : List ByteArray) (H : Nat) (L0 : Int) (hL0 : 0 ≤ L0) (hL1 : L0 ≤ 1048576) (w : World) (hn : ss.length = n) (hb : n ≤ 9223372036854775807) (hw : ∀ s ∈ ss, s.size ≤ 9223372036854775807) (hr : Rd w H A (strs ss)) :
    Calls Try.prog 38 #[.slice A n c, .int .i64 L0] w fun e w' => e = .returned (.int .i64 (leftW L0 ss)) ∧ w = w' := by
  have HR := Lib.hid hr
  have HN := Lib.hid hn
  have HW := Lib.hid hw
  clear hr hn hw
  by_cases h0 : L0 < n
  · have F := Lib.hid (leftW_no (L := L0) (ss := ss) (by rw [HN.out]; omega))
    go_enter Try.func38, Try.ntmps38
    go_wp2
    go_ret
    exact ⟨ret_int F.out.symm, rfl⟩
  · go_enter Try.func38, Try.ntmps38
    go_wp2
    go_loop [1, 5] (fun l i => ∃ k : Nat, k ≤ n ∧ i = .int .i64 k ∧ ∃ m : Int, l = .int .i64 m ∧ 0 ≤ m ∧ m ≤ 1048576 ∧ Hid (m = L0 - (n : Int) - byteSum (ss.take k))) (fun _ i => n - (intOf i).toNat)
    case atStart => exact ⟨0, Nat.zero_le _, rfl, _, rfl, by omega, by omega, by show _ = _; simp [byteSum]⟩
    case round =>
      obtain ⟨k, hk, rfl, m, rfl, hm0, hm1, HM⟩ := hrel
      by_cases hlt : k < n
      · have hkz : k < ss.length := by rw [HN.out]; exact hlt
        have hl : k < (strs ss).length := by rw [strs_len]; exact hkz
        obtain ⟨z, hz⟩ : ∃ z, ss[k]? = some z := ⟨_, List.getElem?_eq_getElem hkz⟩
        obtain ⟨b1, o1, eA, _, g1⟩ := HR.out.get hl
        have c1 : w.cell? ⟨b1, o1 + k, none⟩ = some (.string z) := g1 k _ (strs_get hz)
        have hzs := HW.out z (List.mem_of_getElem? hz)
        have HT := Lib.hid (byteSum_take hz)
        have HL := Lib.hid (byteSum_take_le ss (k + 1))
        clear g1 hz hl hkz
        subst eA
        by_cases hneg : m < z.size
        · have F := Lib.hid (leftW_no (L := L0) (ss := ss) (by have := HT.out; have := HL.out; have := HM.out; have := HN.out; omega))
          go_wp2
          go_ret
          exact ⟨ret_int F.out.symm, rfl⟩
        · have HM2 := Lib.hid (show m - z.size = L0 - (n : Int) - byteSum (ss.take (k + 1)) by have := HT.out; have := HM.out; omega)
          go_wp2
          go_round
          case rel => exact ⟨k + 1, by omega, by go_num, _, rfl, by omega, by omega, HM2⟩
          case measure => simp [intOf]; omega
      · obtain rfl : k = n := by omega
        have F := Lib.hid (show leftW L0 ss = m by
          have ht : ss.take k = ss := by rw [← HN.out, List.take_length]
          have h1 := HM.out
          rw [ht] at h1
          have h2 := HN.out
          rw [leftW_yes (by omega)]
          omega)
        go_wp2
        go_ret
        exact ⟨ret_int F.out.symm, rfl⟩

end Go.Proofs.Ytdhdmdjahfnicaa.Sw
