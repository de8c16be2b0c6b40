/- Marks that the laws lay into a list of integers: that they are laid, and that they are found. -/
import Derived.Test.YtdhdmdjahfnicaaRw
import Derived.Handy
import Derived.Test.YtdhdmdjahfnicaaInts
namespace Go.Proofs.Ytdhdmdjahfnicaa.Im
open Go.RowKit Go.Proofs.Ytdhdmdjahfnicaa.Mem Go.Proofs.Ytdhdmdjahfnicaa.Rw
set_option linter.unusedVariables false
set_option linter.unusedSimpArgs false

/-- The marks are laid; what lies in other blocks is as it was. -/
def Laid (w : World) (base g n c k : Nat) (e : Ending) (w' : World) : Prop :=
  e = .returned (.int .i64 ((k : Int) + (n : Int))) ∧ w'.ownsRow base 3 1 (.slice (some ⟨g, 0, none⟩) n c) n (mk k n) ∧ w.grownBy w' (some g)

set_option maxHeartbeats 1000000 in
theorem markIntS (base g n c k : Nat) (xs : List Value) (w : World) (hn : xs.length = n) (hb : n ≤ 1048576) (hk : k ≤ 8388608) (hr : w.ownsRow base 3 1 (.slice (some ⟨g, 0, none⟩) n c) n xs) :
    Calls Try.prog 27 #[.slice (some ⟨g, 0, none⟩) n c, .int .i64 k] w (Laid w base g n c k) := by
  have HN := Lib.hid hn
  have R0 := Lib.hid (show w.ownsRow base 3 1 (.slice (some ⟨g, 0, none⟩) n c) n (marked k 0 xs) by rw [marked_zero]; exact hr)
  clear hn hr
  go_enter Try.func27, Try.ntmps27
  go_wp2_with fail
  go_loopw [1, 5] (fun q i wr => ∃ j : Nat, j ≤ n ∧ i = .int .i64 j ∧ q = .int .i64 ((k : Int) + (j : Int)) ∧ Hid (wr.ownsRow base 3 1 (.slice (some ⟨g, 0, none⟩) n c) n (marked k j xs)) ∧ Hid (w.grownBy wr (some g))) (fun _ i _ => n - (intOf i).toNat)
  case atStart => exact ⟨0, Nat.zero_le _, rfl, by simp, R0, Lib.hid (grown_refl _ _)⟩
  case round =>
    obtain ⟨j, hj, rfl, rfl, RK, GK⟩ := hrel
    by_cases hlt : j < n
    · have HL := HN.out
      have R1 := RK.out
      obtain ⟨v0, z0⟩ : ∃ v, xs[j]? = some v := ⟨_, List.getElem?_eq_getElem (by omega)⟩
      obtain ⟨r1, g1⟩ := R1.stored j (.int .i64 ((k : Int) + (j : Int)))
      rw [marked_set (by omega)] at r1
      have c1 := (R1.cellAt j (by omega)).trans (marked_get z0)
      have f1 := R1.frozenAt j
      have RR := Lib.hid r1
      have GG := Lib.hid (grown_trans GK.out g1)
      clear R0 R1 r1 g1 z0 HL RK GK
      go_wp2_with fail
      go_roundw
      case rel => exact ⟨j + 1, by omega, by go_num, by (congr 1), RR, GG⟩
      case measure => simp [intOf]; omega
    · obtain rfl : j = n := by omega
      have F := Lib.hid (show wr.ownsRow base 3 1 (.slice (some ⟨g, 0, none⟩) j c) j (mk k j) by
        have := RK.out
        rw [marked_all (by rw [HN.out]; exact Nat.le_refl _)] at this; exact this)
      clear R0
      go_wp2_with fail
      go_ret
      exact ⟨rfl, F.out, GK.out⟩

set_option maxHeartbeats 1000000 in
theorem heldIntS (A : Option Addr) (n c k B : Nat) (w : World) (hb : n ≤ 1048576) (hk : k ≤ 8388608) (hr : Rd w B A (mk k n)) :
    Calls Try.prog 28 #[.slice A n c, .int .i64 k] w fun e w' => e = .returned (.int .i64 ((k : Int) + (n : Int))) ∧ w = w' := by
  have HR := Lib.hid hr
  clear hr
  go_enter Try.func28, Try.ntmps28
  go_wp2_with fail
  go_loop [1, 5] (fun q i => ∃ j : Nat, j ≤ n ∧ i = .int .i64 j ∧ q = .int .i64 ((k : Int) + (j : Int))) (fun _ i => n - (intOf i).toNat)
  case atStart => exact ⟨0, Nat.zero_le _, rfl, by simp⟩
  case round =>
    obtain ⟨j, hj, rfl, rfl⟩ := hrel
    by_cases hlt : j < n
    · obtain ⟨b, o, eA, hbl, hcell⟩ := HR.out.get (k := j) (by rw [mk_len]; omega)
      have c1 := hcell j _ (mk_get (by omega))
      clear hcell hbl
      subst eA
      go_wp2_with fail
      go_round
      case rel => exact ⟨j + 1, by omega, by go_num, by (congr 1)⟩
      case measure => simp [intOf]; omega
    · obtain rfl : j = n := by omega
      go_wp2_with fail
      go_ret
      exact ⟨rfl, rfl⟩

theorem eqI (A B : Option Addr) (n c d : Nat) (zs : List Int) (w : World) (hn : zs.length = n) (hb : n ≤ 1048576) (hr : Rd w w.heap.size A (ints zs)) (hs : Rd w w.heap.size B (ints zs)) :
    Calls Try.prog 24 #[.slice A n c, .slice B n d] w fun e w' => e = .returned (.bool true) ∧ Below w.heap.size w w' :=
  (Ints.eqIntS A B n c d zs w.heap.size w hn hb hr hs).mono fun e w' ⟨he, m, hm⟩ => ⟨he, hm ▸ below_drewN (Below.refl _ _) m⟩

end Go.Proofs.Ytdhdmdjahfnicaa.Im
