/- The laws' test whether two lists of integers are equal. -/
import Derived.Test.YtgcheplneolonadInts
import Derived.Test.YtgcheplneolonadRw
namespace Go.Proofs.Ytgcheplneolonad.Le5
open Go.RowKit Go.Proofs.Ytgcheplneolonad.Mem Go.Proofs.Ytgcheplneolonad.Ints

set_option maxHeartbeats 1000000 in
theorem intsL (A B : Option Addr) (n c d : Nat) (zs : List Int) (H : Nat) (w : World) (hn : zs.length = n) (hb : n ≤ 1048576) (hr : Rd w H A (ints zs)) (hs : Rd w H B (ints zs)) :
    Calls Try.prog 8 #[.slice A n c, .slice B n d] w (Same true w) := by
  have HR := Lib.hid hr
  have HS := Lib.hid hs
  have HN := Lib.hid hn
  clear hr hs hn
  go_enter Try.func8, Try.ntmps8
  go_wp2
  go_loopw [5] (fun i wr => ∃ k m : Nat, k ≤ n ∧ i = .int .i64 k ∧ wr = w.drewN m) (fun i _ => n - (intOf i).toNat)
  case atStart => exact ⟨0, 0, Nat.zero_le _, rfl, rfl⟩
  case round =>
    obtain ⟨k, m, hk, rfl, rfl⟩ := hrel
    by_cases hlt : k < n
    · have hkz : k < zs.length := by rw [HN.out]; exact hlt
      have hl : k < (Mem.ints zs).length := by rw [ints_len]; exact hkz
      obtain ⟨z, hz⟩ : ∃ z, (Mem.ints zs)[k]? = some (.int .i64 z) := ⟨_, ints_get hkz⟩
      obtain ⟨b1, o1, eA, _, g1⟩ := HR.out.get hl
      obtain ⟨b2, o2, eB, _, g2⟩ := HS.out.get hl
      have c1 : (w.drewN m).cell? ⟨b1, o1 + k, none⟩ = some (.int .i64 z) := g1 k _ hz
      have c2 : (w.drewN m).cell? ⟨b2, o2 + k, none⟩ = some (.int .i64 z) := g2 k _ hz
      clear g1 g2 hz hl hkz
      subst eA eB
      have hlt' : (k : Int) < (n : Int) := by omega
      have hk0 : (0 : Int) ≤ (k : Int) := by omega
      obtain ⟨W, hW⟩ : ∃ W, W = w.drewN m := ⟨_, rfl⟩
      rw [← hW] at c1 c2 ⊢
      have HW := Lib.hid hW
      clear hW
      go_wp2
      go_quiet (fail)
      go_wp2
      go_roundw
      case rel => exact ⟨k + 1, m + nq, by omega, by go_num, by rw [HW.out, World.drewN_drewN]⟩
      case measure => simp [intOf]; omega
    · obtain rfl : k = n := by omega
      go_wp2
      go_ret
      exact ⟨rfl, m, rfl⟩

end Go.Proofs.Ytgcheplneolonad.Le5
