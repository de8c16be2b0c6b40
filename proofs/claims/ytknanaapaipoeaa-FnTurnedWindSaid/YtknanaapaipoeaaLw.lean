/- The laws' test whether two winds are equal. -/
import Derived.Test.YtknanaapaipoeaaWg
namespace Go.Proofs.Ytknanaapaipoeaa.Lw
open Go.RowKit Go.Proofs.Ytknanaapaipoeaa.Mem Go.Proofs.Ytknanaapaipoeaa.Rw Go.Proofs.Ytknanaapaipoeaa.Str Go.Proofs.Ytknanaapaipoeaa.Pw Go.Proofs.Ytknanaapaipoeaa.P2 Go.Proofs.Ytknanaapaipoeaa.Gs
set_option linter.unusedVariables false
set_option linter.unusedSimpArgs false

set_option maxHeartbeats 2000000 in
theorem windsL (A B : Option Addr) (n c d : Nat) (zs : List (Int × Int × Int)) (H : Nat) (w : World) (hn : zs.length = n) (hb : n ≤ 1048576) (hr : Rd w H A (gls zs)) (hs : Rd w H B (gls zs)) :
    Calls Try.prog 24 #[.slice A n c, .slice B n d] w fun e w' => e = .returned (.bool true) ∧ Below w.heap.size w w' := by
  have HR := Lib.hid hr
  have HS := Lib.hid hs
  have HN := Lib.hid hn
  clear hr hs hn
  go_enter Try.func24, Try.ntmps24
  go_wp2
  go_loopw [5] (fun i wr => ∃ k m : Nat, k ≤ n ∧ i = .int .i64 k ∧ wr = w.drewN m) (fun i _ => n - (intOf i).toNat)
  case atStart => exact ⟨0, 0, Nat.zero_le _, rfl, rfl⟩
  case round =>
    obtain ⟨k, m, hk, rfl, rfl⟩ := hrel
    by_cases hlt : k < n
    · have hkz : k < zs.length := by rw [HN.out]; exact hlt
      have hl : k * 3 < (gls zs).length := by rw [gls_len]; omega
      obtain ⟨z, hz⟩ : ∃ z, zs[k]? = some z := ⟨_, List.getElem?_eq_getElem hkz⟩
      obtain ⟨z0, z1, z2⟩ := gls_get hz
      obtain ⟨f, x, y⟩ := z
      obtain ⟨b1, o1, eA, _, g1⟩ := HR.out.get hl
      obtain ⟨b2, o2, eB, _, g2⟩ := HS.out.get hl
      have c1 : (w.drewN m).cell? ⟨b1, o1 + k * 3, none⟩ = some (.int .i64 f) := g1 _ _ z0
      have c2 : (w.drewN m).cell? ⟨b1, o1 + k * 3 + 1, none⟩ = some (.int .i64 x) := g1 _ _ z1
      have c3 : (w.drewN m).cell? ⟨b1, o1 + k * 3 + 2, none⟩ = some (.int .i64 y) := g1 _ _ z2
      have c4 : (w.drewN m).cell? ⟨b2, o2 + k * 3, none⟩ = some (.int .i64 f) := g2 _ _ z0
      have c5 : (w.drewN m).cell? ⟨b2, o2 + k * 3 + 1, none⟩ = some (.int .i64 x) := g2 _ _ z1
      have c6 : (w.drewN m).cell? ⟨b2, o2 + k * 3 + 2, none⟩ = some (.int .i64 y) := g2 _ _ z2
      clear g1 g2 hz hl hkz z0 z1 z2
      subst eA eB
      have hlt' : (k : Int) < (n : Int) := by omega
      have hk0 : (0 : Int) ≤ (k : Int) := by omega
      obtain ⟨W, hW⟩ : ∃ W, W = w.drewN m := ⟨_, rfl⟩
      rw [← hW] at c1 c2 c3 c4 c5 c6 ⊢
      have HW := Lib.hid hW
      clear hW
      go_wp2_with fail
      go_quiet (fail)
      go_wp2_with fail
      go_roundw
      case rel => exact ⟨k + 1, m + nq, by omega, by go_num, by rw [HW.out, World.drewN_drewN]⟩
      case measure => simp [intOf]; omega
    · obtain rfl : k = n := by omega
      go_wp2
      go_ret
      exact ⟨rfl, below_drewN (Below.refl _ _) m⟩

end Go.Proofs.Ytknanaapaipoeaa.Lw
