/- The laws' test whether two scores are equal. -/
import Derived.Test.YtgcheplneolonacCl
import Derived.BigQuiet
namespace Go.Proofs.Ytgcheplneolonac.Lc7
open Go.RowKit Go.ChangeShapes Go.WideShapes Go.WideElems Go.Deep Go.Proofs.Ytgcheplneolonac.Mem Go.Proofs.Ytgcheplneolonac.Rw Go.Proofs.Ytgcheplneolonac.P2 Go.Proofs.Ytgcheplneolonac.Cd Go.Proofs.Ytgcheplneolonac.Cv Go.Proofs.Ytgcheplneolonac.Cl
set_option linter.unusedVariables false
set_option linter.unusedSimpArgs false

set_option maxHeartbeats 2000000 in
set_option maxRecDepth 100000 in
theorem cuesL (A B : Option Addr) (n c d : Nat) (zs : List C) (H : Nat) (w : World) (hn : zs.length = n) (hb : n ≤ 1048576) (hr : Rd w H A (dls zs)) (hs : Rd w H B (dls zs)) :
    Calls Try.prog 8 #[.slice A n c, .slice B n d] w fun e w' => e = .returned (.bool true) ∧ Below w.heap.size w w' := by
  have HR := Lib.hid hr
  have HS := Lib.hid hs
  have HN := Lib.hid hn
  clear hr hs hn
  go_enter Try.func8, Try.ntmps8
  go_wp2
  go_loopw [5] (fun i wr => ∃ k m : Nat, k ≤ n ∧ i = .int .i64 k ∧ wr = w.drewN m) (fun i _ => n - (intOf i).toNat)
  case atStart => exact ⟨0, 0, Nat.zero_le _, rfl, rfl⟩
  case round =>
    obtain ⟨k, m, hk, rfl, rfl⟩ := hrel
    by_cases hlt : k < n
    · have hkz : k < zs.length := by rw [HN.out]; exact hlt
      have hl : k * 4 < (dls zs).length := by rw [dls_len]; omega
      obtain ⟨z, hz⟩ : ∃ z, zs[k]? = some z := ⟨_, List.getElem?_eq_getElem hkz⟩
      obtain ⟨t, s, l, r⟩ := z
      obtain ⟨z0, z1, z2, z3⟩ := dls_get hz
      obtain ⟨b1, o1, eA, _, g1⟩ := HR.out.get hl
      obtain ⟨b2, o2, eB, _, g2⟩ := HS.out.get hl
      have c1 : (w.drewN m).cell? ⟨b1, o1 + k * 4, none⟩ = some (.int .i64 t) := g1 _ _ z0
      have c2 : (w.drewN m).cell? ⟨b1, o1 + k * 4 + 1, none⟩ = some (.string s) := g1 _ _ z1
      have c3 : (w.drewN m).cell? ⟨b1, o1 + k * 4 + 2, none⟩ = some (.int .i64 l) := g1 _ _ z2
      have c7 : (w.drewN m).cell? ⟨b1, o1 + k * 4 + 3, none⟩ = some (.int .i64 r) := g1 _ _ z3
      have c4 : (w.drewN m).cell? ⟨b2, o2 + k * 4, none⟩ = some (.int .i64 t) := g2 _ _ z0
      have c5 : (w.drewN m).cell? ⟨b2, o2 + k * 4 + 1, none⟩ = some (.string s) := g2 _ _ z1
      have c6 : (w.drewN m).cell? ⟨b2, o2 + k * 4 + 2, none⟩ = some (.int .i64 l) := g2 _ _ z2
      have c8 : (w.drewN m).cell? ⟨b2, o2 + k * 4 + 3, none⟩ = some (.int .i64 r) := g2 _ _ z3
      clear g1 g2 hz hl hkz z0 z1 z2 z3
      subst eA eB
      have hlt' : (k : Int) < (n : Int) := by omega
      have hk0 : (0 : Int) ≤ (k : Int) := by omega
      have EQ : (s.toList == s.toList) = true := by simp
      obtain ⟨W, hW⟩ : ∃ W, W = w.drewN m := ⟨_, rfl⟩
      rw [← hW] at c1 c2 c3 c4 c5 c6 c7 c8 ⊢
      have HW := Lib.hid hW
      clear hW
      go_wp2_with fail
      go_quiet (fail)
      go_wp2_with fail
      go_roundw
      case rel => exact ⟨k + 1, m + nq, by omega, by go_num, by rw [HW.out, World.drewN_drewN]⟩
      case measure => simp [intOf]; omega
    · obtain rfl : k = n := by omega
      go_wp2
      go_ret
      exact ⟨rfl, below_drewN (Below.refl _ _) m⟩

end Go.Proofs.Ytgcheplneolonac.Lc7
