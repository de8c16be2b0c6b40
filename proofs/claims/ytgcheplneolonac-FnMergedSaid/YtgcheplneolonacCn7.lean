/- slices.Concat of two empty lists of cues. -/
import Derived.Test.YtgcheplneolonacCc7
namespace Go.Proofs.Ytgcheplneolonac.Cn7
open Go.RowKit Go.ChangeShapes Go.WideShapes Go.WideElems Go.Deep Go.Proofs.Ytgcheplneolonac.Mem Go.Proofs.Ytgcheplneolonac.Rw Go.Proofs.Ytgcheplneolonac.P2 Go.Proofs.Ytgcheplneolonac.Cd Go.Proofs.Ytgcheplneolonac.Cv Go.Proofs.Ytgcheplneolonac.Cl Go.Proofs.Ytgcheplneolonac.Cs
set_option linter.unusedVariables false
set_option linter.unusedSimpArgs false
open Go.Proofs.Ytgcheplneolonac.Sd Go.Proofs.Ytgcheplneolonac.Oc Go.Proofs.Ytgcheplneolonac.Cr Go.Proofs.Ytgcheplneolonac.Cc7

set_option maxHeartbeats 2000000 in
set_option maxRecDepth 100000 in
theorem concatN (bs os : Nat) (a b : Addr) (c9 c8 : Nat) (w : World) (h0 : w.cell? ⟨bs, os, none⟩ = some (.slice (some a) 0 c9)) (h1 : w.cell? ⟨bs, os + 1, none⟩ = some (.slice (some b) 0 c8)) :
    Calls Try.prog 27 #[.slice (some ⟨bs, os, none⟩) 2 2] w fun e w' => e = .returned (.slice none 0 0) ∧ Below w.heap.size w w' := by
  have GC := Lib.hid (growN w)
  obtain ⟨i0, hi, hz0, hz1, hz2⟩ := info_of infoD
  have R0 := Lib.hid (show w.ownsRow w.heap.size 26 4 (.slice none 0 0) 0 [] from ⟨rfl, Or.inl ⟨rfl, rfl⟩⟩)
  go_enter Try.func27, Try.ntmps27
  go_wp2_with fail
  go_loop [3, 11] (fun s i => s = .int .i64 0 ∧ (i = .int .i64 0 ∨ i = .int .i64 1 ∨ i = .int .i64 2)) (fun _ i => 2 - (intOf i).toNat)
  case atStart => exact ⟨rfl, Or.inl rfl⟩
  case round =>
    obtain ⟨rfl, hrel⟩ := hrel
    rcases hrel with rfl | rfl | rfl
    · go_wp2_with fail
      go_round
      case rel => exact ⟨by first | rfl | simp, Or.inr (Or.inl (by first | rfl | simp))⟩
      case measure => simp [intOf]
    · go_wp2_with fail
      go_round
      case rel => exact ⟨by first | rfl | simp, Or.inr (Or.inr (by first | rfl | simp))⟩
      case measure => simp [intOf]
    · go_wp2_with fail
      refine GC.out.mono ?_
      rintro e w1 ⟨rfl, rfl⟩
      go_wp2_with fail
      go_loopw [6, 27] (fun v i wr => v = .slice none 0 0 ∧ Hid (Below w1.heap.size w1 wr) ∧ (i = .int .i64 0 ∨ i = .int .i64 1 ∨ i = .int .i64 2)) (fun _ i _ => 2 - (intOf i).toNat)
      case atStart => exact ⟨rfl, Lib.hid (Below.refl _ _), Or.inl rfl⟩
      case round =>
        obtain ⟨rfl, BK, hrel⟩ := hrel
        have k0 := cell_below BK.out h0
        have k1 := cell_below BK.out h1
        rcases hrel with rfl | rfl | rfl
        · go_wp2_with fail
          go_roundw
          case rel => exact ⟨rfl, BK, Or.inr (Or.inl (by first | rfl | simp))⟩
          case measure => simp [intOf]
        · go_wp2_with fail
          go_roundw
          case rel => exact ⟨rfl, BK, Or.inr (Or.inr (by first | rfl | simp))⟩
          case measure => simp [intOf]
        · go_wp2_with fail
          go_ret
          exact ⟨rfl, BK.out⟩
end Go.Proofs.Ytgcheplneolonac.Cn7
