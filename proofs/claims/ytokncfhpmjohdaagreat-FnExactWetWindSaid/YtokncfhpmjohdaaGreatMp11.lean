/- Lists of gusts: how they lie in memory, a list of gusts that came in, the laws' copy of one, their comparison, and the marks that the laws lay into one. -/
import Derived.Test.YtokncfhpmjohdaaGreatM1
import Derived.Test.YtokncfhpmjohdaaGreatM3
import Derived.Deep.RegionHeld3
set_option linter.unusedVariables false
set_option linter.unusedSimpArgs false
namespace Go.Proofs.YtokncfhpmjohdaaGreat.Mp11
open Go.RowKit Go.ChangeShapes Go.WideShapes Go.WideElems Go.Deep Go.Proofs.YtokncfhpmjohdaaGreat.Mem Go.Proofs.YtokncfhpmjohdaaGreat.Rw Go.Proofs.YtokncfhpmjohdaaGreat.Pw Go.Proofs.YtokncfhpmjohdaaGreat.P2
set_option linter.unusedVariables false
set_option linter.unusedSimpArgs false

/-- The marks are laid; what lies in other blocks is as it was. -/
def Laid (w : World) (base g n c k : Nat) (e : Ending) (w' : World) : Prop :=
  e = .returned (.int .i64 ((k : Int) + ((n * 2 : Nat) : Int))) ∧ w'.ownsRow base 44 2 (.slice (some ⟨g, 0, none⟩) n c) n (mk k (n * 2)) ∧ w.grownBy w' (some g)

set_option maxHeartbeats 2000000 in
theorem markPlaceS (base g n c k : Nat) (xs : List Value) (w : World) (hn : xs.length = n * 2) (hb : n ≤ 1048576) (hk : k ≤ 16777216) (hr : w.ownsRow base 44 2 (.slice (some ⟨g, 0, none⟩) n c) n xs) :
    Calls Tryz.prog 18 #[.slice (some ⟨g, 0, none⟩) n c, .int .i64 k] w (Laid w base g n c k) := by
  have HN := Lib.hid hn
  have R0 := Lib.hid (show w.ownsRow base 44 2 (.slice (some ⟨g, 0, none⟩) n c) n (marked k 0 xs) by rw [marked_zero]; exact hr)
  clear hn hr
  go_enter Tryz.func18, Tryz.ntmps18
  go_wp2_with fail
  go_loopw [1, 5] (fun q i wr => ∃ j : Nat, j ≤ n ∧ i = .int .i64 j ∧ q = .int .i64 ((k : Int) + ((j * 2 : Nat) : Int)) ∧ Hid (wr.ownsRow base 44 2 (.slice (some ⟨g, 0, none⟩) n c) n (marked k (j * 2) xs)) ∧ Hid (w.grownBy wr (some g))) (fun _ i _ => n - (intOf i).toNat)
  case atStart => exact ⟨0, Nat.zero_le _, rfl, by simp, R0, Lib.hid (grown_refl _ _)⟩
  case round =>
    obtain ⟨j, hj, rfl, rfl, RK, GK⟩ := hrel
    obtain ⟨q, hq⟩ : ∃ q : Nat, q = k + j * 2 := ⟨_, rfl⟩
    rw [show (k : Int) + ((j * 2 : Nat) : Int) = (q : Int) by omega]
    by_cases hlt : j < n
    · have HL := HN.out
      have R1 := RK.out
      obtain ⟨v0, z0⟩ : ∃ v, xs[j * 2]? = some v := ⟨_, List.getElem?_eq_getElem (by omega)⟩
      obtain ⟨v1, z1⟩ : ∃ v, xs[j * 2 + 1]? = some v := ⟨_, List.getElem?_eq_getElem (by omega)⟩
      obtain ⟨r1, g1⟩ := R1.stored (j * 2) (.int .i64 ((k : Int) + ((j * 2 : Nat) : Int)))
      rw [marked_set (by omega)] at r1
      obtain ⟨r2, g2⟩ := r1.stored (j * 2 + 1) (.int .i64 ((k : Int) + ((j * 2 + 1 : Nat) : Int)))
      rw [marked_set (by omega)] at r2
      have c1 := (R1.cellAt (j * 2) (by omega)).trans (marked_get z0)
      have c2 := (r1.cellAt (j * 2 + 1) (by omega)).trans (marked_get z1)
      have f1 := R1.frozenAt (j * 2)
      have f2 := r1.frozenAt (j * 2 + 1)
      have RR := Lib.hid r2
      have GG := Lib.hid (grown_trans (grown_trans GK.out g1) g2)
      rw [show (k : Int) + ((j * 2 : Nat) : Int) = (q : Int) by omega] at *
      rw [show (k : Int) + ((j * 2 + 1 : Nat) : Int) = (q : Int) + 1 by omega] at *
      have HQ := Lib.hid hq
      have hq8 : q ≤ 33554432 := by omega
      clear R0 R1 r1 r2 g1 g2 z0 z1 HL RK GK hq
      go_wp2_with fail
      go_roundw
      case rel => exact ⟨j + 1, by omega, by go_num, by (have := HQ.out; congr 1; omega), by rw [show (j + 1) * 2 = j * 2 + 1 + 1 by omega]; exact RR, GG⟩
      case measure => simp [intOf]; omega
    · obtain rfl : j = n := by omega
      have F := Lib.hid (show wr.ownsRow base 44 2 (.slice (some ⟨g, 0, none⟩) j c) j (mk k (j * 2)) by
        have := RK.out
        rw [marked_all (by rw [HN.out]; exact Nat.le_refl _)] at this; exact this)
      have HQ := Lib.hid hq
      clear hq R0
      go_wp2_with fail
      go_ret
      exact ⟨by rw [HQ.out]; congr 1, F.out, GK.out⟩


end Go.Proofs.YtokncfhpmjohdaaGreat.Mp11
