/- How many ticks the program counts, and where its drop is then. -/
import Derived.Test.YtejeikfgmiadhabFl
set_option linter.unusedVariables false
set_option linter.unusedSimpArgs false
namespace Go.Proofs.Ytejeikfgmiadhab.Dp
open Go.RowKit Go.Proofs.Ytejeikfgmiadhab.Cx Go.Proofs.Ytejeikfgmiadhab.Cm Go.Proofs.Ytejeikfgmiadhab.Pl Go.Proofs.Ytejeikfgmiadhab.Str Go.Proofs.Ytejeikfgmiadhab.Pw Go.Proofs.Ytejeikfgmiadhab.P2 Go.Proofs.Ytejeikfgmiadhab.Hd Go.Proofs.Ytejeikfgmiadhab.Sf Go.Proofs.Ytejeikfgmiadhab.Jt
set_option linter.unusedVariables false
set_option linter.unusedSimpArgs false

theorem ret_i {a b : Int} (h : a = b) : Ending.returned (.int .i64 a) = .returned (.int .i64 b) := by rw [h]

/-- What counting leaves: N ticks were counted, and the drop is where it is then. -/
def Counted (w : World) (b : Nat) (X Y P Q l : Int) (N : Nat) (e : Ending) (w' : World) : Prop :=
  e = .returned (.int .i64 N) ∧ At w' b X Y P Q l N ∧ w.grownBy w' (some b)
/-- What a repetition leaves. -/
def Gone (w : World) (b : Nat) (X Y P Q l : Int) (N : Nat) (e : Ending) (w' : World) : Prop :=
  e = .returned (.tuple #[]) ∧ At w' b X Y P Q l N ∧ w.grownBy w' (some b)

set_option maxHeartbeats 1000000 in
theorem until_isDown {w : World} {b : Nat} {X Y P Q l : Int} {N : Nat} (o : Ok X Y P Q l) (hN : (N : Int) = l + 1) (h : At w b X Y P Q l 0) :
    Calls Try.prog 71 #[.func (.func 72) #[.pointer (some ⟨b, 0, none⟩)] #[], .func (.func 73) #[.pointer (some ⟨b, 0, none⟩)] #[]] w (Counted w b X Y P Q l N) := by
  have hl := o.l
  have O := Lib.hid o
  have H0 := Lib.hid h
  clear o h
  go_enter Try.func71, Try.ntmps71
  go_wp2_with fail
  refine (At.tick O.out H0.out (by omega)).mono ?_
  rintro e w1 ⟨rfl, h1, g1⟩
  have H1 := Lib.hid h1
  have G1 := Lib.hid g1
  clear h1 g1
  go_wp2_with fail
  go_loopw [5] (fun n wr => ∃ k : Nat, 1 ≤ k ∧ k ≤ N ∧ n = .int .i64 k ∧ Hid (At wr b X Y P Q l k) ∧ Hid (w.grownBy wr (some b))) (fun n _ => N - (intOf n).toNat)
  case atStart => exact ⟨1, by omega, by omega, rfl, H1, G1⟩
  case round =>
    obtain ⟨k, k1, k2, rfl, HK, GK⟩ := hrel
    have b3 := hg_le (k := k) (by omega) hl.2
    have b4 := hg_nonneg (l := l) (k := k) (by omega)
    by_cases hlt : k < N
    · have C := Lib.hid (isDown (c := false) HK.out (by omega) (decide_eq_false (by have := hg_pos (l := l) k1 (by omega); omega)))
      clear b3 b4
      go_wp2_with fail
      refine C.out.mono ?_
      rintro e w' ⟨rfl, rfl⟩
      go_wp2_with fail
      refine (At.tick O.out HK.out (by omega)).mono ?_
      rintro e w2 ⟨rfl, h2, g2⟩
      have H2 := Lib.hid h2
      have G2 := Lib.hid (grown_trans GK.out g2)
      clear h2 g2
      go_wp2_with fail
      go_roundw
      case rel => exact ⟨k + 1, by omega, by omega, by go_num, H2, G2⟩
      case measure => simp [intOf]; omega
    · have hk : k = N := by omega
      have C := Lib.hid (isDown (c := true) HK.out (by omega) (decide_eq_true (by rw [hg_end (by omega)]; decide)))
      clear b3 b4
      have HK2 := Lib.hid (hk ▸ HK.out)
      have RI := Lib.hid (show Ending.returned (.int .i64 (k : Int)) = .returned (.int .i64 (N : Int)) by rw [hk])
      clear hk
      go_wp2_with fail
      refine C.out.mono ?_
      rintro e w' ⟨rfl, rfl⟩
      go_wp2_with fail
      go_returns
      exact ⟨RI.out, HK2.out, GK.out⟩

set_option maxHeartbeats 1000000 in
theorem repeatTick {w : World} {b : Nat} {X Y P Q l : Int} {N : Nat} (o : Ok X Y P Q l) (hN : (N : Int) ≤ l + 1) (h : At w b X Y P Q l 0) :
    Calls Try.prog 80 #[.func (.func 72) #[.pointer (some ⟨b, 0, none⟩)] #[], .int .i64 N] w (Gone w b X Y P Q l N) := by
  have hl := o.l
  have O := Lib.hid o
  have H0 := Lib.hid h
  clear o h
  go_enter Try.func80, Try.ntmps80
  go_wp2_with fail
  go_loopw [5] (fun n wr => ∃ k : Nat, k ≤ N ∧ n = .int .i64 k ∧ Hid (At wr b X Y P Q l k) ∧ Hid (w.grownBy wr (some b))) (fun n _ => N - (intOf n).toNat)
  case atStart => exact ⟨0, by omega, rfl, H0, Lib.hid (grown_refl _ _)⟩
  case round =>
    obtain ⟨k, k2, rfl, HK, GK⟩ := hrel
    by_cases hlt : k < N
    · go_wp2_with fail
      refine (At.tick O.out HK.out (by omega)).mono ?_
      rintro e w2 ⟨rfl, h2, g2⟩
      have H2 := Lib.hid h2
      have G2 := Lib.hid (grown_trans GK.out g2)
      clear h2 g2
      go_wp2_with fail
      go_roundw
      case rel => exact ⟨k + 1, by omega, by go_num, H2, G2⟩
      case measure => simp [intOf]; omega
    · have hk : k = N := by omega
      have HK2 := Lib.hid (hk ▸ HK.out)
      clear hk
      go_wp2_with fail
      go_returns
      exact ⟨rfl, HK2.out, GK.out⟩

end Go.Proofs.Ytejeikfgmiadhab.Dp
