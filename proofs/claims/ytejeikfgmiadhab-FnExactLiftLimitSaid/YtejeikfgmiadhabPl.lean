/- What the small functions on places answer, of the program and of the model: measures, quarters, turns. -/
import Derived.Test.YtejeikfgmiadhabCm
import Derived.Below
import Derived.Handy
import Derived.Lib.Hide
set_option linter.unusedVariables false
set_option linter.unusedSimpArgs false
namespace Go.Proofs.Ytejeikfgmiadhab.Pl
open Go.RowKit Go.Proofs.Ytejeikfgmiadhab.Cm
set_option linter.unusedVariables false

theorem and3 (n : Int) : bits .and .i64 n 3 = n % 4 := by
  unfold bits
  have hb : IntKind.i64.bits = 64 := rfl
  simp only [IntKind.wrap, BitVec.toNat_and, BitVec.toNat_ofInt]
  have h1 : ((n % ((2 ^ IntKind.i64.bits : Nat) : Int)).toNat &&& ((3 : Int) % ((2 ^ IntKind.i64.bits : Nat) : Int)).toNat) = (n % 4).toNat := by
    rw [hb]
    have e : ((3 : Int) % ((2 ^ 64 : Nat) : Int)).toNat = 2 ^ 2 - 1 := by decide
    rw [e, Nat.and_two_pow_sub_one_eq_mod]
    omega
  rw [h1, hb]
  have hy : ((n % 4).toNat : Int) = n % 4 := by omega
  rw [hy]
  have h2 : (n % 4) % 2 ^ 64 = n % 4 := by omega
  rw [h2]
  split
  · rename_i h
    have h3 := (Bool.and_eq_true_iff.1 h).2
    have := of_decide_eq_true h3
    omega
  · rfl

theorem tmod4 (n : Int) : n.tmod 4 = if n % 4 ≠ 0 ∧ n < 0 then n % 4 - 4 else n % 4 := by
  rcases Int.lt_or_le n 0 with h | h
  · have : n.tmod 4 = -((-n).tmod 4) := by rw [Int.neg_tmod, Int.neg_neg]
    rw [this, Int.tmod_eq_emod_of_nonneg (by omega)]
    split <;> omega
  · rw [Int.tmod_eq_emod_of_nonneg h, if_neg (by omega)]

theorem l2Mod (n : Int) (w : World) : Calls Try.prog 78 #[.int .i64 n] w fun e w' => e = .returned (.int .i64 (n % 4)) ∧ w = w' := by
  go_enter Try.func78, Try.ntmps78
  go_wp2
  all_goals go_returns
  · rename_i h
    have t := tmod4 n
    refine ⟨?_, rfl⟩
    show Ending.returned (.int .i64 (wrap64 (n.tmod 4 + 4))) = _
    rw [IntWalk.wrap64_in _ (by split at t <;> omega)]
    congr 2
    split at t <;> omega
  · rename_i h
    have t := tmod4 n
    refine ⟨?_, rfl⟩
    show Ending.returned (.int .i64 (n.tmod 4)) = _
    congr 2
    split at t <;> omega

theorem isMeasureI (x : Int) (w : World) : Calls Try.prog 53 #[.int .i64 x] w fun e w' => e = .returned (.bool (ms x)) ∧ w = w' := by
  go_enter Try.func53, Try.ntmps53
  go_wp2
  all_goals go_returns
  · rename_i h
    refine ⟨?_, rfl⟩
    show Ending.returned (.bool (decide (x ≤ 4096))) = _
    unfold ms; rw [decide_eq_true h]; rfl
  · rename_i h
    refine ⟨?_, rfl⟩
    show Ending.returned (.bool false) = _
    rw [ms_no (by omega)]
theorem isMeasureS (x : Int) (w : World) : Calls Try.prog 44 #[.int .i64 x] w fun e w' => e = .returned (.bool (ms x)) ∧ w = w' := by
  go_enter Try.func44, Try.ntmps44
  go_wp2
  all_goals go_returns
  · rename_i h
    refine ⟨?_, rfl⟩
    show Ending.returned (.bool (decide (x ≤ 4096))) = _
    unfold ms; rw [decide_eq_true h]; rfl
  · rename_i h
    refine ⟨?_, rfl⟩
    show Ending.returned (.bool false) = _
    rw [ms_no (by omega)]

/-- X behind k quarter turns, and Y. -/
def tx : Nat → Int → Int → Int
  | 0, x, _ => x
  | 1, _, y => -y
  | 2, x, _ => -x
  | _, _, y => y
def ty : Nat → Int → Int → Int
  | 0, _, y => y
  | 1, x, _ => x
  | 2, _, y => -y
  | _, x, _ => -x

theorem mod4_cases (n : Int) : n % 4 = 0 ∨ n % 4 = 1 ∨ n % 4 = 2 ∨ n % 4 = 3 := by omega

end Go.Proofs.Ytejeikfgmiadhab.Pl
