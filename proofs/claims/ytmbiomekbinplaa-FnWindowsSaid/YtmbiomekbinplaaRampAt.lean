/- The program's ramp and the model's answer the same level at all integers. -/
import Derived.Test.YtmbiomekbinplaaRamp
namespace Go.Proofs.Ytmbiomekbinplaa.RampAt
open Go.RowKit Go.Proofs.Ytmbiomekbinplaa.Flt Go.Proofs.Ytmbiomekbinplaa.Meas Go.Proofs.Ytmbiomekbinplaa.Times Go.Proofs.Ytmbiomekbinplaa.Ramp

def isM (x : Int) : Bool := decide (-4096 ≤ x ∧ x ≤ 4096)
def level (a b i n : Int) : Int := if isM a = true ∧ isM b = true then if n ≤ i then b else if i ≤ 0 ∨ 999 < n then a else a + (b - a) * i / n else 0

theorem ret_int {a b : Int} (h : a = b) : Ending.returned (.int .i64 a) = .returned (.int .i64 b) := by rw [h]

theorem level_no {a b : Int} (i n : Int) (h : (a < -4096 ∨ 4096 < a) ∨ (b < -4096 ∨ 4096 < b)) : 0 = level a b i n := by
  unfold level isM
  rw [if_neg]
  simp only [decide_eq_true_eq]
  omega
theorem level_yes {a b : Int} (i n : Int) (ha1 : -4096 ≤ a) (ha2 : a ≤ 4096) (hb1 : -4096 ≤ b) (hb2 : b ≤ 4096) : level a b i n = if n ≤ i then b else if i ≤ 0 ∨ 999 < n then a else a + (b - a) * i / n := by
  unfold level isM
  rw [if_pos]
  simp only [decide_eq_true_eq]
  omega

theorem subM (b a : Int) (ha : a.natAbs < 16777216) (hb : b.natAbs < 16777216) (w : World) :
    (binOp .sub 58 (.float .f32 (f32 b)) (.float .f32 (f32 a))).run Try.prog w = .ok (.float .f32 (f32 (b - a))) w :=
  run_float_arith w .sub _ .f32 _ _ _ (sub_fl Ieee.single b a (-3) (fits32 b hb) (fits32 a ha))

theorem tdiv_floor (A n : Int) (hn : 0 < n) : (A.tmod n < 0 → A.tdiv n - 1 = A / n) ∧ (¬ A.tmod n < 0 → A.tdiv n = A / n) := by
  have h1 := @Int.tdiv_eq_ediv A n
  have h2 := @Int.tmod_eq_emod A n
  have h3 := Int.emod_nonneg A (Int.ne_of_gt hn)
  have h4 := Int.emod_lt_of_pos A hn
  have hs : n.sign = 1 := Int.sign_eq_one_of_pos hn
  rw [hs] at h1
  by_cases c : 0 ≤ A ∨ n ∣ A
  · rw [if_pos c] at h1 h2
    exact ⟨fun h => by omega, fun _ => by omega⟩
  · rw [if_neg c] at h1 h2
    exact ⟨fun h => by omega, fun h => by omega⟩

end Go.Proofs.Ytmbiomekbinplaa.RampAt
