/- The two versions of the product of a measure and a number, the program's and the model's, answer the same at all integers. -/
import Derived.Test.YtgcheplneolonacMeas
import Derived.Lib.Hide
namespace Go.Proofs.Ytgcheplneolonac.Times
open Go.RowKit Go.Proofs.Ytgcheplneolonac.Flt Go.Proofs.Ytgcheplneolonac.Meas

def good (x n : Int) : Bool := decide (-4096 ≤ x ∧ x ≤ 4096 ∧ (x = 0 ∨ -4096 ≤ n ∧ n ≤ 4096 ∧ -4096 ≤ x * n ∧ x * n ≤ 4096))
def val (x n : Int) : Int := if good x n = true then x * n else 0

theorem mk_no {x n : Int} (h : ¬ (-4096 ≤ x ∧ x ≤ 4096 ∧ (x = 0 ∨ -4096 ≤ n ∧ n ≤ 4096 ∧ -4096 ≤ x * n ∧ x * n ≤ 4096))) : good x n = false ∧ val x n = 0 := by
  have : good x n = false := decide_eq_false h
  exact ⟨this, by unfold val; rw [this]; rfl⟩
theorem mk_yes {x n : Int} (h : -4096 ≤ x ∧ x ≤ 4096 ∧ (x = 0 ∨ -4096 ≤ n ∧ n ≤ 4096 ∧ -4096 ≤ x * n ∧ x * n ≤ 4096)) : good x n = true ∧ val x n = x * n := by
  have : good x n = true := decide_eq_true h
  exact ⟨this, by unfold val; rw [this]; rfl⟩

/-- What a way of the walk ends in. -/
theorem fin {x n v : Int} {b : Bool} (h : good x n = b ∧ val x n = v) : Ending.returned (.tuple #[.int .i64 v, .bool b]) = .returned (.tuple #[.int .i64 (val x n), .bool (good x n)]) := by rw [h.1, h.2]

theorem prod_bound {x n : Int} (hx1 : -4096 ≤ x) (hx2 : x ≤ 4096) (hn1 : -4096 ≤ n) (hn2 : n ≤ 4096) : -16777216 ≤ x * n ∧ x * n ≤ 16777216 := by
  have h : (x * n).natAbs ≤ 4096 * 4096 := by rw [Int.natAbs_mul]; exact Nat.mul_le_mul (by omega) (by omega)
  omega

theorem isMeasure_impl (x : Int) (w : World) (h1 : -4096 ≤ x) (h2 : x ≤ 4096) : Calls Try.prog 67 #[.int .i64 x] w fun e w' => e = .returned (.bool true) ∧ w = w' := by
  go_enter Try.func67, Try.ntmps67
  go_wp2
  go_ret
  exact ⟨rfl, rfl⟩
theorem isMeasure_impl_no (x : Int) (w : World) (h : x < -4096 ∨ 4096 < x) : Calls Try.prog 67 #[.int .i64 x] w fun e w' => e = .returned (.bool false) ∧ w = w' := by
  rcases h with h | h
  · go_enter Try.func67, Try.ntmps67
    go_wp2
    go_ret
    exact ⟨rfl, rfl⟩
  · have hd : decide (x ≤ 4096) = false := decide_eq_false (by omega)
    go_enter Try.func67, Try.ntmps67
    go_wp2
    go_ret
    exact ⟨rfl, rfl⟩
theorem mulN (x n : Int) (hx : x.natAbs < 16777216) (hn : n.natAbs < 16777216) (h : x * n ≠ 0 ∨ (0 ≤ x ∧ 0 ≤ n)) (w : World) :
    (binOp .mul 94 (.float .f32 (f32 x)) (.float .f32 (floatOfInt .f32 n))).run Try.prog w = .ok (.float .f32 (f32 (x * n))) w :=
  run_float_arith w .mul _ .f32 _ _ _ (mul_fl Ieee.single x n (-3) 0 (fits32 x hx) (fits0 n hn) h)

/-- A measure below 0, no times: the zero with a sign. -/
theorem mul_neg0 (x : Int) (hx : x.natAbs < 16777216) (hn : x < 0) (w : World) :
    (binOp .mul 94 (.float .f32 (f32 x)) (.float .f32 (floatOfInt .f32 0))).run Try.prog w = .ok (.float .f32 2147483648) w :=
  run_float_arith w .mul _ .f32 _ _ _ (by
    obtain ⟨k, hk⟩ := fl_read Ieee.single x (-3) (fits32 x hx)
    obtain ⟨l, hl⟩ := fl_read Ieee.single 0 0 (fits0 0 (by decide))
    show Ieee.single.mul (fl Ieee.single x (-3)) (fl Ieee.single 0 0) = _
    unfold Ieee.Format.mul
    rw [hk, hl]
    simp only [Ieee.Datum.product, Option.map_some, Ieee.Format.write]
    have : decide (x < 0) = true := decide_eq_true hn
    rw [this]
    simp [Ieee.Format.nearest]
    decide)

theorem eM : f32 16777216 = 1241513984 := by decide
theorem emM : f32 (-16777216) = 3388997632 := by decide
end Go.Proofs.Ytgcheplneolonac.Times
