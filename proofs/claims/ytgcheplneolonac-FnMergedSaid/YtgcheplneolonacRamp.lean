/- The level of a ramp, by floats and rounded down, is the floor of the exact quotient. -/
import Derived.Test.YtgcheplneolonacTimes
import Derived.Laws.Externs
namespace Go.Proofs.Ytgcheplneolonac.Ramp
open Go.RowKit Go.Proofs.Ytgcheplneolonac.Flt Go.Proofs.Ytgcheplneolonac.Meas Go.Proofs.Ytgcheplneolonac.Times

theorem widen (K p : Int) (hK : K.natAbs < 16777216) (hp : -149 ≤ p) (hq : p ≤ 100) : floatToFloatBits .f32 (fl Ieee.single K p) .f64 = some (fl Ieee.double K p) := by
  have h1 := fits_single K p hK hp hq
  have h2 := fits_double K p (by omega) (by omega) (by omega)
  have e : FloatKind.f64.encode (FloatKind.f32.decode (fl Ieee.single K p)) = fl Ieee.double K p := rewrite_fl Ieee.single Ieee.double K p h1
  obtain ⟨s, m, x, hr⟩ := read_number Ieee.single K p h1
  obtain ⟨s2, m2, x2, hr2⟩ := read_number Ieee.double K p h2
  have hr' : FloatKind.f32.decode (fl Ieee.single K p) = .number s m x := hr
  have hr2' : FloatKind.f64.decode (fl Ieee.double K p) = .number s2 m2 x2 := hr2
  unfold floatToFloatBits
  rw [if_neg (by decide), hr']
  rw [hr'] at e
  simp only [e, hr2', Ieee.Datum.isInfinity]
  rfl

/-- What the model's entry gives at a number. -/
theorem integral_run (name : String) (way : Ieee.Toward) (x : Nat) (s : Bool) (m : Nat) (p : Int) (h : FloatKind.f64.decode x = .number s m p) (w : World) :
    (Extern.MathFloor.toIntegral name way #[.float .f64 x]).run Try.prog w = .ok (.float .f64 (FloatKind.f64.encode ((Ieee.Datum.number s m p).integral way))) w := by
  conv in (Extern.MathFloor.toIntegral _ _ _) => whnf
  rw [h]
  rfl

theorem archFloor (K : Int) (T : Nat) (hK : K.natAbs < 16777216) (hT : T ≤ 100) (w : World) :
    (callFunc 80 #[.float .f64 (fl Ieee.double K (-(T : Int)))]).run Try.prog w = .ok (.value (.float .f64 (fl Ieee.double (K / 2 ^ T) 0))) w := by
  have h2 := fits_double K (-(T : Int)) (by omega) (by omega) (by omega)
  rw [run_callFunc_extern (e := Extern.MathFloor.toIntegral "math.archFloor" .down) Try.func80 (by kernel_rfl) (by kernel_rfl) (by kernel_rfl) (by kernel_rfl)]
  obtain ⟨s2, m2, x2, hr2⟩ := read_number Ieee.double K _ h2
  have hr2' : FloatKind.f64.decode (fl Ieee.double K (-(T : Int))) = .number s2 m2 x2 := hr2
  have e : FloatKind.f64.encode ((FloatKind.f64.decode (fl Ieee.double K (-(T : Int)))).integral .down) = fl Ieee.double (K / 2 ^ T) 0 := floor_fl Ieee.double K T h2
  rw [hr2'] at e
  rw [integral_run _ _ _ _ _ _ hr2']
  rw [e]
  rfl

theorem narrow (n : Int) (h : n.natAbs < 16777216) (w : World) : (convert 102 3 (.float .f64 (fl Ieee.double n 0))).run Try.prog w = .ok (.int .i64 n) w :=
  run_convert_float_int w _ _ .f64 .i64 _ n (by kernel_rfl) (by kernel_rfl) (by
    unfold floatToIntVal
    rw [show (FloatKind.f64.decode (fl Ieee.double n 0)).toInt .zero = some n from toInt_fl Ieee.double n (fits_double n 0 (by omega) (by decide) (by decide))]
    simp only
    rw [if_pos]
    have h1 : IntKind.i64.min = -9223372036854775808 := rfl
    have h2 : IntKind.i64.max = 9223372036854775807 := rfl
    rw [h1, h2]; omega)

theorem prod_abs (r i n : Int) (hr1 : -8192 ≤ r) (hr2 : r ≤ 8192) (hi : 1 ≤ i) (hin : i < n) (hn : n ≤ 999) : (r * i).natAbs < 8388608 ∧ (r * i).natAbs < 8192 * n.toNat := by
  have h : (r * i).natAbs ≤ 8192 * i.natAbs := by rw [Int.natAbs_mul]; exact Nat.mul_le_mul_right _ (by omega)
  omega

/-- The floor keeps within the quotient's bounds. -/
theorem quo_abs (A : Int) (n : Nat) (hn : 0 < n) (h : A.natAbs < 8192 * n) : -8192 ≤ A / n ∧ A / n < 8192 := by
  have h1 : -8192 * (n : Int) ≤ A := by omega
  have h2 : A < 8192 * (n : Int) := by omega
  have hn' : (0 : Int) < n := by omega
  exact ⟨(Int.le_ediv_iff_mul_le hn').2 h1, (Int.ediv_lt_iff_lt_mul hn').2 h2⟩

theorem rampRise (r i n : Int) (hr1 : -8192 ≤ r) (hr2 : r ≤ 8192) (hi : 1 ≤ i) (hin : i < n) (hn : n ≤ 999) (w : World) :
    Calls Try.prog 68 #[.float .f32 (f32 r), .float .f32 (floatOfInt .f32 i), .float .f32 (floatOfInt .f32 n)] w fun e w' => e = .returned (.int .i64 (r * i / n)) ∧ w = w' := by
  obtain ⟨N, rfl⟩ : ∃ N : Nat, n = N := ⟨n.toNat, by omega⟩
  obtain ⟨b1, b2⟩ := prod_abs r i N hr1 hr2 hi hin hn
  rw [Int.toNat_natCast] at b2
  have m1 := mulN r i (by omega) (by omega) (by
    by_cases c : r = 0
    · right; omega
    · left; exact Int.mul_ne_zero c (by omega))
  obtain ⟨q1, q2⟩ := quo_abs (r * i) N (by omega) b2
  generalize r * i = A at *
  obtain ⟨K, T, hdiv, hK, hT, hfl⟩ := div_fl A N (by omega) (by omega) b1 b2
  have d1 : ∀ w, (binOp .quo 94 (.float .f32 (f32 A)) (.float .f32 (floatOfInt .f32 (N : Int)))).run Try.prog w = .ok (.float .f32 (fl Ieee.single K (-3 - (T : Int)))) w := fun w => run_float_arith w .quo _ .f32 _ _ _ hdiv
  have m2 : ∀ w, (binOp .mul 94 (.float .f32 (fl Ieee.single K (-3 - (T : Int)))) (.float .f32 1090519040)).run Try.prog w = .ok (.float .f32 (fl Ieee.single K (-(T : Int)))) w := fun w => run_float_arith w .mul _ .f32 _ _ _ (by
    have := mul8_fl K (-3 - (T : Int)) (fits_single _ _ hK (by omega) (by omega))
    rw [c8, show -3 - (T : Int) + 3 = -(T : Int) by omega] at this
    exact this)
  have cw : ∀ w, (convert 94 102 (.float .f32 (fl Ieee.single K (-(T : Int))))).run Try.prog w = .ok (.float .f64 (fl Ieee.double K (-(T : Int)))) w := fun w => run_convert_float_float w _ _ .f32 .f64 _ _ (by kernel_rfl) (by kernel_rfl) (widen K _ hK (by omega) (by omega))
  have fr := archFloor K T hK hT
  rw [hfl] at fr
  have cn := narrow (A / N) (by omega)
  clear hdiv hfl b1 b2 q1 q2 hr1 hr2 hi hin hn hK hT
  go_enter Try.func68, Try.ntmps68
  go_wp2
  go_ret
  exact ⟨rfl, rfl⟩

end Go.Proofs.Ytgcheplneolonac.Ramp
