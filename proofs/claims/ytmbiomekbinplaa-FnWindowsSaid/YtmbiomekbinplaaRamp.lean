/- The level of a ramp, by floats and rounded down, is the floor of the exact quotient. -/
import Derived.Test.YtmbiomekbinplaaTimes
import Derived.Laws.Externs
namespace Go.Proofs.Ytmbiomekbinplaa.Ramp
open Go.RowKit Go.Proofs.Ytmbiomekbinplaa.Flt Go.Proofs.Ytmbiomekbinplaa.Meas Go.Proofs.Ytmbiomekbinplaa.Times

theorem widen (K p : Int) (hK : K.natAbs < 16777216) (hp : -149 ≤ p) (hq : p ≤ 100) : floatToFloatBits .f32 (fl Ieee.single K p) .f64 = some (fl Ieee.double K p) := by
  have h1 := fits_single K p hK hp hq
  have h2 := fits_double K p (by omega) (by omega) (by omega)
  have e : FloatKind.f64.encode (FloatKind.f32.decode (fl Ieee.single K p)) = fl Ieee.double K p := rewrite_fl Ieee.single Ieee.double K p h1
  obtain ⟨s, m, x, hr⟩ := read_number Ieee.single K p h1
  obtain ⟨s2, m2, x2, hr2⟩ := read_number Ieee.double K p h2
  have hr' : FloatKind.f32.decode (fl Ieee.single K p) = .number s m x := hr
  have hr2' : FloatKind.f64.decode (fl Ieee.double K p) = .number s2 m2 x2 := hr2
  unfold floatToFloatBits
  rw [if_neg (by decide), hr']
  rw [hr'] at e
  simp only [e, hr2', Ieee.Datum.isInfinity]
  rfl

/-- What the model's entry gives at a number. -/
theorem integral_run (name : String) (way : Ieee.Toward) (x : Nat) (s : Bool) (m : Nat) (p : Int) (h : FloatKind.f64.decode x = .number s m p) (w : World) :
    (Extern.MathFloor.toIntegral name way #[.float .f64 x]).run Try.prog w = .ok (.float .f64 (FloatKind.f64.encode ((Ieee.Datum.number s m p).integral way))) w := by
  conv in (Extern.MathFloor.toIntegral _ _ _) => whnf
  rw [h]
  rfl

theorem prod_abs (r i n : Int) (hr1 : -8192 ≤ r) (hr2 : r ≤ 8192) (hi : 1 ≤ i) (hin : i < n) (hn : n ≤ 999) : (r * i).natAbs < 8388608 ∧ (r * i).natAbs < 8192 * n.toNat := by
  have h : (r * i).natAbs ≤ 8192 * i.natAbs := by rw [Int.natAbs_mul]; exact Nat.mul_le_mul_right _ (by omega)
  omega

/-- The floor keeps within the quotient's bounds. -/
theorem quo_abs (A : Int) (n : Nat) (hn : 0 < n) (h : A.natAbs < 8192 * n) : -8192 ≤ A / n ∧ A / n < 8192 := by
  have h1 : -8192 * (n : Int) ≤ A := by omega
  have h2 : A < 8192 * (n : Int) := by omega
  have hn' : (0 : Int) < n := by omega
  exact ⟨(Int.le_ediv_iff_mul_le hn').2 h1, (Int.ediv_lt_iff_lt_mul hn').2 h2⟩

end Go.Proofs.Ytmbiomekbinplaa.Ramp
