/- What the program's complex operations answer at words that tell whole eighths: sums, differences, a product with 1i, a product with a unit. -/
import Derived.Test.YtokncfhpmjohdaaGreatM2
import Derived.WalkKit
import Derived.WalkLawsBesides
import Derived.Laws.ComplexArith
import Derived.Below
import Derived.Handy
import Derived.Lib.Hide
import Derived.Test.YtokncfhpmjohdaaGreatM1
import Derived.Deep.RegionHeld3
import Derived.Lib.SmallJoins
set_option linter.unusedVariables false
set_option linter.unusedSimpArgs false
namespace Go.Proofs.YtokncfhpmjohdaaGreat.Cm
open Go.RowKit Go.Proofs.YtokncfhpmjohdaaGreat.Flt Go.Proofs.YtokncfhpmjohdaaGreat.Cx

/-- The word tells n eighths. -/
def I32 (n : Int) (w : Nat) : Prop := Is Ieee.single n (-3) w
def I64 (n : Int) (w : Nat) : Prop := Is Ieee.double n (-3) w

theorem i32_f32 (n : Int) : I32 n (Meas.f32 n) := is_fl _ _ _

theorem s32 (n : Int) (h : n.natAbs < 16777216) : Fits Ieee.single n (-3) := fits_single _ _ h (by decide) (by decide)
theorem s64 (n : Int) (h : n.natAbs < 16777216) : Fits Ieee.double n (-3) := fits_double _ _ (by omega) (by decide) (by decide)

variable {P : Program}

theorem run_float_float {k l : FloatKind} (hkl : k ≠ l) (x : Nat) (w : World) (s : Bool) (m : Nat) (e : Int) (s' : Bool) (m' : Nat) (e' : Int) (h : k.format.read x = .number s m e) (h' : l.format.read (l.format.write (k.format.read x)) = .number s' m' e') :
    (Op.Complex.conv k x l).run P w = .ok (l.format.write (k.format.read x)) w := by
  have h2 : l.decode (l.encode (.number s m e)) = .number s' m' e' := by rw [← h]; exact h'
  unfold Op.Complex.conv
  rw [if_neg hkl]
  simp only [Conv.floatToFloat, if_neg hkl, show k.decode x = .number s m e from h]
  rw [h2, h]
  rfl

theorem conv_up {n : Int} {x : Nat} (hn : n.natAbs < 16777216) (h : I32 n x) : ∃ y, (∀ w, (Op.Complex.conv .f32 x .f64).run P w = .ok y w) ∧ I64 n y := by
  have hy : I64 n (Ieee.double.write (Ieee.single.read x)) := conv_is (s32 n hn) h
  obtain ⟨s, m, e, h1⟩ := number_is (s32 n hn) h
  obtain ⟨s', m', e', h2⟩ := number_is (s64 n hn) hy
  exact ⟨_, fun w => run_float_float (by decide) x w s m e s' m' e' h1 h2, hy⟩

theorem conv_down {n : Int} {x : Nat} (hn : n.natAbs < 16777216) (h : I64 n x) : ∃ y, (∀ w, (Op.Complex.conv .f64 x .f32).run P w = .ok y w) ∧ I32 n y := by
  have hy : I32 n (Ieee.single.write (Ieee.double.read x)) := conv_is (s64 n hn) h
  obtain ⟨s, m, e, h1⟩ := number_is (s64 n hn) h
  obtain ⟨s', m', e', h2⟩ := number_is (s32 n hn) hy
  exact ⟨_, fun w => run_float_float (by decide) x w s m e s' m' e' h1 h2, hy⟩

/-- The word tells the whole number n. -/
def W64 (n : Int) (w : Nat) : Prop := Is Ieee.double n 0 w

theorem mul64 {a b : Int} {x y : Nat} (ha : a.natAbs < 16777216) (hb : b.natAbs < 2) (hx : I64 a x) (hy : W64 b y) : ∃ r, (∀ w, (Op.Complex.mul x y).run P w = .ok r w) ∧ I64 (a * b) r := by
  obtain ⟨r, h1, h2⟩ := mul_is (s64 a ha) (fits_double b 0 (by omega) (by decide) (by decide)) hx hy
  exact ⟨r, fun w => run_carith w h1, h2⟩
theorem add64 {a b : Int} {x y : Nat} (ha : a.natAbs < 16777216) (hb : b.natAbs < 16777216) (hx : I64 a x) (hy : I64 b y) : ∃ r, (∀ w, (Op.Complex.add x y).run P w = .ok r w) ∧ I64 (a + b) r := by
  obtain ⟨r, h1, h2⟩ := add_is (s64 a ha) (s64 b hb) hx hy
  exact ⟨r, fun w => run_carith w h1, h2⟩
theorem sub64 {a b : Int} {x y : Nat} (ha : a.natAbs < 16777216) (hb : b.natAbs < 16777216) (hx : I64 a x) (hy : I64 b y) : ∃ r, (∀ w, (Op.Complex.sub x y).run P w = .ok r w) ∧ I64 (a - b) r := by
  obtain ⟨r, h1, h2⟩ := sub_is (s64 a ha) (s64 b hb) hx hy
  exact ⟨r, fun w => run_carith w h1, h2⟩

/-- A whole number, -1 to 1, as a single and as a double. -/
def U32 (n : Int) (w : Nat) : Prop := Is Ieee.single n 0 w
theorem unit_up {n : Int} {x : Nat} (hn : n.natAbs < 2) (h : U32 n x) : ∃ y, (∀ w, (Op.Complex.conv .f32 x .f64).run P w = .ok y w) ∧ W64 n y := by
  have f1 : Fits Ieee.single n 0 := fits_single _ _ (by omega) (by decide) (by decide)
  have f2 : Fits Ieee.double n 0 := fits_double _ _ (by omega) (by decide) (by decide)
  have hy : W64 n (Ieee.double.write (Ieee.single.read x)) := conv_is f1 h
  obtain ⟨s, m, e, h1⟩ := number_is f1 h
  obtain ⟨s', m', e', h2⟩ := number_is f2 hy
  exact ⟨_, fun w => run_float_float (by decide) x w s m e s' m' e' h1 h2, hy⟩

theorem abs_mul {a b : Int} (ha : a.natAbs < 8388608) (hb : b.natAbs < 2) : (a * b).natAbs < 8388608 := by
  rw [Int.natAbs_mul]
  have : b.natAbs = 0 ∨ b.natAbs = 1 := by omega
  rcases this with h | h <;> rw [h] <;> omega

/-- A product with a complex number whose parts are -1 to 1. -/
theorem cmul {a b c d : Int} {x y u v : Nat} (ha : a.natAbs < 8388608) (hb : b.natAbs < 8388608) (hc : c.natAbs < 2) (hd : d.natAbs < 2) (hx : I32 a x) (hy : I32 b y) (hu : U32 c u) (hv : U32 d v) :
    ∃ re im, (∀ t w, (binOp .mul t (.complex .f32 x y) (.complex .f32 u v)).run P w = .ok (.complex .f32 re im) w) ∧ I32 (a * c - b * d) re ∧ I32 (a * d + b * c) im := by
  obtain ⟨x', cx, hx'⟩ := conv_up (P := P) (by omega) hx
  obtain ⟨y', cy, hy'⟩ := conv_up (P := P) (by omega) hy
  obtain ⟨u', cu, hu'⟩ := unit_up (P := P) hc hu
  obtain ⟨v', cv, hv'⟩ := unit_up (P := P) hd hv
  have n1 := abs_mul ha hc
  have n2 := abs_mul hb hd
  have n3 := abs_mul ha hd
  have n4 := abs_mul hb hc
  obtain ⟨r1, m1, i1⟩ := mul64 (P := P) (by omega) hc hx' hu'
  obtain ⟨r2, m2, i2⟩ := mul64 (P := P) (by omega) hd hy' hv'
  obtain ⟨r3, m3, i3⟩ := mul64 (P := P) (by omega) hd hx' hv'
  obtain ⟨r4, m4, i4⟩ := mul64 (P := P) (by omega) hc hy' hu'
  obtain ⟨r5, m5, i5⟩ := sub64 (P := P) (by omega) (by omega) i1 i2
  obtain ⟨r6, m6, i6⟩ := add64 (P := P) (by omega) (by omega) i3 i4
  obtain ⟨re, c5, j5⟩ := conv_down (P := P) (by omega) i5
  obtain ⟨im, c6, j6⟩ := conv_down (P := P) (by omega) i6
  refine ⟨re, im, fun t w => ?_, j5, j6⟩
  simp [binOp, Op.complexOp, Op.Complex.product, cx, cy, cu, cv, m1, m2, m3, m4, m5, m6, c5, c6]

theorem mul64u {a b : Int} {x y : Nat} (ha : a.natAbs < 2) (hb : b.natAbs < 16777216) (hx : W64 a x) (hy : I64 b y) : ∃ r, (∀ w, (Op.Complex.mul x y).run P w = .ok r w) ∧ I64 (a * b) r := by
  obtain ⟨r, h1, h2⟩ := mul_is (fits_double a 0 (by omega) (by decide) (by decide)) (s64 b hb) hx hy
  exact ⟨r, fun w => run_carith w h1, by rw [Int.zero_add] at h2; exact h2⟩

/-- A unit times a complex number. -/
theorem cmulU {a b c d : Int} {x y u v : Nat} (ha : a.natAbs < 8388608) (hb : b.natAbs < 8388608) (hc : c.natAbs < 2) (hd : d.natAbs < 2) (hx : I32 a x) (hy : I32 b y) (hu : U32 c u) (hv : U32 d v) :
    ∃ re im, (∀ t w, (binOp .mul t (.complex .f32 u v) (.complex .f32 x y)).run P w = .ok (.complex .f32 re im) w) ∧ I32 (c * a - d * b) re ∧ I32 (c * b + d * a) im := by
  obtain ⟨x', cx, hx'⟩ := conv_up (P := P) (by omega) hx
  obtain ⟨y', cy, hy'⟩ := conv_up (P := P) (by omega) hy
  obtain ⟨u', cu, hu'⟩ := unit_up (P := P) hc hu
  obtain ⟨v', cv, hv'⟩ := unit_up (P := P) hd hv
  have n1 := abs_mul ha hc
  have n2 := abs_mul hb hd
  have n3 := abs_mul ha hd
  have n4 := abs_mul hb hc
  rw [Int.mul_comm] at n1 n2 n3 n4
  obtain ⟨r1, m1, i1⟩ := mul64u (P := P) hc (by omega) hu' hx'
  obtain ⟨r2, m2, i2⟩ := mul64u (P := P) hd (by omega) hv' hy'
  obtain ⟨r3, m3, i3⟩ := mul64u (P := P) hc (by omega) hu' hy'
  obtain ⟨r4, m4, i4⟩ := mul64u (P := P) hd (by omega) hv' hx'
  obtain ⟨r5, m5, i5⟩ := sub64 (P := P) (by omega) (by omega) i1 i2
  obtain ⟨r6, m6, i6⟩ := add64 (P := P) (by omega) (by omega) i3 i4
  obtain ⟨re, c5, j5⟩ := conv_down (P := P) (by omega) i5
  obtain ⟨im, c6, j6⟩ := conv_down (P := P) (by omega) i6
  refine ⟨re, im, fun t w => ?_, j5, j6⟩
  simp [binOp, Op.complexOp, Op.Complex.product, cx, cy, cu, cv, m1, m2, m3, m4, m5, m6, c5, c6]

theorem csum (op : BinOp) (sg : Int) (hop : op = .add ∧ sg = 1 ∨ op = .sub ∧ sg = -1) {a b c d : Int} {x y u v : Nat} (ha : a.natAbs < 8388608) (hb : b.natAbs < 8388608) (hc : c.natAbs < 8388608) (hd : d.natAbs < 8388608) (hx : I32 a x) (hy : I32 b y) (hu : I32 c u) (hv : I32 d v) :
    ∃ re im, (∀ t w, (binOp op t (.complex .f32 x y) (.complex .f32 u v)).run P w = .ok (.complex .f32 re im) w) ∧ I32 (a + sg * c) re ∧ I32 (b + sg * d) im := by
  rcases hop with ⟨rfl, rfl⟩ | ⟨rfl, rfl⟩
  · obtain ⟨re, h1, j1⟩ := add_is (s32 a (by omega)) (s32 c (by omega)) hx hu
    obtain ⟨im, h2, j2⟩ := add_is (s32 b (by omega)) (s32 d (by omega)) hy hv
    refine ⟨re, im, fun t w => run_complex_sum w .add (Or.inl rfl) t .f32 x y u v re im ?_, by rw [Int.one_mul]; exact j1, by rw [Int.one_mul]; exact j2⟩
    show ((Ieee.single.add x u).bind fun re => (Ieee.single.add y v).bind fun im => some (re, im)) = _
    rw [h1, h2]; rfl
  · obtain ⟨re, h1, j1⟩ := sub_is (s32 a (by omega)) (s32 c (by omega)) hx hu
    obtain ⟨im, h2, j2⟩ := sub_is (s32 b (by omega)) (s32 d (by omega)) hy hv
    refine ⟨re, im, fun t w => run_complex_sum w .sub (Or.inr rfl) t .f32 x y u v re im ?_, by rw [show a + -1 * c = a - c by omega]; exact j1, by rw [show b + -1 * d = b - d by omega]; exact j2⟩
    show ((Ieee.single.sub x u).bind fun re => (Ieee.single.sub y v).bind fun im => some (re, im)) = _
    rw [h1, h2]; rfl

theorem u32_0 : U32 0 0 := ⟨false, by decide, by decide⟩
theorem u32_1 : U32 1 1065353216 := ⟨false, by decide, by decide⟩
theorem u32_m1 : U32 (-1) 3212836864 := ⟨true, by decide, by decide⟩

/-- A quarter turn. -/
theorem quarter {a b : Int} {x y : Nat} (ha : a.natAbs < 8388608) (hb : b.natAbs < 8388608) (hx : I32 a x) (hy : I32 b y) :
    ∃ re im, (∀ t w, (binOp .mul t (.complex .f32 x y) (.complex .f32 0 1065353216)).run P w = .ok (.complex .f32 re im) w) ∧ I32 (-b) re ∧ I32 a im := by
  obtain ⟨re, im, h, h1, h2⟩ := cmul (P := P) ha hb (c := 0) (d := 1) (by decide) (by decide) hx hy u32_0 u32_1
  exact ⟨re, im, h, by rw [show -b = a * 0 - b * 1 by omega]; exact h1, by rw [show a = a * 1 + b * 0 by omega]; exact h2⟩

/-- Such a word is the word itself, or the zero with a sign. -/
theorem i32_or {n : Int} {x : Nat} (h : I32 n x) : x = Meas.f32 n ∨ (n = 0 ∧ x = 2147483648) := by
  obtain ⟨s, hs, rfl⟩ := h
  by_cases hn : n = 0
  · subst hn
    cases s
    · exact Or.inl rfl
    · exact Or.inr ⟨rfl, by decide⟩
  · left; rw [hs hn]; rfl

def ms (x : Int) : Bool := decide (-4096 ≤ x) && decide (x ≤ 4096)
theorem ms_yes {x : Int} (h1 : -4096 ≤ x) (h2 : x ≤ 4096) : ms x = true := by unfold ms; rw [decide_eq_true h1, decide_eq_true h2]; rfl
theorem ms_no {x : Int} (h : x < -4096 ∨ 4096 < x) : ms x = false := by
  unfold ms
  rcases h with h | h
  · rw [decide_eq_false (by omega)]; rfl
  · rw [decide_eq_false (p := x ≤ 4096) (by omega), Bool.and_false]
theorem ms_iff {x : Int} : ms x = true ↔ -4096 ≤ x ∧ x ≤ 4096 := by unfold ms; rw [Bool.and_eq_true, decide_eq_true_eq, decide_eq_true_eq]

/-- impl.toldMeasure, at every word that tells eighths. -/
theorem told {n : Int} {x : Nat} (hn : n.natAbs < 16777216) (h : I32 n x) (w : World) :
    Calls Tryz.prog 180 #[.float .f32 x] w fun e w' => e = .returned (.tuple #[.int .i64 (if ms n then n else 0), .bool (ms n)]) ∧ w = w' := by
  rcases i32_or h with rfl | ⟨rfl, rfl⟩
  · by_cases c : -4096 ≤ n ∧ n ≤ 4096
    · rw [ms_yes c.1 c.2]; exact Meas.told n c.1 c.2 w
    · rw [ms_no (by omega)]; exact Meas.told_no n (by omega) hn w
  · exact Meas.told_zero w

end Go.Proofs.YtokncfhpmjohdaaGreat.Cm
namespace Go.Proofs.YtokncfhpmjohdaaGreat.Pl
open Go.RowKit Go.Proofs.YtokncfhpmjohdaaGreat.Cm
set_option linter.unusedVariables false

theorem and3 (n : Int) : bits .and .i64 n 3 = n % 4 := by
  unfold bits
  have hb : IntKind.i64.bits = 64 := rfl
  simp only [IntKind.wrap, BitVec.toNat_and, BitVec.toNat_ofInt]
  have h1 : ((n % ((2 ^ IntKind.i64.bits : Nat) : Int)).toNat &&& ((3 : Int) % ((2 ^ IntKind.i64.bits : Nat) : Int)).toNat) = (n % 4).toNat := by
    rw [hb]
    have e : ((3 : Int) % ((2 ^ 64 : Nat) : Int)).toNat = 2 ^ 2 - 1 := by decide
    rw [e, Nat.and_two_pow_sub_one_eq_mod]
    omega
  rw [h1, hb]
  have hy : ((n % 4).toNat : Int) = n % 4 := by omega
  rw [hy]
  have h2 : (n % 4) % 2 ^ 64 = n % 4 := by omega
  rw [h2]
  split
  · rename_i h
    have h3 := (Bool.and_eq_true_iff.1 h).2
    have := of_decide_eq_true h3
    omega
  · rfl

theorem tmod4 (n : Int) : n.tmod 4 = if n % 4 ≠ 0 ∧ n < 0 then n % 4 - 4 else n % 4 := by
  rcases Int.lt_or_le n 0 with h | h
  · have : n.tmod 4 = -((-n).tmod 4) := by rw [Int.neg_tmod, Int.neg_neg]
    rw [this, Int.tmod_eq_emod_of_nonneg (by omega)]
    split <;> omega
  · rw [Int.tmod_eq_emod_of_nonneg h, if_neg (by omega)]

theorem quartersOf (n : Int) (w : World) : Calls Tryz.prog 190 #[.int .i64 n] w fun e w' => e = .returned (.int .i64 (n % 4)) ∧ w = w' := by
  have h := and3 n
  go_enter Tryz.func190, Tryz.ntmps190
  go_wp2
  go_returns
  exact ⟨rfl, rfl⟩

theorem l2Mod (n : Int) (w : World) : Calls Tryz.prog 124 #[.int .i64 n] w fun e w' => e = .returned (.int .i64 (n % 4)) ∧ w = w' := by
  go_enter Tryz.func124, Tryz.ntmps124
  go_wp2
  all_goals go_returns
  · rename_i h
    have t := tmod4 n
    refine ⟨?_, rfl⟩
    show Ending.returned (.int .i64 (wrap64 (n.tmod 4 + 4))) = _
    rw [IntWalk.wrap64_in _ (by split at t <;> omega)]
    congr 2
    split at t <;> omega
  · rename_i h
    have t := tmod4 n
    refine ⟨?_, rfl⟩
    show Ending.returned (.int .i64 (n.tmod 4)) = _
    congr 2
    split at t <;> omega

theorem isMeasureI (x : Int) (w : World) : Calls Tryz.prog 158 #[.int .i64 x] w fun e w' => e = .returned (.bool (ms x)) ∧ w = w' := by
  go_enter Tryz.func158, Tryz.ntmps158
  go_wp2
  all_goals go_returns
  · rename_i h
    refine ⟨?_, rfl⟩
    show Ending.returned (.bool (decide (x ≤ 4096))) = _
    unfold ms; rw [decide_eq_true h]; rfl
  · rename_i h
    refine ⟨?_, rfl⟩
    show Ending.returned (.bool false) = _
    rw [ms_no (by omega)]
theorem isMeasureS (x : Int) (w : World) : Calls Tryz.prog 121 #[.int .i64 x] w fun e w' => e = .returned (.bool (ms x)) ∧ w = w' := by
  go_enter Tryz.func121, Tryz.ntmps121
  go_wp2
  all_goals go_returns
  · rename_i h
    refine ⟨?_, rfl⟩
    show Ending.returned (.bool (decide (x ≤ 4096))) = _
    unfold ms; rw [decide_eq_true h]; rfl
  · rename_i h
    refine ⟨?_, rfl⟩
    show Ending.returned (.bool false) = _
    rw [ms_no (by omega)]

/-- X behind k quarter turns, and Y. -/
def tx : Nat → Int → Int → Int
  | 0, x, _ => x
  | 1, _, y => -y
  | 2, x, _ => -x
  | _, _, y => y
def ty : Nat → Int → Int → Int
  | 0, _, y => y
  | 1, x, _ => x
  | 2, _, y => -y
  | _, x, _ => -x

theorem mod4_cases (n : Int) : n % 4 = 0 ∨ n % 4 = 1 ∨ n % 4 = 2 ∨ n % 4 = 3 := by omega

set_option maxHeartbeats 1000000 in
theorem turned {x y n : Int} {re im : Nat} (hx : x.natAbs < 8388608) (hy : y.natAbs < 8388608) (h1 : I32 x re) (h2 : I32 y im) (w : World) :
    Calls Tryz.prog 170 #[.complex .f32 re im, .int .i64 n] w fun e w' => ∃ re' im', e = .returned (.complex .f32 re' im') ∧ w = w' ∧ I32 (tx (n % 4).toNat x y) re' ∧ I32 (ty (n % 4).toNat x y) im' := by
  have q := Lib.hid (quartersOf n)
  obtain ⟨r1, i1, m1, a1, b1⟩ := quarter (P := Tryz.prog) hx hy h1 h2
  obtain ⟨r2, i2, m2, a2, b2⟩ := quarter (P := Tryz.prog) (by omega) hx a1 b1
  obtain ⟨r3, i3, m3, a3, b3⟩ := quarter (P := Tryz.prog) (by omega) (by omega) a2 b2
  rw [Int.neg_neg] at a3
  have key : ∀ k : Int, k = 0 ∨ k = 1 ∨ k = 2 ∨ k = 3 → (∀ w, Calls Tryz.prog 190 #[.int .i64 n] w fun e w' => e = .returned (.int .i64 k) ∧ w = w') →
      Calls Tryz.prog 170 #[.complex .f32 re im, .int .i64 n] w fun e w' => ∃ re' im', e = .returned (.complex .f32 re' im') ∧ w = w' ∧ I32 (tx k.toNat x y) re' ∧ I32 (ty k.toNat x y) im' := by
    intro k hk hq
    have Q := Lib.hid hq
    clear hq q
    rcases hk with rfl | rfl | rfl | rfl
    all_goals
      go_enter Tryz.func170, Tryz.ntmps170
      go_wp2_with (first
        | (go_at_call 190; refine (Q.out _).mono ?_; rintro e w' ⟨rfl, rfl⟩)
        | go_rounds 4)
      all_goals go_returns
    · exact ⟨_, _, rfl, rfl, h1, h2⟩
    · exact ⟨_, _, rfl, rfl, a1, b1⟩
    · exact ⟨_, _, rfl, rfl, a2, b2⟩
    · exact ⟨_, _, rfl, rfl, a3, b3⟩
  exact key _ (mod4_cases n) (fun w => q.out w)

end Go.Proofs.YtokncfhpmjohdaaGreat.Pl
namespace Go.Proofs.YtokncfhpmjohdaaGreat.Pw
open Go.RowKit Go.Proofs.YtokncfhpmjohdaaGreat.Cm Go.Proofs.YtokncfhpmjohdaaGreat.Pl Go.Proofs.YtokncfhpmjohdaaGreat.Str
set_option linter.unusedVariables false

set_option maxRecDepth 100000 in
theorem complexOf (x y : Int) (hx : x.natAbs < 16777216) (hy : y.natAbs < 16777216) (w : World) :
    Calls Tryz.prog 94 #[.agg #[.int .i64 x, .int .i64 y]] w fun e w' => e = .returned (.complex .f32 (Meas.f32 x) (Meas.f32 y)) ∧ w' = (w.alloc (.cells #[.int .i64 x, .int .i64 y] 44)).drew := by
  have c1 := Lib.hid (Meas.wholesOf x hx)
  have c2 := Lib.hid (Meas.wholesOf y hy)
  clear hx hy
  go_enter Tryz.func94, Tryz.ntmps94
  go_wp2_with fail
  go_region_held3 (fun w' => w'.cell? ⟨w.heap.size, 0, none⟩ = some (.int .i64 x) ∧ w'.cell? ⟨w.heap.size, 1, none⟩ = some (.int .i64 y)) (go_keep)
    (first
      | (go_at_call 138; refine (c1.out _).mono ?_; rintro e w' ⟨rfl, rfl⟩)
      | (go_at_call 138; refine (c2.out _).mono ?_; rintro e w' ⟨rfl, rfl⟩))
  go_wp2_with fail
  go_returns
  exact ⟨rfl, rfl⟩

theorem toldPlace {a b : Int} {re im : Nat} (ha : a.natAbs < 16777216) (hb : b.natAbs < 16777216) (h1 : I32 a re) (h2 : I32 b im) (w : World) :
    Calls Tryz.prog 151 #[.complex .f32 re im] w fun e w' => e = .returned (.tuple #[.agg #[.int .i64 (if ms a && ms b then a else 0), .int .i64 (if ms a && ms b then b else 0)], .bool (ms a && ms b)]) ∧ w' = w.alloc (.cells #[.int .i64 (if ms a && ms b then a else 0), .int .i64 (if ms a && ms b then b else 0)] 44) := by
  have c1 := told ha h1
  have c2 := told hb h2
  generalize ms a = p at *
  generalize ms b = q at *
  obtain ⟨x, hx⟩ : ∃ x, (if p = true then a else 0) = x := ⟨_, rfl⟩
  obtain ⟨y, hy⟩ : ∃ y, (if q = true then b else 0) = y := ⟨_, rfl⟩
  rw [hx] at c1
  rw [hy] at c2
  have c1 := Lib.hid c1
  have c2 := Lib.hid c2
  clear ha hb h1 h2
  have key : Calls Tryz.prog 151 #[.complex .f32 re im] w fun e w' => e = .returned (.tuple #[.agg #[.int .i64 (if p && q then x else 0), .int .i64 (if p && q then y else 0)], .bool (p && q)]) ∧ w' = w.alloc (.cells #[.int .i64 (if p && q then x else 0), .int .i64 (if p && q then y else 0)] 44) := by
    clear hx hy
    cases p <;> cases q
    all_goals
      go_enter Tryz.func151, Tryz.ntmps151
      go_wp2_with fail
      refine (c1.out _).mono ?_
      rintro e w' ⟨rfl, rfl⟩
      go_wp2_with fail
      refine (c2.out _).mono ?_
      rintro e w' ⟨rfl, rfl⟩
      go_wp2_with fail
      go_returns
      exact ⟨rfl, rfl⟩
  cases p <;> cases q <;> simp at hx hy <;> subst hx hy <;> exact key

theorem isPlaceI (x y : Int) (w : World) : Calls Tryz.prog 128 #[.agg #[.int .i64 x, .int .i64 y]] w fun e w' => e = .returned (.bool (ms x && ms y)) ∧ w' = w.alloc (.cells #[.int .i64 x, .int .i64 y] 44) := by
  go_enter Tryz.func128, Tryz.ntmps128
  go_wp2_with (go_at_call 158; refine (isMeasureI _ _).mono ?_; rintro e w' ⟨rfl, rfl⟩)
  all_goals go_returns
  all_goals refine ⟨?_, rfl⟩
  all_goals simp [*]

theorem isPlaceS (x y : Int) (w : World) : Calls Tryz.prog 74 #[.agg #[.int .i64 x, .int .i64 y]] w fun e w' => e = .returned (.bool (ms x && ms y)) ∧ w' = w.alloc (.cells #[.int .i64 x, .int .i64 y] 44) := by
  go_enter Tryz.func74, Tryz.ntmps74
  go_wp2_with (go_at_call 121; refine (isMeasureS _ _).mono ?_; rintro e w' ⟨rfl, rfl⟩)
  all_goals go_returns
  all_goals refine ⟨?_, rfl⟩
  all_goals simp [*]

theorem l2Turn {x y : Int} (n : Int) (hx : x.natAbs < 4611686018427387904) (hy : y.natAbs < 4611686018427387904) (w : World) :
    Calls Tryz.prog 81 #[.agg #[.int .i64 x, .int .i64 y], .int .i64 n] w fun e w' => e = .returned (.agg #[.int .i64 (tx (n % 4).toNat x y), .int .i64 (ty (n % 4).toNat x y)]) ∧ w' = (w.alloc (.cells #[.int .i64 (tx (n % 4).toNat x y), .int .i64 (ty (n % 4).toNat x y)] 44)).alloc (.cells #[.int .i64 (tx (n % 4).toNat x y), .int .i64 (ty (n % 4).toNat x y)] 44) := by
  have q := Lib.hid (l2Mod n)
  have key : ∀ k : Int, k = 0 ∨ k = 1 ∨ k = 2 ∨ k = 3 → (∀ w, Calls Tryz.prog 124 #[.int .i64 n] w fun e w' => e = .returned (.int .i64 k) ∧ w = w') →
      Calls Tryz.prog 81 #[.agg #[.int .i64 x, .int .i64 y], .int .i64 n] w fun e w' => e = .returned (.agg #[.int .i64 (tx k.toNat x y), .int .i64 (ty k.toNat x y)]) ∧ w' = (w.alloc (.cells #[.int .i64 (tx k.toNat x y), .int .i64 (ty k.toNat x y)] 44)).alloc (.cells #[.int .i64 (tx k.toNat x y), .int .i64 (ty k.toNat x y)] 44) := by
    intro k hk hq
    have Q := Lib.hid hq
    clear hq q
    have n1 : wrap64 (-x) = -x := IntWalk.wrap64_in _ (by omega)
    have n2 : wrap64 (-y) = -y := IntWalk.wrap64_in _ (by omega)
    have n3 : wrap64 x = x := IntWalk.wrap64_in _ (by omega)
    have n4 : wrap64 y = y := IntWalk.wrap64_in _ (by omega)
    clear hx hy
    rcases hk with rfl | rfl | rfl | rfl
    all_goals
      go_enter Tryz.func81, Tryz.ntmps81
      go_wp2_with (first
        | (go_at_call 124; refine (Q.out _).mono ?_; rintro e w' ⟨rfl, rfl⟩)
        | go_rounds 4)
      all_goals go_returns
      exact ⟨rfl, rfl⟩
  exact key _ (mod4_cases n) (fun w => q.out w)

theorem toPlace (x y : Int) (w : World) : Calls Tryz.prog 41 #[.agg #[.int .i64 x, .int .i64 y]] w fun e w' => e = .returned (.agg #[.int .i64 x, .int .i64 y]) ∧ w' = ((w.alloc (.cells #[.int .i64 x, .int .i64 y] 29)).alloc (.cells #[.int .i64 x, .int .i64 y] 44)).alloc (.cells #[.int .i64 x, .int .i64 y] 44) := by
  go_enter Tryz.func41, Tryz.ntmps41
  go_wp2
  go_returns
  exact ⟨rfl, rfl⟩

theorem eqPlace (x y : Int) (w : World) : Calls Tryz.prog 50 #[.agg #[.int .i64 x, .int .i64 y], .agg #[.int .i64 x, .int .i64 y]] w fun e w' => e = .returned (.bool true) ∧ w' = (w.alloc (.cells #[.int .i64 x, .int .i64 y] 44)).alloc (.cells #[.int .i64 x, .int .i64 y] 44) := by
  go_enter Tryz.func50, Tryz.ntmps50
  go_wp2
  all_goals go_returns
  exact ⟨rfl, rfl⟩

theorem txle {k : Nat} {x y B : Int} (hx : -B ≤ x ∧ x ≤ B) (hy : -B ≤ y ∧ y ≤ B) : -B ≤ tx k x y ∧ tx k x y ≤ B := by
  unfold tx; split <;> omega
theorem tyle {k : Nat} {x y B : Int} (hx : -B ≤ x ∧ x ≤ B) (hy : -B ≤ y ∧ y ≤ B) : -B ≤ ty k x y ∧ ty k x y ≤ B := by
  unfold ty; split <;> omega

/-- impl.toldPlace at words of a valid place. -/
theorem toldYes {a b : Int} {re im : Nat} (ha : -4096 ≤ a ∧ a ≤ 4096) (hb : -4096 ≤ b ∧ b ≤ 4096) (h1 : I32 a re) (h2 : I32 b im) (w : World) :
    Calls Tryz.prog 151 #[.complex .f32 re im] w fun e w' => e = .returned (.tuple #[.agg #[.int .i64 a, .int .i64 b], .bool true]) ∧ w' = w.alloc (.cells #[.int .i64 a, .int .i64 b] 44) := by
  have h := toldPlace (by omega) (by omega) h1 h2 w
  rw [ms_yes ha.1 ha.2, ms_yes hb.1 hb.2] at h
  exact h
theorem pl_yes {x y : Int} (h : (ms x && ms y) = true) : (-4096 ≤ x ∧ x ≤ 4096) ∧ (-4096 ≤ y ∧ y ≤ 4096) := by
  rw [Bool.and_eq_true, ms_iff, ms_iff] at h
  exact h
theorem pl_mk {x y : Int} (hx : -4096 ≤ x ∧ x ≤ 4096) (hy : -4096 ≤ y ∧ y ≤ 4096) : (ms x && ms y) = true := by rw [ms_yes hx.1 hx.2, ms_yes hy.1 hy.2]; rfl

/-- IsPlace of both, at a known answer. -/
theorem isPlaceI_of {x y : Int} {b : Bool} (h : (ms x && ms y) = b) (w : World) : Calls Tryz.prog 128 #[.agg #[.int .i64 x, .int .i64 y]] w fun e w' => e = .returned (.bool b) ∧ w' = w.alloc (.cells #[.int .i64 x, .int .i64 y] 44) := h ▸ isPlaceI x y w
theorem isPlaceS_of {x y : Int} {b : Bool} (h : (ms x && ms y) = b) (w : World) : Calls Tryz.prog 74 #[.agg #[.int .i64 x, .int .i64 y]] w fun e w' => e = .returned (.bool b) ∧ w' = w.alloc (.cells #[.int .i64 x, .int .i64 y] 44) := h ▸ isPlaceS x y w

end Go.Proofs.YtokncfhpmjohdaaGreat.Pw
namespace Go.Proofs.YtokncfhpmjohdaaGreat.P2
open Go.RowKit Go.Proofs.YtokncfhpmjohdaaGreat.Cm Go.Proofs.YtokncfhpmjohdaaGreat.Pl Go.Proofs.YtokncfhpmjohdaaGreat.Str Go.Proofs.YtokncfhpmjohdaaGreat.Pw
set_option linter.unusedVariables false

theorem cell_below {W w' : World} {p : Addr} {v : Value} (hb : Below W.heap.size W w') (h : W.cell? p = some v) : w'.cell? p = some v := (hb.cell (World.block_lt_of_cell? W p h)).trans h

theorem cell_alloc {W : World} {p : Addr} {v : Value} {o : Obj} (h : W.cell? p = some v) : (W.alloc o).cell? p = some v := by
  rw [World.cell?_alloc_lt _ _ _ (World.block_lt_of_cell? W p h)]; exact h

theorem set2_0 {W : World} {b : Nat} {P Q : Value} (h0 : (W.cell? ⟨b, 0, none⟩).isSome = true) : ((W.setCell ⟨b, 0, none⟩ P).setCell ⟨b, 1, none⟩ Q).cell? ⟨b, 0, none⟩ = some P := by
  rw [World.cell?_setCell_other _ _ _ _ (by simp)]
  exact World.cell?_setCell_same' _ _ _ h0
theorem set2_1 {W : World} {b : Nat} {P Q : Value} (h1 : (W.cell? ⟨b, 1, none⟩).isSome = true) : ((W.setCell ⟨b, 0, none⟩ P).setCell ⟨b, 1, none⟩ Q).cell? ⟨b, 1, none⟩ = some Q := by
  refine World.cell?_setCell_same' _ _ _ ?_
  rw [World.cell?_setCell_other _ _ _ _ (by simp)]
  exact h1
theorem cell_here {W : World} {c : Array Value} {t : TypeId} {i : Nat} {v : Value} (h : c[i]? = some v) : (W.alloc (.cells c t)).cell? ⟨W.heap.size, i, none⟩ = some v := by
  rw [World.cell?_alloc_at _ _ _ _ rfl]; exact h

theorem l2Add (x y a b : Int) (h1 : wrap64 (x + a) = x + a) (h2 : wrap64 (y + b) = y + b) (w : World) :
    Calls Tryz.prog 78 #[.agg #[.int .i64 x, .int .i64 y], .agg #[.int .i64 a, .int .i64 b]] w fun e w' => e = .returned (.agg #[.int .i64 (x + a), .int .i64 (y + b)]) ∧ w' = ((w.alloc (.cells #[.int .i64 x, .int .i64 y] 44)).alloc (.cells #[.int .i64 a, .int .i64 b] 44)).alloc (.cells #[.int .i64 (x + a), .int .i64 (y + b)] 44) := by
  go_enter Tryz.func78, Tryz.ntmps78
  go_wp2
  go_returns
  exact ⟨rfl, rfl⟩

/-- A place and whether it is one. -/
abbrev told2 (b : Bool) (x y : Int) : Value := .tuple #[.agg #[.int .i64 (if b then x else 0), .int .i64 (if b then y else 0)], .bool b]

/-- A world behind a call of which only 'Below' is known, as rules. -/
theorem open_below {W w' : World} (hb : Below W.heap.size W w') : (∀ p : Addr, p.block < W.heap.size → w'.cell? p = W.cell? p) ∧ (∀ p : Addr, p.block < W.heap.size → w'.frozen? p = W.frozen? p) ∧
    (∀ b, b < W.heap.size → b < w'.heap.size) ∧ (∀ b j, b < W.heap.size → b < w'.heap.size + j) ∧ (∀ b, b < W.heap.size → (b = w'.heap.size) = False) ∧ (∀ b j, b < W.heap.size → (b = w'.heap.size + j) = False) ∧ (∀ b, b < W.heap.size → (w'.heap.size = b) = False) ∧ (∀ b j, b < W.heap.size → (w'.heap.size + j = b) = False) := by
  have hs := hb.size
  refine ⟨fun p h => hb.cell h, fun p h => hb.frozen h, ?_, ?_, ?_, ?_, ?_, ?_⟩
  · intros; omega
  · intros; omega
  all_goals intros
  all_goals apply eq_false
  all_goals omega

/-- A place lies in a block of its own, behind all of W's memory; W's memory is as it was. -/
structure Lay (W wx : World) (k : Nat) (X Y : Int) : Prop where
  below : Below W.heap.size W wx
  old : W.heap.size ≤ k
  new : k < wx.heap.size
  c0 : wx.cell? ⟨k, 0, none⟩ = some (.int .i64 X)
  c1 : wx.cell? ⟨k, 1, none⟩ = some (.int .i64 Y)


end Go.Proofs.YtokncfhpmjohdaaGreat.P2
namespace Go.Proofs.YtokncfhpmjohdaaGreat.Gs
open Go.RowKit Go.ChangeShapes Go.WideShapes Go.WideElems Go.Deep Go.Proofs.YtokncfhpmjohdaaGreat.Mem Go.Proofs.YtokncfhpmjohdaaGreat.Rw Go.Proofs.YtokncfhpmjohdaaGreat.Pw Go.Proofs.YtokncfhpmjohdaaGreat.P2
set_option linter.unusedVariables false
set_option linter.unusedSimpArgs false

/-- The cells of a gust: when it begins, and its drift. -/
def gc (g : Int × Int × Int) : List Value := [.int .i64 g.1, .int .i64 g.2.1, .int .i64 g.2.2]
theorem gc_len (g : Int × Int × Int) : (gc g).length = 3 := rfl
/-- The cells of a list of gusts. -/
def gls (zs : List (Int × Int × Int)) : List Value := zs.flatMap gc
theorem gls_len (zs : List (Int × Int × Int)) : (gls zs).length = zs.length * 3 := flat_len gc_len zs
theorem gls_get {zs : List (Int × Int × Int)} {k : Nat} {z : Int × Int × Int} (h : zs[k]? = some z) :
    (gls zs)[k * 3]? = some (.int .i64 z.1) ∧ (gls zs)[k * 3 + 1]? = some (.int .i64 z.2.1) ∧ (gls zs)[k * 3 + 2]? = some (.int .i64 z.2.2) :=
  ⟨(flat_get gc_len h 0 (by omega)).trans rfl, (flat_get gc_len h 1 (by omega)).trans rfl, (flat_get gc_len h 2 (by omega)).trans rfl⟩
theorem gls_snoc (zs : List (Int × Int × Int)) (z : Int × Int × Int) : gls zs ++ [.int .i64 z.1, .int .i64 z.2.1, .int .i64 z.2.2] = gls (zs ++ [z]) := (flat_snoc zs z).symm

abbrev gv (f x y : Int) : Value := .agg #[.int .i64 f, .int .i64 x, .int .i64 y]
abbrev Gok (z : Int × Int × Int) : Prop := (Lit.int .i64 z.1).wf = true ∧ (Lit.int .i64 z.2.1).wf = true ∧ (Lit.int .i64 z.2.2).wf = true

section
variable {H : Type} {enc : TypeId × Value → H} {P : Program}
end

theorem infoGust : (Tryz.prog.info? 89).map (fun i => (i.zero, i.size, i.bytes)) = some (some (.agg #[.int .i64 0, .int .i64 0, .int .i64 0]), 3, 24) := by kernel_rfl

theorem toGust (f x y : Int) (w : World) : Calls Tryz.prog 84 #[gv f x y] w fun e w' => e = .returned (gv f x y) ∧ Below w.heap.size w w' := by
  go_enter Tryz.func84, Tryz.ntmps84
  go_wp2_with (go_at_call 41; refine (toPlace _ _ _).mono ?_; rintro e w' ⟨rfl, rfl⟩)
  go_returns
  exact ⟨rfl, by go_grown⟩

theorem eqGust (f x y : Int) (w : World) : Calls Tryz.prog 47 #[gv f x y, gv f x y] w fun e w' => e = .returned (.bool true) ∧ w' = (((w.alloc (.cells #[.int .i64 f, .int .i64 x, .int .i64 y] 89)).alloc (.cells #[.int .i64 f, .int .i64 x, .int .i64 y] 89)).alloc (.cells #[.int .i64 x, .int .i64 y] 44)).alloc (.cells #[.int .i64 x, .int .i64 y] 44) := by
  go_enter Tryz.func47, Tryz.ntmps47
  go_wp2_with (go_at_call 50; ((with_reducible refine (eqPlace _ _ _).mono ?_); rintro e w' ⟨rfl, rfl⟩))
  all_goals go_returns
  all_goals exact ⟨rfl, rfl⟩

/-- What the copy leaves: a row of its own with these gusts; what was there is as it was. -/
def Copied (w : World) (n : Nat) (zs : List (Int × Int × Int)) (e : Ending) (w' : World) : Prop :=
  ∃ g, e = .returned (.slice (some ⟨g, 0, none⟩) n n) ∧ w.heap.size ≤ g ∧ w'.ownsRow w.heap.size 89 3 (.slice (some ⟨g, 0, none⟩) n n) n (gls zs) ∧ Below w.heap.size w w'

theorem filled_at {xs : List Value} {z : Value} {k j : Nat} (hk : k ≤ j) (hj : j < xs.length) : (filled xs z k)[j]? = some z := by
  unfold filled
  rw [List.getElem?_append_right (by rw [List.length_take]; omega), List.length_take, Nat.min_eq_left (by omega), List.getElem?_replicate, if_pos (by omega)]

set_option maxHeartbeats 2000000 in
theorem toGustS (A : Option Addr) (n c : Nat) (zs : List (Int × Int × Int)) (w : World) (hn : zs.length = n) (hb : n ≤ 1048576) (hr : Rd w w.heap.size A (gls zs)) :
    Calls Tryz.prog 40 #[.slice A n c] w (Copied w n zs) := by
  obtain ⟨i0, hi, hz0, hz1, hz2⟩ := info_of infoGust
  have HR := Lib.hid hr
  have HN := Lib.hid hn
  clear hr hn
  go_enter Tryz.func40, Tryz.ntmps40
  go_wp2_with (at_make; refine wpList_make_full _ rfl _ _ 34 rfl w.heap.size 89 i0 (.agg #[.int .i64 0, .int .i64 0, .int .i64 0]) 3 Tryz.underlying34 hi hz0 hz1 .i64 .i64 n n n rfl rfl rfl rfl (by rw [hz2]; omega) (by unfold maxLen; omega) (Nat.le_refl _) ?_; intro w1 hown hgrow; clear hi hz0 hz1 hz2)
  have R0 := Lib.hid (show w1.ownsRow w.heap.size 89 3 (.slice (some ⟨w.heap.size, 0, none⟩) n n) n (filled (gls zs) (.int .i64 0) 0) by
    rw [filled_zero, gls_len, HN.out]; rw [made_ints _ 3 (by intro j hj; match j, hj with | 0, _ => rfl | 1, _ => rfl | 2, _ => rfl) rfl (by omega)] at hown; exact hown)
  have B0 := Lib.hid (show Below w.heap.size w w1 from (Below.refl _ _).grown hgrow (Nat.le_refl _) (fun k hk => by cases hk))
  clear hown hgrow
  go_loopw [4] (fun i wr => ∃ k : Nat, k ≤ n ∧ i = .int .i64 k ∧ Hid (wr.ownsRow w.heap.size 89 3 (.slice (some ⟨w.heap.size, 0, none⟩) n n) n (filled (gls zs) (.int .i64 0) (k * 3))) ∧ Hid (Below w.heap.size w wr)) (fun i _ => n - (intOf i).toNat)
  case atStart => exact ⟨0, Nat.zero_le _, rfl, R0, B0⟩
  case round =>
    obtain ⟨k, hk, rfl, RK, BK⟩ := hrel
    by_cases hlt : k < n
    · have hl : (gls zs).length = n * 3 := by rw [gls_len, HN.out]
      obtain ⟨b, o, eA, hbl, hcell⟩ := HR.out.get (k := k * 3) (by omega)
      have hkz : k < zs.length := by rw [HN.out]; exact hlt
      obtain ⟨z, hz⟩ : ∃ z, zs[k]? = some z := ⟨_, List.getElem?_eq_getElem hkz⟩
      obtain ⟨z0, z1, z2⟩ := gls_get hz
      obtain ⟨f, x, y⟩ := z
      have c1 : wr.cell? ⟨b, o + k * 3, none⟩ = some (.int .i64 f) := (BK.out.cell (p := ⟨b, o + k * 3, none⟩) hbl).trans (hcell _ _ z0)
      have c2 : wr.cell? ⟨b, o + k * 3 + 1, none⟩ = some (.int .i64 x) := by
        rw [Nat.add_assoc]; exact (BK.out.cell (p := ⟨b, o + (k * 3 + 1), none⟩) hbl).trans (hcell _ _ z1)
      have c3 : wr.cell? ⟨b, o + k * 3 + 2, none⟩ = some (.int .i64 y) := by
        rw [Nat.add_assoc]; exact (BK.out.cell (p := ⟨b, o + (k * 3 + 2), none⟩) hbl).trans (hcell _ _ z2)
      have Z0 := Lib.hid (filled_put (z := .int .i64 0) z0)
      have Z1 := Lib.hid (filled_put (z := .int .i64 0) z1)
      have Z2 := Lib.hid (filled_put (z := .int .i64 0) z2)
      have HL := Lib.hid hl
      clear hbl hcell hkz hz R0 B0 z0 z1 z2 hl
      subst eA
      go_wp2_with fail
      refine (toGust _ _ _ _).mono ?_
      rintro e u ⟨rfl, hb1⟩
      have R1 := owns_below RK.out hb1
      have B1 := BK.out.trans (hb1.mono BK.out.size)
      have e3 : u.cell? ⟨w.heap.size, k * 3, none⟩ = some (.int .i64 0) := (R1.cellAt (k * 3) (by omega)).trans (filled_at (Nat.le_refl _) (by have := HL.out; omega))
      have e4 : u.cell? ⟨w.heap.size, k * 3 + 1, none⟩ = some (.int .i64 0) := (R1.cellAt (k * 3 + 1) (by omega)).trans (filled_at (by omega) (by have := HL.out; omega))
      have e5 : u.cell? ⟨w.heap.size, k * 3 + 2, none⟩ = some (.int .i64 0) := (R1.cellAt (k * 3 + 2) (by omega)).trans (filled_at (by omega) (by have := HL.out; omega))
      have f3 := R1.frozenAt (k * 3)
      have f4 := R1.frozenAt (k * 3 + 1)
      have f5 := R1.frozenAt (k * 3 + 2)
      obtain ⟨r1, g1⟩ := R1.stored (k * 3) (.int .i64 f)
      rw [Z0.out] at r1
      obtain ⟨r2, g2⟩ := r1.stored (k * 3 + 1) (.int .i64 x)
      rw [Z1.out] at r2
      obtain ⟨r3, g3⟩ := r2.stored (k * 3 + 1 + 1) (.int .i64 y)
      rw [Z2.out] at r3
      have RR := Lib.hid r3
      have b1 := B1.grown g1 B1.size (fun g hg => by cases hg; exact Nat.le_refl _)
      have b2 := b1.grown g2 b1.size (fun g hg => by cases hg; exact Nat.le_refl _)
      have BB := Lib.hid (b2.grown g3 b2.size (fun g hg => by cases hg; exact Nat.le_refl _))
      clear r1 g1 r2 g2 r3 g3 b1 b2 hb1 c1 c2 c3 RK BK R1 B1
      go_wp2_with fail
      go_roundw
      case rel => exact ⟨k + 1, by omega, by go_num, by rw [show (k + 1) * 3 = k * 3 + 2 + 1 by omega]; exact RR, BB⟩
      case measure => simp [intOf]; omega
    · obtain rfl : k = n := by omega
      go_wp2
      go_ret
      refine ⟨w.heap.size, rfl, Nat.le_refl _, ?_, BK.out⟩
      have := RK.out
      rw [show k * 3 = (gls zs).length by rw [gls_len, HN.out], filled_all] at this
      exact this

set_option maxHeartbeats 2000000 in
theorem eqGustS (A B : Option Addr) (n c d : Nat) (zs : List (Int × Int × Int)) (H : Nat) (w : World) (hn : zs.length = n) (hb : n ≤ 1048576) (hH : H ≤ w.heap.size) (hr : Rd w H A (gls zs)) (hs : Rd w H B (gls zs)) :
    Calls Tryz.prog 14 #[.slice A n c, .slice B n d] w fun e w' => e = .returned (.bool true) ∧ Below w.heap.size w w' := by
  have HR := Lib.hid (hr.more hH)
  have HS := Lib.hid (hs.more hH)
  have HN := Lib.hid hn
  clear hr hs hn hH
  go_enter Tryz.func14, Tryz.ntmps14
  go_wp2
  go_loopw [5] (fun i wr => ∃ k : Nat, k ≤ n ∧ i = .int .i64 k ∧ Hid (Below w.heap.size w wr)) (fun i _ => n - (intOf i).toNat)
  case atStart => exact ⟨0, Nat.zero_le _, rfl, Lib.hid (Below.refl _ _)⟩
  case round =>
    obtain ⟨k, hk, rfl, BK⟩ := hrel
    by_cases hlt : k < n
    · have hkz : k < zs.length := by rw [HN.out]; exact hlt
      have hl : k * 3 < (gls zs).length := by rw [gls_len]; omega
      obtain ⟨z, hz⟩ : ∃ z, zs[k]? = some z := ⟨_, List.getElem?_eq_getElem hkz⟩
      obtain ⟨z0, z1, z2⟩ := gls_get hz
      obtain ⟨f, x, y⟩ := z
      obtain ⟨b1, o1, eA, _, g1⟩ := (HR.out.below BK.out).get hl
      obtain ⟨b2, o2, eB, _, g2⟩ := (HS.out.below BK.out).get hl
      have c1 : wr.cell? ⟨b1, o1 + k * 3, none⟩ = some (.int .i64 f) := g1 _ _ z0
      have c2 : wr.cell? ⟨b1, o1 + k * 3 + 1, none⟩ = some (.int .i64 x) := g1 _ _ z1
      have c3 : wr.cell? ⟨b1, o1 + k * 3 + 2, none⟩ = some (.int .i64 y) := g1 _ _ z2
      have c4 : wr.cell? ⟨b2, o2 + k * 3, none⟩ = some (.int .i64 f) := g2 _ _ z0
      have c5 : wr.cell? ⟨b2, o2 + k * 3 + 1, none⟩ = some (.int .i64 x) := g2 _ _ z1
      have c6 : wr.cell? ⟨b2, o2 + k * 3 + 2, none⟩ = some (.int .i64 y) := g2 _ _ z2
      clear g1 g2 hz hl hkz z0 z1 z2
      subst eA eB
      have hlt' : (k : Int) < (n : Int) := by omega
      have hk0 : (0 : Int) ≤ (k : Int) := by omega
      have p1 : b1 < wr.heap.size := World.block_lt_of_cell? wr _ c1
      have p2 : ∀ j, b1 < wr.heap.size + j := fun j => by omega
      have p3 : b2 < wr.heap.size := World.block_lt_of_cell? wr _ c4
      have p4 : ∀ j, b2 < wr.heap.size + j := fun j => by omega
      go_wp2_with fail
      go_region_held3 (fun w' => w'.cell? ⟨b1, o1 + k * 3, none⟩ = some (.int .i64 f) ∧ w'.cell? ⟨b1, o1 + k * 3 + 1, none⟩ = some (.int .i64 x) ∧ w'.cell? ⟨b1, o1 + k * 3 + 2, none⟩ = some (.int .i64 y) ∧ w'.cell? ⟨b2, o2 + k * 3, none⟩ = some (.int .i64 f) ∧ w'.cell? ⟨b2, o2 + k * 3 + 1, none⟩ = some (.int .i64 x) ∧ w'.cell? ⟨b2, o2 + k * 3 + 2, none⟩ = some (.int .i64 y)) (simp [go_sem, *])
        (first | (go_at_call 47; ((with_reducible refine (eqGust _ _ _ _).mono ?_); rintro e w' ⟨rfl, rfl⟩)))
      all_goals go_wp2_with fail
      all_goals go_roundw
      case rel => exact ⟨k + 1, by omega, by go_num, Lib.hid (BK.out.trans (Below.mono (by go_grown) BK.out.size))⟩
      case measure => simp [intOf]; omega
    · obtain rfl : k = n := by omega
      go_wp2
      go_ret
      exact ⟨rfl, BK.out⟩

/-- The marks are laid; what lies in other blocks is as it was. -/
def Laid (w : World) (base g n c k : Nat) (e : Ending) (w' : World) : Prop :=
  e = .returned (.int .i64 ((k : Int) + ((n * 3 : Nat) : Int))) ∧ w'.ownsRow base 89 3 (.slice (some ⟨g, 0, none⟩) n c) n (mk k (n * 3)) ∧ w.grownBy w' (some g)

set_option maxHeartbeats 2000000 in
theorem markGustS (base g n c k : Nat) (xs : List Value) (w : World) (hn : xs.length = n * 3) (hb : n ≤ 1048576) (hk : k ≤ 16777216) (hr : w.ownsRow base 89 3 (.slice (some ⟨g, 0, none⟩) n c) n xs) :
    Calls Tryz.prog 19 #[.slice (some ⟨g, 0, none⟩) n c, .int .i64 k] w (Laid w base g n c k) := by
  have HN := Lib.hid hn
  have R0 := Lib.hid (show w.ownsRow base 89 3 (.slice (some ⟨g, 0, none⟩) n c) n (marked k 0 xs) by rw [marked_zero]; exact hr)
  clear hn hr
  go_enter Tryz.func19, Tryz.ntmps19
  go_wp2_with fail
  go_loopw [1, 5] (fun q i wr => ∃ j : Nat, j ≤ n ∧ i = .int .i64 j ∧ q = .int .i64 ((k : Int) + ((j * 3 : Nat) : Int)) ∧ Hid (wr.ownsRow base 89 3 (.slice (some ⟨g, 0, none⟩) n c) n (marked k (j * 3) xs)) ∧ Hid (w.grownBy wr (some g))) (fun _ i _ => n - (intOf i).toNat)
  case atStart => exact ⟨0, Nat.zero_le _, rfl, by simp, R0, Lib.hid (grown_refl _ _)⟩
  case round =>
    obtain ⟨j, hj, rfl, rfl, RK, GK⟩ := hrel
    obtain ⟨q, hq⟩ : ∃ q : Nat, q = k + j * 3 := ⟨_, rfl⟩
    rw [show (k : Int) + ((j * 3 : Nat) : Int) = (q : Int) by omega]
    by_cases hlt : j < n
    · have HL := HN.out
      have R1 := RK.out
      obtain ⟨v0, z0⟩ : ∃ v, xs[j * 3]? = some v := ⟨_, List.getElem?_eq_getElem (by omega)⟩
      obtain ⟨v1, z1⟩ : ∃ v, xs[j * 3 + 1]? = some v := ⟨_, List.getElem?_eq_getElem (by omega)⟩
      obtain ⟨v2, z2⟩ : ∃ v, xs[j * 3 + 2]? = some v := ⟨_, List.getElem?_eq_getElem (by omega)⟩
      obtain ⟨r1, g1⟩ := R1.stored (j * 3) (.int .i64 ((k : Int) + ((j * 3 : Nat) : Int)))
      rw [marked_set (by omega)] at r1
      obtain ⟨r2, g2⟩ := r1.stored (j * 3 + 1) (.int .i64 ((k : Int) + ((j * 3 + 1 : Nat) : Int)))
      rw [marked_set (by omega)] at r2
      obtain ⟨r3, g3⟩ := r2.stored (j * 3 + 1 + 1) (.int .i64 ((k : Int) + ((j * 3 + 1 + 1 : Nat) : Int)))
      rw [marked_set (by omega)] at r3
      have c1 := (R1.cellAt (j * 3) (by omega)).trans (marked_get z0)
      have c2 := (r1.cellAt (j * 3 + 1) (by omega)).trans (marked_get z1)
      have c3 := (r2.cellAt (j * 3 + 2) (by omega)).trans (marked_get z2)
      have f1 := R1.frozenAt (j * 3)
      have f2 := r1.frozenAt (j * 3 + 1)
      have f3 := r2.frozenAt (j * 3 + 2)
      have RR := Lib.hid r3
      have GG := Lib.hid (grown_trans (grown_trans (grown_trans GK.out g1) g2) g3)
      rw [show (k : Int) + ((j * 3 : Nat) : Int) = (q : Int) by omega] at *
      rw [show (k : Int) + ((j * 3 + 1 : Nat) : Int) = (q : Int) + 1 by omega] at *
      rw [show (k : Int) + ((j * 3 + 1 + 1 : Nat) : Int) = (q : Int) + 1 + 1 by omega] at *
      have HQ := Lib.hid hq
      have hq8 : q ≤ 33554432 := by omega
      clear R0 R1 r1 r2 r3 g1 g2 g3 z0 z1 z2 HL RK GK hq
      go_wp2_with fail
      go_roundw
      case rel => exact ⟨j + 1, by omega, by go_num, by (have := HQ.out; congr 1; omega), by rw [show (j + 1) * 3 = j * 3 + 1 + 1 + 1 by omega]; exact RR, GG⟩
      case measure => simp [intOf]; omega
    · obtain rfl : j = n := by omega
      have F := Lib.hid (show wr.ownsRow base 89 3 (.slice (some ⟨g, 0, none⟩) j c) j (mk k (j * 3)) by
        have := RK.out
        rw [marked_all (by rw [HN.out]; exact Nat.le_refl _)] at this; exact this)
      have HQ := Lib.hid hq
      clear hq R0
      go_wp2_with fail
      go_ret
      exact ⟨by rw [HQ.out]; congr 1, F.out, GK.out⟩

set_option maxHeartbeats 2000000 in
theorem heldGustS (A : Option Addr) (n c k B : Nat) (w : World) (hb : n ≤ 1048576) (hk : k ≤ 16777216) (hr : Rd w B A (mk k (n * 3))) :
    Calls Tryz.prog 20 #[.slice A n c, .int .i64 k] w fun e w' => e = .returned (.int .i64 ((k : Int) + ((n * 3 : Nat) : Int))) ∧ w = w' := by
  have HR := Lib.hid hr
  clear hr
  go_enter Tryz.func20, Tryz.ntmps20
  go_wp2_with fail
  go_loop [1, 5] (fun q i => ∃ j : Nat, j ≤ n ∧ i = .int .i64 j ∧ q = .int .i64 ((k : Int) + ((j * 3 : Nat) : Int))) (fun _ i => n - (intOf i).toNat)
  case atStart => exact ⟨0, Nat.zero_le _, rfl, by simp⟩
  case round =>
    obtain ⟨j, hj, rfl, rfl⟩ := hrel
    obtain ⟨q, hq⟩ : ∃ q : Nat, q = k + j * 3 := ⟨_, rfl⟩
    rw [show (k : Int) + ((j * 3 : Nat) : Int) = (q : Int) by omega]
    by_cases hlt : j < n
    · obtain ⟨b, o, eA, hbl, hcell⟩ := HR.out.get (k := j * 3) (by rw [mk_len]; omega)
      have c1 := hcell (j * 3) _ (mk_get (by omega))
      have c2 := hcell (j * 3 + 1) _ (mk_get (by omega))
      have c3 := hcell (j * 3 + 2) _ (mk_get (by omega))
      rw [← Nat.add_assoc] at c2 c3
      rw [show (k : Int) + ((j * 3 : Nat) : Int) = (q : Int) by omega] at c1
      rw [show (k : Int) + ((j * 3 + 1 : Nat) : Int) = (q : Int) + 1 by omega] at c2
      rw [show (k : Int) + ((j * 3 + 2 : Nat) : Int) = (q : Int) + 1 + 1 by omega] at c3
      have HQ := Lib.hid hq
      have hq8 : q ≤ 33554432 := by omega
      clear hcell hbl hq
      subst eA
      go_wp2_with fail
      go_round
      case rel => exact ⟨j + 1, by omega, by go_num, by (have := HQ.out; congr 1; omega)⟩
      case measure => simp [intOf]; omega
    · obtain rfl : j = n := by omega
      have HQ := Lib.hid hq
      clear hq
      go_wp2_with fail
      go_ret
      exact ⟨by rw [HQ.out]; congr 1, rfl⟩

end Go.Proofs.YtokncfhpmjohdaaGreat.Gs
namespace Go.Proofs.YtokncfhpmjohdaaGreat.Sp
open Go.RowKit Go.ChangeShapes Go.WideShapes Go.WideElems Go.Joins Go.Deep Go.Proofs.YtokncfhpmjohdaaGreat.Mem Go.Proofs.YtokncfhpmjohdaaGreat.Rw
set_option linter.unusedVariables false
set_option linter.unusedSimpArgs false

/-- A show as a value. -/
abbrev sv (A0 : Option Addr) (n0 c0 : Nat) (A1 : Option Addr) (n1 c1 : Nat) (A2 : Option Addr) (n2 c2 : Nat) (T : Int) : Value := .agg #[.slice A0 n0 c0, .slice A1 n1 c1, .slice A2 n2 c2, .int .i64 T]
abbrev sc (A0 : Option Addr) (n0 c0 : Nat) (A1 : Option Addr) (n1 c1 : Nat) (A2 : Option Addr) (n2 c2 : Nat) (T : Int) : Array Value := #[.slice A0 n0 c0, .slice A1 n1 c1, .slice A2 n2 c2, .int .i64 T]

section
variable {H : Type} {enc : TypeId × Value → H} {P : Program} {G : Type} {cells : G → List Value} {K : Nat}
/-- A slice of records in a field. -/
theorem rows_in {W : World} {t e : TypeId} {v : Value} {fuel : Nat} {x : DataW H × List MemPlace} [Inhabited G] (good : G → Prop) (hl : ∀ g, (cells g).length = K) (hK : 0 < K)
    (ht : P.underlying t = some (.slice e)) (ce : P.cellsOf e = K)
    (hel : ∀ fuel cs x, DataW.trod enc P W 0 (fun _ => true) true fuel e cs = some x → cs.length = K → ∃ g, cs = cells g ∧ good g)
    (hf : DataW.trod enc P W 0 (fun _ => true) true fuel t [v] = some x) :
    ∃ (A : Option Addr) (n c : Nat) (zs : List G), v = .slice A n c ∧ zs.length = n ∧ n ≤ maxLen ∧ Rd W W.heap.size A (zs.flatMap cells) ∧ ∀ z ∈ zs, good z := by
  rcases open_slice ht hf with ⟨hcs, _⟩ | ⟨a, len, cap', m, n, D, Pl, hcs, _, hlc, hm, hmm, _, hx⟩
  · injection hcs with hcs
    subst hcs
    exact ⟨none, 0, 0, [], rfl, rfl, Nat.zero_le _, Rd.nil _ _ _, fun _ h => by cases h⟩
  · injection hcs with hcs
    subst hcs
    simp only [if_true] at hmm
    subst hmm
    have each : ∀ i, i < len → ∃ g : G, (∀ j, j < K → W.cell? (a.add (i * K + j)) = (cells g)[j]?) ∧ good g := by
      intro i hi
      obtain ⟨cs', h1, h2⟩ := hx i (by omega)
      rw [ce] at h1
      obtain ⟨_, hlen, hcell⟩ := World.cells?_some h1
      obtain ⟨g, rfl, hg⟩ := hel _ _ _ h2 hlen
      refine ⟨g, fun j hj => ?_, hg⟩
      rw [← add_add]; exact hcell j hj
    obtain ⟨q, hq⟩ := choose_lt each
    refine ⟨some a, len, _, (List.range len).map q, rfl, by simp, by omega, ?_, ?_⟩
    · by_cases hz : len = 0
      · subst hz; exact Or.inl rfl
      · obtain ⟨b, o, spot⟩ := a
        have hk0 : (cells (q 0))[0]? = some ((cells (q 0))[0]'(by rw [hl]; exact hK)) := List.getElem?_eq_getElem _
        have c00 := ((hq 0 (by omega)).1 0 hK).trans hk0
        have hspot : spot = none := by simpa [Addr.add] using World.cell?_spot c00
        subst hspot
        have hb := World.block_lt_of_cell? W _ c00
        refine Or.inr ⟨b, o, rfl, by simpa [Addr.add] using hb, fun j v hv => ?_⟩
        have hj : j < (((List.range len).map q).flatMap cells).length := (List.getElem?_eq_some_iff.1 hv).1
        rw [flat_len hl] at hj
        simp only [List.length_map, List.length_range] at hj
        have hi : j / K < len := Nat.div_lt_of_lt_mul (by rw [Nat.mul_comm]; exact hj)
        have hr : j % K < K := Nat.mod_lt _ hK
        have hg := flat_get hl (zs := (List.range len).map q) (k := j / K) (z := q (j / K)) (by simp [hi]) (j % K) hr
        have k0 := (hq (j / K) hi).1 (j % K) hr
        have ej : j / K * K + j % K = j := by rw [Nat.mul_comm]; exact Nat.div_add_mod j K
        rw [ej] at hg k0
        rw [hv] at hg
        rw [← hg] at k0
        rw [← add_plain]; exact k0
    · intro z hz
      obtain ⟨i, hi, rfl⟩ := List.mem_map.1 hz
      exact (hq i (List.mem_range.1 hi)).2
end

section
variable {H : Type} {enc : TypeId × Value → H}
set_option maxRecDepth 100000 in
theorem read_gust {W : World} (fuel : Nat) (cs : List Value) (x : DataW H × List MemPlace) (hx : DataW.trod enc Tryz.prog W 0 (fun _ => true) true fuel 130 cs = some x) (hl : cs.length = 3) : ∃ g, cs = Gs.gc g ∧ Gs.Gok g := by
  match cs, hl with
  | [a, b, c], _ =>
    obtain ⟨y0, y1, n, _, _, k0, k1⟩ := trod_struct2 Tryz.underlying130 hx
    simp at k0 k1
    have ch : Tryz.prog.cellsOf 3 = 1 := by kernel_rfl
    have cp : Tryz.prog.cellsOf 29 = 2 := by kernel_rfl
    rw [ch] at k0
    rw [cp] at k1
    simp at k0 k1
    obtain ⟨z0, z1, m, _, _, l0, l1⟩ := trod_struct2 Tryz.underlying29 k1
    simp at l0 l1
    rw [ch] at l0 l1
    simp at l0 l1
    obtain ⟨f, e0, _, w0⟩ := DataW.trod_int Tryz.underlying3 k0
    obtain ⟨x, e1, _, w1⟩ := DataW.trod_int Tryz.underlying3 l0
    obtain ⟨y, e2, _, w2⟩ := DataW.trod_int Tryz.underlying3 l1
    injection e0 with e0
    injection e1 with e1
    injection e2 with e2
    subst e0 e1 e2
    exact ⟨(f, x, y), rfl, w0, w1, w2⟩
set_option maxRecDepth 100000 in
/-- An argument that is a show. -/
theorem take_show {W : World} {r : Reach} {b0 : Nat} {v : Value} {d : DataW H} {ps : List MemPlace}
    (hval : Value.okWide Tryz.prog W r b0 26 v) (h : DataW.Trod enc Tryz.prog W 0 (fun _ => true) true 26 v d ps) :
    ∃ (A0 : Option Addr) (n0 c0 : Nat) (ds : List Dd.D) (A1 : Option Addr) (n1 c1 : Nat) (cs : List Cd.C) (A2 : Option Addr) (n2 c2 : Nat) (gs : List (Int × Int × Int)) (T : Int),
      v = sv A0 n0 c0 A1 n1 c1 A2 n2 c2 T ∧ (ds.length = n0 ∧ n0 ≤ maxLen) ∧ (cs.length = n1 ∧ n1 ≤ maxLen) ∧ (gs.length = n2 ∧ n2 ≤ maxLen) ∧ (Lit.int .i64 T).wf = true ∧
      (Rd W W.heap.size A0 (Dd.dls ds) ∧ ∀ z ∈ ds, Dd.Dok z) ∧ (Rd W W.heap.size A1 (Cd.dls cs) ∧ ∀ z ∈ cs, Cd.Dok z) ∧ Rd W W.heap.size A2 (Gs.gls gs) ∧ ∀ z ∈ gs, Gs.Gok z := by
  obtain ⟨v0, v1, v2, v3, y0, y1, y2, y3, n, rfl, _, _, h0, h1, h2, h3⟩ := open_agg4 Tryz.underlying26 (by kernel_rfl) (by kernel_rfl) hval h
  obtain ⟨A0, n0, c0, ds, rfl, l0, m0, r0, w0⟩ := rows_in (K := 8) (cells := Dd.dc) Dd.Dok Dd.dc_len (by omega) Tryz.underlying22 (by kernel_rfl) Dd.read_this h0
  obtain ⟨A1, n1, c1, cs, rfl, l1, m1, r1, w1⟩ := rows_in (K := 4) (cells := Cd.dc) Cd.Dok Cd.dc_len (by omega) Tryz.underlying23 (by kernel_rfl) Cd.read_this h1
  obtain ⟨A2, n2, c2, gs, rfl, l2, m2, r2, w2⟩ := rows_in (K := 3) (cells := Gs.gc) Gs.Gok Gs.gc_len (by omega) Tryz.underlying24 (by kernel_rfl) read_gust h2
  obtain ⟨T, e3, _, w3⟩ := DataW.trod_int Tryz.underlying3 h3
  injection e3 with e3
  subst e3
  exact ⟨A0, n0, c0, ds, A1, n1, c1, cs, A2, n2, c2, gs, T, rfl, ⟨l0, m0⟩, ⟨l1, m1⟩, ⟨l2, m2⟩, w3, ⟨r0, w0⟩, ⟨r1, w1⟩, r2, w2⟩
end
end Go.Proofs.YtokncfhpmjohdaaGreat.Sp
namespace Go.Proofs.YtokncfhpmjohdaaGreat.Dv
open Go.RowKit Go.Proofs.YtokncfhpmjohdaaGreat.Dd Go.Proofs.YtokncfhpmjohdaaGreat.Pw
set_option linter.unusedVariables false
set_option linter.unusedSimpArgs false

set_option maxHeartbeats 1000000 in
theorem toDevice (n : ByteArray) (k : Int) (l : ByteArray) (x y h t m : Int) (w : World) : Calls Tryz.prog 82 #[va n k l x y h t m] w fun e w' => e = .returned (va n k l x y h t m) ∧ Below w.heap.size w w' := by
  go_enter Tryz.func82, Tryz.ntmps82
  go_wp2_with (go_at_call 41; ((with_reducible refine (toPlace _ _ _).mono ?_); rintro e w' ⟨rfl, rfl⟩))
  go_returns
  exact ⟨rfl, by go_grown⟩

set_option maxHeartbeats 1000000 in
theorem eqDevice (n : ByteArray) (k : Int) (l : ByteArray) (x y h t m : Int) (w : World) : Calls Tryz.prog 95 #[va n k l x y h t m, va n k l x y h t m] w fun e w' => e = .returned (.bool true) ∧ w' = (((w.alloc (.cells (ca n k l x y h t m) 98)).alloc (.cells (ca n k l x y h t m) 98)).alloc (.cells #[.int .i64 x, .int .i64 y] 44)).alloc (.cells #[.int .i64 x, .int .i64 y] 44) := by
  have h1 : (n.toList == n.toList) = true := by simp
  have h2 : (l.toList == l.toList) = true := by simp
  go_enter Tryz.func95, Tryz.ntmps95
  go_wp2_with (go_at_call 50; ((with_reducible refine (eqPlace _ _ _).mono ?_); rintro e w' ⟨rfl, rfl⟩))
  all_goals go_returns
  all_goals exact ⟨rfl, rfl⟩

theorem szYes (n : ByteArray) (k : Int) (l : ByteArray) (x y h t m : Int) (L R : Int) (h1 : L ≤ 1048576) (hR : L - (n.size : Int) - (l.size : Int) = R) (hp : 0 ≤ R) (w : World) :
    Calls Tryz.prog 66 #[va n k l x y h t m, .int .i64 L] w fun e w' => e = .returned (.int .i64 R) ∧ w' = w.alloc (.cells (ca n k l x y h t m) 107) := by
  have HR := Lib.hid hR
  have a1 : (n.size : Int) ≤ L := by omega
  have a2 : (l.size : Int) ≤ L - (n.size : Int) := by omega
  have a3 : ¬ L - (n.size : Int) < 0 := by omega
  have a4 : ¬ L - (n.size : Int) - (l.size : Int) < 0 := by omega
  have a5 : 0 ≤ L := by omega
  clear hR hp
  go_enter Tryz.func66, Tryz.ntmps66
  go_wp2
  all_goals go_returns
  all_goals first | exact ⟨rfl, rfl⟩ | exact ⟨by show Ending.returned (.int .i64 _) = _; rw [HR.out], rfl⟩ | (exfalso; omega)

theorem szNo (n : ByteArray) (k : Int) (l : ByteArray) (x y h t m : Int) (L : Int) (h0 : 0 ≤ L) (h1 : L ≤ 1048576) (hn : n.size ≤ maxLen) (hl : l.size ≤ maxLen) (hR : L - (n.size : Int) - (l.size : Int) < 0) (w : World) :
    Calls Tryz.prog 66 #[va n k l x y h t m, .int .i64 L] w fun e w' => e = .returned (.int .i64 (-1)) ∧ w' = w.alloc (.cells (ca n k l x y h t m) 107) := by
  unfold maxLen at hn hl
  by_cases h2 : L < (n.size : Int)
  · have a3 : L - (n.size : Int) < 0 := by omega
    have a1 : ¬ (n.size : Int) ≤ L := by omega
    go_enter Tryz.func66, Tryz.ntmps66
    go_wp2
    all_goals go_returns
    all_goals first | exact ⟨rfl, rfl⟩ | (exfalso; omega)
  · have a3 : ¬ L - (n.size : Int) < 0 := by omega
    have a1 : (n.size : Int) ≤ L := by omega
    have a4 : ¬ (l.size : Int) ≤ L - (n.size : Int) := by omega
    go_enter Tryz.func66, Tryz.ntmps66
    go_wp2
    all_goals go_returns
    all_goals first | exact ⟨rfl, rfl⟩ | (exfalso; omega)

end Go.Proofs.YtokncfhpmjohdaaGreat.Dv
