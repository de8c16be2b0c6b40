/- What the program's own helpers on measures answer: a measure as a float is exact, and is read back. -/
import Derived.Test.YtokncfhpmjohdaeRows
import Derived.Test.YtokncfhpmjohdaeM2
import Derived.WalkKit
import Derived.WalkLawsBesides
import Derived.Laws.Cover2
import Derived.Laws.FloatArith
import Derived.Laws.ComplexArith
import Derived.Below
import Derived.Handy
import Derived.Lib.Hide
import Derived.Test.YtokncfhpmjohdaeM1
import Derived.Deep.RegionHeld3
import Derived.Lib.SmallJoins
set_option linter.unusedVariables false
set_option linter.unusedSimpArgs false
namespace Go.Proofs.Ytokncfhpmjohdae.Meas
open Go.RowKit Go.Proofs.Ytokncfhpmjohdae.Flt

/-- The float32 of n eighths. -/
def f32 (n : Int) : Nat := fl Ieee.single n (-3)

theorem fits32 (n : Int) (h : n.natAbs < 16777216) : Fits Ieee.single n (-3) := fits_single _ _ h (by decide) (by decide)
theorem fits0 (n : Int) (h : n.natAbs < 16777216) : Fits Ieee.single n 0 := fits_single _ _ h (by decide) (by decide)

theorem order32 (a b : Int) (ha : a.natAbs < 16777216) (hb : b.natAbs < 16777216) : FloatKind.f32.format.order (f32 a) (f32 b) = some (compare a b) := order_fl Ieee.single a b (-3) (fits32 a ha) (fits32 b hb)
theorem e512 : f32 4096 = 1140850688 := c512
theorem en512 : f32 (-4096) = 3288334336 := cneg512

theorem cmp_lt {a b : Int} (h : a < b) : compare a b = .lt := by simp [compare, compareOfLessAndEq, h]
theorem cmp_eq {a b : Int} (h : a = b) : compare a b = .eq := by simp [compare, compareOfLessAndEq, h]
theorem cmp_gt {a b : Int} (h : b < a) : compare a b = .gt := by
  have h1 : ¬ a < b := by omega
  have h2 : ¬ a = b := by omega
  simp [compare, compareOfLessAndEq, h1, h2]

theorem quo8 (x : Int) (hx : x.natAbs < 16777216) (w : World) : (binOp .quo 93 (.float .f32 (floatOfInt .f32 x)) (.float .f32 1090519040)).run Try.prog w = .ok (.float .f32 (f32 x)) w :=
  run_float_arith w .quo _ .f32 _ _ _ (by
    have := div8_fl x hx
    rw [c8] at this
    exact this)

theorem mul8 (x : Int) (hx : x.natAbs < 16777216) (w : World) : (binOp .mul 93 (.float .f32 (f32 x)) (.float .f32 1090519040)).run Try.prog w = .ok (.float .f32 (fl Ieee.single x 0)) w :=
  run_float_arith w .mul _ .f32 _ _ _ (by
    have := mul8_fl x (-3) (fits32 x hx)
    rw [c8] at this
    exact this)

theorem toInt (x : Int) (hx : x.natAbs < 16777216) (w : World) : (convert 93 3 (.float .f32 (fl Ieee.single x 0))).run Try.prog w = .ok (.int .i64 x) w :=
  run_convert_float_int w _ _ .f32 .i64 _ x (by kernel_rfl) (by kernel_rfl) (by
    unfold floatToIntVal
    rw [show (FloatKind.f32.decode (fl Ieee.single x 0)).toInt .zero = some x from toInt_fl Ieee.single x (fits0 x hx)]
    simp only
    rw [if_pos]
    have h1 : IntKind.i64.min = -9223372036854775808 := rfl
    have h2 : IntKind.i64.max = 9223372036854775807 := rfl
    rw [h1, h2]; omega)

/-- impl.wholesOf. -/
theorem wholesOf (x : Int) (hx : x.natAbs < 16777216) (w : World) : Calls Try.prog 94 #[.int .i64 x] w fun e w' => e = .returned (.float .f32 (f32 x)) ∧ w = w' := by
  have q := quo8 x hx
  clear hx
  go_enter Try.func94, Try.ntmps94
  go_wp2
  go_ret
  exact ⟨rfl, rfl⟩

/-- impl.toldMeasure at a measure. -/
theorem told (n : Int) (h1 : -4096 ≤ n) (h2 : n ≤ 4096) (w : World) : Calls Try.prog 99 #[.float .f32 (f32 n)] w fun e w' => e = .returned (.tuple #[.int .i64 n, .bool true]) ∧ w = w' := by
  have o1 := order32 n (-4096) (by omega) (by decide)
  have o2 := order32 n 4096 (by omega) (by decide)
  rw [en512] at o1
  rw [e512] at o2
  have m := mul8 n (by omega)
  have t := toInt n (by omega)
  have b1 : (FloatKind.f32.format.order (f32 n) 3288334336 == some .gt || FloatKind.f32.format.order (f32 n) 3288334336 == some .eq) = true := by
    rw [o1]
    by_cases c : n = -4096
    · rw [cmp_eq c]; rfl
    · rw [cmp_gt (by omega)]; rfl
  have b2 : (FloatKind.f32.format.order (f32 n) 1140850688 == some .lt || FloatKind.f32.format.order (f32 n) 1140850688 == some .eq) = true := by
    rw [o2]
    by_cases c : n = 4096
    · rw [cmp_eq c]; rfl
    · rw [cmp_lt (by omega)]; rfl
  clear o1 o2 h1 h2
  go_enter Try.func99, Try.ntmps99
  go_wp2
  go_ret2
  exact ⟨rfl, rfl⟩

/-- impl.toldMeasure beyond the measures. -/
theorem told_no (n : Int) (h1 : n < -4096 ∨ 4096 < n) (h2 : n.natAbs < 16777216) (w : World) : Calls Try.prog 99 #[.float .f32 (f32 n)] w fun e w' => e = .returned (.tuple #[.int .i64 0, .bool false]) ∧ w = w' := by
  have o1 := order32 n (-4096) h2 (by decide)
  have o2 := order32 n 4096 h2 (by decide)
  rw [en512] at o1
  rw [e512] at o2
  rcases h1 with h1 | h1
  · have b1 : (FloatKind.f32.format.order (f32 n) 3288334336 == some .gt || FloatKind.f32.format.order (f32 n) 3288334336 == some .eq) = false := by
      rw [o1, cmp_lt (by omega)]; rfl
    clear o1 o2 h1 h2
    go_enter Try.func99, Try.ntmps99
    go_wp2
    go_ret2
    exact ⟨rfl, rfl⟩
  · have b1 : (FloatKind.f32.format.order (f32 n) 3288334336 == some .gt || FloatKind.f32.format.order (f32 n) 3288334336 == some .eq) = true := by
      rw [o1, cmp_gt (by omega)]; rfl
    have b2 : (FloatKind.f32.format.order (f32 n) 1140850688 == some .lt || FloatKind.f32.format.order (f32 n) 1140850688 == some .eq) = false := by
      rw [o2, cmp_gt (by omega)]; rfl
    clear o1 o2 h1 h2
    go_enter Try.func99, Try.ntmps99
    go_wp2
    go_ret2
    exact ⟨rfl, rfl⟩

/-- impl.toldMeasure at the zero with a sign. -/
theorem told_zero (w : World) : Calls Try.prog 99 #[.float .f32 2147483648] w fun e w' => e = .returned (.tuple #[.int .i64 0, .bool true]) ∧ w = w' := by
  have b1 : (FloatKind.f32.format.order 2147483648 3288334336 == some .gt || FloatKind.f32.format.order 2147483648 3288334336 == some .eq) = true := by decide
  have b2 : (FloatKind.f32.format.order 2147483648 1140850688 == some .lt || FloatKind.f32.format.order 2147483648 1140850688 == some .eq) = true := by decide
  have m : ∀ w, (binOp .mul 93 (.float .f32 2147483648) (.float .f32 1090519040)).run Try.prog w = .ok (.float .f32 2147483648) w := fun w => run_float_arith w .mul _ .f32 _ _ _ (by decide)
  have t : ∀ w, (convert 93 3 (.float .f32 2147483648)).run Try.prog w = .ok (.int .i64 0) w := fun w => run_convert_float_int w _ _ .f32 .i64 _ 0 (by kernel_rfl) (by kernel_rfl) (by decide)
  go_enter Try.func99, Try.ntmps99
  go_wp2
  go_ret2
  exact ⟨rfl, rfl⟩

end Go.Proofs.Ytokncfhpmjohdae.Meas
namespace Go.Proofs.Ytokncfhpmjohdae.Cm
open Go.RowKit Go.Proofs.Ytokncfhpmjohdae.Flt Go.Proofs.Ytokncfhpmjohdae.Cx

/-- The word tells n eighths. -/
def I32 (n : Int) (w : Nat) : Prop := Is Ieee.single n (-3) w
def I64 (n : Int) (w : Nat) : Prop := Is Ieee.double n (-3) w

theorem i32_f32 (n : Int) : I32 n (Meas.f32 n) := is_fl _ _ _

theorem s32 (n : Int) (h : n.natAbs < 16777216) : Fits Ieee.single n (-3) := fits_single _ _ h (by decide) (by decide)
theorem s64 (n : Int) (h : n.natAbs < 16777216) : Fits Ieee.double n (-3) := fits_double _ _ (by omega) (by decide) (by decide)

variable {P : Program}

theorem run_float_float {k l : FloatKind} (hkl : k ≠ l) (x : Nat) (w : World) (s : Bool) (m : Nat) (e : Int) (s' : Bool) (m' : Nat) (e' : Int) (h : k.format.read x = .number s m e) (h' : l.format.read (l.format.write (k.format.read x)) = .number s' m' e') :
    (Op.Complex.conv k x l).run P w = .ok (l.format.write (k.format.read x)) w := by
  have h2 : l.decode (l.encode (.number s m e)) = .number s' m' e' := by rw [← h]; exact h'
  unfold Op.Complex.conv
  rw [if_neg hkl]
  simp only [Conv.floatToFloat, if_neg hkl, show k.decode x = .number s m e from h]
  rw [h2, h]
  rfl

theorem conv_up {n : Int} {x : Nat} (hn : n.natAbs < 16777216) (h : I32 n x) : ∃ y, (∀ w, (Op.Complex.conv .f32 x .f64).run P w = .ok y w) ∧ I64 n y := by
  have hy : I64 n (Ieee.double.write (Ieee.single.read x)) := conv_is (s32 n hn) h
  obtain ⟨s, m, e, h1⟩ := number_is (s32 n hn) h
  obtain ⟨s', m', e', h2⟩ := number_is (s64 n hn) hy
  exact ⟨_, fun w => run_float_float (by decide) x w s m e s' m' e' h1 h2, hy⟩

theorem conv_down {n : Int} {x : Nat} (hn : n.natAbs < 16777216) (h : I64 n x) : ∃ y, (∀ w, (Op.Complex.conv .f64 x .f32).run P w = .ok y w) ∧ I32 n y := by
  have hy : I32 n (Ieee.single.write (Ieee.double.read x)) := conv_is (s64 n hn) h
  obtain ⟨s, m, e, h1⟩ := number_is (s64 n hn) h
  obtain ⟨s', m', e', h2⟩ := number_is (s32 n hn) hy
  exact ⟨_, fun w => run_float_float (by decide) x w s m e s' m' e' h1 h2, hy⟩

/-- The word tells the whole number n. -/
def W64 (n : Int) (w : Nat) : Prop := Is Ieee.double n 0 w

theorem mul64 {a b : Int} {x y : Nat} (ha : a.natAbs < 16777216) (hb : b.natAbs < 2) (hx : I64 a x) (hy : W64 b y) : ∃ r, (∀ w, (Op.Complex.mul x y).run P w = .ok r w) ∧ I64 (a * b) r := by
  obtain ⟨r, h1, h2⟩ := mul_is (s64 a ha) (fits_double b 0 (by omega) (by decide) (by decide)) hx hy
  exact ⟨r, fun w => run_carith w h1, h2⟩
theorem add64 {a b : Int} {x y : Nat} (ha : a.natAbs < 16777216) (hb : b.natAbs < 16777216) (hx : I64 a x) (hy : I64 b y) : ∃ r, (∀ w, (Op.Complex.add x y).run P w = .ok r w) ∧ I64 (a + b) r := by
  obtain ⟨r, h1, h2⟩ := add_is (s64 a ha) (s64 b hb) hx hy
  exact ⟨r, fun w => run_carith w h1, h2⟩
theorem sub64 {a b : Int} {x y : Nat} (ha : a.natAbs < 16777216) (hb : b.natAbs < 16777216) (hx : I64 a x) (hy : I64 b y) : ∃ r, (∀ w, (Op.Complex.sub x y).run P w = .ok r w) ∧ I64 (a - b) r := by
  obtain ⟨r, h1, h2⟩ := sub_is (s64 a ha) (s64 b hb) hx hy
  exact ⟨r, fun w => run_carith w h1, h2⟩

/-- A whole number, -1 to 1, as a single and as a double. -/
def U32 (n : Int) (w : Nat) : Prop := Is Ieee.single n 0 w
theorem unit_up {n : Int} {x : Nat} (hn : n.natAbs < 2) (h : U32 n x) : ∃ y, (∀ w, (Op.Complex.conv .f32 x .f64).run P w = .ok y w) ∧ W64 n y := by
  have f1 : Fits Ieee.single n 0 := fits_single _ _ (by omega) (by decide) (by decide)
  have f2 : Fits Ieee.double n 0 := fits_double _ _ (by omega) (by decide) (by decide)
  have hy : W64 n (Ieee.double.write (Ieee.single.read x)) := conv_is f1 h
  obtain ⟨s, m, e, h1⟩ := number_is f1 h
  obtain ⟨s', m', e', h2⟩ := number_is f2 hy
  exact ⟨_, fun w => run_float_float (by decide) x w s m e s' m' e' h1 h2, hy⟩

theorem abs_mul {a b : Int} (ha : a.natAbs < 8388608) (hb : b.natAbs < 2) : (a * b).natAbs < 8388608 := by
  rw [Int.natAbs_mul]
  have : b.natAbs = 0 ∨ b.natAbs = 1 := by omega
  rcases this with h | h <;> rw [h] <;> omega

/-- A product with a complex number whose parts are -1 to 1. -/
theorem cmul {a b c d : Int} {x y u v : Nat} (ha : a.natAbs < 8388608) (hb : b.natAbs < 8388608) (hc : c.natAbs < 2) (hd : d.natAbs < 2) (hx : I32 a x) (hy : I32 b y) (hu : U32 c u) (hv : U32 d v) :
    ∃ re im, (∀ t w, (binOp .mul t (.complex .f32 x y) (.complex .f32 u v)).run P w = .ok (.complex .f32 re im) w) ∧ I32 (a * c - b * d) re ∧ I32 (a * d + b * c) im := by
  obtain ⟨x', cx, hx'⟩ := conv_up (P := P) (by omega) hx
  obtain ⟨y', cy, hy'⟩ := conv_up (P := P) (by omega) hy
  obtain ⟨u', cu, hu'⟩ := unit_up (P := P) hc hu
  obtain ⟨v', cv, hv'⟩ := unit_up (P := P) hd hv
  have n1 := abs_mul ha hc
  have n2 := abs_mul hb hd
  have n3 := abs_mul ha hd
  have n4 := abs_mul hb hc
  obtain ⟨r1, m1, i1⟩ := mul64 (P := P) (by omega) hc hx' hu'
  obtain ⟨r2, m2, i2⟩ := mul64 (P := P) (by omega) hd hy' hv'
  obtain ⟨r3, m3, i3⟩ := mul64 (P := P) (by omega) hd hx' hv'
  obtain ⟨r4, m4, i4⟩ := mul64 (P := P) (by omega) hc hy' hu'
  obtain ⟨r5, m5, i5⟩ := sub64 (P := P) (by omega) (by omega) i1 i2
  obtain ⟨r6, m6, i6⟩ := add64 (P := P) (by omega) (by omega) i3 i4
  obtain ⟨re, c5, j5⟩ := conv_down (P := P) (by omega) i5
  obtain ⟨im, c6, j6⟩ := conv_down (P := P) (by omega) i6
  refine ⟨re, im, fun t w => ?_, j5, j6⟩
  simp [binOp, Op.complexOp, Op.Complex.product, cx, cy, cu, cv, m1, m2, m3, m4, m5, m6, c5, c6]

theorem mul64u {a b : Int} {x y : Nat} (ha : a.natAbs < 2) (hb : b.natAbs < 16777216) (hx : W64 a x) (hy : I64 b y) : ∃ r, (∀ w, (Op.Complex.mul x y).run P w = .ok r w) ∧ I64 (a * b) r := by
  obtain ⟨r, h1, h2⟩ := mul_is (fits_double a 0 (by omega) (by decide) (by decide)) (s64 b hb) hx hy
  exact ⟨r, fun w => run_carith w h1, by rw [Int.zero_add] at h2; exact h2⟩

/-- A unit times a complex number. -/
theorem cmulU {a b c d : Int} {x y u v : Nat} (ha : a.natAbs < 8388608) (hb : b.natAbs < 8388608) (hc : c.natAbs < 2) (hd : d.natAbs < 2) (hx : I32 a x) (hy : I32 b y) (hu : U32 c u) (hv : U32 d v) :
    ∃ re im, (∀ t w, (binOp .mul t (.complex .f32 u v) (.complex .f32 x y)).run P w = .ok (.complex .f32 re im) w) ∧ I32 (c * a - d * b) re ∧ I32 (c * b + d * a) im := by
  obtain ⟨x', cx, hx'⟩ := conv_up (P := P) (by omega) hx
  obtain ⟨y', cy, hy'⟩ := conv_up (P := P) (by omega) hy
  obtain ⟨u', cu, hu'⟩ := unit_up (P := P) hc hu
  obtain ⟨v', cv, hv'⟩ := unit_up (P := P) hd hv
  have n1 := abs_mul ha hc
  have n2 := abs_mul hb hd
  have n3 := abs_mul ha hd
  have n4 := abs_mul hb hc
  rw [Int.mul_comm] at n1 n2 n3 n4
  obtain ⟨r1, m1, i1⟩ := mul64u (P := P) hc (by omega) hu' hx'
  obtain ⟨r2, m2, i2⟩ := mul64u (P := P) hd (by omega) hv' hy'
  obtain ⟨r3, m3, i3⟩ := mul64u (P := P) hc (by omega) hu' hy'
  obtain ⟨r4, m4, i4⟩ := mul64u (P := P) hd (by omega) hv' hx'
  obtain ⟨r5, m5, i5⟩ := sub64 (P := P) (by omega) (by omega) i1 i2
  obtain ⟨r6, m6, i6⟩ := add64 (P := P) (by omega) (by omega) i3 i4
  obtain ⟨re, c5, j5⟩ := conv_down (P := P) (by omega) i5
  obtain ⟨im, c6, j6⟩ := conv_down (P := P) (by omega) i6
  refine ⟨re, im, fun t w => ?_, j5, j6⟩
  simp [binOp, Op.complexOp, Op.Complex.product, cx, cy, cu, cv, m1, m2, m3, m4, m5, m6, c5, c6]

theorem csum (op : BinOp) (sg : Int) (hop : op = .add ∧ sg = 1 ∨ op = .sub ∧ sg = -1) {a b c d : Int} {x y u v : Nat} (ha : a.natAbs < 8388608) (hb : b.natAbs < 8388608) (hc : c.natAbs < 8388608) (hd : d.natAbs < 8388608) (hx : I32 a x) (hy : I32 b y) (hu : I32 c u) (hv : I32 d v) :
    ∃ re im, (∀ t w, (binOp op t (.complex .f32 x y) (.complex .f32 u v)).run P w = .ok (.complex .f32 re im) w) ∧ I32 (a + sg * c) re ∧ I32 (b + sg * d) im := by
  rcases hop with ⟨rfl, rfl⟩ | ⟨rfl, rfl⟩
  · obtain ⟨re, h1, j1⟩ := add_is (s32 a (by omega)) (s32 c (by omega)) hx hu
    obtain ⟨im, h2, j2⟩ := add_is (s32 b (by omega)) (s32 d (by omega)) hy hv
    refine ⟨re, im, fun t w => run_complex_sum w .add (Or.inl rfl) t .f32 x y u v re im ?_, by rw [Int.one_mul]; exact j1, by rw [Int.one_mul]; exact j2⟩
    show ((Ieee.single.add x u).bind fun re => (Ieee.single.add y v).bind fun im => some (re, im)) = _
    rw [h1, h2]; rfl
  · obtain ⟨re, h1, j1⟩ := sub_is (s32 a (by omega)) (s32 c (by omega)) hx hu
    obtain ⟨im, h2, j2⟩ := sub_is (s32 b (by omega)) (s32 d (by omega)) hy hv
    refine ⟨re, im, fun t w => run_complex_sum w .sub (Or.inr rfl) t .f32 x y u v re im ?_, by rw [show a + -1 * c = a - c by omega]; exact j1, by rw [show b + -1 * d = b - d by omega]; exact j2⟩
    show ((Ieee.single.sub x u).bind fun re => (Ieee.single.sub y v).bind fun im => some (re, im)) = _
    rw [h1, h2]; rfl

theorem u32_0 : U32 0 0 := ⟨false, by decide, by decide⟩
theorem u32_1 : U32 1 1065353216 := ⟨false, by decide, by decide⟩
theorem u32_m1 : U32 (-1) 3212836864 := ⟨true, by decide, by decide⟩

/-- A quarter turn. -/
theorem quarter {a b : Int} {x y : Nat} (ha : a.natAbs < 8388608) (hb : b.natAbs < 8388608) (hx : I32 a x) (hy : I32 b y) :
    ∃ re im, (∀ t w, (binOp .mul t (.complex .f32 x y) (.complex .f32 0 1065353216)).run P w = .ok (.complex .f32 re im) w) ∧ I32 (-b) re ∧ I32 a im := by
  obtain ⟨re, im, h, h1, h2⟩ := cmul (P := P) ha hb (c := 0) (d := 1) (by decide) (by decide) hx hy u32_0 u32_1
  exact ⟨re, im, h, by rw [show -b = a * 0 - b * 1 by omega]; exact h1, by rw [show a = a * 1 + b * 0 by omega]; exact h2⟩

/-- Such a word is the word itself, or the zero with a sign. -/
theorem i32_or {n : Int} {x : Nat} (h : I32 n x) : x = Meas.f32 n ∨ (n = 0 ∧ x = 2147483648) := by
  obtain ⟨s, hs, rfl⟩ := h
  by_cases hn : n = 0
  · subst hn
    cases s
    · exact Or.inl rfl
    · exact Or.inr ⟨rfl, by decide⟩
  · left; rw [hs hn]; rfl

def ms (x : Int) : Bool := decide (-4096 ≤ x) && decide (x ≤ 4096)
theorem ms_yes {x : Int} (h1 : -4096 ≤ x) (h2 : x ≤ 4096) : ms x = true := by unfold ms; rw [decide_eq_true h1, decide_eq_true h2]; rfl
theorem ms_no {x : Int} (h : x < -4096 ∨ 4096 < x) : ms x = false := by
  unfold ms
  rcases h with h | h
  · rw [decide_eq_false (by omega)]; rfl
  · rw [decide_eq_false (p := x ≤ 4096) (by omega), Bool.and_false]
theorem ms_iff {x : Int} : ms x = true ↔ -4096 ≤ x ∧ x ≤ 4096 := by unfold ms; rw [Bool.and_eq_true, decide_eq_true_eq, decide_eq_true_eq]

/-- impl.toldMeasure, at every word that tells eighths. -/
theorem told {n : Int} {x : Nat} (hn : n.natAbs < 16777216) (h : I32 n x) (w : World) :
    Calls Try.prog 99 #[.float .f32 x] w fun e w' => e = .returned (.tuple #[.int .i64 (if ms n then n else 0), .bool (ms n)]) ∧ w = w' := by
  rcases i32_or h with rfl | ⟨rfl, rfl⟩
  · by_cases c : -4096 ≤ n ∧ n ≤ 4096
    · rw [ms_yes c.1 c.2]; exact Meas.told n c.1 c.2 w
    · rw [ms_no (by omega)]; exact Meas.told_no n (by omega) hn w
  · exact Meas.told_zero w

end Go.Proofs.Ytokncfhpmjohdae.Cm
namespace Go.Proofs.Ytokncfhpmjohdae.Pl
open Go.RowKit Go.Proofs.Ytokncfhpmjohdae.Cm
set_option linter.unusedVariables false

theorem and3 (n : Int) : bits .and .i64 n 3 = n % 4 := by
  unfold bits
  have hb : IntKind.i64.bits = 64 := rfl
  simp only [IntKind.wrap, BitVec.toNat_and, BitVec.toNat_ofInt]
  have h1 : ((n % ((2 ^ IntKind.i64.bits : Nat) : Int)).toNat &&& ((3 : Int) % ((2 ^ IntKind.i64.bits : Nat) : Int)).toNat) = (n % 4).toNat := by
    rw [hb]
    have e : ((3 : Int) % ((2 ^ 64 : Nat) : Int)).toNat = 2 ^ 2 - 1 := by decide
    rw [e, Nat.and_two_pow_sub_one_eq_mod]
    omega
  rw [h1, hb]
  have hy : ((n % 4).toNat : Int) = n % 4 := by omega
  rw [hy]
  have h2 : (n % 4) % 2 ^ 64 = n % 4 := by omega
  rw [h2]
  split
  · rename_i h
    have h3 := (Bool.and_eq_true_iff.1 h).2
    have := of_decide_eq_true h3
    omega
  · rfl

theorem tmod4 (n : Int) : n.tmod 4 = if n % 4 ≠ 0 ∧ n < 0 then n % 4 - 4 else n % 4 := by
  rcases Int.lt_or_le n 0 with h | h
  · have : n.tmod 4 = -((-n).tmod 4) := by rw [Int.neg_tmod, Int.neg_neg]
    rw [this, Int.tmod_eq_emod_of_nonneg (by omega)]
    split <;> omega
  · rw [Int.tmod_eq_emod_of_nonneg h, if_neg (by omega)]

theorem isMeasureI (x : Int) (w : World) : Calls Try.prog 69 #[.int .i64 x] w fun e w' => e = .returned (.bool (ms x)) ∧ w = w' := by
  go_enter Try.func69, Try.ntmps69
  go_wp2
  all_goals go_returns
  · rename_i h
    refine ⟨?_, rfl⟩
    show Ending.returned (.bool (decide (x ≤ 4096))) = _
    unfold ms; rw [decide_eq_true h]; rfl
  · rename_i h
    refine ⟨?_, rfl⟩
    show Ending.returned (.bool false) = _
    rw [ms_no (by omega)]
theorem isMeasureS (x : Int) (w : World) : Calls Try.prog 66 #[.int .i64 x] w fun e w' => e = .returned (.bool (ms x)) ∧ w = w' := by
  go_enter Try.func66, Try.ntmps66
  go_wp2
  all_goals go_returns
  · rename_i h
    refine ⟨?_, rfl⟩
    show Ending.returned (.bool (decide (x ≤ 4096))) = _
    unfold ms; rw [decide_eq_true h]; rfl
  · rename_i h
    refine ⟨?_, rfl⟩
    show Ending.returned (.bool false) = _
    rw [ms_no (by omega)]

/-- X behind k quarter turns, and Y. -/
def tx : Nat → Int → Int → Int
  | 0, x, _ => x
  | 1, _, y => -y
  | 2, x, _ => -x
  | _, _, y => y
def ty : Nat → Int → Int → Int
  | 0, _, y => y
  | 1, x, _ => x
  | 2, _, y => -y
  | _, x, _ => -x

theorem mod4_cases (n : Int) : n % 4 = 0 ∨ n % 4 = 1 ∨ n % 4 = 2 ∨ n % 4 = 3 := by omega

end Go.Proofs.Ytokncfhpmjohdae.Pl
namespace Go.Proofs.Ytokncfhpmjohdae.Pw
open Go.RowKit Go.Proofs.Ytokncfhpmjohdae.Cm Go.Proofs.Ytokncfhpmjohdae.Pl Go.Proofs.Ytokncfhpmjohdae.Str
set_option linter.unusedVariables false

/-- The memory of a place that a call has laid. -/
abbrev cell2 (x y : Int) : Obj := .cells #[.int .i64 x, .int .i64 y] 25

set_option maxRecDepth 100000 in
theorem complexOf (x y : Int) (hx : x.natAbs < 16777216) (hy : y.natAbs < 16777216) (w : World) :
    Calls Try.prog 72 #[.agg #[.int .i64 x, .int .i64 y]] w fun e w' => e = .returned (.complex .f32 (Meas.f32 x) (Meas.f32 y)) ∧ w' = (w.alloc (.cells #[.int .i64 x, .int .i64 y] 25)).drew := by
  have c1 := Lib.hid (Meas.wholesOf x hx)
  have c2 := Lib.hid (Meas.wholesOf y hy)
  clear hx hy
  go_enter Try.func72, Try.ntmps72
  go_wp2_with fail
  go_region_held3 (fun w' => w'.cell? ⟨w.heap.size, 0, none⟩ = some (.int .i64 x) ∧ w'.cell? ⟨w.heap.size, 1, none⟩ = some (.int .i64 y)) (go_keep)
    (first
      | (go_at_call 94; refine (c1.out _).mono ?_; rintro e w' ⟨rfl, rfl⟩)
      | (go_at_call 94; refine (c2.out _).mono ?_; rintro e w' ⟨rfl, rfl⟩))
  go_wp2_with fail
  go_returns
  exact ⟨rfl, rfl⟩

theorem toldPlace {a b : Int} {re im : Nat} (ha : a.natAbs < 16777216) (hb : b.natAbs < 16777216) (h1 : I32 a re) (h2 : I32 b im) (w : World) :
    Calls Try.prog 75 #[.complex .f32 re im] w fun e w' => e = .returned (.tuple #[.agg #[.int .i64 (if ms a && ms b then a else 0), .int .i64 (if ms a && ms b then b else 0)], .bool (ms a && ms b)]) ∧ w' = w.alloc (.cells #[.int .i64 (if ms a && ms b then a else 0), .int .i64 (if ms a && ms b then b else 0)] 25) := by
  have c1 := told ha h1
  have c2 := told hb h2
  generalize ms a = p at *
  generalize ms b = q at *
  obtain ⟨x, hx⟩ : ∃ x, (if p = true then a else 0) = x := ⟨_, rfl⟩
  obtain ⟨y, hy⟩ : ∃ y, (if q = true then b else 0) = y := ⟨_, rfl⟩
  rw [hx] at c1
  rw [hy] at c2
  have c1 := Lib.hid c1
  have c2 := Lib.hid c2
  clear ha hb h1 h2
  have key : Calls Try.prog 75 #[.complex .f32 re im] w fun e w' => e = .returned (.tuple #[.agg #[.int .i64 (if p && q then x else 0), .int .i64 (if p && q then y else 0)], .bool (p && q)]) ∧ w' = w.alloc (.cells #[.int .i64 (if p && q then x else 0), .int .i64 (if p && q then y else 0)] 25) := by
    clear hx hy
    cases p <;> cases q
    all_goals
      go_enter Try.func75, Try.ntmps75
      go_wp2_with fail
      refine (c1.out _).mono ?_
      rintro e w' ⟨rfl, rfl⟩
      go_wp2_with fail
      refine (c2.out _).mono ?_
      rintro e w' ⟨rfl, rfl⟩
      go_wp2_with fail
      go_returns
      exact ⟨rfl, rfl⟩
  cases p <;> cases q <;> simp at hx hy <;> subst hx hy <;> exact key

theorem isPlaceI (x y : Int) (w : World) : Calls Try.prog 37 #[.agg #[.int .i64 x, .int .i64 y]] w fun e w' => e = .returned (.bool (ms x && ms y)) ∧ w' = w.alloc (.cells #[.int .i64 x, .int .i64 y] 25) := by
  go_enter Try.func37, Try.ntmps37
  go_wp2_with (go_at_call 69; refine (isMeasureI _ _).mono ?_; rintro e w' ⟨rfl, rfl⟩)
  all_goals go_returns
  all_goals refine ⟨?_, rfl⟩
  all_goals simp [*]

theorem isPlaceS (x y : Int) (w : World) : Calls Try.prog 33 #[.agg #[.int .i64 x, .int .i64 y]] w fun e w' => e = .returned (.bool (ms x && ms y)) ∧ w' = w.alloc (.cells #[.int .i64 x, .int .i64 y] 25) := by
  go_enter Try.func33, Try.ntmps33
  go_wp2_with (go_at_call 66; refine (isMeasureS _ _).mono ?_; rintro e w' ⟨rfl, rfl⟩)
  all_goals go_returns
  all_goals refine ⟨?_, rfl⟩
  all_goals simp [*]

theorem eqPlace (x y : Int) (w : World) : Calls Try.prog 79 #[.agg #[.int .i64 x, .int .i64 y], .agg #[.int .i64 x, .int .i64 y]] w fun e w' => e = .returned (.bool true) ∧ w' = (w.alloc (.cells #[.int .i64 x, .int .i64 y] 25)).alloc (.cells #[.int .i64 x, .int .i64 y] 25) := by
  go_enter Try.func79, Try.ntmps79
  go_wp2
  all_goals go_returns
  exact ⟨rfl, rfl⟩

theorem txle {k : Nat} {x y B : Int} (hx : -B ≤ x ∧ x ≤ B) (hy : -B ≤ y ∧ y ≤ B) : -B ≤ tx k x y ∧ tx k x y ≤ B := by
  unfold tx; split <;> omega
theorem tyle {k : Nat} {x y B : Int} (hx : -B ≤ x ∧ x ≤ B) (hy : -B ≤ y ∧ y ≤ B) : -B ≤ ty k x y ∧ ty k x y ≤ B := by
  unfold ty; split <;> omega

/-- impl.toldPlace at words of a valid place. -/
theorem toldYes {a b : Int} {re im : Nat} (ha : -4096 ≤ a ∧ a ≤ 4096) (hb : -4096 ≤ b ∧ b ≤ 4096) (h1 : I32 a re) (h2 : I32 b im) (w : World) :
    Calls Try.prog 75 #[.complex .f32 re im] w fun e w' => e = .returned (.tuple #[.agg #[.int .i64 a, .int .i64 b], .bool true]) ∧ w' = w.alloc (.cells #[.int .i64 a, .int .i64 b] 25) := by
  have h := toldPlace (by omega) (by omega) h1 h2 w
  rw [ms_yes ha.1 ha.2, ms_yes hb.1 hb.2] at h
  exact h
/-- impl.toldPlace at words that tell no valid place. -/
theorem toldNot {a b : Int} {re im : Nat} (ha : a.natAbs < 16777216) (hb : b.natAbs < 16777216) (hn : (ms a && ms b) = false) (h1 : I32 a re) (h2 : I32 b im) (w : World) :
    Calls Try.prog 75 #[.complex .f32 re im] w fun e w' => e = .returned (.tuple #[.agg #[.int .i64 0, .int .i64 0], .bool false]) ∧ w' = w.alloc (.cells #[.int .i64 0, .int .i64 0] 25) := by
  have h := toldPlace ha hb h1 h2 w
  rw [hn] at h
  exact h

theorem pl_yes {x y : Int} (h : (ms x && ms y) = true) : (-4096 ≤ x ∧ x ≤ 4096) ∧ (-4096 ≤ y ∧ y ≤ 4096) := by
  rw [Bool.and_eq_true, ms_iff, ms_iff] at h
  exact h
theorem pl_mk {x y : Int} (hx : -4096 ≤ x ∧ x ≤ 4096) (hy : -4096 ≤ y ∧ y ≤ 4096) : (ms x && ms y) = true := by rw [ms_yes hx.1 hx.2, ms_yes hy.1 hy.2]; rfl

/-- IsPlace of both, at a known answer. -/
theorem isPlaceI_of {x y : Int} {b : Bool} (h : (ms x && ms y) = b) (w : World) : Calls Try.prog 37 #[.agg #[.int .i64 x, .int .i64 y]] w fun e w' => e = .returned (.bool b) ∧ w' = w.alloc (.cells #[.int .i64 x, .int .i64 y] 25) := h ▸ isPlaceI x y w
theorem isPlaceS_of {x y : Int} {b : Bool} (h : (ms x && ms y) = b) (w : World) : Calls Try.prog 33 #[.agg #[.int .i64 x, .int .i64 y]] w fun e w' => e = .returned (.bool b) ∧ w' = w.alloc (.cells #[.int .i64 x, .int .i64 y] 25) := h ▸ isPlaceS x y w

end Go.Proofs.Ytokncfhpmjohdae.Pw
namespace Go.Proofs.Ytokncfhpmjohdae.P2
open Go.RowKit Go.Proofs.Ytokncfhpmjohdae.Cm Go.Proofs.Ytokncfhpmjohdae.Pl Go.Proofs.Ytokncfhpmjohdae.Str Go.Proofs.Ytokncfhpmjohdae.Pw
set_option linter.unusedVariables false

theorem cell_below {W w' : World} {p : Addr} {v : Value} (hb : Below W.heap.size W w') (h : W.cell? p = some v) : w'.cell? p = some v := (hb.cell (World.block_lt_of_cell? W p h)).trans h

theorem cell_alloc {W : World} {p : Addr} {v : Value} {o : Obj} (h : W.cell? p = some v) : (W.alloc o).cell? p = some v := by
  rw [World.cell?_alloc_lt _ _ _ (World.block_lt_of_cell? W p h)]; exact h

theorem set2_0 {W : World} {b : Nat} {P Q : Value} (h0 : (W.cell? ⟨b, 0, none⟩).isSome = true) : ((W.setCell ⟨b, 0, none⟩ P).setCell ⟨b, 1, none⟩ Q).cell? ⟨b, 0, none⟩ = some P := by
  rw [World.cell?_setCell_other _ _ _ _ (by simp)]
  exact World.cell?_setCell_same' _ _ _ h0
theorem set2_1 {W : World} {b : Nat} {P Q : Value} (h1 : (W.cell? ⟨b, 1, none⟩).isSome = true) : ((W.setCell ⟨b, 0, none⟩ P).setCell ⟨b, 1, none⟩ Q).cell? ⟨b, 1, none⟩ = some Q := by
  refine World.cell?_setCell_same' _ _ _ ?_
  rw [World.cell?_setCell_other _ _ _ _ (by simp)]
  exact h1
theorem cell_here {W : World} {c : Array Value} {t : TypeId} {i : Nat} {v : Value} (h : c[i]? = some v) : (W.alloc (.cells c t)).cell? ⟨W.heap.size, i, none⟩ = some v := by
  rw [World.cell?_alloc_at _ _ _ _ rfl]; exact h

/-- A place and whether it is one. -/
abbrev told2 (b : Bool) (x y : Int) : Value := .tuple #[.agg #[.int .i64 (if b then x else 0), .int .i64 (if b then y else 0)], .bool b]

/-- impl.toldPlace in one word. -/
theorem toldOf {a b : Int} {c : Bool} {re im : Nat} (ha : a.natAbs < 16777216) (hb : b.natAbs < 16777216) (hn : (ms a && ms b) = c) (h1 : I32 a re) (h2 : I32 b im) (w : World) :
    Calls Try.prog 75 #[.complex .f32 re im] w fun e w' => e = .returned (told2 c a b) ∧ w' = w.alloc (.cells #[.int .i64 (if c then a else 0), .int .i64 (if c then b else 0)] 25) := by
  have h := toldPlace ha hb h1 h2 w
  rw [hn] at h
  exact h

/-- A world behind a call of which only 'Below' is known, as rules. -/
theorem open_below {W w' : World} (hb : Below W.heap.size W w') : (∀ p : Addr, p.block < W.heap.size → w'.cell? p = W.cell? p) ∧ (∀ p : Addr, p.block < W.heap.size → w'.frozen? p = W.frozen? p) ∧
    (∀ b, b < W.heap.size → b < w'.heap.size) ∧ (∀ b j, b < W.heap.size → b < w'.heap.size + j) ∧ (∀ b, b < W.heap.size → (b = w'.heap.size) = False) ∧ (∀ b j, b < W.heap.size → (b = w'.heap.size + j) = False) ∧ (∀ b, b < W.heap.size → (w'.heap.size = b) = False) ∧ (∀ b j, b < W.heap.size → (w'.heap.size + j = b) = False) := by
  have hs := hb.size
  refine ⟨fun p h => hb.cell h, fun p h => hb.frozen h, ?_, ?_, ?_, ?_, ?_, ?_⟩
  · intros; omega
  · intros; omega
  all_goals intros
  all_goals apply eq_false
  all_goals omega

/-- A place lies in a block of its own, behind all of W's memory; W's memory is as it was. -/
structure Lay (W wx : World) (k : Nat) (X Y : Int) : Prop where
  below : Below W.heap.size W wx
  old : W.heap.size ≤ k
  new : k < wx.heap.size
  c0 : wx.cell? ⟨k, 0, none⟩ = some (.int .i64 X)
  c1 : wx.cell? ⟨k, 1, none⟩ = some (.int .i64 Y)


end Go.Proofs.Ytokncfhpmjohdae.P2
namespace Go.Proofs.Ytokncfhpmjohdae.Gs
open Go.RowKit Go.ChangeShapes Go.WideShapes Go.WideElems Go.Deep Go.Proofs.Ytokncfhpmjohdae.Mem Go.Proofs.Ytokncfhpmjohdae.Rw Go.Proofs.Ytokncfhpmjohdae.Pw Go.Proofs.Ytokncfhpmjohdae.P2
set_option linter.unusedVariables false
set_option linter.unusedSimpArgs false

/-- The cells of a gust: when it begins, and its drift. -/
def gc (g : Int × Int × Int) : List Value := [.int .i64 g.1, .int .i64 g.2.1, .int .i64 g.2.2]
theorem gc_len (g : Int × Int × Int) : (gc g).length = 3 := rfl
/-- The cells of a list of gusts. -/
def gls (zs : List (Int × Int × Int)) : List Value := zs.flatMap gc
theorem gls_len (zs : List (Int × Int × Int)) : (gls zs).length = zs.length * 3 := flat_len gc_len zs
theorem gls_get {zs : List (Int × Int × Int)} {k : Nat} {z : Int × Int × Int} (h : zs[k]? = some z) :
    (gls zs)[k * 3]? = some (.int .i64 z.1) ∧ (gls zs)[k * 3 + 1]? = some (.int .i64 z.2.1) ∧ (gls zs)[k * 3 + 2]? = some (.int .i64 z.2.2) :=
  ⟨(flat_get gc_len h 0 (by omega)).trans rfl, (flat_get gc_len h 1 (by omega)).trans rfl, (flat_get gc_len h 2 (by omega)).trans rfl⟩
theorem gls_snoc (zs : List (Int × Int × Int)) (z : Int × Int × Int) : gls zs ++ [.int .i64 z.1, .int .i64 z.2.1, .int .i64 z.2.2] = gls (zs ++ [z]) := (flat_snoc zs z).symm

abbrev gv (f x y : Int) : Value := .agg #[.int .i64 f, .int .i64 x, .int .i64 y]
abbrev Gok (z : Int × Int × Int) : Prop := (Lit.int .i64 z.1).wf = true ∧ (Lit.int .i64 z.2.1).wf = true ∧ (Lit.int .i64 z.2.2).wf = true

section
variable {H : Type} {enc : TypeId × Value → H} {P : Program}
theorem take_gusts {W : World} {r : Reach} {b0 : Nat} {t e p : TypeId} {f0 f1 g0 g1 : Field} {v : Value} {d : DataW H} {ps : List MemPlace} (ht : P.underlying t = some (.slice e)) (he : P.underlying e = some (.struct #[f0, f1])) (ce : P.cellsOf e = 3)
    (o0 : f0.offset = 0) (o1 : f1.offset = 1) (c0 : P.cellsOf f0.type = 1) (h0 : P.underlying f0.type = some (.int .i64)) (h1 : f1.type = p)
    (hp : P.underlying p = some (.struct #[g0, g1])) (cp : P.cellsOf p = 2) (q0 : g0.offset = 0) (q1 : g1.offset = 1) (d0 : P.cellsOf g0.type = 1) (d1 : P.cellsOf g1.type = 1)
    (i0 : P.underlying g0.type = some (.int .i64)) (i1 : P.underlying g1.type = some (.int .i64))
    (hval : Value.okWide P W r b0 t v) (h : DataW.Trod enc P W 0 (fun _ => true) true t v d ps) :
    ∃ (A : Option Addr) (n c : Nat) (zs : List (Int × Int × Int)), v = .slice A n c ∧ zs.length = n ∧ n ≤ maxLen ∧ Rd W W.heap.size A (gls zs) ∧ ∀ z ∈ zs, Gok z := by
  refine take_rows (K := 3) (cells := gc) Gok gc_len (by omega) ht ce ?_ hval h
  intro fuel cs x hx hl
  match cs, hl with
  | [a, b, c], _ =>
    obtain ⟨y0, y1, n, _, _, k0, k1⟩ := trod_struct2 he hx
    rw [o0, c0] at k0
    rw [o1, h1, cp] at k1
    simp at k0 k1
    obtain ⟨z0, z1, m, _, _, l0, l1⟩ := trod_struct2 hp k1
    rw [q0, d0] at l0
    rw [q1, d1] at l1
    simp at l0 l1
    obtain ⟨f, e0, _, w0⟩ := DataW.trod_int h0 k0
    obtain ⟨x, e1, _, w1⟩ := DataW.trod_int i0 l0
    obtain ⟨y, e2, _, w2⟩ := DataW.trod_int i1 l1
    injection e0 with e0
    injection e1 with e1
    injection e2 with e2
    subst e0 e1 e2
    exact ⟨(f, x, y), rfl, w0, w1, w2⟩
end

theorem infoGust : (Try.prog.info? 137).map (fun i => (i.zero, i.size, i.bytes)) = some (some (.agg #[.int .i64 0, .int .i64 0, .int .i64 0]), 3, 24) := by kernel_rfl

theorem eqGust (f x y : Int) (w : World) : Calls Try.prog 102 #[gv f x y, gv f x y] w fun e w' => e = .returned (.bool true) ∧ w' = (((w.alloc (.cells #[.int .i64 f, .int .i64 x, .int .i64 y] 137)).alloc (.cells #[.int .i64 f, .int .i64 x, .int .i64 y] 137)).alloc (.cells #[.int .i64 x, .int .i64 y] 25)).alloc (.cells #[.int .i64 x, .int .i64 y] 25) := by
  go_enter Try.func102, Try.ntmps102
  go_wp2_with (go_at_call 79; ((with_reducible refine (eqPlace _ _ _).mono ?_); rintro e w' ⟨rfl, rfl⟩))
  all_goals go_returns
  all_goals exact ⟨rfl, rfl⟩

/-- What the copy leaves: a row of its own with these gusts; what was there is as it was. -/
def Copied (w : World) (n : Nat) (zs : List (Int × Int × Int)) (e : Ending) (w' : World) : Prop :=
  ∃ g, e = .returned (.slice (some ⟨g, 0, none⟩) n n) ∧ w.heap.size ≤ g ∧ w'.ownsRow w.heap.size 137 3 (.slice (some ⟨g, 0, none⟩) n n) n (gls zs) ∧ Below w.heap.size w w'

theorem filled_at {xs : List Value} {z : Value} {k j : Nat} (hk : k ≤ j) (hj : j < xs.length) : (filled xs z k)[j]? = some z := by
  unfold filled
  rw [List.getElem?_append_right (by rw [List.length_take]; omega), List.length_take, Nat.min_eq_left (by omega), List.getElem?_replicate, if_pos (by omega)]

set_option maxHeartbeats 2000000 in
theorem eqGustS (A B : Option Addr) (n c d : Nat) (zs : List (Int × Int × Int)) (H : Nat) (w : World) (hn : zs.length = n) (hb : n ≤ 1048576) (hH : H ≤ w.heap.size) (hr : Rd w H A (gls zs)) (hs : Rd w H B (gls zs)) :
    Calls Try.prog 78 #[.slice A n c, .slice B n d] w fun e w' => e = .returned (.bool true) ∧ Below w.heap.size w w' := by
  have HR := Lib.hid (hr.more hH)
  have HS := Lib.hid (hs.more hH)
  have HN := Lib.hid hn
  clear hr hs hn hH
  go_enter Try.func78, Try.ntmps78
  go_wp2
  go_loopw [5] (fun i wr => ∃ k : Nat, k ≤ n ∧ i = .int .i64 k ∧ Hid (Below w.heap.size w wr)) (fun i _ => n - (intOf i).toNat)
  case atStart => exact ⟨0, Nat.zero_le _, rfl, Lib.hid (Below.refl _ _)⟩
  case round =>
    obtain ⟨k, hk, rfl, BK⟩ := hrel
    by_cases hlt : k < n
    · have hkz : k < zs.length := by rw [HN.out]; exact hlt
      have hl : k * 3 < (gls zs).length := by rw [gls_len]; omega
      obtain ⟨z, hz⟩ : ∃ z, zs[k]? = some z := ⟨_, List.getElem?_eq_getElem hkz⟩
      obtain ⟨z0, z1, z2⟩ := gls_get hz
      obtain ⟨f, x, y⟩ := z
      obtain ⟨b1, o1, eA, _, g1⟩ := (HR.out.below BK.out).get hl
      obtain ⟨b2, o2, eB, _, g2⟩ := (HS.out.below BK.out).get hl
      have c1 : wr.cell? ⟨b1, o1 + k * 3, none⟩ = some (.int .i64 f) := g1 _ _ z0
      have c2 : wr.cell? ⟨b1, o1 + k * 3 + 1, none⟩ = some (.int .i64 x) := g1 _ _ z1
      have c3 : wr.cell? ⟨b1, o1 + k * 3 + 2, none⟩ = some (.int .i64 y) := g1 _ _ z2
      have c4 : wr.cell? ⟨b2, o2 + k * 3, none⟩ = some (.int .i64 f) := g2 _ _ z0
      have c5 : wr.cell? ⟨b2, o2 + k * 3 + 1, none⟩ = some (.int .i64 x) := g2 _ _ z1
      have c6 : wr.cell? ⟨b2, o2 + k * 3 + 2, none⟩ = some (.int .i64 y) := g2 _ _ z2
      clear g1 g2 hz hl hkz z0 z1 z2
      subst eA eB
      have hlt' : (k : Int) < (n : Int) := by omega
      have hk0 : (0 : Int) ≤ (k : Int) := by omega
      have p1 : b1 < wr.heap.size := World.block_lt_of_cell? wr _ c1
      have p2 : ∀ j, b1 < wr.heap.size + j := fun j => by omega
      have p3 : b2 < wr.heap.size := World.block_lt_of_cell? wr _ c4
      have p4 : ∀ j, b2 < wr.heap.size + j := fun j => by omega
      go_wp2_with fail
      go_region_held3 (fun w' => w'.cell? ⟨b1, o1 + k * 3, none⟩ = some (.int .i64 f) ∧ w'.cell? ⟨b1, o1 + k * 3 + 1, none⟩ = some (.int .i64 x) ∧ w'.cell? ⟨b1, o1 + k * 3 + 2, none⟩ = some (.int .i64 y) ∧ w'.cell? ⟨b2, o2 + k * 3, none⟩ = some (.int .i64 f) ∧ w'.cell? ⟨b2, o2 + k * 3 + 1, none⟩ = some (.int .i64 x) ∧ w'.cell? ⟨b2, o2 + k * 3 + 2, none⟩ = some (.int .i64 y)) (simp [go_sem, *])
        (first | (go_at_call 102; ((with_reducible refine (eqGust _ _ _ _).mono ?_); rintro e w' ⟨rfl, rfl⟩)))
      all_goals go_wp2_with fail
      all_goals go_roundw
      case rel => exact ⟨k + 1, by omega, by go_num, Lib.hid (BK.out.trans (Below.mono (by go_grown) BK.out.size))⟩
      case measure => simp [intOf]; omega
    · obtain rfl : k = n := by omega
      go_wp2
      go_ret
      exact ⟨rfl, BK.out⟩

/-- The marks are laid; what lies in other blocks is as it was. -/
def Laid (w : World) (base g n c k : Nat) (e : Ending) (w' : World) : Prop :=
  e = .returned (.int .i64 ((k : Int) + ((n * 3 : Nat) : Int))) ∧ w'.ownsRow base 137 3 (.slice (some ⟨g, 0, none⟩) n c) n (mk k (n * 3)) ∧ w.grownBy w' (some g)

set_option maxHeartbeats 2000000 in
theorem markGustS (base g n c k : Nat) (xs : List Value) (w : World) (hn : xs.length = n * 3) (hb : n ≤ 1048576) (hk : k ≤ 16777216) (hr : w.ownsRow base 137 3 (.slice (some ⟨g, 0, none⟩) n c) n xs) :
    Calls Try.prog 82 #[.slice (some ⟨g, 0, none⟩) n c, .int .i64 k] w (Laid w base g n c k) := by
  have HN := Lib.hid hn
  have R0 := Lib.hid (show w.ownsRow base 137 3 (.slice (some ⟨g, 0, none⟩) n c) n (marked k 0 xs) by rw [marked_zero]; exact hr)
  clear hn hr
  go_enter Try.func82, Try.ntmps82
  go_wp2_with fail
  go_loopw [1, 5] (fun q i wr => ∃ j : Nat, j ≤ n ∧ i = .int .i64 j ∧ q = .int .i64 ((k : Int) + ((j * 3 : Nat) : Int)) ∧ Hid (wr.ownsRow base 137 3 (.slice (some ⟨g, 0, none⟩) n c) n (marked k (j * 3) xs)) ∧ Hid (w.grownBy wr (some g))) (fun _ i _ => n - (intOf i).toNat)
  case atStart => exact ⟨0, Nat.zero_le _, rfl, by simp, R0, Lib.hid (grown_refl _ _)⟩
  case round =>
    obtain ⟨j, hj, rfl, rfl, RK, GK⟩ := hrel
    obtain ⟨q, hq⟩ : ∃ q : Nat, q = k + j * 3 := ⟨_, rfl⟩
    rw [show (k : Int) + ((j * 3 : Nat) : Int) = (q : Int) by omega]
    by_cases hlt : j < n
    · have HL := HN.out
      have R1 := RK.out
      obtain ⟨v0, z0⟩ : ∃ v, xs[j * 3]? = some v := ⟨_, List.getElem?_eq_getElem (by omega)⟩
      obtain ⟨v1, z1⟩ : ∃ v, xs[j * 3 + 1]? = some v := ⟨_, List.getElem?_eq_getElem (by omega)⟩
      obtain ⟨v2, z2⟩ : ∃ v, xs[j * 3 + 2]? = some v := ⟨_, List.getElem?_eq_getElem (by omega)⟩
      obtain ⟨r1, g1⟩ := R1.stored (j * 3) (.int .i64 ((k : Int) + ((j * 3 : Nat) : Int)))
      rw [marked_set (by omega)] at r1
      obtain ⟨r2, g2⟩ := r1.stored (j * 3 + 1) (.int .i64 ((k : Int) + ((j * 3 + 1 : Nat) : Int)))
      rw [marked_set (by omega)] at r2
      obtain ⟨r3, g3⟩ := r2.stored (j * 3 + 1 + 1) (.int .i64 ((k : Int) + ((j * 3 + 1 + 1 : Nat) : Int)))
      rw [marked_set (by omega)] at r3
      have c1 := (R1.cellAt (j * 3) (by omega)).trans (marked_get z0)
      have c2 := (r1.cellAt (j * 3 + 1) (by omega)).trans (marked_get z1)
      have c3 := (r2.cellAt (j * 3 + 2) (by omega)).trans (marked_get z2)
      have f1 := R1.frozenAt (j * 3)
      have f2 := r1.frozenAt (j * 3 + 1)
      have f3 := r2.frozenAt (j * 3 + 2)
      have RR := Lib.hid r3
      have GG := Lib.hid (grown_trans (grown_trans (grown_trans GK.out g1) g2) g3)
      rw [show (k : Int) + ((j * 3 : Nat) : Int) = (q : Int) by omega] at *
      rw [show (k : Int) + ((j * 3 + 1 : Nat) : Int) = (q : Int) + 1 by omega] at *
      rw [show (k : Int) + ((j * 3 + 1 + 1 : Nat) : Int) = (q : Int) + 1 + 1 by omega] at *
      have HQ := Lib.hid hq
      have hq8 : q ≤ 33554432 := by omega
      clear R0 R1 r1 r2 r3 g1 g2 g3 z0 z1 z2 HL RK GK hq
      go_wp2_with fail
      go_roundw
      case rel => exact ⟨j + 1, by omega, by go_num, by (have := HQ.out; congr 1; omega), by rw [show (j + 1) * 3 = j * 3 + 1 + 1 + 1 by omega]; exact RR, GG⟩
      case measure => simp [intOf]; omega
    · obtain rfl : j = n := by omega
      have F := Lib.hid (show wr.ownsRow base 137 3 (.slice (some ⟨g, 0, none⟩) j c) j (mk k (j * 3)) by
        have := RK.out
        rw [marked_all (by rw [HN.out]; exact Nat.le_refl _)] at this; exact this)
      have HQ := Lib.hid hq
      clear hq R0
      go_wp2_with fail
      go_ret
      exact ⟨by rw [HQ.out]; congr 1, F.out, GK.out⟩

set_option maxHeartbeats 2000000 in
theorem heldGustS (A : Option Addr) (n c k B : Nat) (w : World) (hb : n ≤ 1048576) (hk : k ≤ 16777216) (hr : Rd w B A (mk k (n * 3))) :
    Calls Try.prog 85 #[.slice A n c, .int .i64 k] w fun e w' => e = .returned (.int .i64 ((k : Int) + ((n * 3 : Nat) : Int))) ∧ w = w' := by
  have HR := Lib.hid hr
  clear hr
  go_enter Try.func85, Try.ntmps85
  go_wp2_with fail
  go_loop [1, 5] (fun q i => ∃ j : Nat, j ≤ n ∧ i = .int .i64 j ∧ q = .int .i64 ((k : Int) + ((j * 3 : Nat) : Int))) (fun _ i => n - (intOf i).toNat)
  case atStart => exact ⟨0, Nat.zero_le _, rfl, by simp⟩
  case round =>
    obtain ⟨j, hj, rfl, rfl⟩ := hrel
    obtain ⟨q, hq⟩ : ∃ q : Nat, q = k + j * 3 := ⟨_, rfl⟩
    rw [show (k : Int) + ((j * 3 : Nat) : Int) = (q : Int) by omega]
    by_cases hlt : j < n
    · obtain ⟨b, o, eA, hbl, hcell⟩ := HR.out.get (k := j * 3) (by rw [mk_len]; omega)
      have c1 := hcell (j * 3) _ (mk_get (by omega))
      have c2 := hcell (j * 3 + 1) _ (mk_get (by omega))
      have c3 := hcell (j * 3 + 2) _ (mk_get (by omega))
      rw [← Nat.add_assoc] at c2 c3
      rw [show (k : Int) + ((j * 3 : Nat) : Int) = (q : Int) by omega] at c1
      rw [show (k : Int) + ((j * 3 + 1 : Nat) : Int) = (q : Int) + 1 by omega] at c2
      rw [show (k : Int) + ((j * 3 + 2 : Nat) : Int) = (q : Int) + 1 + 1 by omega] at c3
      have HQ := Lib.hid hq
      have hq8 : q ≤ 33554432 := by omega
      clear hcell hbl hq
      subst eA
      go_wp2_with fail
      go_round
      case rel => exact ⟨j + 1, by omega, by go_num, by (have := HQ.out; congr 1; omega)⟩
      case measure => simp [intOf]; omega
    · obtain rfl : j = n := by omega
      have HQ := Lib.hid hq
      clear hq
      go_wp2_with fail
      go_ret
      exact ⟨by rw [HQ.out]; congr 1, rfl⟩

end Go.Proofs.Ytokncfhpmjohdae.Gs
namespace Go.Proofs.Ytokncfhpmjohdae.Sp
open Go.RowKit Go.ChangeShapes Go.WideShapes Go.WideElems Go.Joins Go.Deep Go.Proofs.Ytokncfhpmjohdae.Mem Go.Proofs.Ytokncfhpmjohdae.Rw
set_option linter.unusedVariables false
set_option linter.unusedSimpArgs false

/-- A show as a value. -/
abbrev sv (A0 : Option Addr) (n0 c0 : Nat) (A1 : Option Addr) (n1 c1 : Nat) (A2 : Option Addr) (n2 c2 : Nat) (T : Int) : Value := .agg #[.slice A0 n0 c0, .slice A1 n1 c1, .slice A2 n2 c2, .int .i64 T]
abbrev sc (A0 : Option Addr) (n0 c0 : Nat) (A1 : Option Addr) (n1 c1 : Nat) (A2 : Option Addr) (n2 c2 : Nat) (T : Int) : Array Value := #[.slice A0 n0 c0, .slice A1 n1 c1, .slice A2 n2 c2, .int .i64 T]

section
variable {H : Type} {enc : TypeId × Value → H} {P : Program} {G : Type} {cells : G → List Value} {K : Nat}
/-- A slice of records in a field. -/
theorem rows_in {W : World} {t e : TypeId} {v : Value} {fuel : Nat} {x : DataW H × List MemPlace} [Inhabited G] (good : G → Prop) (hl : ∀ g, (cells g).length = K) (hK : 0 < K)
    (ht : P.underlying t = some (.slice e)) (ce : P.cellsOf e = K)
    (hel : ∀ fuel cs x, DataW.trod enc P W 0 (fun _ => true) true fuel e cs = some x → cs.length = K → ∃ g, cs = cells g ∧ good g)
    (hf : DataW.trod enc P W 0 (fun _ => true) true fuel t [v] = some x) :
    ∃ (A : Option Addr) (n c : Nat) (zs : List G), v = .slice A n c ∧ zs.length = n ∧ n ≤ maxLen ∧ Rd W W.heap.size A (zs.flatMap cells) ∧ ∀ z ∈ zs, good z := by
  rcases open_slice ht hf with ⟨hcs, _⟩ | ⟨a, len, cap', m, n, D, Pl, hcs, _, hlc, hm, hmm, _, hx⟩
  · injection hcs with hcs
    subst hcs
    exact ⟨none, 0, 0, [], rfl, rfl, Nat.zero_le _, Rd.nil _ _ _, fun _ h => by cases h⟩
  · injection hcs with hcs
    subst hcs
    simp only [if_true] at hmm
    subst hmm
    have each : ∀ i, i < len → ∃ g : G, (∀ j, j < K → W.cell? (a.add (i * K + j)) = (cells g)[j]?) ∧ good g := by
      intro i hi
      obtain ⟨cs', h1, h2⟩ := hx i (by omega)
      rw [ce] at h1
      obtain ⟨_, hlen, hcell⟩ := World.cells?_some h1
      obtain ⟨g, rfl, hg⟩ := hel _ _ _ h2 hlen
      refine ⟨g, fun j hj => ?_, hg⟩
      rw [← add_add]; exact hcell j hj
    obtain ⟨q, hq⟩ := choose_lt each
    refine ⟨some a, len, _, (List.range len).map q, rfl, by simp, by omega, ?_, ?_⟩
    · by_cases hz : len = 0
      · subst hz; exact Or.inl rfl
      · obtain ⟨b, o, spot⟩ := a
        have hk0 : (cells (q 0))[0]? = some ((cells (q 0))[0]'(by rw [hl]; exact hK)) := List.getElem?_eq_getElem _
        have c00 := ((hq 0 (by omega)).1 0 hK).trans hk0
        have hspot : spot = none := by simpa [Addr.add] using World.cell?_spot c00
        subst hspot
        have hb := World.block_lt_of_cell? W _ c00
        refine Or.inr ⟨b, o, rfl, by simpa [Addr.add] using hb, fun j v hv => ?_⟩
        have hj : j < (((List.range len).map q).flatMap cells).length := (List.getElem?_eq_some_iff.1 hv).1
        rw [flat_len hl] at hj
        simp only [List.length_map, List.length_range] at hj
        have hi : j / K < len := Nat.div_lt_of_lt_mul (by rw [Nat.mul_comm]; exact hj)
        have hr : j % K < K := Nat.mod_lt _ hK
        have hg := flat_get hl (zs := (List.range len).map q) (k := j / K) (z := q (j / K)) (by simp [hi]) (j % K) hr
        have k0 := (hq (j / K) hi).1 (j % K) hr
        have ej : j / K * K + j % K = j := by rw [Nat.mul_comm]; exact Nat.div_add_mod j K
        rw [ej] at hg k0
        rw [hv] at hg
        rw [← hg] at k0
        rw [← add_plain]; exact k0
    · intro z hz
      obtain ⟨i, hi, rfl⟩ := List.mem_map.1 hz
      exact (hq i (List.mem_range.1 hi)).2
end

section
variable {H : Type} {enc : TypeId × Value → H}
end
end Go.Proofs.Ytokncfhpmjohdae.Sp
namespace Go.Proofs.Ytokncfhpmjohdae.Dv
open Go.RowKit Go.Proofs.Ytokncfhpmjohdae.Dd Go.Proofs.Ytokncfhpmjohdae.Pw
set_option linter.unusedVariables false
set_option linter.unusedSimpArgs false

set_option maxHeartbeats 1000000 in
theorem eqDevice (n : ByteArray) (k : Int) (l : ByteArray) (x y h t m : Int) (w : World) : Calls Try.prog 100 #[va n k l x y h t m, va n k l x y h t m] w fun e w' => e = .returned (.bool true) ∧ w' = (((w.alloc (.cells (ca n k l x y h t m) 27)).alloc (.cells (ca n k l x y h t m) 27)).alloc (.cells #[.int .i64 x, .int .i64 y] 25)).alloc (.cells #[.int .i64 x, .int .i64 y] 25) := by
  have h1 : (n.toList == n.toList) = true := by simp
  have h2 : (l.toList == l.toList) = true := by simp
  go_enter Try.func100, Try.ntmps100
  go_wp2_with (go_at_call 79; ((with_reducible refine (eqPlace _ _ _).mono ?_); rintro e w' ⟨rfl, rfl⟩))
  all_goals go_returns
  all_goals exact ⟨rfl, rfl⟩

end Go.Proofs.Ytokncfhpmjohdae.Dv
