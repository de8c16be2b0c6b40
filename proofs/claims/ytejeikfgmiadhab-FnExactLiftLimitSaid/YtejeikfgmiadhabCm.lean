/- What the program's complex operations answer at words that tell whole eighths: sums, differences, a product with 1i, a product with a unit. -/
import Derived.Test.YtejeikfgmiadhabCx
import Derived.Test.YtejeikfgmiadhabMeas
import Derived.WalkKit
import Derived.WalkLawsBesides
import Derived.Laws.ComplexArith
set_option linter.unusedVariables false
set_option linter.unusedSimpArgs false
namespace Go.Proofs.Ytejeikfgmiadhab.Cm
open Go.RowKit Go.Proofs.Ytejeikfgmiadhab.Flt Go.Proofs.Ytejeikfgmiadhab.Cx

/-- The word tells n eighths. -/
def I32 (n : Int) (w : Nat) : Prop := Is Ieee.single n (-3) w
def I64 (n : Int) (w : Nat) : Prop := Is Ieee.double n (-3) w

theorem i32_f32 (n : Int) : I32 n (Meas.f32 n) := is_fl _ _ _

theorem s32 (n : Int) (h : n.natAbs < 16777216) : Fits Ieee.single n (-3) := fits_single _ _ h (by decide) (by decide)
theorem s64 (n : Int) (h : n.natAbs < 16777216) : Fits Ieee.double n (-3) := fits_double _ _ (by omega) (by decide) (by decide)

variable {P : Program}

theorem run_float_float {k l : FloatKind} (hkl : k ≠ l) (x : Nat) (w : World) (s : Bool) (m : Nat) (e : Int) (s' : Bool) (m' : Nat) (e' : Int) (h : k.format.read x = .number s m e) (h' : l.format.read (l.format.write (k.format.read x)) = .number s' m' e') :
    (Op.Complex.conv k x l).run P w = .ok (l.format.write (k.format.read x)) w := by
  have h2 : l.decode (l.encode (.number s m e)) = .number s' m' e' := by rw [← h]; exact h'
  unfold Op.Complex.conv
  rw [if_neg hkl]
  simp only [Conv.floatToFloat, if_neg hkl, show k.decode x = .number s m e from h]
  rw [h2, h]
  rfl

theorem conv_up {n : Int} {x : Nat} (hn : n.natAbs < 16777216) (h : I32 n x) : ∃ y, (∀ w, (Op.Complex.conv .f32 x .f64).run P w = .ok y w) ∧ I64 n y := by
  have hy : I64 n (Ieee.double.write (Ieee.single.read x)) := conv_is (s32 n hn) h
  obtain ⟨s, m, e, h1⟩ := number_is (s32 n hn) h
  obtain ⟨s', m', e', h2⟩ := number_is (s64 n hn) hy
  exact ⟨_, fun w => run_float_float (by decide) x w s m e s' m' e' h1 h2, hy⟩

theorem conv_down {n : Int} {x : Nat} (hn : n.natAbs < 16777216) (h : I64 n x) : ∃ y, (∀ w, (Op.Complex.conv .f64 x .f32).run P w = .ok y w) ∧ I32 n y := by
  have hy : I32 n (Ieee.single.write (Ieee.double.read x)) := conv_is (s64 n hn) h
  obtain ⟨s, m, e, h1⟩ := number_is (s64 n hn) h
  obtain ⟨s', m', e', h2⟩ := number_is (s32 n hn) hy
  exact ⟨_, fun w => run_float_float (by decide) x w s m e s' m' e' h1 h2, hy⟩

/-- The word tells the whole number n. -/
def W64 (n : Int) (w : Nat) : Prop := Is Ieee.double n 0 w

theorem mul64 {a b : Int} {x y : Nat} (ha : a.natAbs < 16777216) (hb : b.natAbs < 2) (hx : I64 a x) (hy : W64 b y) : ∃ r, (∀ w, (Op.Complex.mul x y).run P w = .ok r w) ∧ I64 (a * b) r := by
  obtain ⟨r, h1, h2⟩ := mul_is (s64 a ha) (fits_double b 0 (by omega) (by decide) (by decide)) hx hy
  exact ⟨r, fun w => run_carith w h1, h2⟩
theorem add64 {a b : Int} {x y : Nat} (ha : a.natAbs < 16777216) (hb : b.natAbs < 16777216) (hx : I64 a x) (hy : I64 b y) : ∃ r, (∀ w, (Op.Complex.add x y).run P w = .ok r w) ∧ I64 (a + b) r := by
  obtain ⟨r, h1, h2⟩ := add_is (s64 a ha) (s64 b hb) hx hy
  exact ⟨r, fun w => run_carith w h1, h2⟩
theorem sub64 {a b : Int} {x y : Nat} (ha : a.natAbs < 16777216) (hb : b.natAbs < 16777216) (hx : I64 a x) (hy : I64 b y) : ∃ r, (∀ w, (Op.Complex.sub x y).run P w = .ok r w) ∧ I64 (a - b) r := by
  obtain ⟨r, h1, h2⟩ := sub_is (s64 a ha) (s64 b hb) hx hy
  exact ⟨r, fun w => run_carith w h1, h2⟩

/-- A whole number, -1 to 1, as a single and as a double. -/
def U32 (n : Int) (w : Nat) : Prop := Is Ieee.single n 0 w
theorem unit_up {n : Int} {x : Nat} (hn : n.natAbs < 2) (h : U32 n x) : ∃ y, (∀ w, (Op.Complex.conv .f32 x .f64).run P w = .ok y w) ∧ W64 n y := by
  have f1 : Fits Ieee.single n 0 := fits_single _ _ (by omega) (by decide) (by decide)
  have f2 : Fits Ieee.double n 0 := fits_double _ _ (by omega) (by decide) (by decide)
  have hy : W64 n (Ieee.double.write (Ieee.single.read x)) := conv_is f1 h
  obtain ⟨s, m, e, h1⟩ := number_is f1 h
  obtain ⟨s', m', e', h2⟩ := number_is f2 hy
  exact ⟨_, fun w => run_float_float (by decide) x w s m e s' m' e' h1 h2, hy⟩

theorem abs_mul {a b : Int} (ha : a.natAbs < 8388608) (hb : b.natAbs < 2) : (a * b).natAbs < 8388608 := by
  rw [Int.natAbs_mul]
  have : b.natAbs = 0 ∨ b.natAbs = 1 := by omega
  rcases this with h | h <;> rw [h] <;> omega

/-- A product with a complex number whose parts are -1 to 1. -/
theorem cmul {a b c d : Int} {x y u v : Nat} (ha : a.natAbs < 8388608) (hb : b.natAbs < 8388608) (hc : c.natAbs < 2) (hd : d.natAbs < 2) (hx : I32 a x) (hy : I32 b y) (hu : U32 c u) (hv : U32 d v) :
    ∃ re im, (∀ t w, (binOp .mul t (.complex .f32 x y) (.complex .f32 u v)).run P w = .ok (.complex .f32 re im) w) ∧ I32 (a * c - b * d) re ∧ I32 (a * d + b * c) im := by
  obtain ⟨x', cx, hx'⟩ := conv_up (P := P) (by omega) hx
  obtain ⟨y', cy, hy'⟩ := conv_up (P := P) (by omega) hy
  obtain ⟨u', cu, hu'⟩ := unit_up (P := P) hc hu
  obtain ⟨v', cv, hv'⟩ := unit_up (P := P) hd hv
  have n1 := abs_mul ha hc
  have n2 := abs_mul hb hd
  have n3 := abs_mul ha hd
  have n4 := abs_mul hb hc
  obtain ⟨r1, m1, i1⟩ := mul64 (P := P) (by omega) hc hx' hu'
  obtain ⟨r2, m2, i2⟩ := mul64 (P := P) (by omega) hd hy' hv'
  obtain ⟨r3, m3, i3⟩ := mul64 (P := P) (by omega) hd hx' hv'
  obtain ⟨r4, m4, i4⟩ := mul64 (P := P) (by omega) hc hy' hu'
  obtain ⟨r5, m5, i5⟩ := sub64 (P := P) (by omega) (by omega) i1 i2
  obtain ⟨r6, m6, i6⟩ := add64 (P := P) (by omega) (by omega) i3 i4
  obtain ⟨re, c5, j5⟩ := conv_down (P := P) (by omega) i5
  obtain ⟨im, c6, j6⟩ := conv_down (P := P) (by omega) i6
  refine ⟨re, im, fun t w => ?_, j5, j6⟩
  simp [binOp, Op.complexOp, Op.Complex.product, cx, cy, cu, cv, m1, m2, m3, m4, m5, m6, c5, c6]

theorem mul64u {a b : Int} {x y : Nat} (ha : a.natAbs < 2) (hb : b.natAbs < 16777216) (hx : W64 a x) (hy : I64 b y) : ∃ r, (∀ w, (Op.Complex.mul x y).run P w = .ok r w) ∧ I64 (a * b) r := by
  obtain ⟨r, h1, h2⟩ := mul_is (fits_double a 0 (by omega) (by decide) (by decide)) (s64 b hb) hx hy
  exact ⟨r, fun w => run_carith w h1, by rw [Int.zero_add] at h2; exact h2⟩

/-- A unit times a complex number. -/
theorem cmulU {a b c d : Int} {x y u v : Nat} (ha : a.natAbs < 8388608) (hb : b.natAbs < 8388608) (hc : c.natAbs < 2) (hd : d.natAbs < 2) (hx : I32 a x) (hy : I32 b y) (hu : U32 c u) (hv : U32 d v) :
    ∃ re im, (∀ t w, (binOp .mul t (.complex .f32 u v) (.complex .f32 x y)).run P w = .ok (.complex .f32 re im) w) ∧ I32 (c * a - d * b) re ∧ I32 (c * b + d * a) im := by
  obtain ⟨x', cx, hx'⟩ := conv_up (P := P) (by omega) hx
  obtain ⟨y', cy, hy'⟩ := conv_up (P := P) (by omega) hy
  obtain ⟨u', cu, hu'⟩ := unit_up (P := P) hc hu
  obtain ⟨v', cv, hv'⟩ := unit_up (P := P) hd hv
  have n1 := abs_mul ha hc
  have n2 := abs_mul hb hd
  have n3 := abs_mul ha hd
  have n4 := abs_mul hb hc
  rw [Int.mul_comm] at n1 n2 n3 n4
  obtain ⟨r1, m1, i1⟩ := mul64u (P := P) hc (by omega) hu' hx'
  obtain ⟨r2, m2, i2⟩ := mul64u (P := P) hd (by omega) hv' hy'
  obtain ⟨r3, m3, i3⟩ := mul64u (P := P) hc (by omega) hu' hy'
  obtain ⟨r4, m4, i4⟩ := mul64u (P := P) hd (by omega) hv' hx'
  obtain ⟨r5, m5, i5⟩ := sub64 (P := P) (by omega) (by omega) i1 i2
  obtain ⟨r6, m6, i6⟩ := add64 (P := P) (by omega) (by omega) i3 i4
  obtain ⟨re, c5, j5⟩ := conv_down (P := P) (by omega) i5
  obtain ⟨im, c6, j6⟩ := conv_down (P := P) (by omega) i6
  refine ⟨re, im, fun t w => ?_, j5, j6⟩
  simp [binOp, Op.complexOp, Op.Complex.product, cx, cy, cu, cv, m1, m2, m3, m4, m5, m6, c5, c6]

theorem csum (op : BinOp) (sg : Int) (hop : op = .add ∧ sg = 1 ∨ op = .sub ∧ sg = -1) {a b c d : Int} {x y u v : Nat} (ha : a.natAbs < 8388608) (hb : b.natAbs < 8388608) (hc : c.natAbs < 8388608) (hd : d.natAbs < 8388608) (hx : I32 a x) (hy : I32 b y) (hu : I32 c u) (hv : I32 d v) :
    ∃ re im, (∀ t w, (binOp op t (.complex .f32 x y) (.complex .f32 u v)).run P w = .ok (.complex .f32 re im) w) ∧ I32 (a + sg * c) re ∧ I32 (b + sg * d) im := by
  rcases hop with ⟨rfl, rfl⟩ | ⟨rfl, rfl⟩
  · obtain ⟨re, h1, j1⟩ := add_is (s32 a (by omega)) (s32 c (by omega)) hx hu
    obtain ⟨im, h2, j2⟩ := add_is (s32 b (by omega)) (s32 d (by omega)) hy hv
    refine ⟨re, im, fun t w => run_complex_sum w .add (Or.inl rfl) t .f32 x y u v re im ?_, by rw [Int.one_mul]; exact j1, by rw [Int.one_mul]; exact j2⟩
    show ((Ieee.single.add x u).bind fun re => (Ieee.single.add y v).bind fun im => some (re, im)) = _
    rw [h1, h2]; rfl
  · obtain ⟨re, h1, j1⟩ := sub_is (s32 a (by omega)) (s32 c (by omega)) hx hu
    obtain ⟨im, h2, j2⟩ := sub_is (s32 b (by omega)) (s32 d (by omega)) hy hv
    refine ⟨re, im, fun t w => run_complex_sum w .sub (Or.inr rfl) t .f32 x y u v re im ?_, by rw [show a + -1 * c = a - c by omega]; exact j1, by rw [show b + -1 * d = b - d by omega]; exact j2⟩
    show ((Ieee.single.sub x u).bind fun re => (Ieee.single.sub y v).bind fun im => some (re, im)) = _
    rw [h1, h2]; rfl

theorem u32_0 : U32 0 0 := ⟨false, by decide, by decide⟩
theorem u32_1 : U32 1 1065353216 := ⟨false, by decide, by decide⟩
theorem u32_m1 : U32 (-1) 3212836864 := ⟨true, by decide, by decide⟩

/-- A quarter turn. -/
theorem quarter {a b : Int} {x y : Nat} (ha : a.natAbs < 8388608) (hb : b.natAbs < 8388608) (hx : I32 a x) (hy : I32 b y) :
    ∃ re im, (∀ t w, (binOp .mul t (.complex .f32 x y) (.complex .f32 0 1065353216)).run P w = .ok (.complex .f32 re im) w) ∧ I32 (-b) re ∧ I32 a im := by
  obtain ⟨re, im, h, h1, h2⟩ := cmul (P := P) ha hb (c := 0) (d := 1) (by decide) (by decide) hx hy u32_0 u32_1
  exact ⟨re, im, h, by rw [show -b = a * 0 - b * 1 by omega]; exact h1, by rw [show a = a * 1 + b * 0 by omega]; exact h2⟩

/-- Such a word is the word itself, or the zero with a sign. -/
theorem i32_or {n : Int} {x : Nat} (h : I32 n x) : x = Meas.f32 n ∨ (n = 0 ∧ x = 2147483648) := by
  obtain ⟨s, hs, rfl⟩ := h
  by_cases hn : n = 0
  · subst hn
    cases s
    · exact Or.inl rfl
    · exact Or.inr ⟨rfl, by decide⟩
  · left; rw [hs hn]; rfl

def ms (x : Int) : Bool := decide (-4096 ≤ x) && decide (x ≤ 4096)
theorem ms_yes {x : Int} (h1 : -4096 ≤ x) (h2 : x ≤ 4096) : ms x = true := by unfold ms; rw [decide_eq_true h1, decide_eq_true h2]; rfl
theorem ms_no {x : Int} (h : x < -4096 ∨ 4096 < x) : ms x = false := by
  unfold ms
  rcases h with h | h
  · rw [decide_eq_false (by omega)]; rfl
  · rw [decide_eq_false (p := x ≤ 4096) (by omega), Bool.and_false]
theorem ms_iff {x : Int} : ms x = true ↔ -4096 ≤ x ∧ x ≤ 4096 := by unfold ms; rw [Bool.and_eq_true, decide_eq_true_eq, decide_eq_true_eq]

/-- impl.toldMeasure, at every word that tells eighths. -/
theorem told {n : Int} {x : Nat} (hn : n.natAbs < 16777216) (h : I32 n x) (w : World) :
    Calls Try.prog 79 #[.float .f32 x] w fun e w' => e = .returned (.tuple #[.int .i64 (if ms n then n else 0), .bool (ms n)]) ∧ w = w' := by
  rcases i32_or h with rfl | ⟨rfl, rfl⟩
  · by_cases c : -4096 ≤ n ∧ n ≤ 4096
    · rw [ms_yes c.1 c.2]; exact Meas.told n c.1 c.2 w
    · rw [ms_no (by omega)]; exact Meas.told_no n (by omega) hn w
  · exact Meas.told_zero w

end Go.Proofs.Ytejeikfgmiadhab.Cm
