/- What the program's complex operations answer at words that tell whole eighths: sums, differences, a product with 1i, a product with a unit. -/
import Derived.Test.YtokncfhpmjohdabGreatM2
import Derived.WalkKit
import Derived.WalkLawsBesides
import Derived.Laws.ComplexArith
import Derived.Below
import Derived.Handy
import Derived.Lib.Hide
import Derived.Test.YtokncfhpmjohdabGreatM1
import Derived.Deep.RegionHeld3
import Derived.StillTailTactics
import Derived.Deep.SlicePairs
import Derived.Test.YtokncfhpmjohdabGreatRows
set_option linter.unusedVariables false
set_option linter.unusedSimpArgs false
namespace Go.Proofs.YtokncfhpmjohdabGreat.Cm
open Go.RowKit Go.Proofs.YtokncfhpmjohdabGreat.Flt Go.Proofs.YtokncfhpmjohdabGreat.Cx

/-- The word tells n eighths. -/
def I32 (n : Int) (w : Nat) : Prop := Is Ieee.single n (-3) w
def I64 (n : Int) (w : Nat) : Prop := Is Ieee.double n (-3) w

theorem i32_f32 (n : Int) : I32 n (Meas.f32 n) := is_fl _ _ _

theorem s32 (n : Int) (h : n.natAbs < 16777216) : Fits Ieee.single n (-3) := fits_single _ _ h (by decide) (by decide)
theorem s64 (n : Int) (h : n.natAbs < 16777216) : Fits Ieee.double n (-3) := fits_double _ _ (by omega) (by decide) (by decide)

variable {P : Program}

theorem run_float_float {k l : FloatKind} (hkl : k ≠ l) (x : Nat) (w : World) (s : Bool) (m : Nat) (e : Int) (s' : Bool) (m' : Nat) (e' : Int) (h : k.format.read x = .number s m e) (h' : l.format.read (l.format.write (k.format.read x)) = .number s' m' e') :
    (Op.Complex.conv k x l).run P w = .ok (l.format.write (k.format.read x)) w := by
  have h2 : l.decode (l.encode (.number s m e)) = .number s' m' e' := by rw [← h]; exact h'
  unfold Op.Complex.conv
  rw [if_neg hkl]
  simp only [Conv.floatToFloat, if_neg hkl, show k.decode x = .number s m e from h]
  rw [h2, h]
  rfl

theorem conv_up {n : Int} {x : Nat} (hn : n.natAbs < 16777216) (h : I32 n x) : ∃ y, (∀ w, (Op.Complex.conv .f32 x .f64).run P w = .ok y w) ∧ I64 n y := by
  have hy : I64 n (Ieee.double.write (Ieee.single.read x)) := conv_is (s32 n hn) h
  obtain ⟨s, m, e, h1⟩ := number_is (s32 n hn) h
  obtain ⟨s', m', e', h2⟩ := number_is (s64 n hn) hy
  exact ⟨_, fun w => run_float_float (by decide) x w s m e s' m' e' h1 h2, hy⟩

theorem conv_down {n : Int} {x : Nat} (hn : n.natAbs < 16777216) (h : I64 n x) : ∃ y, (∀ w, (Op.Complex.conv .f64 x .f32).run P w = .ok y w) ∧ I32 n y := by
  have hy : I32 n (Ieee.single.write (Ieee.double.read x)) := conv_is (s64 n hn) h
  obtain ⟨s, m, e, h1⟩ := number_is (s64 n hn) h
  obtain ⟨s', m', e', h2⟩ := number_is (s32 n hn) hy
  exact ⟨_, fun w => run_float_float (by decide) x w s m e s' m' e' h1 h2, hy⟩

/-- The word tells the whole number n. -/
def W64 (n : Int) (w : Nat) : Prop := Is Ieee.double n 0 w

theorem add64 {a b : Int} {x y : Nat} (ha : a.natAbs < 16777216) (hb : b.natAbs < 16777216) (hx : I64 a x) (hy : I64 b y) : ∃ r, (∀ w, (Op.Complex.add x y).run P w = .ok r w) ∧ I64 (a + b) r := by
  obtain ⟨r, h1, h2⟩ := add_is (s64 a ha) (s64 b hb) hx hy
  exact ⟨r, fun w => run_carith w h1, h2⟩
theorem sub64 {a b : Int} {x y : Nat} (ha : a.natAbs < 16777216) (hb : b.natAbs < 16777216) (hx : I64 a x) (hy : I64 b y) : ∃ r, (∀ w, (Op.Complex.sub x y).run P w = .ok r w) ∧ I64 (a - b) r := by
  obtain ⟨r, h1, h2⟩ := sub_is (s64 a ha) (s64 b hb) hx hy
  exact ⟨r, fun w => run_carith w h1, h2⟩

/-- A whole number, -1 to 1, as a single and as a double. -/
def U32 (n : Int) (w : Nat) : Prop := Is Ieee.single n 0 w
theorem unit_up {n : Int} {x : Nat} (hn : n.natAbs < 2) (h : U32 n x) : ∃ y, (∀ w, (Op.Complex.conv .f32 x .f64).run P w = .ok y w) ∧ W64 n y := by
  have f1 : Fits Ieee.single n 0 := fits_single _ _ (by omega) (by decide) (by decide)
  have f2 : Fits Ieee.double n 0 := fits_double _ _ (by omega) (by decide) (by decide)
  have hy : W64 n (Ieee.double.write (Ieee.single.read x)) := conv_is f1 h
  obtain ⟨s, m, e, h1⟩ := number_is f1 h
  obtain ⟨s', m', e', h2⟩ := number_is f2 hy
  exact ⟨_, fun w => run_float_float (by decide) x w s m e s' m' e' h1 h2, hy⟩

theorem abs_mul {a b : Int} (ha : a.natAbs < 8388608) (hb : b.natAbs < 2) : (a * b).natAbs < 8388608 := by
  rw [Int.natAbs_mul]
  have : b.natAbs = 0 ∨ b.natAbs = 1 := by omega
  rcases this with h | h <;> rw [h] <;> omega

theorem mul64u {a b : Int} {x y : Nat} (ha : a.natAbs < 2) (hb : b.natAbs < 16777216) (hx : W64 a x) (hy : I64 b y) : ∃ r, (∀ w, (Op.Complex.mul x y).run P w = .ok r w) ∧ I64 (a * b) r := by
  obtain ⟨r, h1, h2⟩ := mul_is (fits_double a 0 (by omega) (by decide) (by decide)) (s64 b hb) hx hy
  exact ⟨r, fun w => run_carith w h1, by rw [Int.zero_add] at h2; exact h2⟩

/-- A unit times a complex number. -/
theorem cmulU {a b c d : Int} {x y u v : Nat} (ha : a.natAbs < 8388608) (hb : b.natAbs < 8388608) (hc : c.natAbs < 2) (hd : d.natAbs < 2) (hx : I32 a x) (hy : I32 b y) (hu : U32 c u) (hv : U32 d v) :
    ∃ re im, (∀ t w, (binOp .mul t (.complex .f32 u v) (.complex .f32 x y)).run P w = .ok (.complex .f32 re im) w) ∧ I32 (c * a - d * b) re ∧ I32 (c * b + d * a) im := by
  obtain ⟨x', cx, hx'⟩ := conv_up (P := P) (by omega) hx
  obtain ⟨y', cy, hy'⟩ := conv_up (P := P) (by omega) hy
  obtain ⟨u', cu, hu'⟩ := unit_up (P := P) hc hu
  obtain ⟨v', cv, hv'⟩ := unit_up (P := P) hd hv
  have n1 := abs_mul ha hc
  have n2 := abs_mul hb hd
  have n3 := abs_mul ha hd
  have n4 := abs_mul hb hc
  rw [Int.mul_comm] at n1 n2 n3 n4
  obtain ⟨r1, m1, i1⟩ := mul64u (P := P) hc (by omega) hu' hx'
  obtain ⟨r2, m2, i2⟩ := mul64u (P := P) hd (by omega) hv' hy'
  obtain ⟨r3, m3, i3⟩ := mul64u (P := P) hc (by omega) hu' hy'
  obtain ⟨r4, m4, i4⟩ := mul64u (P := P) hd (by omega) hv' hx'
  obtain ⟨r5, m5, i5⟩ := sub64 (P := P) (by omega) (by omega) i1 i2
  obtain ⟨r6, m6, i6⟩ := add64 (P := P) (by omega) (by omega) i3 i4
  obtain ⟨re, c5, j5⟩ := conv_down (P := P) (by omega) i5
  obtain ⟨im, c6, j6⟩ := conv_down (P := P) (by omega) i6
  refine ⟨re, im, fun t w => ?_, j5, j6⟩
  simp [binOp, Op.complexOp, Op.Complex.product, cx, cy, cu, cv, m1, m2, m3, m4, m5, m6, c5, c6]

theorem csum (op : BinOp) (sg : Int) (hop : op = .add ∧ sg = 1 ∨ op = .sub ∧ sg = -1) {a b c d : Int} {x y u v : Nat} (ha : a.natAbs < 8388608) (hb : b.natAbs < 8388608) (hc : c.natAbs < 8388608) (hd : d.natAbs < 8388608) (hx : I32 a x) (hy : I32 b y) (hu : I32 c u) (hv : I32 d v) :
    ∃ re im, (∀ t w, (binOp op t (.complex .f32 x y) (.complex .f32 u v)).run P w = .ok (.complex .f32 re im) w) ∧ I32 (a + sg * c) re ∧ I32 (b + sg * d) im := by
  rcases hop with ⟨rfl, rfl⟩ | ⟨rfl, rfl⟩
  · obtain ⟨re, h1, j1⟩ := add_is (s32 a (by omega)) (s32 c (by omega)) hx hu
    obtain ⟨im, h2, j2⟩ := add_is (s32 b (by omega)) (s32 d (by omega)) hy hv
    refine ⟨re, im, fun t w => run_complex_sum w .add (Or.inl rfl) t .f32 x y u v re im ?_, by rw [Int.one_mul]; exact j1, by rw [Int.one_mul]; exact j2⟩
    show ((Ieee.single.add x u).bind fun re => (Ieee.single.add y v).bind fun im => some (re, im)) = _
    rw [h1, h2]; rfl
  · obtain ⟨re, h1, j1⟩ := sub_is (s32 a (by omega)) (s32 c (by omega)) hx hu
    obtain ⟨im, h2, j2⟩ := sub_is (s32 b (by omega)) (s32 d (by omega)) hy hv
    refine ⟨re, im, fun t w => run_complex_sum w .sub (Or.inr rfl) t .f32 x y u v re im ?_, by rw [show a + -1 * c = a - c by omega]; exact j1, by rw [show b + -1 * d = b - d by omega]; exact j2⟩
    show ((Ieee.single.sub x u).bind fun re => (Ieee.single.sub y v).bind fun im => some (re, im)) = _
    rw [h1, h2]; rfl

theorem u32_0 : U32 0 0 := ⟨false, by decide, by decide⟩
theorem u32_1 : U32 1 1065353216 := ⟨false, by decide, by decide⟩
theorem u32_m1 : U32 (-1) 3212836864 := ⟨true, by decide, by decide⟩

/-- Such a word is the word itself, or the zero with a sign. -/
theorem i32_or {n : Int} {x : Nat} (h : I32 n x) : x = Meas.f32 n ∨ (n = 0 ∧ x = 2147483648) := by
  obtain ⟨s, hs, rfl⟩ := h
  by_cases hn : n = 0
  · subst hn
    cases s
    · exact Or.inl rfl
    · exact Or.inr ⟨rfl, by decide⟩
  · left; rw [hs hn]; rfl

def ms (x : Int) : Bool := decide (-4096 ≤ x) && decide (x ≤ 4096)
theorem ms_yes {x : Int} (h1 : -4096 ≤ x) (h2 : x ≤ 4096) : ms x = true := by unfold ms; rw [decide_eq_true h1, decide_eq_true h2]; rfl
theorem ms_no {x : Int} (h : x < -4096 ∨ 4096 < x) : ms x = false := by
  unfold ms
  rcases h with h | h
  · rw [decide_eq_false (by omega)]; rfl
  · rw [decide_eq_false (p := x ≤ 4096) (by omega), Bool.and_false]
/-- impl.toldMeasure, at every word that tells eighths. -/
theorem told {n : Int} {x : Nat} (hn : n.natAbs < 16777216) (h : I32 n x) (w : World) :
    Calls Tryz.prog 89 #[.float .f32 x] w fun e w' => e = .returned (.tuple #[.int .i64 (if ms n then n else 0), .bool (ms n)]) ∧ w = w' := by
  rcases i32_or h with rfl | ⟨rfl, rfl⟩
  · by_cases c : -4096 ≤ n ∧ n ≤ 4096
    · rw [ms_yes c.1 c.2]; exact Meas.told n c.1 c.2 w
    · rw [ms_no (by omega)]; exact Meas.told_no n (by omega) hn w
  · exact Meas.told_zero w

end Go.Proofs.YtokncfhpmjohdabGreat.Cm
namespace Go.Proofs.YtokncfhpmjohdabGreat.Pl
open Go.RowKit Go.Proofs.YtokncfhpmjohdabGreat.Cm
set_option linter.unusedVariables false

theorem isMeasureI (x : Int) (w : World) : Calls Tryz.prog 110 #[.int .i64 x] w fun e w' => e = .returned (.bool (ms x)) ∧ w = w' := by
  go_enter Tryz.func110, Tryz.ntmps110
  go_wp2
  all_goals go_returns
  · rename_i h
    refine ⟨?_, rfl⟩
    show Ending.returned (.bool (decide (x ≤ 4096))) = _
    unfold ms; rw [decide_eq_true h]; rfl
  · rename_i h
    refine ⟨?_, rfl⟩
    show Ending.returned (.bool false) = _
    rw [ms_no (by omega)]
theorem isMeasureS (x : Int) (w : World) : Calls Tryz.prog 165 #[.int .i64 x] w fun e w' => e = .returned (.bool (ms x)) ∧ w = w' := by
  go_enter Tryz.func165, Tryz.ntmps165
  go_wp2
  all_goals go_returns
  · rename_i h
    refine ⟨?_, rfl⟩
    show Ending.returned (.bool (decide (x ≤ 4096))) = _
    unfold ms; rw [decide_eq_true h]; rfl
  · rename_i h
    refine ⟨?_, rfl⟩
    show Ending.returned (.bool false) = _
    rw [ms_no (by omega)]

/-- X behind k quarter turns, and Y. -/
def tx : Nat → Int → Int → Int
  | 0, x, _ => x
  | 1, _, y => -y
  | 2, x, _ => -x
  | _, _, y => y
def ty : Nat → Int → Int → Int
  | 0, _, y => y
  | 1, x, _ => x
  | 2, _, y => -y
  | _, x, _ => -x

end Go.Proofs.YtokncfhpmjohdabGreat.Pl
namespace Go.Proofs.YtokncfhpmjohdabGreat.Pw
open Go.RowKit Go.Proofs.YtokncfhpmjohdabGreat.Cm Go.Proofs.YtokncfhpmjohdabGreat.Pl Go.Proofs.YtokncfhpmjohdabGreat.Str
set_option linter.unusedVariables false

set_option maxRecDepth 100000 in
theorem complexOf (x y : Int) (hx : x.natAbs < 16777216) (hy : y.natAbs < 16777216) (w : World) :
    Calls Tryz.prog 86 #[.agg #[.int .i64 x, .int .i64 y]] w fun e w' => e = .returned (.complex .f32 (Meas.f32 x) (Meas.f32 y)) ∧ w' = (w.alloc (.cells #[.int .i64 x, .int .i64 y] 34)).drew := by
  have c1 := Lib.hid (Meas.wholesOf x hx)
  have c2 := Lib.hid (Meas.wholesOf y hy)
  clear hx hy
  go_enter Tryz.func86, Tryz.ntmps86
  go_wp2_with fail
  go_region_held3 (fun w' => w'.cell? ⟨w.heap.size, 0, none⟩ = some (.int .i64 x) ∧ w'.cell? ⟨w.heap.size, 1, none⟩ = some (.int .i64 y)) (go_keep)
    (first
      | (go_at_call 88; refine (c1.out _).mono ?_; rintro e w' ⟨rfl, rfl⟩)
      | (go_at_call 88; refine (c2.out _).mono ?_; rintro e w' ⟨rfl, rfl⟩))
  go_wp2_with fail
  go_returns
  exact ⟨rfl, rfl⟩

theorem toldPlace {a b : Int} {re im : Nat} (ha : a.natAbs < 16777216) (hb : b.natAbs < 16777216) (h1 : I32 a re) (h2 : I32 b im) (w : World) :
    Calls Tryz.prog 125 #[.complex .f32 re im] w fun e w' => e = .returned (.tuple #[.agg #[.int .i64 (if ms a && ms b then a else 0), .int .i64 (if ms a && ms b then b else 0)], .bool (ms a && ms b)]) ∧ w' = w.alloc (.cells #[.int .i64 (if ms a && ms b then a else 0), .int .i64 (if ms a && ms b then b else 0)] 34) := by
  have c1 := told ha h1
  have c2 := told hb h2
  generalize ms a = p at *
  generalize ms b = q at *
  obtain ⟨x, hx⟩ : ∃ x, (if p = true then a else 0) = x := ⟨_, rfl⟩
  obtain ⟨y, hy⟩ : ∃ y, (if q = true then b else 0) = y := ⟨_, rfl⟩
  rw [hx] at c1
  rw [hy] at c2
  have c1 := Lib.hid c1
  have c2 := Lib.hid c2
  clear ha hb h1 h2
  have key : Calls Tryz.prog 125 #[.complex .f32 re im] w fun e w' => e = .returned (.tuple #[.agg #[.int .i64 (if p && q then x else 0), .int .i64 (if p && q then y else 0)], .bool (p && q)]) ∧ w' = w.alloc (.cells #[.int .i64 (if p && q then x else 0), .int .i64 (if p && q then y else 0)] 34) := by
    clear hx hy
    cases p <;> cases q
    all_goals
      go_enter Tryz.func125, Tryz.ntmps125
      go_wp2_with fail
      refine (c1.out _).mono ?_
      rintro e w' ⟨rfl, rfl⟩
      go_wp2_with fail
      refine (c2.out _).mono ?_
      rintro e w' ⟨rfl, rfl⟩
      go_wp2_with fail
      go_returns
      exact ⟨rfl, rfl⟩
  cases p <;> cases q <;> simp at hx hy <;> subst hx hy <;> exact key

theorem isPlaceI (x y : Int) (w : World) : Calls Tryz.prog 207 #[.agg #[.int .i64 x, .int .i64 y]] w fun e w' => e = .returned (.bool (ms x && ms y)) ∧ w' = w.alloc (.cells #[.int .i64 x, .int .i64 y] 34) := by
  go_enter Tryz.func207, Tryz.ntmps207
  go_wp2_with (go_at_call 110; refine (isMeasureI _ _).mono ?_; rintro e w' ⟨rfl, rfl⟩)
  all_goals go_returns
  all_goals refine ⟨?_, rfl⟩
  all_goals simp [*]

theorem isPlaceS (x y : Int) (w : World) : Calls Tryz.prog 145 #[.agg #[.int .i64 x, .int .i64 y]] w fun e w' => e = .returned (.bool (ms x && ms y)) ∧ w' = w.alloc (.cells #[.int .i64 x, .int .i64 y] 34) := by
  go_enter Tryz.func145, Tryz.ntmps145
  go_wp2_with (go_at_call 165; refine (isMeasureS _ _).mono ?_; rintro e w' ⟨rfl, rfl⟩)
  all_goals go_returns
  all_goals refine ⟨?_, rfl⟩
  all_goals simp [*]

theorem txle {k : Nat} {x y B : Int} (hx : -B ≤ x ∧ x ≤ B) (hy : -B ≤ y ∧ y ≤ B) : -B ≤ tx k x y ∧ tx k x y ≤ B := by
  unfold tx; split <;> omega
theorem tyle {k : Nat} {x y B : Int} (hx : -B ≤ x ∧ x ≤ B) (hy : -B ≤ y ∧ y ≤ B) : -B ≤ ty k x y ∧ ty k x y ≤ B := by
  unfold ty; split <;> omega

/-- IsPlace of both, at a known answer. -/
theorem isPlaceI_of {x y : Int} {b : Bool} (h : (ms x && ms y) = b) (w : World) : Calls Tryz.prog 207 #[.agg #[.int .i64 x, .int .i64 y]] w fun e w' => e = .returned (.bool b) ∧ w' = w.alloc (.cells #[.int .i64 x, .int .i64 y] 34) := h ▸ isPlaceI x y w
theorem isPlaceS_of {x y : Int} {b : Bool} (h : (ms x && ms y) = b) (w : World) : Calls Tryz.prog 145 #[.agg #[.int .i64 x, .int .i64 y]] w fun e w' => e = .returned (.bool b) ∧ w' = w.alloc (.cells #[.int .i64 x, .int .i64 y] 34) := h ▸ isPlaceS x y w

end Go.Proofs.YtokncfhpmjohdabGreat.Pw
namespace Go.Proofs.YtokncfhpmjohdabGreat.P2
open Go.RowKit Go.Proofs.YtokncfhpmjohdabGreat.Cm Go.Proofs.YtokncfhpmjohdabGreat.Pl Go.Proofs.YtokncfhpmjohdabGreat.Str Go.Proofs.YtokncfhpmjohdabGreat.Pw
set_option linter.unusedVariables false

theorem cell_below {W w' : World} {p : Addr} {v : Value} (hb : Below W.heap.size W w') (h : W.cell? p = some v) : w'.cell? p = some v := (hb.cell (World.block_lt_of_cell? W p h)).trans h

theorem cell_alloc {W : World} {p : Addr} {v : Value} {o : Obj} (h : W.cell? p = some v) : (W.alloc o).cell? p = some v := by
  rw [World.cell?_alloc_lt _ _ _ (World.block_lt_of_cell? W p h)]; exact h

theorem set2_0 {W : World} {b : Nat} {P Q : Value} (h0 : (W.cell? ⟨b, 0, none⟩).isSome = true) : ((W.setCell ⟨b, 0, none⟩ P).setCell ⟨b, 1, none⟩ Q).cell? ⟨b, 0, none⟩ = some P := by
  rw [World.cell?_setCell_other _ _ _ _ (by simp)]
  exact World.cell?_setCell_same' _ _ _ h0
theorem set2_1 {W : World} {b : Nat} {P Q : Value} (h1 : (W.cell? ⟨b, 1, none⟩).isSome = true) : ((W.setCell ⟨b, 0, none⟩ P).setCell ⟨b, 1, none⟩ Q).cell? ⟨b, 1, none⟩ = some Q := by
  refine World.cell?_setCell_same' _ _ _ ?_
  rw [World.cell?_setCell_other _ _ _ _ (by simp)]
  exact h1
theorem cell_here {W : World} {c : Array Value} {t : TypeId} {i : Nat} {v : Value} (h : c[i]? = some v) : (W.alloc (.cells c t)).cell? ⟨W.heap.size, i, none⟩ = some v := by
  rw [World.cell?_alloc_at _ _ _ _ rfl]; exact h

/-- A world behind a call of which only 'Below' is known, as rules. -/
theorem open_below {W w' : World} (hb : Below W.heap.size W w') : (∀ p : Addr, p.block < W.heap.size → w'.cell? p = W.cell? p) ∧ (∀ p : Addr, p.block < W.heap.size → w'.frozen? p = W.frozen? p) ∧
    (∀ b, b < W.heap.size → b < w'.heap.size) ∧ (∀ b j, b < W.heap.size → b < w'.heap.size + j) ∧ (∀ b, b < W.heap.size → (b = w'.heap.size) = False) ∧ (∀ b j, b < W.heap.size → (b = w'.heap.size + j) = False) ∧ (∀ b, b < W.heap.size → (w'.heap.size = b) = False) ∧ (∀ b j, b < W.heap.size → (w'.heap.size + j = b) = False) := by
  have hs := hb.size
  refine ⟨fun p h => hb.cell h, fun p h => hb.frozen h, ?_, ?_, ?_, ?_, ?_, ?_⟩
  · intros; omega
  · intros; omega
  all_goals intros
  all_goals apply eq_false
  all_goals omega

/-- A place lies in a block of its own, behind all of W's memory; W's memory is as it was. -/
structure Lay (W wx : World) (k : Nat) (X Y : Int) : Prop where
  below : Below W.heap.size W wx
  old : W.heap.size ≤ k
  new : k < wx.heap.size
  c0 : wx.cell? ⟨k, 0, none⟩ = some (.int .i64 X)
  c1 : wx.cell? ⟨k, 1, none⟩ = some (.int .i64 Y)


end Go.Proofs.YtokncfhpmjohdabGreat.P2

namespace Go.Proofs.YtokncfhpmjohdabGreat.Cv
open Go.RowKit Go.Proofs.YtokncfhpmjohdabGreat.Cd
set_option linter.unusedVariables false
set_option linter.unusedSimpArgs false

end Go.Proofs.YtokncfhpmjohdabGreat.Cv
namespace Go.Proofs.YtokncfhpmjohdabGreat.Cl
open Go.RowKit Go.ChangeShapes Go.WideShapes Go.WideElems Go.Deep Go.Proofs.YtokncfhpmjohdabGreat.Mem Go.Proofs.YtokncfhpmjohdabGreat.Rw Go.Proofs.YtokncfhpmjohdabGreat.P2 Go.Proofs.YtokncfhpmjohdabGreat.Cd Go.Proofs.YtokncfhpmjohdabGreat.Cv
set_option linter.unusedVariables false
set_option linter.unusedSimpArgs false

/-- How long the texts of these cues are. -/
def bulk : List C → Nat
  | [] => 0
  | d :: r => d.nm.size + bulk r
theorem bulk_app : ∀ (a b : List C), bulk (a ++ b) = bulk a + bulk b
  | [], b => by simp [bulk]
  | d :: r, b => by simp only [List.cons_append, bulk, bulk_app r b]; omega
theorem bulk_take {zs : List C} {k : Nat} {d : C} (h : zs[k]? = some d) : bulk (zs.take (k + 1)) = bulk (zs.take k) + d.nm.size := by
  obtain ⟨hk, rfl⟩ := List.getElem?_eq_some_iff.1 h
  rw [List.take_succ_eq_append_getElem hk, bulk_app]; simp [bulk]
theorem bulk_le (zs : List C) (k : Nat) : bulk (zs.take k) ≤ bulk zs := by
  have := bulk_app (zs.take k) (zs.drop k)
  rw [List.take_append_drop] at this
  omega
theorem mem_at {α : Type} {zs : List α} {k : Nat} {d : α} (h : zs[k]? = some d) : d ∈ zs := List.mem_of_getElem? h
/-- How much is left behind these, of so much. -/
def szW (L : Int) (n : Nat) (zs : List C) : Int := if L - n - bulk zs < 0 then -1 else L - n - bulk zs
/-- How much is left behind these. -/
def szV (n : Nat) (zs : List C) : Int := szW 1048576 n zs

/-- The first k of one list, then the other one's. -/
def mixed (xs ys : List Value) (k : Nat) : List Value := xs.take k ++ ys.drop k
theorem mixed_zero (xs ys : List Value) : mixed xs ys 0 = ys := by simp [mixed]
theorem mixed_all {xs ys : List Value} (h : ys.length = xs.length) : mixed xs ys xs.length = xs := by
  unfold mixed; rw [List.take_of_length_le (Nat.le_refl _), List.drop_of_length_le (by omega), List.append_nil]
theorem mixed_at {xs ys : List Value} {k j : Nat} {v : Value} (h : ys.length = xs.length) (hk : k ≤ j) (hv : ys[j]? = some v) : (mixed xs ys k)[j]? = some v := by
  have hj := (List.getElem?_eq_some_iff.1 hv).1
  unfold mixed
  rw [List.getElem?_append_right (by rw [List.length_take]; omega), List.length_take, Nat.min_eq_left (by omega), List.getElem?_drop, show k + (j - k) = j by omega]
  exact hv
theorem mixed_put {xs ys : List Value} {k : Nat} {v : Value} (h : ys.length = xs.length) (hv : xs[k]? = some v) : (mixed xs ys k).set k v = mixed xs ys (k + 1) := by
  obtain ⟨hk, rfl⟩ := List.getElem?_eq_some_iff.1 hv
  unfold mixed
  rw [List.set_append_right _ _ (by rw [List.length_take]; omega), List.length_take, Nat.min_eq_left (by omega), Nat.sub_self, List.drop_eq_getElem_cons (by omega), List.set_cons_zero, List.take_succ_eq_append_getElem hk, List.append_assoc]
  rfl
/-- A cue of nothing. -/
def d0 : C := ⟨0, ⟨#[]⟩, 0, 0⟩
theorem dls_made (n : Nat) : (madeCells #[.int .i64 0, .string ⟨#[]⟩, .int .i64 0, .int .i64 0] (n * 4)).toList = dls (List.replicate n d0) := by
  apply List.ext_getElem?
  intro j
  by_cases h : j < n * 4
  · have hm : j % 4 < 4 := Nat.mod_lt _ (by omega)
    have hd : j / 4 < n := by omega
    have hg := flat_get dc_len (zs := List.replicate n d0) (k := j / 4) (z := d0) (by rw [List.getElem?_replicate, if_pos hd]) (j % 4) hm
    rw [show j / 4 * 4 + j % 4 = j by omega] at hg
    unfold dls
    rw [hg, Array.getElem?_toList]
    simp only [madeCells]
    simp [h]
    generalize j % 4 = r at hm
    match r, hm with
    | 0, _ => rfl
    | 1, _ => rfl
    | 2, _ => rfl
    | 3, _ => rfl
  · rw [List.getElem?_eq_none (l := dls _) (by rw [dls_len, List.length_replicate]; omega), Array.getElem?_toList]
    simp [madeCells, h]

theorem infoD : (Tryz.prog.info? 63).map (fun i => (i.zero, i.size, i.bytes)) = some (some (.agg #[.int .i64 0, .string ⟨#[]⟩, .int .i64 0, .int .i64 0]), 4, 40) := by kernel_rfl

/-- What the copy leaves: a row of its own with these cues; what was there is as it was. -/
def Copied (w : World) (n : Nat) (zs : List C) (e : Ending) (w' : World) : Prop :=
  ∃ g, e = .returned (.slice (some ⟨g, 0, none⟩) n n) ∧ w.heap.size ≤ g ∧ w'.ownsRow w.heap.size 63 4 (.slice (some ⟨g, 0, none⟩) n n) n (dls zs) ∧ Below w.heap.size w w'

end Go.Proofs.YtokncfhpmjohdabGreat.Cl
namespace Go.Proofs.YtokncfhpmjohdabGreat.IsName
open Go.RowKit

def letter (c : UInt8) : Bool := decide (97 ≤ c.toNat ∧ c.toNat ≤ 122)
def digit (c : UInt8) : Bool := decide (48 ≤ c.toNat ∧ c.toNat ≤ 57)
def okAt (s : ByteArray) (k : Nat) (h : k < s.size) : Prop := letter s[k] = true ∨ digit s[k] = true ∧ k ≠ 0
def allOk (s : ByteArray) (n : Nat) : Prop := ∀ (k : Nat) (h : k < s.size), k < n → okAt s k h
def Name (s : ByteArray) : Prop := 1 ≤ s.size ∧ s.size ≤ 8 ∧ allOk s s.size
noncomputable def nameB (s : ByteArray) : Bool := @decide (Name s) (Classical.propDecidable _)

theorem nameB_yes {s : ByteArray} (h1 : 1 ≤ s.size) (h2 : s.size ≤ 8) (h : allOk s s.size) : nameB s = true := by
  unfold nameB; exact @decide_eq_true _ (Classical.propDecidable _) ⟨h1, h2, h⟩
theorem nameB_len {s : ByteArray} (h : s.size < 1 ∨ 8 < s.size) : nameB s = false := by
  unfold nameB; exact @decide_eq_false _ (Classical.propDecidable _) fun c => by have := c.1; have := c.2.1; omega
theorem nameB_no {s : ByteArray} {k : Nat} (hk : k < s.size) (h : ¬ okAt s k hk) : nameB s = false := by
  unfold nameB; exact @decide_eq_false _ (Classical.propDecidable _) fun c => h (c.2.2 k hk hk)
theorem allOk_zero (s : ByteArray) : allOk s 0 := fun _ _ h => absurd h (Nat.not_lt_zero _)
theorem allOk_succ {s : ByteArray} {k : Nat} (hk : k < s.size) (h : allOk s k) (ho : okAt s k hk) : allOk s (k + 1) := fun j hj hl => by
  by_cases e : j = k
  · subst e; exact ho
  · exact h j hj (by omega)
theorem ret_bool {a b : Bool} (h : a = b) : Ending.returned (.bool a) = .returned (.bool b) := by rw [h]

theorem isLetter (c : UInt8) (w : World) : Calls Tryz.prog 155 #[.int .u8 c.toNat] w fun e w' => e = .returned (.bool (letter c)) ∧ w = w' := by
  by_cases h1 : 97 ≤ c.toNat
  · by_cases h2 : c.toNat ≤ 122
    · have e : letter c = true := decide_eq_true ⟨h1, h2⟩
      have d : decide ((c.toNat : Int) ≤ 122) = true := decide_eq_true (by omega)
      rw [e]; clear e
      go_enter Tryz.func155, Tryz.ntmps155
      go_wp2
      go_ret
      exact ⟨rfl, rfl⟩
    · have e : letter c = false := decide_eq_false (by omega)
      have d : decide ((c.toNat : Int) ≤ 122) = false := decide_eq_false (by omega)
      rw [e]; clear e
      go_enter Tryz.func155, Tryz.ntmps155
      go_wp2
      go_ret
      exact ⟨rfl, rfl⟩
  · have e : letter c = false := decide_eq_false (by omega)
    have d : decide (97 ≤ (c.toNat : Int)) = false := decide_eq_false (by omega)
    rw [e]; clear e
    go_enter Tryz.func155, Tryz.ntmps155
    go_wp2
    go_ret
    exact ⟨rfl, rfl⟩

theorem isDigit (c : UInt8) (w : World) : Calls Tryz.prog 156 #[.int .u8 c.toNat] w fun e w' => e = .returned (.bool (digit c)) ∧ w = w' := by
  by_cases h1 : 48 ≤ c.toNat
  · by_cases h2 : c.toNat ≤ 57
    · have e : digit c = true := decide_eq_true ⟨h1, h2⟩
      have d : decide ((c.toNat : Int) ≤ 57) = true := decide_eq_true (by omega)
      rw [e]; clear e
      go_enter Tryz.func156, Tryz.ntmps156
      go_wp2
      go_ret
      exact ⟨rfl, rfl⟩
    · have e : digit c = false := decide_eq_false (by omega)
      have d : decide ((c.toNat : Int) ≤ 57) = false := decide_eq_false (by omega)
      rw [e]; clear e
      go_enter Tryz.func156, Tryz.ntmps156
      go_wp2
      go_ret
      exact ⟨rfl, rfl⟩
  · have e : digit c = false := decide_eq_false (by omega)
    have d : decide (48 ≤ (c.toNat : Int)) = false := decide_eq_false (by omega)
    rw [e]; clear e
    go_enter Tryz.func156, Tryz.ntmps156
    go_wp2
    go_ret
    exact ⟨rfl, rfl⟩

set_option maxHeartbeats 1000000 in
theorem impl (s : ByteArray) (w : World) : Calls Tryz.prog 134 #[.string s] w fun e w' => e = .returned (.bool (nameB s)) ∧ w = w' := by
  by_cases h0 : s.size < 1
  · have F := Lib.hid (nameB_len (Or.inl h0))
    go_enter Tryz.func134, Tryz.ntmps134
    go_wp2
    go_ret
    exact ⟨ret_bool F.out.symm, rfl⟩
  · by_cases h8 : 8 < s.size
    · have F := Lib.hid (nameB_len (Or.inr h8))
      have d0 : decide ((s.size : Int) < 1) = false := decide_eq_false (by omega)
      go_enter Tryz.func134, Tryz.ntmps134
      go_wp2
      go_ret
      exact ⟨ret_bool F.out.symm, rfl⟩
    · have d0 : decide ((s.size : Int) < 1) = false := decide_eq_false (by omega)
      have d8 : decide (8 < (s.size : Int)) = false := decide_eq_false (by omega)
      have h1 : 1 ≤ s.size := by omega
      have h8' : s.size ≤ 8 := by omega
      have hp : 0 < s.size := by omega
      clear h0 h8
      by_cases hl : letter s[0] = true
      · go_enter Tryz.func134, Tryz.ntmps134
        go_wp2_with (go_at_call 155; refine (isLetter _ _).mono ?_; rintro e w' ⟨rfl, rfl⟩)
        go_loop [20] (fun i => ∃ k : Nat, k ≤ s.size ∧ allOk s k ∧ i = .int .i64 k) (fun i => s.size - (intOf i).toNat)
        case atStart => exact ⟨0, by omega, allOk_zero s, rfl⟩
        case round =>
          obtain ⟨k, hk, hall, rfl⟩ := hrel
          have HA := Lib.hid hall
          clear hall
          by_cases hlt : k < s.size
          · by_cases hlk : letter s[k] = true
            · go_wp2_with (go_at_call 155; refine (isLetter _ _).mono ?_; rintro e w' ⟨rfl, rfl⟩)
              go_round
              case rel => exact ⟨k + 1, by omega, allOk_succ hlt HA.out (Or.inl hlk), by go_num⟩
              case measure => simp [intOf]; omega
            · have hlk' : letter s[k] = false := by simpa using hlk
              by_cases hdk : digit s[k] = true
              · have hk0 : k ≠ 0 := fun c => by subst c; rw [hl] at hlk'; cases hlk'
                have HK0 := Lib.hid hk0
                clear hlk hk0
                go_wp2_with (first
                  | (go_at_call 155; refine (isLetter _ _).mono ?_; rintro e w' ⟨rfl, rfl⟩)
                  | (go_at_call 156; refine (isDigit _ _).mono ?_; rintro e w' ⟨rfl, rfl⟩))
                go_round
                case rel => exact ⟨k + 1, by omega, allOk_succ hlt HA.out (Or.inr ⟨hdk, HK0.out⟩), by go_num⟩
                case measure => simp [intOf]; omega
              · have hdk' : digit s[k] = false := by simpa using hdk
                have F := Lib.hid (nameB_no (s := s) (k := k) hlt (by unfold okAt; simp [hlk', hdk']))
                clear hlk hdk
                go_wp2_with (first
                  | (go_at_call 155; refine (isLetter _ _).mono ?_; rintro e w' ⟨rfl, rfl⟩)
                  | (go_at_call 156; refine (isDigit _ _).mono ?_; rintro e w' ⟨rfl, rfl⟩))
                go_ret
                exact ⟨ret_bool F.out.symm, rfl⟩
          · obtain rfl : k = s.size := by omega
            have F := Lib.hid (nameB_yes h1 h8' HA.out)
            go_wp2
            go_ret
            exact ⟨ret_bool F.out.symm, rfl⟩
      · have hl' : letter s[0] = false := by simpa using hl
        have F := Lib.hid (nameB_no (s := s) (k := 0) h1 (by unfold okAt; simp [hl']))
        clear hl
        go_enter Tryz.func134, Tryz.ntmps134
        go_wp2_with (go_at_call 155; refine (isLetter _ _).mono ?_; rintro e w' ⟨rfl, rfl⟩)
        go_ret
        exact ⟨ret_bool F.out.symm, rfl⟩

set_option maxHeartbeats 2000000 in
theorem spec (s : ByteArray) (hs : s.size ≤ 1048576) (w : World) : Calls Tryz.prog 132 #[.string s] w fun e w' => e = .returned (.bool (nameB s)) ∧ w = w' := by
  go_enter Tryz.func132, Tryz.ntmps132
  go_wp2
  go_loop [3] (fun i => ∃ k : Nat, k ≤ s.size ∧ allOk s k ∧ i = .int .i64 k) (fun i => s.size - (intOf i).toNat)
  case atStart => exact ⟨0, by omega, allOk_zero s, rfl⟩
  case round =>
    obtain ⟨k, hk, hall, rfl⟩ := hrel
    have HA := Lib.hid hall
    clear hall
    by_cases hlt : k < s.size
    · by_cases hlk : letter s[k] = true
      · have hc := of_decide_eq_true hlk
        have HR := Lib.hid (allOk_succ hlt HA.out (Or.inl hlk))
        have d1 : decide (97 ≤ (s[k].toNat : Int)) = true := decide_eq_true (by omega)
        have d2 : decide ((s[k].toNat : Int) ≤ 122) = true := decide_eq_true (by omega)
        have d3 : decide (48 ≤ (s[k].toNat : Int)) = true := decide_eq_true (by omega)
        have d4 : decide ((s[k].toNat : Int) ≤ 57) = false := decide_eq_false (by omega)
        clear hlk HA
        obtain ⟨hc1, hc2⟩ := hc
        go_wp2
        go_round
        case rel => exact ⟨k + 1, by omega, HR.out, by go_num⟩
        case measure => simp [intOf]; omega
      · have hlk' : letter s[k] = false := by simpa using hlk
        have hc := of_decide_eq_false hlk'
        by_cases hdk : digit s[k] = true
        · have hd := of_decide_eq_true hdk
          have d1 : decide (97 ≤ (s[k].toNat : Int)) = false := decide_eq_false (by omega)
          have d3 : decide (48 ≤ (s[k].toNat : Int)) = true := decide_eq_true (by omega)
          have d4 : decide ((s[k].toNat : Int) ≤ 57) = true := decide_eq_true (by omega)
          obtain ⟨hd1, hd2⟩ := hd
          by_cases hk0 : k = 0
          · have F := Lib.hid (nameB_no (s := s) (k := k) hlt (by
              rintro (c | ⟨_, c⟩)
              · rw [hlk'] at c; cases c
              · exact c hk0))
            have z : ((k : Int) == 0) = true := by simp [hk0]
            clear hlk hlk' hdk hc HA hk0
            go_wp2
            go_ret
            exact ⟨ret_bool F.out.symm, rfl⟩
          · have HR := Lib.hid (allOk_succ hlt HA.out (Or.inr ⟨hdk, hk0⟩))
            have z : ((k : Int) == 0) = false := by simp [hk0]
            clear hlk hlk' hdk hc HA hk0
            go_wp2
            go_round
            case rel => exact ⟨k + 1, by omega, HR.out, by go_num⟩
            case measure => simp [intOf]; omega
        · have hdk' : digit s[k] = false := by simpa using hdk
          have hd := of_decide_eq_false hdk'
          have F := Lib.hid (nameB_no (s := s) (k := k) hlt (by unfold okAt; simp [hlk', hdk']))
          clear hlk hlk' hdk hdk' HA
          by_cases c1 : 97 ≤ s[k].toNat
          · have d1 : decide (97 ≤ (s[k].toNat : Int)) = true := decide_eq_true (by omega)
            have d2 : decide ((s[k].toNat : Int) ≤ 122) = false := decide_eq_false (by omega)
            have d3 : decide (48 ≤ (s[k].toNat : Int)) = true := decide_eq_true (by omega)
            have d4 : decide ((s[k].toNat : Int) ≤ 57) = false := decide_eq_false (by omega)
            clear hc hd
            go_wp2
            go_ret
            exact ⟨ret_bool F.out.symm, rfl⟩
          · have d1 : decide (97 ≤ (s[k].toNat : Int)) = false := decide_eq_false (by omega)
            by_cases c2 : 48 ≤ s[k].toNat
            · have d3 : decide (48 ≤ (s[k].toNat : Int)) = true := decide_eq_true (by omega)
              have d4 : decide ((s[k].toNat : Int) ≤ 57) = false := decide_eq_false (by omega)
              clear hc hd
              go_wp2
              go_ret
              exact ⟨ret_bool F.out.symm, rfl⟩
            · have d3 : decide (48 ≤ (s[k].toNat : Int)) = false := decide_eq_false (by omega)
              clear hc hd
              go_wp2
              go_ret
              exact ⟨ret_bool F.out.symm, rfl⟩
    · obtain rfl : k = s.size := by omega
      by_cases h0 : s.size < 1
      · have F := Lib.hid (nameB_len (Or.inl h0))
        have d : decide (0 < (s.size : Int)) = false := decide_eq_false (by omega)
        go_wp2
        go_ret
        exact ⟨ret_bool F.out.symm, rfl⟩
      · have d : decide (0 < (s.size : Int)) = true := decide_eq_true (by omega)
        by_cases h8 : 8 < s.size
        · have F := Lib.hid (nameB_len (Or.inr h8))
          have d8 : decide ((s.size : Int) ≤ 8) = false := decide_eq_false (by omega)
          go_wp2
          go_ret
          exact ⟨ret_bool F.out.symm, rfl⟩
        · have F := Lib.hid (nameB_yes (by omega) (by omega) HA.out)
          have d8 : decide ((s.size : Int) ≤ 8) = true := decide_eq_true (by omega)
          go_wp2
          go_ret
          exact ⟨ret_bool F.out.symm, rfl⟩

end Go.Proofs.YtokncfhpmjohdabGreat.IsName
namespace Go.Proofs.YtokncfhpmjohdabGreat.Jt
open Go.RowKit
set_option linter.unusedVariables false
set_option linter.unusedSimpArgs false

def iw (x a b : Int) : Bool := decide (a ≤ x) && decide (x ≤ b)
theorem iw_iff {x a b : Int} : iw x a b = true ↔ a ≤ x ∧ x ≤ b := by unfold iw; rw [Bool.and_eq_true, decide_eq_true_eq, decide_eq_true_eq]
theorem iw_yes {x a b : Int} (h : a ≤ x ∧ x ≤ b) : iw x a b = true := iw_iff.2 h
theorem iw_no {x a b : Int} (h : x < a ∨ b < x) : iw x a b = false := by
  rw [← Bool.not_eq_true, iw_iff]; omega

theorem isWithin (x a b : Int) (w : World) : Calls Tryz.prog 64 #[.int .i64 x, .int .i64 a, .int .i64 b] w fun e w' => e = .returned (.bool (iw x a b)) ∧ w = w' := by
  go_enter Tryz.func64, Tryz.ntmps64
  go_wp2
  all_goals go_returns
  · rename_i h
    refine ⟨?_, rfl⟩
    show Ending.returned (.bool (decide (x ≤ b))) = _
    unfold iw; rw [decide_eq_true h]; rfl
  · rename_i h
    refine ⟨?_, rfl⟩
    show Ending.returned (.bool false) = _
    rw [iw_no (by omega)]
theorem l1In (x a b : Int) (w : World) : Calls Tryz.prog 76 #[.int .i64 x, .int .i64 a, .int .i64 b] w fun e w' => e = .returned (.bool (iw x a b)) ∧ w = w' := by
  go_enter Tryz.func76, Tryz.ntmps76
  go_wp2
  all_goals go_returns
  · rename_i h
    refine ⟨?_, rfl⟩
    show Ending.returned (.bool (decide (x ≤ b))) = _
    unfold iw; rw [decide_eq_true h]; rfl
  · rename_i h
    refine ⟨?_, rfl⟩
    show Ending.returned (.bool false) = _
    rw [iw_no (by omega)]

theorem isWithin_of {x a b : Int} {r : Bool} (e : iw x a b = r) (w : World) : Calls Tryz.prog 64 #[.int .i64 x, .int .i64 a, .int .i64 b] w fun e w' => e = .returned (.bool r) ∧ w = w' := e ▸ isWithin x a b w
theorem l1In_of {x a b : Int} {r : Bool} (e : iw x a b = r) (w : World) : Calls Tryz.prog 76 #[.int .i64 x, .int .i64 a, .int .i64 b] w fun e w' => e = .returned (.bool r) ∧ w = w' := e ▸ l1In x a b w

end Go.Proofs.YtokncfhpmjohdabGreat.Jt

