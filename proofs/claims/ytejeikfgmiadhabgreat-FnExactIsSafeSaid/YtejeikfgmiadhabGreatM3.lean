/- Plain facts on the words of floats, zeros with a sign among them: a word tells a whole number times a power of two; sums, differences and products of such words tell the sums, differences and products. -/
import Derived.Test.YtejeikfgmiadhabGreatFlt
import Derived.Test.YtejeikfgmiadhabGreatRows
import Derived.WalkKit
import Derived.WalkLawsBesides
import Derived.Laws.Cover2
import Derived.Laws.FloatArith
import Derived.Laws.ComplexArith
namespace Go.Proofs.YtejeikfgmiadhabGreat.Cx
open Ieee Go.Proofs.YtejeikfgmiadhabGreat.Flt

/-- The word tells n times 2^p (a zero may bear either sign). -/
def Is (f : Format) (n p : Int) (w : Nat) : Prop := ∃ s : Bool, (n ≠ 0 → s = decide (n < 0)) ∧ w = f.nearest s n.natAbs p

theorem is_fl (f : Format) (n p : Int) : Is f n p (fl f n p) := ⟨_, fun _ => rfl, rfl⟩

theorem read_is {f : Format} {n p : Int} {w : Nat} (hf : Fits f n p) (h : Is f n p w) :
    ∃ (s : Bool) (k : Nat), (n ≠ 0 → s = decide (n < 0)) ∧ f.read w = .number s (n.natAbs * 2 ^ k) (p - k) := by
  obtain ⟨s, hs, rfl⟩ := h
  obtain ⟨k, hk, _⟩ := nearest_read f s n.natAbs p hf.1 hf.2.1 hf.2.2
  exact ⟨s, k, hs, hk⟩

theorem signed_is (s : Bool) (n : Int) (k a : Nat) (hs : n ≠ 0 → s = decide (n < 0)) : signed s (n.natAbs * 2 ^ k) a = n * 2 ^ (k + a) := by
  by_cases h : n = 0
  · subst h; rw [signed_mul]; simp
  · rw [hs h]; exact signed_fl n k a

theorem is_scaled (f : Format) (n : Int) (K : Nat) (p q : Int) (hq : q = p - K) (s : Bool) (hs : n * 2 ^ K ≠ 0 → s = decide (n * 2 ^ K < 0)) : Is f n p (f.write (.number s (n * 2 ^ K).natAbs q)) := by
  refine ⟨s, fun h => ?_, ?_⟩
  · have hp : (0 : Int) < 2 ^ K := Int.pow_pos (by decide)
    rw [hs (fun c => by rcases Int.mul_eq_zero.1 c with c | c; exact h c; exact absurd c (pow_ne _)), decide_eq_decide]
    constructor
    · intro h1; exact Int.not_le.1 fun h0 => absurd (Int.mul_nonneg h0 (Int.le_of_lt hp)) (by omega)
    · intro h1; exact Int.mul_neg_of_neg_of_pos h1 hp
  · show f.nearest _ _ _ = _
    rw [hq, Int.natAbs_mul, Int.natAbs_pow]
    show f.nearest s (n.natAbs * 2 ^ K) (p - K) = _
    rw [nearest_scale]

theorem add_is {f : Format} {a b p : Int} {x y : Nat} (fa : Fits f a p) (fb : Fits f b p) (ha : Is f a p x) (hb : Is f b p y) : ∃ w, f.add x y = some w ∧ Is f (a + b) p w := by
  obtain ⟨s, k, hs, h1⟩ := read_is fa ha
  obtain ⟨t, l, ht, h2⟩ := read_is fb hb
  unfold Format.add
  rw [h1, h2]
  simp only [Datum.sum, Option.map_some]
  have e1 : (p - (k : Int) - min (p - (k : Int)) (p - (l : Int))).toNat + k = max k l := by omega
  have e2 : (p - (l : Int) - min (p - (k : Int)) (p - (l : Int))).toNat + l = max k l := by omega
  rw [signed_is _ _ _ _ hs, signed_is _ _ _ _ ht, Nat.add_comm k, Nat.add_comm l, e1, e2, ← Int.add_mul]
  exact ⟨_, rfl, is_scaled f (a + b) (max k l) p _ (by omega) _ (fun h => by rw [if_neg h])⟩

theorem sub_is {f : Format} {a b p : Int} {x y : Nat} (fa : Fits f a p) (fb : Fits f b p) (ha : Is f a p x) (hb : Is f b p y) : ∃ w, f.sub x y = some w ∧ Is f (a - b) p w := by
  obtain ⟨s, k, hs, h1⟩ := read_is fa ha
  obtain ⟨t, l, ht, h2⟩ := read_is fb hb
  unfold Format.sub
  rw [h1, h2]
  simp only [Datum.sum, Datum.opposite, Option.map_some]
  have e1 : (p - (k : Int) - min (p - (k : Int)) (p - (l : Int))).toNat + k = max k l := by omega
  have e2 : (p - (l : Int) - min (p - (k : Int)) (p - (l : Int))).toNat + l = max k l := by omega
  rw [signed_opp, signed_is _ _ _ _ hs, signed_is _ _ _ _ ht, Nat.add_comm k, Nat.add_comm l, e1, e2, ← Int.sub_eq_add_neg, ← Int.sub_mul]
  exact ⟨_, rfl, is_scaled f (a - b) (max k l) p _ (by omega) _ (fun h => by rw [if_neg h])⟩

theorem mul_is {f : Format} {a b p q : Int} {x y : Nat} (fa : Fits f a p) (fb : Fits f b q) (ha : Is f a p x) (hb : Is f b q y) : ∃ w, f.mul x y = some w ∧ Is f (a * b) (p + q) w := by
  obtain ⟨s, k, hs, h1⟩ := read_is fa ha
  obtain ⟨t, l, ht, h2⟩ := read_is fb hb
  unfold Format.mul
  rw [h1, h2]
  simp only [Datum.product, Option.map_some]
  refine ⟨_, rfl, (s ^^ t), fun h => ?_, ?_⟩
  · have h0 : a ≠ 0 := fun c => h (by rw [c, Int.zero_mul])
    have h3 : b ≠ 0 := fun c => h (by rw [c, Int.mul_zero])
    rw [hs h0, ht h3]
    exact xor_sign a b (Or.inl h)
  · have e : a.natAbs * 2 ^ k * (b.natAbs * 2 ^ l) = (a * b).natAbs * 2 ^ (k + l) := by
      rw [Int.natAbs_mul, Nat.pow_add, Nat.mul_mul_mul_comm]
    rw [e, show p - (k : Int) + (q - (l : Int)) = (p + q) - ((k + l : Nat) : Int) by omega]
    show f.nearest _ _ _ = _
    rw [nearest_scale]

theorem order_is {f : Format} {a b p : Int} {x y : Nat} (fa : Fits f a p) (fb : Fits f b p) (ha : Is f a p x) (hb : Is f b p y) : f.order x y = some (compare a b) := by
  obtain ⟨s, k, hs, h1⟩ := read_is fa ha
  obtain ⟨t, l, ht, h2⟩ := read_is fb hb
  unfold Format.order
  rw [h1, h2]
  simp only [Datum.order]
  have e1 : (p - (k : Int) - min (p - (k : Int)) (p - (l : Int))).toNat + k = max k l := by omega
  have e2 : (p - (l : Int) - min (p - (k : Int)) (p - (l : Int))).toNat + l = max k l := by omega
  rw [signed_is _ _ _ _ hs, signed_is _ _ _ _ ht, Nat.add_comm k, Nat.add_comm l, e1, e2]
  have hp : (0 : Int) < 2 ^ (max k l) := Int.pow_pos (by decide)
  congr 1
  simp only [compare, compareOfLessAndEq]
  have c1 : (a * 2 ^ (max k l) < b * 2 ^ (max k l)) ↔ a < b := ⟨fun h => Int.lt_of_mul_lt_mul_right h (Int.le_of_lt hp), fun h => Int.mul_lt_mul_of_pos_right h hp⟩
  have c2 : (a * 2 ^ (max k l) = b * 2 ^ (max k l)) ↔ a = b := Int.mul_eq_mul_right_iff (Int.ne_of_gt hp)
  simp only [c1, c2]

theorem conv_is {f g : Format} {n p : Int} {x : Nat} (hf : Fits f n p) (h : Is f n p x) : Is g n p (g.write (f.read x)) := by
  obtain ⟨s, k, hs, hk⟩ := read_is hf h
  rw [hk]
  refine ⟨s, hs, ?_⟩
  show g.nearest _ _ _ = _
  rw [nearest_scale]

theorem number_is {f : Format} {n p : Int} {x : Nat} (hf : Fits f n p) (h : Is f n p x) : ∃ s m e, f.read x = .number s m e :=
  let ⟨_, _, _, hk⟩ := read_is hf h
  ⟨_, _, _, hk⟩

end Go.Proofs.YtejeikfgmiadhabGreat.Cx
namespace Go.Proofs.YtejeikfgmiadhabGreat.Meas
open Go.RowKit Go.Proofs.YtejeikfgmiadhabGreat.Flt

/-- The float32 of n eighths. -/
def f32 (n : Int) : Nat := fl Ieee.single n (-3)

theorem fits32 (n : Int) (h : n.natAbs < 16777216) : Fits Ieee.single n (-3) := fits_single _ _ h (by decide) (by decide)
theorem fits0 (n : Int) (h : n.natAbs < 16777216) : Fits Ieee.single n 0 := fits_single _ _ h (by decide) (by decide)

theorem order32 (a b : Int) (ha : a.natAbs < 16777216) (hb : b.natAbs < 16777216) : FloatKind.f32.format.order (f32 a) (f32 b) = some (compare a b) := order_fl Ieee.single a b (-3) (fits32 a ha) (fits32 b hb)
theorem e512 : f32 4096 = 1140850688 := c512
theorem en512 : f32 (-4096) = 3288334336 := cneg512

theorem cmp_lt {a b : Int} (h : a < b) : compare a b = .lt := by simp [compare, compareOfLessAndEq, h]
theorem cmp_eq {a b : Int} (h : a = b) : compare a b = .eq := by simp [compare, compareOfLessAndEq, h]
theorem cmp_gt {a b : Int} (h : b < a) : compare a b = .gt := by
  have h1 : ¬ a < b := by omega
  have h2 : ¬ a = b := by omega
  simp [compare, compareOfLessAndEq, h1, h2]

theorem quo8 (x : Int) (hx : x.natAbs < 16777216) (w : World) : (binOp .quo 146 (.float .f32 (floatOfInt .f32 x)) (.float .f32 1090519040)).run Tryz.prog w = .ok (.float .f32 (f32 x)) w :=
  run_float_arith w .quo _ .f32 _ _ _ (by
    have := div8_fl x hx
    rw [c8] at this
    exact this)

theorem mul8 (x : Int) (hx : x.natAbs < 16777216) (w : World) : (binOp .mul 146 (.float .f32 (f32 x)) (.float .f32 1090519040)).run Tryz.prog w = .ok (.float .f32 (fl Ieee.single x 0)) w :=
  run_float_arith w .mul _ .f32 _ _ _ (by
    have := mul8_fl x (-3) (fits32 x hx)
    rw [c8] at this
    exact this)

theorem toInt (x : Int) (hx : x.natAbs < 16777216) (w : World) : (convert 146 3 (.float .f32 (fl Ieee.single x 0))).run Tryz.prog w = .ok (.int .i64 x) w :=
  run_convert_float_int w _ _ .f32 .i64 _ x (by kernel_rfl) (by kernel_rfl) (by
    unfold floatToIntVal
    rw [show (FloatKind.f32.decode (fl Ieee.single x 0)).toInt .zero = some x from toInt_fl Ieee.single x (fits0 x hx)]
    simp only
    rw [if_pos]
    have h1 : IntKind.i64.min = -9223372036854775808 := rfl
    have h2 : IntKind.i64.max = 9223372036854775807 := rfl
    rw [h1, h2]; omega)

/-- impl.wholesOf. -/
theorem wholesOf (x : Int) (hx : x.natAbs < 16777216) (w : World) : Calls Tryz.prog 143 #[.int .i64 x] w fun e w' => e = .returned (.float .f32 (f32 x)) ∧ w = w' := by
  have q := quo8 x hx
  clear hx
  go_enter Tryz.func143, Tryz.ntmps143
  go_wp2
  go_ret
  exact ⟨rfl, rfl⟩

/-- impl.toldMeasure at a measure. -/
theorem told (n : Int) (h1 : -4096 ≤ n) (h2 : n ≤ 4096) (w : World) : Calls Tryz.prog 174 #[.float .f32 (f32 n)] w fun e w' => e = .returned (.tuple #[.int .i64 n, .bool true]) ∧ w = w' := by
  have o1 := order32 n (-4096) (by omega) (by decide)
  have o2 := order32 n 4096 (by omega) (by decide)
  rw [en512] at o1
  rw [e512] at o2
  have m := mul8 n (by omega)
  have t := toInt n (by omega)
  have b1 : (FloatKind.f32.format.order (f32 n) 3288334336 == some .gt || FloatKind.f32.format.order (f32 n) 3288334336 == some .eq) = true := by
    rw [o1]
    by_cases c : n = -4096
    · rw [cmp_eq c]; rfl
    · rw [cmp_gt (by omega)]; rfl
  have b2 : (FloatKind.f32.format.order (f32 n) 1140850688 == some .lt || FloatKind.f32.format.order (f32 n) 1140850688 == some .eq) = true := by
    rw [o2]
    by_cases c : n = 4096
    · rw [cmp_eq c]; rfl
    · rw [cmp_lt (by omega)]; rfl
  clear o1 o2 h1 h2
  go_enter Tryz.func174, Tryz.ntmps174
  go_wp2
  go_ret2
  exact ⟨rfl, rfl⟩

/-- impl.toldMeasure beyond the measures. -/
theorem told_no (n : Int) (h1 : n < -4096 ∨ 4096 < n) (h2 : n.natAbs < 16777216) (w : World) : Calls Tryz.prog 174 #[.float .f32 (f32 n)] w fun e w' => e = .returned (.tuple #[.int .i64 0, .bool false]) ∧ w = w' := by
  have o1 := order32 n (-4096) h2 (by decide)
  have o2 := order32 n 4096 h2 (by decide)
  rw [en512] at o1
  rw [e512] at o2
  rcases h1 with h1 | h1
  · have b1 : (FloatKind.f32.format.order (f32 n) 3288334336 == some .gt || FloatKind.f32.format.order (f32 n) 3288334336 == some .eq) = false := by
      rw [o1, cmp_lt (by omega)]; rfl
    clear o1 o2 h1 h2
    go_enter Tryz.func174, Tryz.ntmps174
    go_wp2
    go_ret2
    exact ⟨rfl, rfl⟩
  · have b1 : (FloatKind.f32.format.order (f32 n) 3288334336 == some .gt || FloatKind.f32.format.order (f32 n) 3288334336 == some .eq) = true := by
      rw [o1, cmp_gt (by omega)]; rfl
    have b2 : (FloatKind.f32.format.order (f32 n) 1140850688 == some .lt || FloatKind.f32.format.order (f32 n) 1140850688 == some .eq) = false := by
      rw [o2, cmp_gt (by omega)]; rfl
    clear o1 o2 h1 h2
    go_enter Tryz.func174, Tryz.ntmps174
    go_wp2
    go_ret2
    exact ⟨rfl, rfl⟩

/-- impl.toldMeasure at the zero with a sign. -/
theorem told_zero (w : World) : Calls Tryz.prog 174 #[.float .f32 2147483648] w fun e w' => e = .returned (.tuple #[.int .i64 0, .bool true]) ∧ w = w' := by
  have b1 : (FloatKind.f32.format.order 2147483648 3288334336 == some .gt || FloatKind.f32.format.order 2147483648 3288334336 == some .eq) = true := by decide
  have b2 : (FloatKind.f32.format.order 2147483648 1140850688 == some .lt || FloatKind.f32.format.order 2147483648 1140850688 == some .eq) = true := by decide
  have m : ∀ w, (binOp .mul 146 (.float .f32 2147483648) (.float .f32 1090519040)).run Tryz.prog w = .ok (.float .f32 2147483648) w := fun w => run_float_arith w .mul _ .f32 _ _ _ (by decide)
  have t : ∀ w, (convert 146 3 (.float .f32 2147483648)).run Tryz.prog w = .ok (.int .i64 0) w := fun w => run_convert_float_int w _ _ .f32 .i64 _ 0 (by kernel_rfl) (by kernel_rfl) (by decide)
  go_enter Tryz.func174, Tryz.ntmps174
  go_wp2
  go_ret2
  exact ⟨rfl, rfl⟩

end Go.Proofs.YtejeikfgmiadhabGreat.Meas
namespace Go.Proofs.YtejeikfgmiadhabGreat.Cm
open Go.RowKit Go.Proofs.YtejeikfgmiadhabGreat.Flt Go.Proofs.YtejeikfgmiadhabGreat.Cx

/-- The word tells n eighths. -/
def I32 (n : Int) (w : Nat) : Prop := Is Ieee.single n (-3) w
def I64 (n : Int) (w : Nat) : Prop := Is Ieee.double n (-3) w

theorem i32_f32 (n : Int) : I32 n (Meas.f32 n) := is_fl _ _ _

theorem s32 (n : Int) (h : n.natAbs < 16777216) : Fits Ieee.single n (-3) := fits_single _ _ h (by decide) (by decide)
theorem s64 (n : Int) (h : n.natAbs < 16777216) : Fits Ieee.double n (-3) := fits_double _ _ (by omega) (by decide) (by decide)

variable {P : Program}

theorem run_float_float {k l : FloatKind} (hkl : k ≠ l) (x : Nat) (w : World) (s : Bool) (m : Nat) (e : Int) (s' : Bool) (m' : Nat) (e' : Int) (h : k.format.read x = .number s m e) (h' : l.format.read (l.format.write (k.format.read x)) = .number s' m' e') :
    (Op.Complex.conv k x l).run P w = .ok (l.format.write (k.format.read x)) w := by
  have h2 : l.decode (l.encode (.number s m e)) = .number s' m' e' := by rw [← h]; exact h'
  unfold Op.Complex.conv
  rw [if_neg hkl]
  simp only [Conv.floatToFloat, if_neg hkl, show k.decode x = .number s m e from h]
  rw [h2, h]
  rfl

theorem conv_up {n : Int} {x : Nat} (hn : n.natAbs < 16777216) (h : I32 n x) : ∃ y, (∀ w, (Op.Complex.conv .f32 x .f64).run P w = .ok y w) ∧ I64 n y := by
  have hy : I64 n (Ieee.double.write (Ieee.single.read x)) := conv_is (s32 n hn) h
  obtain ⟨s, m, e, h1⟩ := number_is (s32 n hn) h
  obtain ⟨s', m', e', h2⟩ := number_is (s64 n hn) hy
  exact ⟨_, fun w => run_float_float (by decide) x w s m e s' m' e' h1 h2, hy⟩

theorem conv_down {n : Int} {x : Nat} (hn : n.natAbs < 16777216) (h : I64 n x) : ∃ y, (∀ w, (Op.Complex.conv .f64 x .f32).run P w = .ok y w) ∧ I32 n y := by
  have hy : I32 n (Ieee.single.write (Ieee.double.read x)) := conv_is (s64 n hn) h
  obtain ⟨s, m, e, h1⟩ := number_is (s64 n hn) h
  obtain ⟨s', m', e', h2⟩ := number_is (s32 n hn) hy
  exact ⟨_, fun w => run_float_float (by decide) x w s m e s' m' e' h1 h2, hy⟩

/-- The word tells the whole number n. -/
def W64 (n : Int) (w : Nat) : Prop := Is Ieee.double n 0 w

theorem mul64 {a b : Int} {x y : Nat} (ha : a.natAbs < 16777216) (hb : b.natAbs < 2) (hx : I64 a x) (hy : W64 b y) : ∃ r, (∀ w, (Op.Complex.mul x y).run P w = .ok r w) ∧ I64 (a * b) r := by
  obtain ⟨r, h1, h2⟩ := mul_is (s64 a ha) (fits_double b 0 (by omega) (by decide) (by decide)) hx hy
  exact ⟨r, fun w => run_carith w h1, h2⟩
theorem add64 {a b : Int} {x y : Nat} (ha : a.natAbs < 16777216) (hb : b.natAbs < 16777216) (hx : I64 a x) (hy : I64 b y) : ∃ r, (∀ w, (Op.Complex.add x y).run P w = .ok r w) ∧ I64 (a + b) r := by
  obtain ⟨r, h1, h2⟩ := add_is (s64 a ha) (s64 b hb) hx hy
  exact ⟨r, fun w => run_carith w h1, h2⟩
theorem sub64 {a b : Int} {x y : Nat} (ha : a.natAbs < 16777216) (hb : b.natAbs < 16777216) (hx : I64 a x) (hy : I64 b y) : ∃ r, (∀ w, (Op.Complex.sub x y).run P w = .ok r w) ∧ I64 (a - b) r := by
  obtain ⟨r, h1, h2⟩ := sub_is (s64 a ha) (s64 b hb) hx hy
  exact ⟨r, fun w => run_carith w h1, h2⟩

/-- A whole number, -1 to 1, as a single and as a double. -/
def U32 (n : Int) (w : Nat) : Prop := Is Ieee.single n 0 w
theorem unit_up {n : Int} {x : Nat} (hn : n.natAbs < 2) (h : U32 n x) : ∃ y, (∀ w, (Op.Complex.conv .f32 x .f64).run P w = .ok y w) ∧ W64 n y := by
  have f1 : Fits Ieee.single n 0 := fits_single _ _ (by omega) (by decide) (by decide)
  have f2 : Fits Ieee.double n 0 := fits_double _ _ (by omega) (by decide) (by decide)
  have hy : W64 n (Ieee.double.write (Ieee.single.read x)) := conv_is f1 h
  obtain ⟨s, m, e, h1⟩ := number_is f1 h
  obtain ⟨s', m', e', h2⟩ := number_is f2 hy
  exact ⟨_, fun w => run_float_float (by decide) x w s m e s' m' e' h1 h2, hy⟩

theorem abs_mul {a b : Int} (ha : a.natAbs < 8388608) (hb : b.natAbs < 2) : (a * b).natAbs < 8388608 := by
  rw [Int.natAbs_mul]
  have : b.natAbs = 0 ∨ b.natAbs = 1 := by omega
  rcases this with h | h <;> rw [h] <;> omega

/-- A product with a complex number whose parts are -1 to 1. -/
theorem cmul {a b c d : Int} {x y u v : Nat} (ha : a.natAbs < 8388608) (hb : b.natAbs < 8388608) (hc : c.natAbs < 2) (hd : d.natAbs < 2) (hx : I32 a x) (hy : I32 b y) (hu : U32 c u) (hv : U32 d v) :
    ∃ re im, (∀ t w, (binOp .mul t (.complex .f32 x y) (.complex .f32 u v)).run P w = .ok (.complex .f32 re im) w) ∧ I32 (a * c - b * d) re ∧ I32 (a * d + b * c) im := by
  obtain ⟨x', cx, hx'⟩ := conv_up (P := P) (by omega) hx
  obtain ⟨y', cy, hy'⟩ := conv_up (P := P) (by omega) hy
  obtain ⟨u', cu, hu'⟩ := unit_up (P := P) hc hu
  obtain ⟨v', cv, hv'⟩ := unit_up (P := P) hd hv
  have n1 := abs_mul ha hc
  have n2 := abs_mul hb hd
  have n3 := abs_mul ha hd
  have n4 := abs_mul hb hc
  obtain ⟨r1, m1, i1⟩ := mul64 (P := P) (by omega) hc hx' hu'
  obtain ⟨r2, m2, i2⟩ := mul64 (P := P) (by omega) hd hy' hv'
  obtain ⟨r3, m3, i3⟩ := mul64 (P := P) (by omega) hd hx' hv'
  obtain ⟨r4, m4, i4⟩ := mul64 (P := P) (by omega) hc hy' hu'
  obtain ⟨r5, m5, i5⟩ := sub64 (P := P) (by omega) (by omega) i1 i2
  obtain ⟨r6, m6, i6⟩ := add64 (P := P) (by omega) (by omega) i3 i4
  obtain ⟨re, c5, j5⟩ := conv_down (P := P) (by omega) i5
  obtain ⟨im, c6, j6⟩ := conv_down (P := P) (by omega) i6
  refine ⟨re, im, fun t w => ?_, j5, j6⟩
  simp [binOp, Op.complexOp, Op.Complex.product, cx, cy, cu, cv, m1, m2, m3, m4, m5, m6, c5, c6]

theorem mul64u {a b : Int} {x y : Nat} (ha : a.natAbs < 2) (hb : b.natAbs < 16777216) (hx : W64 a x) (hy : I64 b y) : ∃ r, (∀ w, (Op.Complex.mul x y).run P w = .ok r w) ∧ I64 (a * b) r := by
  obtain ⟨r, h1, h2⟩ := mul_is (fits_double a 0 (by omega) (by decide) (by decide)) (s64 b hb) hx hy
  exact ⟨r, fun w => run_carith w h1, by rw [Int.zero_add] at h2; exact h2⟩

/-- A unit times a complex number. -/
theorem cmulU {a b c d : Int} {x y u v : Nat} (ha : a.natAbs < 8388608) (hb : b.natAbs < 8388608) (hc : c.natAbs < 2) (hd : d.natAbs < 2) (hx : I32 a x) (hy : I32 b y) (hu : U32 c u) (hv : U32 d v) :
    ∃ re im, (∀ t w, (binOp .mul t (.complex .f32 u v) (.complex .f32 x y)).run P w = .ok (.complex .f32 re im) w) ∧ I32 (c * a - d * b) re ∧ I32 (c * b + d * a) im := by
  obtain ⟨x', cx, hx'⟩ := conv_up (P := P) (by omega) hx
  obtain ⟨y', cy, hy'⟩ := conv_up (P := P) (by omega) hy
  obtain ⟨u', cu, hu'⟩ := unit_up (P := P) hc hu
  obtain ⟨v', cv, hv'⟩ := unit_up (P := P) hd hv
  have n1 := abs_mul ha hc
  have n2 := abs_mul hb hd
  have n3 := abs_mul ha hd
  have n4 := abs_mul hb hc
  rw [Int.mul_comm] at n1 n2 n3 n4
  obtain ⟨r1, m1, i1⟩ := mul64u (P := P) hc (by omega) hu' hx'
  obtain ⟨r2, m2, i2⟩ := mul64u (P := P) hd (by omega) hv' hy'
  obtain ⟨r3, m3, i3⟩ := mul64u (P := P) hc (by omega) hu' hy'
  obtain ⟨r4, m4, i4⟩ := mul64u (P := P) hd (by omega) hv' hx'
  obtain ⟨r5, m5, i5⟩ := sub64 (P := P) (by omega) (by omega) i1 i2
  obtain ⟨r6, m6, i6⟩ := add64 (P := P) (by omega) (by omega) i3 i4
  obtain ⟨re, c5, j5⟩ := conv_down (P := P) (by omega) i5
  obtain ⟨im, c6, j6⟩ := conv_down (P := P) (by omega) i6
  refine ⟨re, im, fun t w => ?_, j5, j6⟩
  simp [binOp, Op.complexOp, Op.Complex.product, cx, cy, cu, cv, m1, m2, m3, m4, m5, m6, c5, c6]

theorem csum (op : BinOp) (sg : Int) (hop : op = .add ∧ sg = 1 ∨ op = .sub ∧ sg = -1) {a b c d : Int} {x y u v : Nat} (ha : a.natAbs < 8388608) (hb : b.natAbs < 8388608) (hc : c.natAbs < 8388608) (hd : d.natAbs < 8388608) (hx : I32 a x) (hy : I32 b y) (hu : I32 c u) (hv : I32 d v) :
    ∃ re im, (∀ t w, (binOp op t (.complex .f32 x y) (.complex .f32 u v)).run P w = .ok (.complex .f32 re im) w) ∧ I32 (a + sg * c) re ∧ I32 (b + sg * d) im := by
  rcases hop with ⟨rfl, rfl⟩ | ⟨rfl, rfl⟩
  · obtain ⟨re, h1, j1⟩ := add_is (s32 a (by omega)) (s32 c (by omega)) hx hu
    obtain ⟨im, h2, j2⟩ := add_is (s32 b (by omega)) (s32 d (by omega)) hy hv
    refine ⟨re, im, fun t w => run_complex_sum w .add (Or.inl rfl) t .f32 x y u v re im ?_, by rw [Int.one_mul]; exact j1, by rw [Int.one_mul]; exact j2⟩
    show ((Ieee.single.add x u).bind fun re => (Ieee.single.add y v).bind fun im => some (re, im)) = _
    rw [h1, h2]; rfl
  · obtain ⟨re, h1, j1⟩ := sub_is (s32 a (by omega)) (s32 c (by omega)) hx hu
    obtain ⟨im, h2, j2⟩ := sub_is (s32 b (by omega)) (s32 d (by omega)) hy hv
    refine ⟨re, im, fun t w => run_complex_sum w .sub (Or.inr rfl) t .f32 x y u v re im ?_, by rw [show a + -1 * c = a - c by omega]; exact j1, by rw [show b + -1 * d = b - d by omega]; exact j2⟩
    show ((Ieee.single.sub x u).bind fun re => (Ieee.single.sub y v).bind fun im => some (re, im)) = _
    rw [h1, h2]; rfl

theorem u32_0 : U32 0 0 := ⟨false, by decide, by decide⟩
theorem u32_1 : U32 1 1065353216 := ⟨false, by decide, by decide⟩
theorem u32_m1 : U32 (-1) 3212836864 := ⟨true, by decide, by decide⟩

/-- A quarter turn. -/
theorem quarter {a b : Int} {x y : Nat} (ha : a.natAbs < 8388608) (hb : b.natAbs < 8388608) (hx : I32 a x) (hy : I32 b y) :
    ∃ re im, (∀ t w, (binOp .mul t (.complex .f32 x y) (.complex .f32 0 1065353216)).run P w = .ok (.complex .f32 re im) w) ∧ I32 (-b) re ∧ I32 a im := by
  obtain ⟨re, im, h, h1, h2⟩ := cmul (P := P) ha hb (c := 0) (d := 1) (by decide) (by decide) hx hy u32_0 u32_1
  exact ⟨re, im, h, by rw [show -b = a * 0 - b * 1 by omega]; exact h1, by rw [show a = a * 1 + b * 0 by omega]; exact h2⟩

/-- Such a word is the word itself, or the zero with a sign. -/
theorem i32_or {n : Int} {x : Nat} (h : I32 n x) : x = Meas.f32 n ∨ (n = 0 ∧ x = 2147483648) := by
  obtain ⟨s, hs, rfl⟩ := h
  by_cases hn : n = 0
  · subst hn
    cases s
    · exact Or.inl rfl
    · exact Or.inr ⟨rfl, by decide⟩
  · left; rw [hs hn]; rfl

def ms (x : Int) : Bool := decide (-4096 ≤ x) && decide (x ≤ 4096)
theorem ms_yes {x : Int} (h1 : -4096 ≤ x) (h2 : x ≤ 4096) : ms x = true := by unfold ms; rw [decide_eq_true h1, decide_eq_true h2]; rfl
theorem ms_no {x : Int} (h : x < -4096 ∨ 4096 < x) : ms x = false := by
  unfold ms
  rcases h with h | h
  · rw [decide_eq_false (by omega)]; rfl
  · rw [decide_eq_false (p := x ≤ 4096) (by omega), Bool.and_false]
theorem ms_iff {x : Int} : ms x = true ↔ -4096 ≤ x ∧ x ≤ 4096 := by unfold ms; rw [Bool.and_eq_true, decide_eq_true_eq, decide_eq_true_eq]

/-- impl.toldMeasure, at every word that tells eighths. -/
theorem told {n : Int} {x : Nat} (hn : n.natAbs < 16777216) (h : I32 n x) (w : World) :
    Calls Tryz.prog 174 #[.float .f32 x] w fun e w' => e = .returned (.tuple #[.int .i64 (if ms n then n else 0), .bool (ms n)]) ∧ w = w' := by
  rcases i32_or h with rfl | ⟨rfl, rfl⟩
  · by_cases c : -4096 ≤ n ∧ n ≤ 4096
    · rw [ms_yes c.1 c.2]; exact Meas.told n c.1 c.2 w
    · rw [ms_no (by omega)]; exact Meas.told_no n (by omega) hn w
  · exact Meas.told_zero w

end Go.Proofs.YtejeikfgmiadhabGreat.Cm
