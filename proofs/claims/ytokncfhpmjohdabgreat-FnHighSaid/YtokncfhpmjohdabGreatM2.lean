/- Plain facts on the words of floats: a whole number times a power of two that fits is told exactly, and sums, differences and products of such numbers are exact. -/
import Ieee.Arith
import Derived.Test.YtokncfhpmjohdabGreatRows
import Derived.WalkKit
import Derived.WalkLawsBesides
import Derived.Laws.Cover2
import Derived.Laws.FloatArith
set_option linter.unusedVariables false
set_option linter.unusedSimpArgs false
namespace Go.Proofs.YtokncfhpmjohdabGreat.Flt
open Ieee

/-- The word nearest to n times 2^p. -/
def fl (f : Format) (n : Int) (p : Int) : Nat := f.nearest (decide (n < 0)) n.natAbs p

theorem log2_mul (m k : Nat) (h : m ≠ 0) : (m * 2 ^ k).log2 = m.log2 + k := by
  have h2 : m * 2 ^ k ≠ 0 := Nat.mul_ne_zero h (Nat.pos_iff_ne_zero.1 (Nat.two_pow_pos k))
  rw [Nat.log2_eq_iff h2]
  have h3 := (Nat.log2_eq_iff h (k := m.log2)).1 rfl
  constructor
  · rw [Nat.pow_add]; exact Nat.mul_le_mul_right _ h3.1
  · rw [show m.log2 + k + 1 = (m.log2 + 1) + k by omega, Nat.pow_add]
    exact (Nat.mul_lt_mul_right (Nat.two_pow_pos k)).2 h3.2

theorem min_add (a b k : Nat) : min (a + k) (b + k) = min a b + k := by omega

theorem cut_scale (neg : Bool) (n d k : Nat) (h : n ≠ 0) : Toward.even.cut neg (n * 2 ^ k) (d + k) = Toward.even.cut neg n d := by
  have hk := Nat.two_pow_pos k
  simp only [Toward.cut, log2_mul n k h]
  rw [show n.log2 + k + 2 = (n.log2 + 2) + k by omega, min_add]
  have g : 1 <<< (min d (n.log2 + 2) + k) = (1 <<< (min d (n.log2 + 2))) * 2 ^ k := by
    rw [Nat.shiftLeft_eq, Nat.shiftLeft_eq, Nat.pow_add, Nat.mul_assoc]
  rw [g, Nat.mul_div_mul_right _ _ hk, Nat.mul_mod_mul_right]
  generalize (1 <<< (min d (n.log2 + 2))) = G
  have e1 : decide (G * 2 ^ k < 2 * (n % G * 2 ^ k)) = decide (G < 2 * (n % G)) := by
    rw [← Nat.mul_assoc, decide_eq_decide]; exact Nat.mul_lt_mul_right hk
  have e2 : (G * 2 ^ k == 2 * (n % G * 2 ^ k)) = (G == 2 * (n % G)) := by
    rw [← Nat.mul_assoc, Bool.eq_iff_iff]; simp only [beq_iff_eq]; exact Nat.mul_left_inj (by omega)
  rw [e1, e2]

theorem cut_zero (neg : Bool) (n : Nat) (w : Toward) : w.cut neg n 0 = n := by
  cases w <;> simp [Toward.cut, Nat.mod_one]

theorem cut_exact (neg : Bool) (n d : Nat) : Toward.even.cut neg (n * 2 ^ d) d = n := by
  by_cases h : n = 0
  · subst h
    have : 0 < 1 <<< min d ((0 : Nat).log2 + 2) := by rw [Nat.shiftLeft_eq, Nat.one_mul]; exact Nat.two_pow_pos _
    simp [Toward.cut]
  · have := cut_scale neg n 0 d h
    rw [Nat.zero_add] at this; rw [this, cut_zero]

theorem nearest_scale (f : Format) (neg : Bool) (m : Nat) (k : Nat) (p : Int) : f.nearest neg (m * 2 ^ k) (p - k) = f.nearest neg m p := by
  by_cases h : m = 0
  · subst h; simp [Format.nearest]
  have h2 : m * 2 ^ k ≠ 0 := Nat.mul_ne_zero h (Nat.pos_iff_ne_zero.1 (Nat.two_pow_pos k))
  unfold Format.nearest
  rw [if_neg h, if_neg h2, log2_mul m k h]
  simp only []
  have e : (p - (k : Int) + ((m.log2 + k : Nat) : Int) - (f.fractionBits : Int)) = p + (m.log2 : Int) - f.fractionBits := by omega
  rw [e]
  generalize max (p + (m.log2 : Int) - f.fractionBits) f.leastPlace = l
  suffices hs : Toward.even.cut neg ((m * 2 ^ k) <<< (p - k - l).toNat) (l - (p - k)).toNat = Toward.even.cut neg (m <<< (p - l).toNat) (l - p).toNat by rw [hs]
  simp only [Nat.shiftLeft_eq]
  by_cases h1 : l ≤ p - k
  · rw [show (l - (p - k)).toNat = 0 by omega, show (l - p).toNat = 0 by omega, cut_zero, cut_zero, Nat.mul_assoc, ← Nat.pow_add]
    congr 2
    omega
  · by_cases h3 : l ≤ p
    · rw [show (p - k - l).toNat = 0 by omega, show (l - p).toNat = 0 by omega, cut_zero, Nat.pow_zero, Nat.mul_one]
      rw [show m * 2 ^ k = (m * 2 ^ (p - l).toNat) * 2 ^ (l - (p - k)).toNat by rw [Nat.mul_assoc, ← Nat.pow_add]; congr 2; omega]
      exact cut_exact _ _ _
    · rw [show (p - k - l).toNat = 0 by omega, show (p - l).toNat = 0 by omega, Nat.pow_zero, Nat.mul_one, Nat.mul_one]
      rw [show (l - (p - k)).toNat = (l - p).toNat + k by omega]
      exact cut_scale _ _ _ _ h

theorem fl_scale (f : Format) (n : Int) (k : Nat) (p : Int) : fl f (n * 2 ^ k) (p - k) = fl f n p := by
  unfold fl
  have e : (n * 2 ^ k).natAbs = n.natAbs * 2 ^ k := by
    rw [Int.natAbs_mul, Int.natAbs_pow]; rfl
  have hk : (0 : Int) < 2 ^ k := Int.pow_pos (by decide)
  have s : decide (n * 2 ^ k < 0) = decide (n < 0) := by
    rw [decide_eq_decide]
    constructor
    · intro h; exact Int.not_le.1 fun h0 => absurd (Int.mul_nonneg h0 (Int.le_of_lt hk)) (by omega)
    · intro h; exact Int.mul_neg_of_neg_of_pos h hk
  rw [e, s, nearest_scale]

theorem word_read (f : Format) (neg : Bool) (r : Nat) (h : r < f.signWeight) : (f.word neg r / f.signWeight % 2 == 1) = neg ∧ f.word neg r % f.signWeight = r := by
  unfold Format.word
  cases neg
  · simp [Nat.div_eq_of_lt h, Nat.mod_eq_of_lt h]
  · have hp : 0 < f.signWeight := by omega
    simp [Nat.add_div_left _ hp, Nat.div_eq_of_lt h, Nat.mod_eq_of_lt h]

theorem binade_pos (f : Format) : 0 < f.binade := Nat.two_pow_pos _

theorem inf_lt (f : Format) : f.infRung < f.signWeight := by
  have := binade_pos f
  unfold Format.infRung Format.signWeight
  rw [Nat.pow_add]
  exact (Nat.mul_lt_mul_right (Nat.two_pow_pos f.fractionBits)).2 (by have := Nat.two_pow_pos f.exponentBits; omega)

/-- What is read of a rung that is told as L binades and a significand. -/
theorem read_word (f : Format) (neg : Bool) (L kept : Nat) (h1 : kept < 2 * f.binade) (h2 : L = 0 ∨ f.binade ≤ kept) (h3 : L * f.binade + kept < f.infRung) :
    f.read (f.word neg (min (L * f.binade + kept) f.infRung)) = .number neg kept (f.leastPlace + L) := by
  have hb := binade_pos f
  have hi := inf_lt f
  rw [Nat.min_eq_left (Nat.le_of_lt h3)]
  obtain ⟨r1, r2⟩ := word_read f neg (L * f.binade + kept) (by omega)
  unfold Format.read
  simp only [r1, r2]
  by_cases hk : kept < f.binade
  · obtain rfl : L = 0 := by omega
    rw [if_pos (by omega)]
    simp
  · have e : L * f.binade + kept = (L + 1) * f.binade + (kept - f.binade) := by rw [Nat.add_mul]; omega
    have hl : kept - f.binade < f.binade := by omega
    have d : (L * f.binade + kept) / f.binade = L + 1 := by
      rw [e, Nat.add_comm, Nat.add_mul_div_right _ _ hb, Nat.div_eq_of_lt hl]; omega
    have m : (L * f.binade + kept) % f.binade = kept - f.binade := by
      rw [e, Nat.add_comm, Nat.add_mul_mod_self_right, Nat.mod_eq_of_lt hl]
    rw [if_neg (by rw [e, Nat.add_mul]; omega), if_pos h3, d, m]
    congr 1
    omega


theorem nearest_read (f : Format) (neg : Bool) (m : Nat) (p : Int) (h : m < 2 * f.binade) (hp : f.leastPlace ≤ p)
    (hb : ((p - f.leastPlace).toNat + 2) * f.binade ≤ f.infRung) : ∃ k : Nat, f.read (f.nearest neg m p) = .number neg (m * 2 ^ k) (p - k) ∧ m * 2 ^ k < 2 * f.binade := by
  by_cases h0 : m = 0
  · subst h0
    refine ⟨(p - f.leastPlace).toNat, ?_⟩
    have hbp := binade_pos f
    have := read_word f neg 0 0 (by omega) (Or.inl rfl) (by
      have : f.binade ≤ ((p - f.leastPlace).toNat + 2) * f.binade := Nat.le_mul_of_pos_left _ (by omega)
      omega)
    simp only [Nat.zero_mul, Nat.zero_add, Nat.zero_min] at this
    unfold Format.nearest
    rw [if_pos rfl, this]
    refine ⟨?_, by omega⟩
    congr 1
    · omega
    · omega
  · have hlog : m.log2 ≤ f.fractionBits := by
      have : m.log2 < f.fractionBits + 1 := (Nat.log2_lt h0).2 (by rw [Nat.pow_succ]; unfold Format.binade at h; omega)
      omega
    have hlo := Nat.log2_self_le h0
    have hhi : m < 2 ^ (m.log2 + 1) := Nat.lt_log2_self
    unfold Format.nearest
    rw [if_neg h0]
    simp only []
    obtain ⟨L, hL⟩ : ∃ L : Nat, max (p + (m.log2 : Int) - f.fractionBits) f.leastPlace = f.leastPlace + L := ⟨(max (p + (m.log2 : Int) - f.fractionBits) f.leastPlace - f.leastPlace).toNat, by omega⟩
    rw [hL]
    have hLp : (L : Int) ≤ p - f.leastPlace := by omega
    obtain ⟨k, hk⟩ : ∃ k : Nat, p - (f.leastPlace + L) = k := ⟨(p - (f.leastPlace + L)).toNat, by omega⟩
    refine ⟨k, ?_⟩
    rw [show (f.leastPlace + (L : Int) - p).toNat = 0 by omega, cut_zero, hk, Int.toNat_natCast, show (f.leastPlace + (L : Int) - f.leastPlace).toNat = L by omega, Nat.shiftLeft_eq]
    have hkk : m.log2 + k ≤ f.fractionBits := by omega
    have hup : m * 2 ^ k < 2 * f.binade := by
      calc m * 2 ^ k < 2 ^ (m.log2 + 1) * 2 ^ k := (Nat.mul_lt_mul_right (Nat.two_pow_pos k)).2 hhi
        _ = 2 ^ (m.log2 + k + 1) := by rw [← Nat.pow_add]; congr 1; omega
        _ ≤ 2 ^ (f.fractionBits + 1) := Nat.pow_le_pow_right (by decide) (by omega)
        _ = 2 * f.binade := by rw [Nat.pow_succ, Nat.mul_comm]; rfl
    refine ⟨?_, hup⟩
    rw [read_word f neg L (m * 2 ^ k) hup]
    · congr 1; omega
    · by_cases hL0 : L = 0
      · exact Or.inl hL0
      · right
        have : m.log2 + k = f.fractionBits := by omega
        unfold Format.binade
        rw [← this, Nat.pow_add]
        exact Nat.mul_le_mul_right _ hlo
    · have : L * f.binade + 2 * f.binade ≤ ((p - f.leastPlace).toNat + 2) * f.binade := by
        rw [← Nat.add_mul]; exact Nat.mul_le_mul_right _ (by omega)
      omega

/-- n times 2^p is told exactly. -/
def Fits (f : Format) (n : Int) (p : Int) : Prop := n.natAbs < 2 * f.binade ∧ f.leastPlace ≤ p ∧ ((p - f.leastPlace).toNat + 2) * f.binade ≤ f.infRung

theorem fl_read' (f : Format) (n p : Int) (h : Fits f n p) : ∃ k : Nat, f.read (fl f n p) = .number (decide (n < 0)) (n.natAbs * 2 ^ k) (p - k) ∧ n.natAbs * 2 ^ k < 2 * f.binade :=
  nearest_read f _ _ p h.1 h.2.1 h.2.2

theorem fl_read (f : Format) (n p : Int) (h : Fits f n p) : ∃ k : Nat, f.read (fl f n p) = .number (decide (n < 0)) (n.natAbs * 2 ^ k) (p - k) :=
  let ⟨k, hk, _⟩ := fl_read' f n p h
  ⟨k, hk⟩

theorem signed_mul (neg : Bool) (m a : Nat) : signed neg m a = (if neg then -(m : Int) else m) * 2 ^ a := by
  unfold signed
  rw [Nat.shiftLeft_eq]
  cases neg
  · simp [Int.natCast_mul, Int.natCast_pow]
  · simp [Int.natCast_mul, Int.natCast_pow, Int.neg_mul]

theorem sgn_abs (n : Int) : (if decide (n < 0) = true then -(n.natAbs : Int) else n.natAbs) = n := by
  by_cases h : n < 0
  · simp [h]; omega
  · simp [h]; omega

theorem signed_fl (n : Int) (k a : Nat) : signed (decide (n < 0)) (n.natAbs * 2 ^ k) a = n * 2 ^ (k + a) := by
  rw [signed_mul, Int.natCast_mul, Int.natCast_pow]
  have : (if decide (n < 0) = true then -((n.natAbs : Int) * ((2 : Nat) : Int) ^ k) else (n.natAbs : Int) * ((2 : Nat) : Int) ^ k) = n * 2 ^ k := by
    conv => rhs; rw [← sgn_abs n]
    by_cases h : n < 0 <;> simp [h, Int.neg_mul]
  rw [this, Int.mul_assoc, ← Int.pow_add]

theorem signed_opp (neg : Bool) (m a : Nat) : signed (!neg) m a = - signed neg m a := by
  cases neg <;> simp [signed]

theorem pow_ne (k : Nat) : (2 : Int) ^ k ≠ 0 := Int.ne_of_gt (Int.pow_pos (by decide))

theorem write_fl (f : Format) (n : Int) (p : Int) : f.write (.number (decide (n < 0)) n.natAbs p) = fl f n p := rfl

theorem write_scaled (f : Format) (n : Int) (K : Nat) (p q : Int) (hq : q = p - K) : f.write (.number (decide (n * 2 ^ K < 0)) (n * 2 ^ K).natAbs q) = fl f n p := by
  rw [write_fl, hq, fl_scale]

theorem sub_fl (f : Format) (a b p : Int) (ha : Fits f a p) (hb : Fits f b p) : f.sub (fl f a p) (fl f b p) = some (fl f (a - b) p) := by
  obtain ⟨k, h1⟩ := fl_read f a p ha
  obtain ⟨l, h2⟩ := fl_read f b p hb
  unfold Format.sub
  rw [h1, h2]
  simp only [Datum.sum, Datum.opposite, Option.map_some]
  have e1 : (p - (k : Int) - min (p - (k : Int)) (p - (l : Int))).toNat + k = max k l := by omega
  have e2 : (p - (l : Int) - min (p - (k : Int)) (p - (l : Int))).toNat + l = max k l := by omega
  rw [signed_opp, signed_fl, signed_fl, Nat.add_comm k, Nat.add_comm l, e1, e2, ← Int.sub_eq_add_neg, ← Int.sub_mul]
  have hs : (if (a - b) * 2 ^ (max k l) = 0 then decide (a < 0) && !decide (b < 0) else decide ((a - b) * 2 ^ (max k l) < 0)) = decide ((a - b) * 2 ^ (max k l) < 0) := by
    split
    · rename_i h
      have : a - b = 0 := by
        rcases Int.mul_eq_zero.1 h with h | h
        · exact h
        · exact absurd h (pow_ne _)
      rw [h]
      by_cases c : a < 0
      · have : b < 0 := by omega
        simp [c, this]
      · simp [c]
    · rfl
  rw [hs, write_scaled f (a - b) (max k l) p _ (by omega)]

theorem xor_sign (a b : Int) (h : a * b ≠ 0 ∨ (0 ≤ a ∧ 0 ≤ b)) : (decide (a < 0) ^^ decide (b < 0)) = decide (a * b < 0) := by
  have e : (a * b < 0) ↔ (a < 0 ∧ 0 < b ∨ 0 < a ∧ b < 0) := by
    constructor
    · intro h
      rcases Int.lt_trichotomy a 0 with c | c | c
      · left; refine ⟨c, Int.not_le.1 fun d => ?_⟩
        have := Int.mul_nonneg_of_nonpos_of_nonpos (Int.le_of_lt c) d
        omega
      · subst c; simp at h
      · right; refine ⟨c, Int.not_le.1 fun d => ?_⟩
        have := Int.mul_nonneg (Int.le_of_lt c) d
        omega
    · rintro (⟨c, d⟩ | ⟨c, d⟩)
      · exact Int.mul_neg_of_neg_of_pos c d
      · exact Int.mul_neg_of_pos_of_neg c d
  rw [Bool.eq_iff_iff]
  simp only [decide_eq_true_eq, e]
  rcases h with h | h
  · have ha : a ≠ 0 := fun c => h (by rw [c, Int.zero_mul])
    have hb : b ≠ 0 := fun c => h (by rw [c, Int.mul_zero])
    by_cases c : a < 0 <;> by_cases d : b < 0 <;> simp [c, d] <;> omega
  · have c : ¬ a < 0 := by omega
    have d : ¬ b < 0 := by omega
    simp [c, d]

theorem mul_fl (f : Format) (a b p q : Int) (ha : Fits f a p) (hb : Fits f b q) (h : a * b ≠ 0 ∨ (0 ≤ a ∧ 0 ≤ b)) : f.mul (fl f a p) (fl f b q) = some (fl f (a * b) (p + q)) := by
  obtain ⟨k, h1⟩ := fl_read f a p ha
  obtain ⟨l, h2⟩ := fl_read f b q hb
  unfold Format.mul
  rw [h1, h2]
  simp only [Datum.product, Option.map_some, xor_sign a b h]
  have e : a.natAbs * 2 ^ k * (b.natAbs * 2 ^ l) = (a * b).natAbs * 2 ^ (k + l) := by
    rw [Int.natAbs_mul, Nat.pow_add, Nat.mul_mul_mul_comm]
  rw [e, show p - (k : Int) + (q - (l : Int)) = (p + q) - ((k + l : Nat) : Int) by omega]
  show some (f.nearest _ _ _) = _
  rw [nearest_scale]
  rfl

theorem order_fl (f : Format) (a b p : Int) (ha : Fits f a p) (hb : Fits f b p) : f.order (fl f a p) (fl f b p) = some (compare a b) := by
  obtain ⟨k, h1⟩ := fl_read f a p ha
  obtain ⟨l, h2⟩ := fl_read f b p hb
  unfold Format.order
  rw [h1, h2]
  simp only [Datum.order]
  have e1 : (p - (k : Int) - min (p - (k : Int)) (p - (l : Int))).toNat + k = max k l := by omega
  have e2 : (p - (l : Int) - min (p - (k : Int)) (p - (l : Int))).toNat + l = max k l := by omega
  rw [signed_fl, signed_fl, Nat.add_comm k, Nat.add_comm l, e1, e2]
  have hp : (0 : Int) < 2 ^ (max k l) := Int.pow_pos (by decide)
  congr 1
  simp only [compare, compareOfLessAndEq]
  have c1 : (a * 2 ^ (max k l) < b * 2 ^ (max k l)) ↔ a < b := ⟨fun h => Int.lt_of_mul_lt_mul_right h (Int.le_of_lt hp), fun h => Int.mul_lt_mul_of_pos_right h hp⟩
  have c2 : (a * 2 ^ (max k l) = b * 2 ^ (max k l)) ↔ a = b := Int.mul_eq_mul_right_iff (Int.ne_of_gt hp)
  simp only [c1, c2]

theorem toInt_fl (f : Format) (n : Int) (h : Fits f n 0) : (f.read (fl f n 0)).toInt .zero = some n := by
  obtain ⟨k, h1⟩ := fl_read f n 0 h
  rw [h1]
  simp only [Datum.toInt, Datum.integral]
  rw [show (0 - (k : Int)).toNat = 0 by omega, show (-(0 - (k : Int))).toNat = k by omega, Nat.shiftLeft_eq, Nat.pow_zero, Nat.mul_one]
  have e : Toward.zero.cut (decide (n < 0)) (n.natAbs * 2 ^ k) k = n.natAbs := by
    by_cases h0 : n.natAbs = 0
    · rw [h0]; simp [Toward.cut]
    · simp only [Toward.cut]
      have : k ≤ (n.natAbs * 2 ^ k).log2 + 2 := by rw [log2_mul _ _ h0]; omega
      rw [Nat.min_eq_left this, Nat.shiftLeft_eq, Nat.one_mul, Nat.mul_div_cancel _ (Nat.two_pow_pos k)]
      rfl
  rw [e]
  have := signed_fl n 0 0
  simp only [Nat.pow_zero, Nat.mul_one, Nat.add_zero, Int.pow_zero, Int.mul_one] at this
  rw [this]


/-- The nearest whole number: off by half a unit at most. -/
theorem cut_near (neg : Bool) (n d : Nat) (hd : d ≤ n.log2 + 2) :
    2 * (Toward.even.cut neg n d * 2 ^ d) ≤ 2 * n + 2 ^ d ∧ 2 * n ≤ 2 * (Toward.even.cut neg n d * 2 ^ d) + 2 ^ d := by
  simp only [Toward.cut, Nat.min_eq_left hd, Nat.shiftLeft_eq, Nat.one_mul]
  have hp := Nat.two_pow_pos d
  generalize 2 ^ d = G at *
  have e := Nat.div_add_mod n G
  have l := Nat.mod_lt n hp
  generalize n / G = q at *
  generalize n % G = r at *
  have c : G * q = q * G := Nat.mul_comm _ _
  cases hc : (decide (G < 2 * r) || G == 2 * r && q % 2 == 1)
  · have : ¬ G < 2 * r := by intro h; simp [h] at hc
    simp only [Bool.toNat_false, Nat.add_zero]
    omega
  · have : G ≤ 2 * r := by
      rcases (Bool.or_eq_true_iff.1 hc) with h | h
      · have := of_decide_eq_true h; omega
      · simp at h; omega
    simp only [Bool.toNat_true, Nat.add_mul, Nat.one_mul]
    omega

/-- Rounding, in the normal range: the word of the rounded significand. -/
theorem nearest_kept (f : Format) (neg : Bool) (m d : Nat) (p : Int) (h0 : m ≠ 0) (hd : m.log2 = f.fractionBits + d) (hl : f.leastPlace ≤ p + d) :
    f.nearest neg m p = f.nearest neg (Toward.even.cut neg m d) (p + d) ∧ f.binade ≤ Toward.even.cut neg m d ∧ Toward.even.cut neg m d ≤ 2 * f.binade := by
  have hlo := Nat.log2_self_le h0
  have hhi : m < 2 ^ (m.log2 + 1) := Nat.lt_log2_self
  have hn := cut_near neg m d (by omega)
  have hp := Nat.two_pow_pos d
  have lo : f.binade * 2 ^ d ≤ m := by unfold Format.binade; rw [← Nat.pow_add, ← hd]; exact hlo
  have hi : m < 2 * f.binade * 2 ^ d := by
    have : 2 * f.binade * 2 ^ d = 2 ^ (m.log2 + 1) := by
      unfold Format.binade; rw [hd, Nat.pow_succ, Nat.pow_add]
      rw [Nat.mul_comm 2, Nat.mul_right_comm]
    omega
  have h1 : f.binade ≤ Toward.even.cut neg m d := by
    refine Nat.le_of_not_lt fun c => ?_
    have := Nat.mul_le_mul_right (2 ^ d) (show Toward.even.cut neg m d + 1 ≤ f.binade by omega)
    rw [Nat.add_mul] at this
    omega
  have h2 : Toward.even.cut neg m d ≤ 2 * f.binade := by
    refine Nat.le_of_not_lt fun c => ?_
    have := Nat.mul_le_mul_right (2 ^ d) (show 2 * f.binade + 1 ≤ Toward.even.cut neg m d by omega)
    rw [Nat.add_mul] at this
    omega
  refine ⟨?_, h1, h2⟩
  have hb := binade_pos f
  generalize hK : Toward.even.cut neg m d = K at *
  have hK0 : K ≠ 0 := by omega
  have lhs : f.nearest neg m p = f.word neg (min ((p + d - f.leastPlace).toNat * f.binade + K) f.infRung) := by
    unfold Format.nearest
    rw [if_neg h0]
    simp only []
    rw [show max (p + (m.log2 : Int) - f.fractionBits) f.leastPlace = p + d by omega, show (p - (p + (d : Int))).toNat = 0 by omega, show (p + (d : Int) - p).toNat = d by omega, Nat.shiftLeft_eq, Nat.pow_zero, Nat.mul_one, hK]
  rw [lhs]
  unfold Format.nearest
  rw [if_neg hK0]
  simp only []
  by_cases hc : K = 2 * f.binade
  · have lg : K.log2 = f.fractionBits + 1 := by
      rw [hc]; unfold Format.binade; rw [Nat.mul_comm, ← Nat.pow_succ]; exact Nat.log2_two_pow
    rw [lg, show max (p + (d : Int) + ((f.fractionBits + 1 : Nat) : Int) - f.fractionBits) f.leastPlace = p + d + 1 by omega, show (p + (d : Int) - (p + d + 1)).toNat = 0 by omega, show (p + (d : Int) + 1 - (p + d)).toNat = 1 by omega]
    rw [Nat.shiftLeft_eq, Nat.pow_zero, Nat.mul_one, hc, show 2 * f.binade = f.binade * 2 ^ 1 by omega, cut_exact]
    congr 2
    rw [show (p + (d : Int) + 1 - f.leastPlace).toNat = (p + d - f.leastPlace).toNat + 1 by omega, Nat.add_mul]
    omega
  · have lg : K.log2 = f.fractionBits := by
      rw [Nat.log2_eq_iff hK0]; unfold Format.binade at *; rw [Nat.pow_succ]; omega
    rw [lg, show max (p + (d : Int) + (f.fractionBits : Int) - f.fractionBits) f.leastPlace = p + d by omega, show (p + (d : Int) - (p + d)).toNat = 0 by omega, cut_zero, Nat.shiftLeft_eq, Nat.pow_zero, Nat.mul_one]


theorem quo_bounds (A n t : Nat) (hn : 0 < n) (hs : n < 1024) (ht : 11 ≤ t) (m : Nat) (hm : m = 2 * (A * 2 ^ (t - 1) / n) + (A * 2 ^ (t - 1) % n != 0).toNat) :
    (A % n = 0 → m = A / n * 2 ^ t) ∧ (A % n ≠ 0 → A / n * 2 ^ t + 2 ^ (t - 10) ≤ m ∧ m + 2 ^ (t - 10) ≤ (A / n + 1) * 2 ^ t) := by
  have e := Nat.div_add_mod A n
  have l := Nat.mod_lt A hn
  generalize A / n = q at *
  generalize A % n = r at *
  have ht2 : 2 ^ t = 2 * 2 ^ (t - 1) := by rw [← Nat.pow_succ']; congr 1; omega
  have ht3 : 2 ^ (t - 1) = 1024 * 2 ^ (t - 11) := by rw [show (1024 : Nat) = 2 ^ 10 by rfl, ← Nat.pow_add]; congr 1; omega
  have ht4 : 2 ^ (t - 10) = 2 * 2 ^ (t - 11) := by rw [← Nat.pow_succ']; congr 1; omega
  have hG := Nat.two_pow_pos (t - 11)
  have key : A * 2 ^ (t - 1) = r * 2 ^ (t - 1) + n * (q * 2 ^ (t - 1)) := by rw [← e, Nat.add_mul, Nat.mul_assoc, Nat.add_comm]
  have dv : A * 2 ^ (t - 1) / n = r * 2 ^ (t - 1) / n + q * 2 ^ (t - 1) := by rw [key, Nat.add_mul_div_left _ _ hn]
  have md : A * 2 ^ (t - 1) % n = r * 2 ^ (t - 1) % n := by rw [key, Nat.add_mul_mod_self_left]
  have e2 : q * 2 ^ t = 2 * (q * 2 ^ (t - 1)) := by rw [ht2, Nat.mul_left_comm]
  constructor
  · intro hr
    subst hr
    rw [Nat.zero_mul, Nat.zero_div] at dv
    rw [Nat.zero_mul, Nat.zero_mod] at md
    rw [hm, dv, md, e2]
    simp
  · intro hr
    have b1 : 2 ^ (t - 11) ≤ r * 2 ^ (t - 1) / n := by
      rw [Nat.le_div_iff_mul_le hn, ht3, Nat.mul_comm]
      calc n * 2 ^ (t - 11) ≤ 1024 * 2 ^ (t - 11) := Nat.mul_le_mul_right _ (by omega)
        _ = 1 * (1024 * 2 ^ (t - 11)) := by rw [Nat.one_mul]
        _ ≤ r * (1024 * 2 ^ (t - 11)) := Nat.mul_le_mul_right _ (by omega)
    have b2 : r * 2 ^ (t - 1) / n + 2 ^ (t - 11) + 1 ≤ 2 ^ (t - 1) := by
      have : r * 2 ^ (t - 1) / n < 2 ^ (t - 1) - 2 ^ (t - 11) := by
        rw [Nat.div_lt_iff_lt_mul hn, ht3]
        have a1 : r * (1024 * 2 ^ (t - 11)) + 1024 * 2 ^ (t - 11) ≤ n * (1024 * 2 ^ (t - 11)) := by
          rw [← Nat.succ_mul]; exact Nat.mul_le_mul_right _ (by omega)
        have a2 : n * 2 ^ (t - 11) < 1024 * 2 ^ (t - 11) := (Nat.mul_lt_mul_right hG).2 hs
        rw [Nat.sub_mul, Nat.mul_comm (1024 * _) n, Nat.mul_comm (2 ^ (t - 11)) n]
        omega
      omega
    rw [hm, dv, md, Nat.add_mul, e2, ht4, ht2]
    have b3 : (r * 2 ^ (t - 1) % n != 0).toNat ≤ 1 := by cases (r * 2 ^ (t - 1) % n != 0) <;> simp
    rw [Nat.mul_add]
    omega

/-- The rounded quotient has the floor and the ceiling of the exact one. -/
theorem quo_round (A n t d m : Nat) (neg : Bool) (hn : 0 < n) (hs : n < 1024) (ht : d + 11 ≤ t) (hd : d ≤ m.log2 + 2) (hm : m = 2 * (A * 2 ^ (t - 1) / n) + (A * 2 ^ (t - 1) % n != 0).toNat) :
    (A % n = 0 → Toward.even.cut neg m d = A / n * 2 ^ (t - d)) ∧ (A % n ≠ 0 → A / n * 2 ^ (t - d) < Toward.even.cut neg m d ∧ Toward.even.cut neg m d < (A / n + 1) * 2 ^ (t - d)) := by
  obtain ⟨b1, b2⟩ := quo_bounds A n t hn hs (by omega) m hm
  have ht2 : 2 ^ t = 2 ^ (t - d) * 2 ^ d := by rw [← Nat.pow_add]; congr 1; omega
  have hp := Nat.two_pow_pos d
  constructor
  · intro h
    have := b1 h
    rw [this, ht2, ← Nat.mul_assoc, cut_exact]
  · intro h
    obtain ⟨c1, c2⟩ := b2 h
    obtain ⟨n1, n2⟩ := cut_near neg m d hd
    generalize Toward.even.cut neg m d = K at *
    have hsm : 2 ^ d < 2 ^ (t - 10) := Nat.pow_lt_pow_right (by decide) (by omega)
    rw [ht2, ← Nat.mul_assoc] at c1 c2
    constructor
    · exact Nat.lt_of_mul_lt_mul_right (a := 2 ^ d) (by omega)
    · exact Nat.lt_of_mul_lt_mul_right (a := 2 ^ d) (by omega)


theorem single_lp : single.leastPlace = -149 := by decide
theorem single_bin : single.binade = 8388608 := by decide
theorem single_inf : single.infRung = 2139095040 := by decide

theorem fits_single (n p : Int) (h : n.natAbs < 16777216) (hp : -149 ≤ p) (hq : p ≤ 100) : Fits single n p := by
  refine ⟨by rw [single_bin]; omega, by rw [single_lp]; omega, ?_⟩
  rw [single_lp, single_bin, single_inf]
  omega

/-- The floor of a quotient, by the quotient of the magnitudes. -/
theorem floor_of (A : Int) (n : Nat) (hn : 0 < n) : A / n = if 0 ≤ A then ((A.natAbs / n : Nat) : Int) else if A.natAbs % n = 0 then -((A.natAbs / n : Nat) : Int) else -((A.natAbs / n : Nat) : Int) - 1 := by
  have e := Nat.div_add_mod A.natAbs n
  have l := Nat.mod_lt A.natAbs hn
  generalize A.natAbs / n = q at *
  generalize A.natAbs % n = r at *
  have hz : (n : Int) * q + r = A.natAbs := by rw [← e]; simp
  have hn' : (0 : Int) < n := by omega
  split
  · rename_i h
    rw [Int.ediv_eq_iff_of_pos hn', Int.mul_comm (q : Int)]
    omega
  · split
    · rename_i h h2
      rw [Int.ediv_eq_iff_of_pos hn', Int.neg_mul, Int.mul_comm (q : Int)]
      omega
    · rename_i h h2
      rw [Int.ediv_eq_iff_of_pos hn', Int.sub_mul, Int.neg_mul, Int.mul_comm (q : Int)]
      omega

theorem div_fl (A : Int) (n : Nat) (h1 : 0 < n) (h2 : n < 1024) (hA : A.natAbs < 8388608) (hq : A.natAbs < 8192 * n) :
    ∃ (K : Int) (T : Nat), single.div (fl single A (-3)) (fl single n 0) = some (fl single K (-3 - T)) ∧ K.natAbs < 16777216 ∧ T ≤ 100 ∧ K / 2 ^ T = A / n := by
  by_cases h0 : A = 0
  · subst h0
    obtain ⟨k, hk⟩ := fl_read single 0 (-3) (fits_single _ _ (by decide) (by decide) (by decide))
    obtain ⟨l, hl⟩ := fl_read single n 0 (fits_single _ _ (by omega) (by decide) (by decide))
    refine ⟨0, 0, ?_, by decide, by decide, by simp⟩
    unfold Format.div
    rw [hk, hl]
    have hnn : n * 2 ^ l ≠ 0 := Nat.mul_ne_zero (by omega) (Nat.pos_iff_ne_zero.1 (Nat.two_pow_pos l))
    have sg : decide ((n : Int) < 0) = false := by simp
    simp [Datum.quotient, hnn, fl, Format.write, Format.nearest, sg]
  · obtain ⟨k, hk, hk2⟩ := fl_read' single A (-3) (fits_single _ _ (by omega) (by decide) (by decide))
    obtain ⟨l, hl, hl2⟩ := fl_read' single n 0 (fits_single _ _ (by omega) (by decide) (by decide))
    have hf : single.fractionBits = 23 := rfl
    rw [single_bin] at hk2 hl2
    have sg : decide ((n : Int) < 0) = false := by simp
    rw [sg, Int.natAbs_natCast] at hl
    rw [Int.natAbs_natCast] at hl2
    have hnn : n * 2 ^ l ≠ 0 := Nat.mul_ne_zero (by omega) (Nat.pos_iff_ne_zero.1 (Nat.two_pow_pos l))
    have hmm : A.natAbs * 2 ^ k ≠ 0 := Nat.mul_ne_zero (by omega) (Nat.pos_iff_ne_zero.1 (Nat.two_pow_pos k))
    have lm : (A.natAbs * 2 ^ k).log2 < 24 := (Nat.log2_lt hmm).2 (by omega)
    have lA := log2_mul A.natAbs k (by omega)
    have ln := log2_mul n l (by omega)
    have lno : n.log2 < 10 := (Nat.log2_lt (by omega)).2 (by omega)
    have lnn : (n * 2 ^ l).log2 < 24 := (Nat.log2_lt hnn).2 (by omega)
    obtain ⟨more, hmore⟩ : ∃ more, 25 + (n * 2 ^ l).log2 - (A.natAbs * 2 ^ k).log2 = more := ⟨_, rfl⟩
    obtain ⟨t, ht⟩ : ∃ t, t + l = k + more + 1 := ⟨k + more + 1 - l, by omega⟩
    have ht1 : 1 ≤ t := by omega
    have hD : (A.natAbs * 2 ^ k) <<< more = (A.natAbs * 2 ^ (t - 1)) * 2 ^ l := by
      rw [Nat.shiftLeft_eq, Nat.mul_assoc, Nat.mul_assoc, ← Nat.pow_add, ← Nat.pow_add]; congr 2; omega
    obtain ⟨m, hm⟩ : ∃ m, m = 2 * (A.natAbs * 2 ^ (t - 1) / n) + (A.natAbs * 2 ^ (t - 1) % n != 0).toNat := ⟨_, rfl⟩
    have hdiv : single.div (fl single A (-3)) (fl single n 0) = some (single.nearest (decide (A < 0)) m (-3 - (t : Int))) := by
      unfold Format.div
      rw [hk, hl]
      simp only [Datum.quotient, hnn, if_false, hf, hmore, hD, Bool.xor_false, Option.map_some, Format.write]
      rw [Nat.mul_div_mul_right _ _ (Nat.two_pow_pos l), Nat.mul_mod_mul_right]
      congr 2
      · rw [hm]
        congr 2
        rw [Bool.eq_iff_iff]
        have := Nat.two_pow_pos l
        simp only [bne_iff_ne, ne_eq, Nat.mul_eq_zero]
        omega
      · omega
    have hmlo : 2 ^ 25 ≤ m := by
      have a1 : 2 ^ (25 + (n * 2 ^ l).log2) ≤ (A.natAbs * 2 ^ k) <<< more := by
        rw [Nat.shiftLeft_eq]
        calc 2 ^ (25 + (n * 2 ^ l).log2) = 2 ^ ((A.natAbs * 2 ^ k).log2) * 2 ^ more := by rw [← Nat.pow_add]; congr 1; omega
          _ ≤ _ := Nat.mul_le_mul_right _ (Nat.log2_self_le hmm)
      have a2 : 2 ^ 24 ≤ A.natAbs * 2 ^ (t - 1) / n := by
        rw [Nat.le_div_iff_mul_le h1]
        refine Nat.le_of_mul_le_mul_right (c := 2 ^ l) ?_ (Nat.two_pow_pos l)
        rw [← hD, Nat.mul_assoc]
        refine Nat.le_trans ?_ a1
        calc 2 ^ 24 * (n * 2 ^ l) ≤ 2 ^ 24 * 2 ^ ((n * 2 ^ l).log2 + 1) := Nat.mul_le_mul_left _ (Nat.le_of_lt Nat.lt_log2_self)
          _ = 2 ^ (25 + (n * 2 ^ l).log2) := by rw [← Nat.pow_add]; congr 1; omega
      omega
    have hmhi : m < 2 ^ (13 + t) := by
      have a3 : A.natAbs * 2 ^ (t - 1) / n < 8192 * 2 ^ (t - 1) := by
        rw [Nat.div_lt_iff_lt_mul h1, Nat.mul_right_comm]
        exact (Nat.mul_lt_mul_right (Nat.two_pow_pos _)).2 hq
      have a4 : 2 ^ (13 + t) = 2 * (8192 * 2 ^ (t - 1)) := by
        rw [show 13 + t = 1 + (13 + (t - 1)) by omega, Nat.pow_add, Nat.pow_add]
      have b3 : (A.natAbs * 2 ^ (t - 1) % n != 0).toNat ≤ 1 := by cases (A.natAbs * 2 ^ (t - 1) % n != 0) <;> simp
      omega
    have hm0 : m ≠ 0 := by omega
    have lmlo : 25 ≤ m.log2 := (Nat.le_log2 hm0).2 hmlo
    have lmhi : m.log2 < 13 + t := (Nat.log2_lt hm0).2 hmhi
    obtain ⟨d, hd⟩ : ∃ d, m.log2 = single.fractionBits + d := ⟨m.log2 - 23, by rw [hf]; omega⟩
    rw [hf] at hd
    have htk : t ≤ 90 := by omega
    obtain ⟨n1, n2, n3⟩ := nearest_kept single (decide (A < 0)) m d (-3 - (t : Int)) hm0 (by rw [hf]; exact hd) (by rw [single_lp]; omega)
    obtain ⟨r1, r2⟩ := quo_round A.natAbs n t d m (decide (A < 0)) h1 h2 (by omega) (by omega) hm
    rw [hdiv, n1]
    clear hdiv n1 hm hk hl hD
    generalize Toward.even.cut (decide (A < 0)) m d = K at *
    rw [single_bin] at n2 n3
    -- the signed significand, over T = t - d
    have fin : ∀ (K' : Nat) (T : Nat), 1 ≤ K' → (A.natAbs % n = 0 → K' = A.natAbs / n * 2 ^ T) → (A.natAbs % n ≠ 0 → A.natAbs / n * 2 ^ T < K' ∧ K' < (A.natAbs / n + 1) * 2 ^ T) →
        single.nearest (decide (A < 0)) K' (-3 - (T : Int)) = fl single (if 0 ≤ A then (K' : Int) else -(K' : Int)) (-3 - (T : Int)) ∧ (if 0 ≤ A then (K' : Int) else -(K' : Int)) / 2 ^ T = A / n := by
      intro K' T hK' c1 c2
      constructor
      · unfold fl
        by_cases hs : 0 ≤ A
        · simp only [hs, if_true, Int.natAbs_natCast]
          congr 1
          rw [decide_eq_decide]; omega
        · simp only [hs, if_false, Int.natAbs_neg, Int.natAbs_natCast]
          congr 1
          rw [decide_eq_decide]; omega
      · rw [floor_of A n h1]
        have hp : (0 : Int) < 2 ^ T := Int.pow_pos (by decide)
        have hc : ((2 ^ T : Nat) : Int) = 2 ^ T := by simp
        generalize A.natAbs / n = q at *
        rw [Int.ediv_eq_iff_of_pos hp]
        by_cases hz : A.natAbs % n = 0
        · have := c1 hz
          have e : (K' : Int) = q * 2 ^ T := by rw [this]; simp
          by_cases hs : 0 ≤ A
          · simp only [hs, if_true, e]; omega
          · simp only [hs, hz, if_false, if_true, e, Int.neg_mul]; omega
        · obtain ⟨d1, d2⟩ := c2 hz
          have e1 : (q : Int) * 2 ^ T < K' := by rw [← hc]; exact_mod_cast d1
          have e2 : (K' : Int) < (q + 1) * 2 ^ T := by rw [← hc]; exact_mod_cast d2
          rw [Int.add_mul] at e2
          by_cases hs : 0 ≤ A
          · simp only [hs, if_true]; omega
          · simp only [hs, hz, if_false, Int.sub_mul, Int.neg_mul]; omega
    by_cases hc : K = 16777216
    · have hh : K = 8388608 * 2 ^ 1 := by omega
      have e2 : 2 ^ (t - d) = 2 ^ (t - d - 1) * 2 := by rw [← Nat.pow_succ]; congr 1; omega
      obtain ⟨f1, f2⟩ := fin 8388608 (t - d - 1) (by decide)
        (fun c => by have := r1 c; rw [e2, ← Nat.mul_assoc] at this; omega)
        (fun c => by have := r2 c; rw [e2, ← Nat.mul_assoc, ← Nat.mul_assoc] at this; omega)
      refine ⟨_, t - d - 1, ?_, ?_, by omega, f2⟩
      · rw [← f1, hh, show (-3 - (t : Int) + (d : Int)) = -3 - ((t - d - 1 : Nat) : Int) - ((1 : Nat) : Int) by omega, nearest_scale]
      · split <;> omega
    · obtain ⟨f1, f2⟩ := fin K (t - d) (by omega) r1 r2
      refine ⟨_, t - d, ?_, ?_, by omega, f2⟩
      · rw [← f1]; congr 2; omega
      · split <;> omega


theorem double_lp : double.leastPlace = -1074 := by decide
theorem double_bin : double.binade = 4503599627370496 := by decide
theorem double_inf : double.infRung = 2047 * 4503599627370496 := by unfold Format.infRung; rw [double_bin]; rfl

theorem fits_double (n p : Int) (h : n.natAbs < 9007199254740992) (hp : -1000 ≤ p) (hq : p ≤ 900) : Fits double n p := by
  refine ⟨by rw [double_bin]; omega, by rw [double_lp]; omega, ?_⟩
  rw [double_lp, double_bin, double_inf]
  exact Nat.mul_le_mul_right _ (by omega)

/-- A number that fits one format, written in another one. -/
theorem rewrite_fl (f g : Format) (n p : Int) (h : Fits f n p) : g.write (f.read (fl f n p)) = fl g n p := by
  obtain ⟨k, hk⟩ := fl_read f n p h
  rw [hk]
  show g.nearest _ _ _ = _
  rw [nearest_scale]
  rfl

theorem read_number (f : Format) (n p : Int) (h : Fits f n p) : ∃ s m e, f.read (fl f n p) = .number s m e :=
  let ⟨_, hk⟩ := fl_read f n p h
  ⟨_, _, _, hk⟩

theorem cut_down (neg : Bool) (n d : Nat) : Toward.down.cut neg n d = n / 2 ^ d + (neg && n % 2 ^ d != 0).toNat := by
  simp only [Toward.cut, Nat.shiftLeft_eq, Nat.one_mul]
  by_cases h : d ≤ n.log2 + 2
  · rw [Nat.min_eq_left h]
  · rw [Nat.min_eq_right (by omega)]
    have l1 : n < 2 ^ (n.log2 + 2) := Nat.lt_of_lt_of_le Nat.lt_log2_self (Nat.pow_le_pow_right (by decide) (by omega))
    have l2 : n < 2 ^ d := Nat.lt_of_lt_of_le l1 (Nat.pow_le_pow_right (by decide) (by omega))
    rw [Nat.div_eq_of_lt l1, Nat.div_eq_of_lt l2, Nat.mod_eq_of_lt l1, Nat.mod_eq_of_lt l2]

/-- The floor of a number that fits. -/
theorem floor_fl (f : Format) (K : Int) (T : Nat) (h : Fits f K (-(T : Int))) : f.write ((f.read (fl f K (-(T : Int)))).integral .down) = fl f (K / 2 ^ T) 0 := by
  obtain ⟨k, hk⟩ := fl_read f K _ h
  rw [hk]
  simp only [Datum.integral]
  rw [show (-(T : Int) - (k : Int)).toNat = 0 by omega, show (-(-(T : Int) - (k : Int))).toNat = T + k by omega, Nat.shiftLeft_eq, Nat.pow_zero, Nat.mul_one, cut_down, Nat.pow_add, Nat.mul_div_mul_right _ _ (Nat.two_pow_pos k), Nat.mul_mod_mul_right]
  show f.nearest _ _ _ = _
  unfold fl
  have hc : ((2 ^ T : Nat) : Int) = 2 ^ T := by simp
  have hp := Nat.two_pow_pos T
  have key := floor_of K (2 ^ T) hp
  rw [hc] at key
  have hq0 : K < 0 → K / 2 ^ T < 0 := fun c => Int.ediv_neg_of_neg_of_pos c (by rw [← hc]; exact_mod_cast hp)
  have hq1 : 0 ≤ K → 0 ≤ K / 2 ^ T := fun c => Int.ediv_nonneg c (by rw [← hc]; omega)
  have hsg : decide (K < 0) = decide (K / 2 ^ T < 0) := by rw [decide_eq_decide]; omega
  rw [hsg]
  congr 1
  rw [← hsg, key]
  have hmod : (K.natAbs % 2 ^ T * 2 ^ k = 0) ↔ K.natAbs % 2 ^ T = 0 := by
    rw [Nat.mul_eq_zero]
    have := Nat.two_pow_pos k
    omega
  clear key
  generalize K.natAbs / 2 ^ T = q at *
  generalize K.natAbs % 2 ^ T = r at *
  by_cases hs : 0 ≤ K
  · have : ¬ K < 0 := by omega
    simp [hs, this]
  · have hn : K < 0 := by omega
    by_cases hz : r = 0
    · subst hz
      simp [hs]
    · have hz2 : (r * 2 ^ k != 0) = true := by rw [bne_iff_ne]; exact fun c => hz (hmod.1 c)
      rw [hz2]
      simp only [hs, hz, hn, if_false]
      simp
      omega


theorem div8_fl (x : Int) (hx : x.natAbs < 16777216) : single.div (fl single x 0) (fl single 8 0) = some (fl single x (-3)) := by
  obtain ⟨k, hk, hk2⟩ := fl_read' single x 0 (fits_single _ _ hx (by decide) (by decide))
  obtain ⟨l, hl⟩ := fl_read single 8 0 (fits_single _ _ (by decide) (by decide) (by decide))
  rw [single_bin] at hk2
  have hf : single.fractionBits = 23 := rfl
  unfold Format.div
  rw [hk, hl]
  have hp := Nat.two_pow_pos l
  have e8 : Int.natAbs 8 * 2 ^ l = 2 ^ (3 + l) := by rw [Nat.pow_add]; rfl
  have hnn : ((2 : Nat) ^ (3 + l) = 0) = False := eq_false (Nat.pos_iff_ne_zero.1 (Nat.two_pow_pos _))
  have hm : (x.natAbs * 2 ^ k).log2 ≤ 23 := by
    by_cases h0 : x.natAbs * 2 ^ k = 0
    · rw [h0]; decide
    · have : (x.natAbs * 2 ^ k).log2 < 24 := (Nat.log2_lt h0).2 (by omega)
      omega
  simp only [Datum.quotient, hnn, if_false, hf, Option.map_some, Format.write, e8, Nat.log2_two_pow]
  obtain ⟨more, hmore⟩ : ∃ more, 23 + 2 + (3 + l) - (x.natAbs * 2 ^ k).log2 = more := ⟨_, rfl⟩
  rw [hmore]
  obtain ⟨q, hq⟩ : ∃ q, k + more = q + (3 + l) := ⟨k + more - (3 + l), by omega⟩
  have hD : (x.natAbs * 2 ^ k) <<< more = (x.natAbs * 2 ^ q) * 2 ^ (3 + l) := by
    rw [Nat.shiftLeft_eq, Nat.mul_assoc, Nat.mul_assoc, ← Nat.pow_add, ← Nat.pow_add, hq]
  rw [hD, Nat.mul_div_cancel _ (Nat.two_pow_pos _), Nat.mul_mod_left]
  have e2 : 2 * (x.natAbs * 2 ^ q) + (0 != 0).toNat = x.natAbs * 2 ^ (q + 1) := by
    rw [Nat.pow_succ]; simp; rw [Nat.mul_comm 2, Nat.mul_assoc]
  rw [e2]
  have e3 : (0 - (k : Int) - (0 - (l : Int)) - (more : Int) - 1) = -3 - ((q + 1 : Nat) : Int) := by omega
  rw [e3, nearest_scale]
  have e4 : (decide (x < 0) ^^ decide ((8 : Int) < 0)) = decide (x < 0) := by simp
  rw [e4]
  rfl

/-- Eight of it. -/
theorem mul8_fl (n p : Int) (hn : Fits single n p) : single.mul (fl single n p) (fl single 8 0) = some (fl single n (p + 3)) := by
  have := mul_fl single n 8 p 0 hn (fits_single _ _ (by decide) (by decide) (by decide)) (by omega)
  rw [this]
  congr 1
  have := fl_scale single n 3 (p + 3)
  rw [show p + 3 - ((3 : Nat) : Int) = p + 0 by omega] at this
  exact this

theorem c8 : fl single 8 0 = 1090519040 := by decide
theorem cneg512 : fl single (-4096) (-3) = 3288334336 := by decide
theorem c512 : fl single 4096 (-3) = 1140850688 := by decide

end Go.Proofs.YtokncfhpmjohdabGreat.Flt
namespace Go.Proofs.YtokncfhpmjohdabGreat.Cx
open Ieee Go.Proofs.YtokncfhpmjohdabGreat.Flt

/-- The word tells n times 2^p (a zero may bear either sign). -/
def Is (f : Format) (n p : Int) (w : Nat) : Prop := ∃ s : Bool, (n ≠ 0 → s = decide (n < 0)) ∧ w = f.nearest s n.natAbs p

theorem is_fl (f : Format) (n p : Int) : Is f n p (fl f n p) := ⟨_, fun _ => rfl, rfl⟩

theorem read_is {f : Format} {n p : Int} {w : Nat} (hf : Fits f n p) (h : Is f n p w) :
    ∃ (s : Bool) (k : Nat), (n ≠ 0 → s = decide (n < 0)) ∧ f.read w = .number s (n.natAbs * 2 ^ k) (p - k) := by
  obtain ⟨s, hs, rfl⟩ := h
  obtain ⟨k, hk, _⟩ := nearest_read f s n.natAbs p hf.1 hf.2.1 hf.2.2
  exact ⟨s, k, hs, hk⟩

theorem signed_is (s : Bool) (n : Int) (k a : Nat) (hs : n ≠ 0 → s = decide (n < 0)) : signed s (n.natAbs * 2 ^ k) a = n * 2 ^ (k + a) := by
  by_cases h : n = 0
  · subst h; rw [signed_mul]; simp
  · rw [hs h]; exact signed_fl n k a

theorem is_scaled (f : Format) (n : Int) (K : Nat) (p q : Int) (hq : q = p - K) (s : Bool) (hs : n * 2 ^ K ≠ 0 → s = decide (n * 2 ^ K < 0)) : Is f n p (f.write (.number s (n * 2 ^ K).natAbs q)) := by
  refine ⟨s, fun h => ?_, ?_⟩
  · have hp : (0 : Int) < 2 ^ K := Int.pow_pos (by decide)
    rw [hs (fun c => by rcases Int.mul_eq_zero.1 c with c | c; exact h c; exact absurd c (pow_ne _)), decide_eq_decide]
    constructor
    · intro h1; exact Int.not_le.1 fun h0 => absurd (Int.mul_nonneg h0 (Int.le_of_lt hp)) (by omega)
    · intro h1; exact Int.mul_neg_of_neg_of_pos h1 hp
  · show f.nearest _ _ _ = _
    rw [hq, Int.natAbs_mul, Int.natAbs_pow]
    show f.nearest s (n.natAbs * 2 ^ K) (p - K) = _
    rw [nearest_scale]

theorem add_is {f : Format} {a b p : Int} {x y : Nat} (fa : Fits f a p) (fb : Fits f b p) (ha : Is f a p x) (hb : Is f b p y) : ∃ w, f.add x y = some w ∧ Is f (a + b) p w := by
  obtain ⟨s, k, hs, h1⟩ := read_is fa ha
  obtain ⟨t, l, ht, h2⟩ := read_is fb hb
  unfold Format.add
  rw [h1, h2]
  simp only [Datum.sum, Option.map_some]
  have e1 : (p - (k : Int) - min (p - (k : Int)) (p - (l : Int))).toNat + k = max k l := by omega
  have e2 : (p - (l : Int) - min (p - (k : Int)) (p - (l : Int))).toNat + l = max k l := by omega
  rw [signed_is _ _ _ _ hs, signed_is _ _ _ _ ht, Nat.add_comm k, Nat.add_comm l, e1, e2, ← Int.add_mul]
  exact ⟨_, rfl, is_scaled f (a + b) (max k l) p _ (by omega) _ (fun h => by rw [if_neg h])⟩

theorem sub_is {f : Format} {a b p : Int} {x y : Nat} (fa : Fits f a p) (fb : Fits f b p) (ha : Is f a p x) (hb : Is f b p y) : ∃ w, f.sub x y = some w ∧ Is f (a - b) p w := by
  obtain ⟨s, k, hs, h1⟩ := read_is fa ha
  obtain ⟨t, l, ht, h2⟩ := read_is fb hb
  unfold Format.sub
  rw [h1, h2]
  simp only [Datum.sum, Datum.opposite, Option.map_some]
  have e1 : (p - (k : Int) - min (p - (k : Int)) (p - (l : Int))).toNat + k = max k l := by omega
  have e2 : (p - (l : Int) - min (p - (k : Int)) (p - (l : Int))).toNat + l = max k l := by omega
  rw [signed_opp, signed_is _ _ _ _ hs, signed_is _ _ _ _ ht, Nat.add_comm k, Nat.add_comm l, e1, e2, ← Int.sub_eq_add_neg, ← Int.sub_mul]
  exact ⟨_, rfl, is_scaled f (a - b) (max k l) p _ (by omega) _ (fun h => by rw [if_neg h])⟩

theorem mul_is {f : Format} {a b p q : Int} {x y : Nat} (fa : Fits f a p) (fb : Fits f b q) (ha : Is f a p x) (hb : Is f b q y) : ∃ w, f.mul x y = some w ∧ Is f (a * b) (p + q) w := by
  obtain ⟨s, k, hs, h1⟩ := read_is fa ha
  obtain ⟨t, l, ht, h2⟩ := read_is fb hb
  unfold Format.mul
  rw [h1, h2]
  simp only [Datum.product, Option.map_some]
  refine ⟨_, rfl, (s ^^ t), fun h => ?_, ?_⟩
  · have h0 : a ≠ 0 := fun c => h (by rw [c, Int.zero_mul])
    have h3 : b ≠ 0 := fun c => h (by rw [c, Int.mul_zero])
    rw [hs h0, ht h3]
    exact xor_sign a b (Or.inl h)
  · have e : a.natAbs * 2 ^ k * (b.natAbs * 2 ^ l) = (a * b).natAbs * 2 ^ (k + l) := by
      rw [Int.natAbs_mul, Nat.pow_add, Nat.mul_mul_mul_comm]
    rw [e, show p - (k : Int) + (q - (l : Int)) = (p + q) - ((k + l : Nat) : Int) by omega]
    show f.nearest _ _ _ = _
    rw [nearest_scale]

theorem order_is {f : Format} {a b p : Int} {x y : Nat} (fa : Fits f a p) (fb : Fits f b p) (ha : Is f a p x) (hb : Is f b p y) : f.order x y = some (compare a b) := by
  obtain ⟨s, k, hs, h1⟩ := read_is fa ha
  obtain ⟨t, l, ht, h2⟩ := read_is fb hb
  unfold Format.order
  rw [h1, h2]
  simp only [Datum.order]
  have e1 : (p - (k : Int) - min (p - (k : Int)) (p - (l : Int))).toNat + k = max k l := by omega
  have e2 : (p - (l : Int) - min (p - (k : Int)) (p - (l : Int))).toNat + l = max k l := by omega
  rw [signed_is _ _ _ _ hs, signed_is _ _ _ _ ht, Nat.add_comm k, Nat.add_comm l, e1, e2]
  have hp : (0 : Int) < 2 ^ (max k l) := Int.pow_pos (by decide)
  congr 1
  simp only [compare, compareOfLessAndEq]
  have c1 : (a * 2 ^ (max k l) < b * 2 ^ (max k l)) ↔ a < b := ⟨fun h => Int.lt_of_mul_lt_mul_right h (Int.le_of_lt hp), fun h => Int.mul_lt_mul_of_pos_right h hp⟩
  have c2 : (a * 2 ^ (max k l) = b * 2 ^ (max k l)) ↔ a = b := Int.mul_eq_mul_right_iff (Int.ne_of_gt hp)
  simp only [c1, c2]

theorem conv_is {f g : Format} {n p : Int} {x : Nat} (hf : Fits f n p) (h : Is f n p x) : Is g n p (g.write (f.read x)) := by
  obtain ⟨s, k, hs, hk⟩ := read_is hf h
  rw [hk]
  refine ⟨s, hs, ?_⟩
  show g.nearest _ _ _ = _
  rw [nearest_scale]

theorem number_is {f : Format} {n p : Int} {x : Nat} (hf : Fits f n p) (h : Is f n p x) : ∃ s m e, f.read x = .number s m e :=
  let ⟨_, _, _, hk⟩ := read_is hf h
  ⟨_, _, _, hk⟩

end Go.Proofs.YtokncfhpmjohdabGreat.Cx
namespace Go.Proofs.YtokncfhpmjohdabGreat.Meas
open Go.RowKit Go.Proofs.YtokncfhpmjohdabGreat.Flt

/-- The float32 of n eighths. -/
def f32 (n : Int) : Nat := fl Ieee.single n (-3)

theorem fits32 (n : Int) (h : n.natAbs < 16777216) : Fits Ieee.single n (-3) := fits_single _ _ h (by decide) (by decide)
theorem fits0 (n : Int) (h : n.natAbs < 16777216) : Fits Ieee.single n 0 := fits_single _ _ h (by decide) (by decide)

theorem order32 (a b : Int) (ha : a.natAbs < 16777216) (hb : b.natAbs < 16777216) : FloatKind.f32.format.order (f32 a) (f32 b) = some (compare a b) := order_fl Ieee.single a b (-3) (fits32 a ha) (fits32 b hb)
theorem e512 : f32 4096 = 1140850688 := c512
theorem en512 : f32 (-4096) = 3288334336 := cneg512

theorem cmp_lt {a b : Int} (h : a < b) : compare a b = .lt := by simp [compare, compareOfLessAndEq, h]
theorem cmp_eq {a b : Int} (h : a = b) : compare a b = .eq := by simp [compare, compareOfLessAndEq, h]
theorem cmp_gt {a b : Int} (h : b < a) : compare a b = .gt := by
  have h1 : ¬ a < b := by omega
  have h2 : ¬ a = b := by omega
  simp [compare, compareOfLessAndEq, h1, h2]

theorem quo8 (x : Int) (hx : x.natAbs < 16777216) (w : World) : (binOp .quo 119 (.float .f32 (floatOfInt .f32 x)) (.float .f32 1090519040)).run Tryz.prog w = .ok (.float .f32 (f32 x)) w :=
  run_float_arith w .quo _ .f32 _ _ _ (by
    have := div8_fl x hx
    rw [c8] at this
    exact this)

theorem mul8 (x : Int) (hx : x.natAbs < 16777216) (w : World) : (binOp .mul 119 (.float .f32 (f32 x)) (.float .f32 1090519040)).run Tryz.prog w = .ok (.float .f32 (fl Ieee.single x 0)) w :=
  run_float_arith w .mul _ .f32 _ _ _ (by
    have := mul8_fl x (-3) (fits32 x hx)
    rw [c8] at this
    exact this)

theorem toInt (x : Int) (hx : x.natAbs < 16777216) (w : World) : (convert 119 3 (.float .f32 (fl Ieee.single x 0))).run Tryz.prog w = .ok (.int .i64 x) w :=
  run_convert_float_int w _ _ .f32 .i64 _ x (by kernel_rfl) (by kernel_rfl) (by
    unfold floatToIntVal
    rw [show (FloatKind.f32.decode (fl Ieee.single x 0)).toInt .zero = some x from toInt_fl Ieee.single x (fits0 x hx)]
    simp only
    rw [if_pos]
    have h1 : IntKind.i64.min = -9223372036854775808 := rfl
    have h2 : IntKind.i64.max = 9223372036854775807 := rfl
    rw [h1, h2]; omega)

/-- impl.wholesOf. -/
theorem wholesOf (x : Int) (hx : x.natAbs < 16777216) (w : World) : Calls Tryz.prog 88 #[.int .i64 x] w fun e w' => e = .returned (.float .f32 (f32 x)) ∧ w = w' := by
  have q := quo8 x hx
  clear hx
  go_enter Tryz.func88, Tryz.ntmps88
  go_wp2
  go_ret
  exact ⟨rfl, rfl⟩

/-- impl.toldMeasure at a measure. -/
theorem told (n : Int) (h1 : -4096 ≤ n) (h2 : n ≤ 4096) (w : World) : Calls Tryz.prog 89 #[.float .f32 (f32 n)] w fun e w' => e = .returned (.tuple #[.int .i64 n, .bool true]) ∧ w = w' := by
  have o1 := order32 n (-4096) (by omega) (by decide)
  have o2 := order32 n 4096 (by omega) (by decide)
  rw [en512] at o1
  rw [e512] at o2
  have m := mul8 n (by omega)
  have t := toInt n (by omega)
  have b1 : (FloatKind.f32.format.order (f32 n) 3288334336 == some .gt || FloatKind.f32.format.order (f32 n) 3288334336 == some .eq) = true := by
    rw [o1]
    by_cases c : n = -4096
    · rw [cmp_eq c]; rfl
    · rw [cmp_gt (by omega)]; rfl
  have b2 : (FloatKind.f32.format.order (f32 n) 1140850688 == some .lt || FloatKind.f32.format.order (f32 n) 1140850688 == some .eq) = true := by
    rw [o2]
    by_cases c : n = 4096
    · rw [cmp_eq c]; rfl
    · rw [cmp_lt (by omega)]; rfl
  clear o1 o2 h1 h2
  go_enter Tryz.func89, Tryz.ntmps89
  go_wp2
  go_ret2
  exact ⟨rfl, rfl⟩

/-- impl.toldMeasure beyond the measures. -/
theorem told_no (n : Int) (h1 : n < -4096 ∨ 4096 < n) (h2 : n.natAbs < 16777216) (w : World) : Calls Tryz.prog 89 #[.float .f32 (f32 n)] w fun e w' => e = .returned (.tuple #[.int .i64 0, .bool false]) ∧ w = w' := by
  have o1 := order32 n (-4096) h2 (by decide)
  have o2 := order32 n 4096 h2 (by decide)
  rw [en512] at o1
  rw [e512] at o2
  rcases h1 with h1 | h1
  · have b1 : (FloatKind.f32.format.order (f32 n) 3288334336 == some .gt || FloatKind.f32.format.order (f32 n) 3288334336 == some .eq) = false := by
      rw [o1, cmp_lt (by omega)]; rfl
    clear o1 o2 h1 h2
    go_enter Tryz.func89, Tryz.ntmps89
    go_wp2
    go_ret2
    exact ⟨rfl, rfl⟩
  · have b1 : (FloatKind.f32.format.order (f32 n) 3288334336 == some .gt || FloatKind.f32.format.order (f32 n) 3288334336 == some .eq) = true := by
      rw [o1, cmp_gt (by omega)]; rfl
    have b2 : (FloatKind.f32.format.order (f32 n) 1140850688 == some .lt || FloatKind.f32.format.order (f32 n) 1140850688 == some .eq) = false := by
      rw [o2, cmp_gt (by omega)]; rfl
    clear o1 o2 h1 h2
    go_enter Tryz.func89, Tryz.ntmps89
    go_wp2
    go_ret2
    exact ⟨rfl, rfl⟩

/-- impl.toldMeasure at the zero with a sign. -/
theorem told_zero (w : World) : Calls Tryz.prog 89 #[.float .f32 2147483648] w fun e w' => e = .returned (.tuple #[.int .i64 0, .bool true]) ∧ w = w' := by
  have b1 : (FloatKind.f32.format.order 2147483648 3288334336 == some .gt || FloatKind.f32.format.order 2147483648 3288334336 == some .eq) = true := by decide
  have b2 : (FloatKind.f32.format.order 2147483648 1140850688 == some .lt || FloatKind.f32.format.order 2147483648 1140850688 == some .eq) = true := by decide
  have m : ∀ w, (binOp .mul 119 (.float .f32 2147483648) (.float .f32 1090519040)).run Tryz.prog w = .ok (.float .f32 2147483648) w := fun w => run_float_arith w .mul _ .f32 _ _ _ (by decide)
  have t : ∀ w, (convert 119 3 (.float .f32 2147483648)).run Tryz.prog w = .ok (.int .i64 0) w := fun w => run_convert_float_int w _ _ .f32 .i64 _ 0 (by kernel_rfl) (by kernel_rfl) (by decide)
  go_enter Tryz.func89, Tryz.ntmps89
  go_wp2
  go_ret2
  exact ⟨rfl, rfl⟩

end Go.Proofs.YtokncfhpmjohdabGreat.Meas
