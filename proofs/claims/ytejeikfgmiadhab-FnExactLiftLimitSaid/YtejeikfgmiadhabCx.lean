/- Plain facts on the words of floats, zeros with a sign among them: a word tells a whole number times a power of two; sums, differences and products of such words tell the sums, differences and products. -/
import Derived.Test.YtejeikfgmiadhabFlt
set_option linter.unusedVariables false
set_option linter.unusedSimpArgs false
namespace Go.Proofs.Ytejeikfgmiadhab.Cx
open Ieee Go.Proofs.Ytejeikfgmiadhab.Flt

/-- The word tells n times 2^p (a zero may bear either sign). -/
def Is (f : Format) (n p : Int) (w : Nat) : Prop := ∃ s : Bool, (n ≠ 0 → s = decide (n < 0)) ∧ w = f.nearest s n.natAbs p

theorem is_fl (f : Format) (n p : Int) : Is f n p (fl f n p) := ⟨_, fun _ => rfl, rfl⟩

theorem read_is {f : Format} {n p : Int} {w : Nat} (hf : Fits f n p) (h : Is f n p w) :
    ∃ (s : Bool) (k : Nat), (n ≠ 0 → s = decide (n < 0)) ∧ f.read w = .number s (n.natAbs * 2 ^ k) (p - k) := by
  obtain ⟨s, hs, rfl⟩ := h
  obtain ⟨k, hk, _⟩ := nearest_read f s n.natAbs p hf.1 hf.2.1 hf.2.2
  exact ⟨s, k, hs, hk⟩

theorem signed_is (s : Bool) (n : Int) (k a : Nat) (hs : n ≠ 0 → s = decide (n < 0)) : signed s (n.natAbs * 2 ^ k) a = n * 2 ^ (k + a) := by
  by_cases h : n = 0
  · subst h; rw [signed_mul]; simp
  · rw [hs h]; exact signed_fl n k a

theorem is_scaled (f : Format) (n : Int) (K : Nat) (p q : Int) (hq : q = p - K) (s : Bool) (hs : n * 2 ^ K ≠ 0 → s = decide (n * 2 ^ K < 0)) : Is f n p (f.write (.number s (n * 2 ^ K).natAbs q)) := by
  refine ⟨s, fun h => ?_, ?_⟩
  · have hp : (0 : Int) < 2 ^ K := Int.pow_pos (by decide)
    rw [hs (fun c => by rcases Int.mul_eq_zero.1 c with c | c; exact h c; exact absurd c (pow_ne _)), decide_eq_decide]
    constructor
    · intro h1; exact Int.not_le.1 fun h0 => absurd (Int.mul_nonneg h0 (Int.le_of_lt hp)) (by omega)
    · intro h1; exact Int.mul_neg_of_neg_of_pos h1 hp
  · show f.nearest _ _ _ = _
    rw [hq, Int.natAbs_mul, Int.natAbs_pow]
    show f.nearest s (n.natAbs * 2 ^ K) (p - K) = _
    rw [nearest_scale]

theorem add_is {f : Format} {a b p : Int} {x y : Nat} (fa : Fits f a p) (fb : Fits f b p) (ha : Is f a p x) (hb : Is f b p y) : ∃ w, f.add x y = some w ∧ Is f (a + b) p w := by
  obtain ⟨s, k, hs, h1⟩ := read_is fa ha
  obtain ⟨t, l, ht, h2⟩ := read_is fb hb
  unfold Format.add
  rw [h1, h2]
  simp only [Datum.sum, Option.map_some]
  have e1 : (p - (k : Int) - min (p - (k : Int)) (p - (l : Int))).toNat + k = max k l := by omega
  have e2 : (p - (l : Int) - min (p - (k : Int)) (p - (l : Int))).toNat + l = max k l := by omega
  rw [signed_is _ _ _ _ hs, signed_is _ _ _ _ ht, Nat.add_comm k, Nat.add_comm l, e1, e2, ← Int.add_mul]
  exact ⟨_, rfl, is_scaled f (a + b) (max k l) p _ (by omega) _ (fun h => by rw [if_neg h])⟩

theorem sub_is {f : Format} {a b p : Int} {x y : Nat} (fa : Fits f a p) (fb : Fits f b p) (ha : Is f a p x) (hb : Is f b p y) : ∃ w, f.sub x y = some w ∧ Is f (a - b) p w := by
  obtain ⟨s, k, hs, h1⟩ := read_is fa ha
  obtain ⟨t, l, ht, h2⟩ := read_is fb hb
  unfold Format.sub
  rw [h1, h2]
  simp only [Datum.sum, Datum.opposite, Option.map_some]
  have e1 : (p - (k : Int) - min (p - (k : Int)) (p - (l : Int))).toNat + k = max k l := by omega
  have e2 : (p - (l : Int) - min (p - (k : Int)) (p - (l : Int))).toNat + l = max k l := by omega
  rw [signed_opp, signed_is _ _ _ _ hs, signed_is _ _ _ _ ht, Nat.add_comm k, Nat.add_comm l, e1, e2, ← Int.sub_eq_add_neg, ← Int.sub_mul]
  exact ⟨_, rfl, is_scaled f (a - b) (max k l) p _ (by omega) _ (fun h => by rw [if_neg h])⟩

theorem mul_is {f : Format} {a b p q : Int} {x y : Nat} (fa : Fits f a p) (fb : Fits f b q) (ha : Is f a p x) (hb : Is f b q y) : ∃ w, f.mul x y = some w ∧ Is f (a * b) (p + q) w := by
  obtain ⟨s, k, hs, h1⟩ := read_is fa ha
  obtain ⟨t, l, ht, h2⟩ := read_is fb hb
  unfold Format.mul
  rw [h1, h2]
  simp only [Datum.product, Option.map_some]
  refine ⟨_, rfl, (s ^^ t), fun h => ?_, ?_⟩
  · have h0 : a ≠ 0 := fun c => h (by rw [c, Int.zero_mul])
    have h3 : b ≠ 0 := fun c => h (by rw [c, Int.mul_zero])
    rw [hs h0, ht h3]
    exact xor_sign a b (Or.inl h)
  · have e : a.natAbs * 2 ^ k * (b.natAbs * 2 ^ l) = (a * b).natAbs * 2 ^ (k + l) := by
      rw [Int.natAbs_mul, Nat.pow_add, Nat.mul_mul_mul_comm]
    rw [e, show p - (k : Int) + (q - (l : Int)) = (p + q) - ((k + l : Nat) : Int) by omega]
    show f.nearest _ _ _ = _
    rw [nearest_scale]

theorem order_is {f : Format} {a b p : Int} {x y : Nat} (fa : Fits f a p) (fb : Fits f b p) (ha : Is f a p x) (hb : Is f b p y) : f.order x y = some (compare a b) := by
  obtain ⟨s, k, hs, h1⟩ := read_is fa ha
  obtain ⟨t, l, ht, h2⟩ := read_is fb hb
  unfold Format.order
  rw [h1, h2]
  simp only [Datum.order]
  have e1 : (p - (k : Int) - min (p - (k : Int)) (p - (l : Int))).toNat + k = max k l := by omega
  have e2 : (p - (l : Int) - min (p - (k : Int)) (p - (l : Int))).toNat + l = max k l := by omega
  rw [signed_is _ _ _ _ hs, signed_is _ _ _ _ ht, Nat.add_comm k, Nat.add_comm l, e1, e2]
  have hp : (0 : Int) < 2 ^ (max k l) := Int.pow_pos (by decide)
  congr 1
  simp only [compare, compareOfLessAndEq]
  have c1 : (a * 2 ^ (max k l) < b * 2 ^ (max k l)) ↔ a < b := ⟨fun h => Int.lt_of_mul_lt_mul_right h (Int.le_of_lt hp), fun h => Int.mul_lt_mul_of_pos_right h hp⟩
  have c2 : (a * 2 ^ (max k l) = b * 2 ^ (max k l)) ↔ a = b := Int.mul_eq_mul_right_iff (Int.ne_of_gt hp)
  simp only [c1, c2]

theorem conv_is {f g : Format} {n p : Int} {x : Nat} (hf : Fits f n p) (h : Is f n p x) : Is g n p (g.write (f.read x)) := by
  obtain ⟨s, k, hs, hk⟩ := read_is hf h
  rw [hk]
  refine ⟨s, hs, ?_⟩
  show g.nearest _ _ _ = _
  rw [nearest_scale]

theorem number_is {f : Format} {n p : Int} {x : Nat} (hf : Fits f n p) (h : Is f n p x) : ∃ s m e, f.read x = .number s m e :=
  let ⟨_, _, _, hk⟩ := read_is hf h
  ⟨_, _, _, hk⟩

end Go.Proofs.Ytejeikfgmiadhab.Cx
