/- Rows half rewritten, and the least and the greatest of floats. -/
import Derived.Test.YtmbiomekbinplaaFw8
namespace Go.Proofs.Ytmbiomekbinplaa.Fx8
open Go.RowKit Go.Proofs.Ytmbiomekbinplaa.Mem Go.Proofs.Ytmbiomekbinplaa.Tk Go.Proofs.Ytmbiomekbinplaa.Ti8 Go.Proofs.Ytmbiomekbinplaa.Rw Go.Proofs.Ytmbiomekbinplaa.Meas Go.Proofs.Ytmbiomekbinplaa.Fw8
set_option linter.unusedVariables false
set_option linter.unusedSimpArgs false

/-- The first k of one list, then the other one's. -/
def mixed (xs ys : List Value) (k : Nat) : List Value := xs.take k ++ ys.drop k
theorem mixed_zero (xs ys : List Value) : mixed xs ys 0 = ys := by simp [mixed]
theorem mixed_all {xs ys : List Value} (h : ys.length = xs.length) : mixed xs ys xs.length = xs := by
  unfold mixed; rw [List.take_of_length_le (Nat.le_refl _), List.drop_of_length_le (by omega), List.append_nil]
theorem mixed_at {xs ys : List Value} {k j : Nat} {v : Value} (h : ys.length = xs.length) (hk : k ≤ j) (hv : ys[j]? = some v) : (mixed xs ys k)[j]? = some v := by
  have hj := (List.getElem?_eq_some_iff.1 hv).1
  unfold mixed
  rw [List.getElem?_append_right (by rw [List.length_take]; omega), List.length_take, Nat.min_eq_left (by omega), List.getElem?_drop, show k + (j - k) = j by omega]
  exact hv
theorem mixed_put {xs ys : List Value} {k : Nat} {v : Value} (h : ys.length = xs.length) (hv : xs[k]? = some v) : (mixed xs ys k).set k v = mixed xs ys (k + 1) := by
  obtain ⟨hk, rfl⟩ := List.getElem?_eq_some_iff.1 hv
  unfold mixed
  rw [List.set_append_right _ _ (by rw [List.length_take]; omega), List.length_take, Nat.min_eq_left (by omega), Nat.sub_self, List.drop_eq_getElem_cons (by omega), List.set_cons_zero, List.take_succ_eq_append_getElem hk, List.append_assoc]
  rfl
theorem RowP.from {w w1 : World} {zs : List Int} {r : Bool} {e : Ending} {w' : World} (h : RowP w1 zs r e w') (hb : Below w.heap.size w w1) : RowP w zs r e w' := by
  obtain ⟨g, c, e1, ho, hb2⟩ := h
  exact ⟨g, c, e1, owns_base ho (Nat.le_trans hb.size (own_at ho)), hb.trans (hb2.mono hb.size)⟩
theorem min32 (P : Program) (a b : Int) (ha : a.natAbs < 16777216) (hb : b.natAbs < 16777216) : ∀ ts t w, (Builtin.min_ ts t #[.float .f32 (f32 a), .float .f32 (f32 b)]).run P w = .ok (.float .f32 (f32 (min a b))) w := by
  have o := order32 a b ha hb
  intro ts t w
  rcases Int.lt_trichotomy a b with h | h | h
  · rw [cmp_lt h] at o
    rw [Int.min_eq_left (by omega)]
    simp [Builtin.min_, Builtin.min2, o]
  · rw [cmp_eq h] at o
    subst h
    rw [Int.min_self]
    cases hn : (FloatKind.f32.decode (f32 a)).neg <;> simp [Builtin.min_, Builtin.min2, o, hn]
  · rw [cmp_gt h] at o
    rw [Int.min_eq_right (by omega)]
    simp [Builtin.min_, Builtin.min2, o]
theorem max32 (P : Program) (a b : Int) (ha : a.natAbs < 16777216) (hb : b.natAbs < 16777216) : ∀ ts t w, (Builtin.max_ ts t #[.float .f32 (f32 a), .float .f32 (f32 b)]).run P w = .ok (.float .f32 (f32 (max a b))) w := by
  have o := order32 a b ha hb
  intro ts t w
  rcases Int.lt_trichotomy a b with h | h | h
  · rw [cmp_lt h] at o
    rw [Int.max_eq_right (by omega)]
    simp [Builtin.max_, Builtin.max2, o]
  · rw [cmp_eq h] at o
    subst h
    rw [Int.max_self]
    cases hn : (FloatKind.f32.decode (f32 a)).neg <;> simp [Builtin.max_, Builtin.max2, o, hn]
  · rw [cmp_gt h] at o
    rw [Int.max_eq_left (by omega)]
    simp [Builtin.max_, Builtin.max2, o]
end Go.Proofs.Ytmbiomekbinplaa.Fx8
