/- Cells written over a row of a call's own. -/
import Derived.Test.YtokncfhpmjohdabGreatM1
set_option linter.unusedVariables false
set_option linter.unusedSimpArgs false
namespace Go.Proofs.YtokncfhpmjohdabGreat.Ly
open Go.RowKit Go.ChangeShapes Go.WideShapes Go.WideElems Go.Deep Go.Proofs.YtokncfhpmjohdabGreat.Mem Go.Proofs.YtokncfhpmjohdabGreat.Rw
set_option linter.unusedVariables false
set_option linter.unusedSimpArgs false

/-- Cells written over a list, one after another. -/
def layL : List Value → Nat → List Value → List Value
  | xs, _, [] => xs
  | xs, o, u :: r => layL (xs.set o u) (o + 1) r
theorem layL_get : ∀ (r xs : List Value) (o : Nat), o + r.length ≤ xs.length → ∀ t, (layL xs o r)[t]? = if t < o then xs[t]? else if t < o + r.length then r[t - o]? else xs[t]?
  | [], xs, o, _, t => by
    rw [layL]
    split
    · rfl
    · rw [if_neg (by simp only [List.length_nil]; omega)]
  | u :: r, xs, o, h, t => by
    simp only [List.length_cons] at h
    rw [layL, layL_get r (xs.set o u) (o + 1) (by rw [List.length_set]; omega) t]
    by_cases c1 : t < o
    · rw [if_pos (by omega), if_pos c1, List.getElem?_set_ne (by omega)]
    · rw [if_neg c1]
      by_cases c2 : t = o
      · subst c2
        rw [if_pos (by omega), if_pos (by simp only [List.length_cons]; omega), Nat.sub_self, List.getElem?_set_self (by omega)]; rfl
      · rw [if_neg (by omega)]
        by_cases c3 : t < o + (r.length + 1)
        · rw [if_pos (by omega), if_pos (by simp only [List.length_cons]; exact c3), show t - o = (t - (o + 1)) + 1 by omega, List.getElem?_cons_succ]
        · rw [if_neg (by omega), if_neg (by simp only [List.length_cons]; exact c3), List.getElem?_set_ne (by omega)]
theorem gtrans {a b c : World} {row : Option Nat} (h : a.grownBy b row) (k : b.grownBy c row) : a.grownBy c row :=
  ⟨k.os.trans h.os, k.tape.trans h.tape, k.output.trans h.output, Nat.le_trans h.size k.size, fun i hi hne => (k.block i (Nat.lt_of_lt_of_le hi h.size) hne).trans (h.block i hi hne)⟩
theorem owns_lay {base : Nat} {e : TypeId} {size g n cap : Nat} : ∀ (r : List Value) (o : Nat) (w : World) (xs : List Value), w.ownsRow base e size (.slice (some ⟨g, 0, none⟩) n cap) n xs → (w.setCells g o r).ownsRow base e size (.slice (some ⟨g, 0, none⟩) n cap) n (layL xs o r) ∧ w.grownBy (w.setCells g o r) (some g)
  | [], _, w, _, h => ⟨h, World.grownBy.refl _ _⟩
  | u :: r, o, w, xs, h => by
    obtain ⟨h1, g1⟩ := h.stored o u
    obtain ⟨h2, g2⟩ := owns_lay r (o + 1) _ _ h1
    exact ⟨h2, gtrans g1 g2⟩
theorem owns_fewer {w : World} {base : Nat} {e : TypeId} {size g n cap : Nat} {xs : List Value} (h : w.ownsRow base e size (.slice (some ⟨g, 0, none⟩) n cap) n xs) {m : Nat} (hm : m ≤ n) : w.ownsRow base e size (.slice (some ⟨g, 0, none⟩) m cap) m (xs.take (m * size)) := by
  rcases h.2 with ⟨h', _⟩ | ⟨g', cap', cur, h', hb, hg, hnc, hcm, hcs, htake⟩
  · simp at h'
  · simp only [Value.slice.injEq, Option.some.injEq, Addr.mk.injEq, and_true, true_and] at h'
    obtain ⟨rfl, rfl⟩ := h'
    have hle : m * size ≤ n * size := Nat.mul_le_mul_right _ hm
    refine ⟨by rw [List.length_take, h.1]; omega, .inr ⟨g, cap, cur, rfl, hb, hg, by omega, hcm, hcs, ?_⟩⟩
    rw [← htake, List.take_take, Nat.min_eq_left hle]
theorem owns_cap {w : World} {base : Nat} {e : TypeId} {size g n cap : Nat} {xs : List Value} (h : w.ownsRow base e size (.slice (some ⟨g, 0, none⟩) n cap) n xs) : n ≤ cap ∧ cap ≤ maxLen := by
  rcases h.2 with ⟨h', _⟩ | ⟨g', cap', cur, h', hb, hg, hnc, hcm, hcs, htake⟩
  · simp at h'
  · simp only [Value.slice.injEq, Option.some.injEq, Addr.mk.injEq, and_true, true_and] at h'
    obtain ⟨rfl, rfl⟩ := h'
    exact ⟨hnc, hcm⟩
end Go.Proofs.YtokncfhpmjohdabGreat.Ly
