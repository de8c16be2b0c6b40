/- The ticks at which two jets' drops meet: both ways alike, rising, all of them for a jet and itself. -/
import Derived.Test.YtgcheplneolonadMi
import Derived.Test.YtgcheplneolonadFq
namespace Go.Proofs.Ytgcheplneolonad.Dp
open Go.RowKit Go.Proofs.Ytgcheplneolonad.Cx Go.Proofs.Ytgcheplneolonad.Cm Go.Proofs.Ytgcheplneolonad.Pl Go.Proofs.Ytgcheplneolonad.Str Go.Proofs.Ytgcheplneolonad.Pw Go.Proofs.Ytgcheplneolonad.P2 Go.Proofs.Ytgcheplneolonad.Hd Go.Proofs.Ytgcheplneolonad.Jt Go.Proofs.Ytgcheplneolonad.Dr4
set_option linter.unusedVariables false
set_option linter.unusedSimpArgs false

theorem mto_swap (x1 y1 h1 t1 l1 x2 y2 h2 t2 l2 : Int) : mto x2 y2 h2 t2 l2 x1 y1 h1 t1 l1 = mto x1 y1 h1 t1 l1 x2 y2 h2 t2 l2 := by
  have e : mv x2 y2 h2 t2 l2 x1 y1 h1 t1 l1 = mv x1 y1 h1 t1 l1 x2 y2 h2 t2 l2 := by
    funext k
    unfold mv mb mq
    simp only [eq_comm]
  unfold mto
  rw [e, Int.min_comm l2 l1]
  by_cases a : jt x1 y1 h1 t1 l1 = true <;> by_cases b : jt x2 y2 h2 t2 l2 = true <;> simp [a, b]
theorem mts_at {f : Nat → Bool} {n i : Nat} {z : Int} (h : (mts f n)[i]? = some z) : ∃ k : Nat, z = k ∧ k < n ∧ f k = true := by
  have m := List.mem_of_getElem? h
  unfold mts at m
  obtain ⟨k, hk, rfl⟩ := List.mem_map.1 m
  obtain ⟨h1, h2⟩ := List.mem_filter.1 hk
  exact ⟨k, rfl, List.mem_range.1 h1, h2⟩
theorem mts_up {f : Nat → Bool} {n i j : Nat} {z v : Int} (hij : i < j) (h : (mts f n)[i]? = some z) (h2 : (mts f n)[j]? = some v) : z < v := by
  have p : (mts f n).Pairwise (· < ·) := by
    unfold mts
    refine List.Pairwise.map _ (R := (· < ·)) ?_ (List.Pairwise.filter _ List.pairwise_lt_range)
    intro a b hab
    exact Int.ofNat_lt.2 hab
  obtain ⟨a, rfl⟩ := List.getElem?_eq_some_iff.1 h
  obtain ⟨b, rfl⟩ := List.getElem?_eq_some_iff.1 h2
  exact List.pairwise_iff_getElem.1 p i j a b hij
theorem mts_all {f : Nat → Bool} {n : Nat} (h : ∀ k, f k = true) : (mts f n).length = n := by
  unfold mts
  rw [List.length_map, List.filter_eq_self.2 (fun k _ => h k), List.length_range]
theorem mto_up {x1 y1 h1 t1 l1 x2 y2 h2 t2 l2 z v : Int} {i j : Nat} (hij : i < j) (h : (mto x1 y1 h1 t1 l1 x2 y2 h2 t2 l2)[i]? = some z) (h' : (mto x1 y1 h1 t1 l1 x2 y2 h2 t2 l2)[j]? = some v) : z < v := by
  unfold mto at h h'
  by_cases q : jt x1 y1 h1 t1 l1 = true ∧ jt x2 y2 h2 t2 l2 = true
  · rw [if_pos q] at h h'; exact mts_up hij h h'
  · rw [if_neg q] at h; simp at h
theorem mto_len (x1 y1 h1 t1 l1 x2 y2 h2 t2 l2 : Int) : (mto x1 y1 h1 t1 l1 x2 y2 h2 t2 l2).length ≤ 34 := by
  unfold mto
  by_cases q : jt x1 y1 h1 t1 l1 = true ∧ jt x2 y2 h2 t2 l2 = true
  · rw [if_pos q]
    have := mts_len (mv x1 y1 h1 t1 l1 x2 y2 h2 t2 l2) ((min l1 l2).toNat + 2)
    have a := jt_iff.1 q.1
    omega
  · rw [if_neg q]; simp
theorem mto_self {x y h t l : Int} (j : jt x y h t l = true) : ((mto x y h t l x y h t l).length : Int) = l + 1 + 1 := by
  unfold mto
  rw [if_pos ⟨j, j⟩, mts_all (fun k => by unfold mv mb mq; simp)]
  have a := jt_iff.1 j
  rw [Int.min_self]
  omega
/-- What is so at a tick at which they meet. -/
theorem mto_at {x1 y1 h1 t1 l1 x2 y2 h2 t2 l2 z : Int} {i : Nat} (h : (mto x1 y1 h1 t1 l1 x2 y2 h2 t2 l2)[i]? = some z) :
    inF x1 y1 h1 t1 l1 z = true ∧ inF x2 y2 h2 t2 l2 z = true ∧ wy x2 (tx h2.toNat t2 0) z.toNat = wy x1 (tx h1.toNat t1 0) z.toNat ∧ wy y2 (ty h2.toNat t2 0) z.toNat = wy y1 (ty h1.toNat t1 0) z.toNat ∧ ha x2 y2 h2 t2 l2 z = ha x1 y1 h1 t1 l1 z := by
  unfold mto at h
  by_cases q : jt x1 y1 h1 t1 l1 = true ∧ jt x2 y2 h2 t2 l2 = true
  · rw [if_pos q] at h
    obtain ⟨k, rfl, hk, hf⟩ := mts_at h
    have a := jt_iff.1 q.1
    have b := jt_iff.1 q.2
    have i1 : inF x1 y1 h1 t1 l1 k = true := inF_iff.2 ⟨q.1, by omega, by omega⟩
    have i2 : inF x2 y2 h2 t2 l2 k = true := inF_iff.2 ⟨q.2, by omega, by omega⟩
    unfold mv mb mq at hf
    simp only [Bool.and_eq_true, decide_eq_true_eq] at hf
    refine ⟨i1, i2, hf.1.1.symm, hf.1.2.symm, ?_⟩
    unfold ha
    rw [i1, i2]
    exact hf.2.symm
  · rw [if_neg q] at h; simp at h
end Go.Proofs.Ytgcheplneolonad.Dp
