/- A list of places that is sorted, each once: how one more goes in. -/
import Derived.Test.YtknanaapaipoeaaCp4
namespace Go.Proofs.Ytknanaapaipoeaa.Sm
open Go.Proofs.Ytknanaapaipoeaa.Cp
set_option linter.unusedVariables false
set_option linter.unusedSimpArgs false

/-- Whether a place stands before another one. -/
def lt2 (p q : Int × Int) : Bool := decide (cpv p.1 p.2 q.1 q.2 < 0)
theorem lt2_iff {p q : Int × Int} : lt2 p q = true ↔ p.1 < q.1 ∨ p.1 = q.1 ∧ p.2 < q.2 := by
  unfold lt2 cpv ov cv
  rw [decide_eq_true_eq]
  by_cases h1 : p.1 < q.1
  · simp [h1]
  · by_cases h2 : q.1 < p.1
    · simp [h1, h2]; omega
    · have e : p.1 = q.1 := by omega
      by_cases h3 : p.2 < q.2
      · simp [e, h3]
      · by_cases h4 : q.2 < p.2
        · simp [e, h3, h4]
        · simp [e, h3, h4]
theorem lt2_trans {p q r : Int × Int} (h : lt2 p q = true) (k : lt2 q r = true) : lt2 p r = true := by
  rw [lt2_iff] at *; omega
theorem lt2_tri {p q : Int × Int} (h : lt2 p q = false) (n : p ≠ q) : lt2 q p = true := by
  have h : ¬ lt2 p q = true := by rw [h]; decide
  rw [lt2_iff] at *
  by_cases e : p.1 = q.1
  · by_cases e2 : p.2 = q.2
    · exact absurd (Prod.ext e e2) n
    · omega
  · omega
theorem lt2_irr (p : Int × Int) : lt2 p p = false := by rw [← Bool.not_eq_true, lt2_iff]; omega

def ins : List (Int × Int) → Int × Int → List (Int × Int)
  | [], p => [p]
  | q :: out, p => if lt2 q p = true then q :: ins out p else if q = p then q :: out else p :: q :: out
theorem ins_mem {p x : Int × Int} : ∀ {out : List (Int × Int)}, x ∈ ins out p ↔ x = p ∨ x ∈ out
  | [] => by simp [ins]
  | q :: out => by
    unfold ins
    split
    · rw [List.mem_cons, ins_mem, List.mem_cons]
      constructor
      · rintro (h | h | h) <;> simp [h]
      · rintro (h | h | h) <;> simp [h]
    · split
      · rename_i h1 h2; subst h2
        rw [List.mem_cons]
        constructor
        · rintro (h | h) <;> simp [h]
        · rintro (h | h | h) <;> simp [h]
      · rw [List.mem_cons]
theorem ins_inc {p : Int × Int} : ∀ {out : List (Int × Int)}, out.Pairwise (fun a b => lt2 a b = true) → (ins out p).Pairwise (fun a b => lt2 a b = true)
  | [], _ => by simp [ins]
  | q :: out, h => by
    obtain ⟨h1, h2⟩ := List.pairwise_cons.1 h
    unfold ins
    split
    · rename_i hq
      refine List.pairwise_cons.2 ⟨fun x hx => ?_, ins_inc h2⟩
      rcases ins_mem.1 hx with rfl | hx
      · exact hq
      · exact h1 x hx
    · rename_i hq
      split
      · exact h
      · rename_i hne
        have hq : lt2 q p = false := by simpa using hq
        have hp := lt2_tri hq hne
        refine List.pairwise_cons.2 ⟨fun x hx => ?_, h⟩
        rcases List.mem_cons.1 hx with rfl | hx
        · exact hp
        · exact lt2_trans hp (h1 x hx)
theorem ins_len (p : Int × Int) : ∀ out : List (Int × Int), out.length ≤ (ins out p).length ∧ 1 ≤ (ins out p).length ∧ (ins out p).length ≤ out.length + 1
  | [] => by simp [ins]
  | q :: out => by
    have := ins_len p out
    unfold ins
    split
    · simp only [List.length_cons]; omega
    · split <;> simp only [List.length_cons] <;> omega
/-- Where it goes in. -/
theorem ins_at {p : Int × Int} : ∀ {out : List (Int × Int)} {k : Nat}, k ≤ out.length → (∀ j q, j < k → out[j]? = some q → lt2 q p = true) → (∀ q, out[k]? = some q → lt2 q p = false) →
    ins out p = if out[k]? = some p then out else out.take k ++ p :: out.drop k
  | [], k, hk, _, _ => by
    obtain rfl : k = 0 := by simpa using hk
    simp [ins]
  | q :: out, 0, _, _, h2 => by
    have := h2 q rfl
    unfold ins
    rw [this]
    by_cases e : q = p
    · subst e; simp
    · simp [e]
  | q :: out, k + 1, hk, h1, h2 => by
    have a := h1 0 q (by omega) rfl
    have b := ins_at (p := p) (out := out) (k := k) (by simpa using hk) (fun j x hj hx => h1 (j + 1) x (by omega) (by simpa using hx)) (fun x hx => h2 x (by simpa using hx))
    unfold ins
    rw [if_pos a, b]
    simp only [List.getElem?_cons_succ]
    split <;> simp

/-- The places in their order, each once. -/
def srt (l : List (Int × Int)) : List (Int × Int) := l.foldl ins []
theorem srt_take {l : List (Int × Int)} {k : Nat} {p : Int × Int} (h : l[k]? = some p) : srt (l.take (k + 1)) = ins (srt (l.take k)) p := by
  obtain ⟨hk, rfl⟩ := List.getElem?_eq_some_iff.1 h
  unfold srt
  rw [List.take_succ_eq_append_getElem hk, List.foldl_append]
  rfl
theorem srt_snoc (l : List (Int × Int)) (p : Int × Int) : srt (l ++ [p]) = ins (srt l) p := by unfold srt; rw [List.foldl_append]; rfl
theorem srt_facts (l : List (Int × Int)) : (∀ x, x ∈ srt l ↔ x ∈ l) ∧ (srt l).Pairwise (fun a b => lt2 a b = true) ∧ (srt l).length ≤ l.length ∧ (l ≠ [] → 1 ≤ (srt l).length) := by
  have key : ∀ (l out : List (Int × Int)), out.Pairwise (fun a b => lt2 a b = true) →
      (∀ x, x ∈ l.foldl ins out ↔ x ∈ out ∨ x ∈ l) ∧ (l.foldl ins out).Pairwise (fun a b => lt2 a b = true) ∧ out.length ≤ (l.foldl ins out).length ∧ (l.foldl ins out).length ≤ out.length + l.length ∧ (l ≠ [] → 1 ≤ (l.foldl ins out).length) := by
    intro l
    induction l with
    | nil => intro out h; exact ⟨fun x => by simp, h, Nat.le_refl _, by simp, fun c => absurd rfl c⟩
    | cons p l ih =>
      intro out h
      obtain ⟨a, b, c, d, e⟩ := ih (ins out p) (ins_inc h)
      have := ins_len p out
      refine ⟨fun x => ?_, b, by simp only [List.foldl_cons]; omega, by simp only [List.foldl_cons, List.length_cons]; omega, fun _ => by simp only [List.foldl_cons]; omega⟩
      rw [List.foldl_cons, a x, ins_mem, List.mem_cons]
      constructor
      · rintro ((h | h) | h) <;> simp [h]
      · rintro (h | h | h) <;> simp [h]
  obtain ⟨a, b, _, d, e⟩ := key l [] List.Pairwise.nil
  exact ⟨fun x => by rw [show srt l = l.foldl ins [] from rfl, a x]; simp, b, by simpa [srt] using d, e⟩
theorem srt_len_take (l : List (Int × Int)) (k : Nat) : (srt (l.take k)).length ≤ l.length := by
  have := (srt_facts (l.take k)).2.2.1
  rw [List.length_take] at this
  omega

end Go.Proofs.Ytknanaapaipoeaa.Sm
