/- The order of cues: scores as sorted lists. -/
import Derived.Test.YtgcheplneolonacLd
namespace Go.Proofs.Ytgcheplneolonac.Cq
open Go.RowKit Go.ChangeShapes Go.WideShapes Go.WideElems Go.Deep Go.Proofs.Ytgcheplneolonac.Mem Go.Proofs.Ytgcheplneolonac.Rw Go.Proofs.Ytgcheplneolonac.P2 Go.Proofs.Ytgcheplneolonac.Cd Go.Proofs.Ytgcheplneolonac.Cv Go.Proofs.Ytgcheplneolonac.Cl Go.Proofs.Ytgcheplneolonac.Cs
set_option linter.unusedVariables false
set_option linter.unusedSimpArgs false
open Go.Proofs.Ytgcheplneolonac.Sd Go.Proofs.Ytgcheplneolonac.Tn Go.Proofs.Ytgcheplneolonac.Ld

theorem bl_iff : ∀ (x y : List UInt8), Op.bytesLess x y = true ↔ x < y
  | [], [] => by simp [Op.bytesLess]
  | a :: x, [] => by simp [Op.bytesLess]
  | [], b :: y => by simp [Op.bytesLess]
  | a :: x, b :: y => by
    have ih := bl_iff x y
    rw [Op.bytesLess, List.cons_lt_cons_iff, ← ih]
    by_cases h1 : a < b
    · simp [h1]
    · by_cases h2 : a = b
      · simp [h2]
      · simp [h1, h2]
theorem lt_iff {a b : ByteArray} : Cs.lt a b = true ↔ a.toList < b.toList := bl_iff _ _
theorem lt_trans {a b c : ByteArray} (h : Cs.lt a b = true) (k : Cs.lt b c = true) : Cs.lt a c = true := lt_iff.2 (List.lt_trans (lt_iff.1 h) (lt_iff.1 k))
theorem lt_irrefl (a : ByteArray) : Cs.lt a a = false := by
  cases h : Cs.lt a a
  · rfl
  · exact absurd (lt_iff.1 h) (List.lt_irrefl _)
theorem lt_other {a b : ByteArray} (h : Cs.lt a b = false) (hn : a ≠ b) : Cs.lt b a = true := by
  have h1 : ¬ a.toList < b.toList := fun c => by rw [lt_iff.2 c] at h; cases h
  refine lt_iff.2 ?_
  by_cases k : b.toList < a.toList
  · exact k
  · exact absurd (toList_inj (Std.Trichotomous.trichotomous (r := (· < · : List UInt8 → List UInt8 → Prop)) a.toList b.toList h1 k)) hn
theorem sb_iff {a b : ByteArray} : sb a b = true ↔ a = b := bl_eq
theorem sb_self (a : ByteArray) : sb a a = true := sb_iff.2 rfl
theorem sb_ne {a b : ByteArray} (h : a ≠ b) : sb a b = false := bl_ne h

theorem cc_neg {t t' : Int} {n n' : ByteArray} : cc t n t' n' < 0 ↔ t < t' ∨ (t = t' ∧ Cs.lt n n' = true) := by
  unfold cc cn
  by_cases h : t < t'
  · rw [if_pos h]; exact ⟨fun _ => Or.inl h, fun _ => by decide⟩
  · rw [if_neg h]
    by_cases e : t = t'
    · rw [if_pos e]
      cases h1 : Cs.lt n n'
      · rw [if_neg (by decide)]
        constructor
        · intro c; exfalso; split at c <;> exact absurd c (by decide)
        · rintro (c | ⟨_, c⟩); exact absurd c h; cases c
      · rw [if_pos rfl]; exact ⟨fun _ => Or.inr ⟨e, rfl⟩, fun _ => by decide⟩
    · rw [if_neg e]
      exact ⟨fun c => absurd c (by decide), fun c => by rcases c with c | ⟨c, _⟩; exact absurd c h; exact absurd c e⟩
theorem cc_zero {t t' : Int} {n n' : ByteArray} : cc t n t' n' = 0 ↔ t = t' ∧ n = n' := by
  unfold cc cn
  by_cases h : t < t'
  · rw [if_pos h]; exact ⟨fun c => absurd c (by decide), fun c => by omega⟩
  · rw [if_neg h]
    by_cases e : t = t'
    · rw [if_pos e]
      cases h1 : Cs.lt n n'
      · rw [if_neg (by decide)]
        by_cases c : n = n'
        · rw [if_pos (sb_iff.2 c)]; exact ⟨fun _ => ⟨e, c⟩, fun _ => rfl⟩
        · rw [if_neg (by rw [sb_ne c]; decide)]; exact ⟨fun k => absurd k (by decide), fun k => absurd k.2 c⟩
      · rw [if_pos rfl]
        refine ⟨fun c => absurd c (by decide), fun c => ?_⟩
        rw [c.2, lt_irrefl] at h1; cases h1
    · rw [if_neg e]; exact ⟨fun c => absurd c (by decide), fun c => absurd c.1 e⟩
/-- A cue stands before another one. -/
def Bef (a d : C) : Prop := cmp2 a d < 0
theorem bef_iff {a d : C} : Bef a d ↔ a.tk < d.tk ∨ (a.tk = d.tk ∧ Cs.lt a.nm d.nm = true) := cc_neg
theorem same_iff {a d : C} : cmp2 a d = 0 ↔ a.tk = d.tk ∧ a.nm = d.nm := cc_zero
theorem bef_trans {a b c : C} (h : Bef a b) (k : Bef b c) : Bef a c := by
  rw [bef_iff] at h k ⊢
  rcases h with h | ⟨h, h'⟩ <;> rcases k with k | ⟨k, k'⟩
  · exact Or.inl (by omega)
  · exact Or.inl (by omega)
  · exact Or.inl (by omega)
  · exact Or.inr ⟨by omega, lt_trans h' k'⟩
theorem bef_irrefl (a : C) : ¬ Bef a a := by
  rw [bef_iff, lt_irrefl]
  rintro (h | ⟨_, h⟩)
  · omega
  · cases h
theorem bef_total {a d : C} (h : ¬ Bef a d) (k : cmp2 a d ≠ 0) : Bef d a := by
  rw [bef_iff] at h ⊢
  by_cases e : a.tk = d.tk
  · refine Or.inr ⟨e.symm, ?_⟩
    refine lt_other ?_ fun c => k (same_iff.2 ⟨e, c⟩)
    cases q : Cs.lt a.nm d.nm
    · rfl
    · exact absurd (Or.inr ⟨e, q⟩) h
  · exact Or.inl (by
      have : ¬ a.tk < d.tk := fun c => h (Or.inl c)
      omega)
theorem bef_same {a b c : C} (h : Bef a b) (k : cmp2 b c = 0) : Bef a c := by
  obtain ⟨e1, e2⟩ := same_iff.1 k
  rw [bef_iff] at h ⊢
  rw [← e1, ← e2]; exact h
theorem same_bef {a b c : C} (k : cmp2 a b = 0) (h : Bef b c) : Bef a c := by
  obtain ⟨e1, e2⟩ := same_iff.1 k
  rw [bef_iff] at h ⊢
  rw [e1, e2]; exact h
theorem bef_not_same {a b : C} (h : Bef a b) : cmp2 a b ≠ 0 := fun k => by unfold Bef at h; rw [k] at h; exact absurd h (by decide)

/-- Each cue stands before all that come behind it. -/
def Ord (zs : List C) : Prop := zs.Pairwise Bef
theorem ord_of : ∀ (zs : List C), (∀ k, k < zs.length → ordA zs k = true) → Ord zs
  | [], _ => List.Pairwise.nil
  | [d], _ => List.pairwise_singleton _ _
  | a :: d :: r, h => by
    have hr : Ord (d :: r) := ord_of (d :: r) fun k hk => by
      cases k with
      | zero => rfl
      | succ p =>
        have := h (p + 2) (by simp only [List.length_cons] at hk ⊢; omega)
        obtain ⟨x, hx⟩ : ∃ x, (d :: r)[p]? = some x := ⟨_, List.getElem?_eq_getElem (by simp only [List.length_cons] at hk ⊢; omega)⟩
        obtain ⟨y, hy⟩ : ∃ y, (d :: r)[p + 1]? = some y := ⟨_, List.getElem?_eq_getElem hk⟩
        rw [ordA_succ (zs := a :: d :: r) (p := p + 1) (a := x) (d := y) (by rw [List.getElem?_cons_succ]; exact hx) (by rw [List.getElem?_cons_succ]; exact hy)] at this
        rw [ordA_succ hx hy]
        exact this
    have h1 : Bef a d := by
      have := h 1 (by simp)
      rw [ordA_succ (zs := a :: d :: r) (p := 0) (a := a) (d := d) rfl rfl] at this
      have h2 : cmp2 a d < 0 := of_decide_eq_true this
      exact h2
    refine List.Pairwise.cons (fun x hx => ?_) hr
    rcases List.mem_cons.1 hx with rfl | hx
    · exact h1
    · exact bef_trans h1 ((List.pairwise_cons.1 hr).1 x hx)
theorem ord_to {zs : List C} (h : Ord zs) (k : Nat) : ordA zs k = true := by
  cases k with
  | zero => rfl
  | succ p =>
    cases hb : zs[p + 1]? with
    | none =>
      show (match zs[p]?, zs[p + 1]? with | some a, some d => neg (cmp2 a d) | _, _ => true) = true
      rw [hb]; cases zs[p]? <;> rfl
    | some d =>
      obtain ⟨hk, e⟩ := List.getElem?_eq_some_iff.1 hb
      obtain ⟨a, ha⟩ : ∃ a, zs[p]? = some a := ⟨_, List.getElem?_eq_getElem (by omega)⟩
      rw [ordA_succ ha hb]
      obtain ⟨hk2, e2⟩ := List.getElem?_eq_some_iff.1 ha
      have := List.pairwise_iff_getElem.1 h p (p + 1) hk2 hk (by omega)
      rw [e, e2] at this
      have h2 : cmp2 a d < 0 := this
      unfold neg
      exact decide_eq_true h2
/-- A score, by membership. -/
theorem score_set {zs : List C} : Score zs ↔ zs.length ≤ 12 ∧ Ord zs ∧ ∀ d ∈ zs, cB d = true := by
  constructor
  · rintro ⟨h1, h2⟩
    refine ⟨h1, ord_of zs fun k hk => (h2 k _ (List.getElem?_eq_getElem hk)).2, fun d hd => ?_⟩
    obtain ⟨k, hk, rfl⟩ := List.getElem_of_mem hd
    exact (h2 k _ (List.getElem?_eq_getElem hk)).1
  · rintro ⟨h1, ho, h2⟩
    exact ⟨h1, fun k d hd => ⟨h2 d (List.mem_of_getElem? hd), ord_to ho k⟩⟩
theorem ord_at {zs : List C} (h : Ord zs) {i j : Nat} {a b : C} (ha : zs[i]? = some a) (hb : zs[j]? = some b) (hij : i < j) : Bef a b := by
  obtain ⟨hi, rfl⟩ := List.getElem?_eq_some_iff.1 ha
  obtain ⟨hj, rfl⟩ := List.getElem?_eq_some_iff.1 hb
  exact List.pairwise_iff_getElem.1 h i j hi hj hij

/-- The first r of a list stand before x, the others don't. -/
def Parts (zs : List C) (x : C) (r : Nat) : Prop := r ≤ zs.length ∧ (∀ k d, k < r → zs[k]? = some d → Bef d x) ∧ (∀ k d, r ≤ k → zs[k]? = some d → ¬ Bef d x)
theorem parts_none {zs : List C} (h : Ord zs) {x : C} {r : Nat} (hp : Parts zs x r) (hx : ∀ d, zs[r]? = some d → cmp2 d x ≠ 0) : ∀ d ∈ zs, cmp2 d x ≠ 0 := fun d hd e => by
  obtain ⟨k, hk, rfl⟩ := List.getElem_of_mem hd
  have hk' := List.getElem?_eq_getElem hk
  by_cases c : k < r
  · exact bef_not_same (hp.2.1 k _ c hk') e
  · by_cases c2 : k = r
    · subst c2; exact hx _ hk' e
    · have hr : r < zs.length := by omega
      have := ord_at h (List.getElem?_eq_getElem hr) hk' (by omega)
      exact hp.2.2 r _ (Nat.le_refl _) (List.getElem?_eq_getElem hr) (bef_same this e)
end Go.Proofs.Ytgcheplneolonac.Cq
