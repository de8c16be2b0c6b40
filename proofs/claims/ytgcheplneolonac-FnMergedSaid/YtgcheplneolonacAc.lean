/- A cue put into a score where it belongs. -/
import Derived.Test.YtgcheplneolonacCq
import Derived.Test.YtgcheplneolonacCr
namespace Go.Proofs.Ytgcheplneolonac.Ac
open Go.RowKit Go.ChangeShapes Go.WideShapes Go.WideElems Go.Deep Go.Proofs.Ytgcheplneolonac.Mem Go.Proofs.Ytgcheplneolonac.Rw Go.Proofs.Ytgcheplneolonac.P2 Go.Proofs.Ytgcheplneolonac.Cd Go.Proofs.Ytgcheplneolonac.Cv Go.Proofs.Ytgcheplneolonac.Cl Go.Proofs.Ytgcheplneolonac.Cs
set_option linter.unusedVariables false
set_option linter.unusedSimpArgs false
open Go.Proofs.Ytgcheplneolonac.Sd Go.Proofs.Ytgcheplneolonac.Oc Go.Proofs.Ytgcheplneolonac.Cr Go.Proofs.Ytgcheplneolonac.Ld Go.Proofs.Ytgcheplneolonac.Cq

/-- How many cues at the front stand before x. -/
def front : List C → C → Nat
  | [], _ => 0
  | d :: r, x => if cmp2 d x < 0 then front r x + 1 else 0
theorem front_le : ∀ (zs : List C) (x : C), front zs x ≤ zs.length
  | [], _ => Nat.le_refl _
  | d :: r, x => by unfold front; split; have := front_le r x; simp; omega; simp
theorem front_lt : ∀ {zs : List C} {x : C} {k : Nat} {d : C}, k < front zs x → zs[k]? = some d → cmp2 d x < 0
  | [], x, k, d, h, _ => by unfold front at h; omega
  | e :: r, x, k, d, h, hd => by
    unfold front at h
    by_cases c : cmp2 e x < 0
    · rw [if_pos c] at h
      cases k with
      | zero => simp at hd; subst hd; exact c
      | succ k => exact front_lt (zs := r) (k := k) (by omega) (by simpa using hd)
    · rw [if_neg c] at h; omega
theorem front_at : ∀ {zs : List C} {x : C} {d : C}, zs[front zs x]? = some d → ¬ cmp2 d x < 0
  | [], x, d, h => by simp at h
  | e :: r, x, d, h => by
    unfold front at h
    by_cases c : cmp2 e x < 0
    · rw [if_pos c] at h; exact front_at (zs := r) (by simpa using h)
    · rw [if_neg c] at h; simp at h; subst h; exact c
theorem front_is {zs : List C} {x : C} {k : Nat} (hk : k ≤ zs.length) (h1 : ∀ j d, j < k → zs[j]? = some d → cmp2 d x < 0) (h2 : ∀ d, zs[k]? = some d → ¬ cmp2 d x < 0) : front zs x = k := by
  have a := front_le zs x
  by_cases c : front zs x < k
  · obtain ⟨d, hd⟩ : ∃ d, zs[front zs x]? = some d := ⟨_, List.getElem?_eq_getElem (by omega)⟩
    exact absurd (h1 _ d c hd) (front_at hd)
  · by_cases e : k < front zs x
    · obtain ⟨d, hd⟩ : ∃ d, zs[k]? = some d := ⟨_, List.getElem?_eq_getElem (by omega)⟩
      exact absurd (front_lt e hd) (h2 d hd)
    · omega
/-- Whether x may be put in there: no cue there is its like. -/
def freeB (zs : List C) (x : C) : Bool := match zs[front zs x]? with | some d => !(cmp2 d x == 0) | none => true
theorem free_none {zs : List C} {x : C} (h : zs[front zs x]? = none) : freeB zs x = true := by unfold freeB; rw [h]
theorem free_some {zs : List C} {x d : C} (h : zs[front zs x]? = some d) : freeB zs x = !(cmp2 d x == 0) := by unfold freeB; rw [h]
def insC (zs : List C) (x : C) : List C := zs.take (front zs x) ++ x :: zs.drop (front zs x)
theorem ins_len (zs : List C) (x : C) : (insC zs x).length = zs.length + 1 := by
  have := front_le zs x
  unfold insC; simp; omega
def putL (zs : List C) (x : C) : List C := if freeB zs x = true then insC zs x else zs
theorem putL_yes {zs : List C} {x : C} (h : freeB zs x = true) : putL zs x = insC zs x := by unfold putL; rw [if_pos h]
theorem putL_no {zs : List C} {x : C} (h : freeB zs x = false) : putL zs x = zs := by unfold putL; rw [h]; rfl
theorem putL_len (zs : List C) (x : C) : (putL zs x).length ≤ zs.length + 1 := by
  unfold putL; split
  · rw [ins_len]; exact Nat.le_refl _
  · exact Nat.le_succ _
theorem mem_ins {zs : List C} {x e : C} : e ∈ insC zs x ↔ e = x ∨ e ∈ zs := by
  unfold insC
  rw [List.mem_append, List.mem_cons]
  constructor
  · rintro (h | h | h)
    · exact Or.inr (List.mem_of_mem_take h)
    · exact Or.inl h
    · exact Or.inr (List.mem_of_mem_drop h)
  · rintro (h | h)
    · exact Or.inr (Or.inl h)
    · rw [← List.take_append_drop (front zs x) zs] at h
      rcases List.mem_append.1 h with h | h
      · exact Or.inl h
      · exact Or.inr (Or.inr h)
theorem parts_front {zs : List C} (h : Ord zs) (x : C) : Parts zs x (front zs x) := by
  refine ⟨front_le _ _, fun k d hk hd => front_lt hk hd, fun k d hk hd hb => ?_⟩
  have hl := (List.getElem?_eq_some_iff.1 hd).1
  obtain ⟨e, he⟩ : ∃ e, zs[front zs x]? = some e := ⟨_, List.getElem?_eq_getElem (by omega)⟩
  by_cases c : k = front zs x
  · subst c; exact front_at hd hb
  · exact front_at he (bef_trans (ord_at h he hd (by omega)) hb)
/-- A place is free just if no cue is the like of x. -/
theorem free_iff {zs : List C} (h : Ord zs) (x : C) : freeB zs x = true ↔ ∀ d ∈ zs, cmp2 d x ≠ 0 := by
  constructor
  · intro hf
    refine parts_none h (parts_front h x) fun d hd e => ?_
    rw [free_some hd, e] at hf
    cases hf
  · intro hf
    cases hz : zs[front zs x]? with
    | none => exact free_none hz
    | some d =>
      rw [free_some hz]
      have := hf d (List.mem_of_getElem? hz)
      simp [this]
theorem ins_ord {zs : List C} (h : Ord zs) {x : C} (hf : freeB zs x = true) : Ord (insC zs x) := by
  have hp := parts_front h x
  have hn := (free_iff h x).1 hf
  unfold insC
  refine List.pairwise_append.2 ⟨h.sublist (List.take_sublist _ _), List.pairwise_cons.2 ⟨fun d hd => ?_, h.sublist (List.drop_sublist _ _)⟩, fun a ha b hb => ?_⟩
  · obtain ⟨j, hj, rfl⟩ := List.getElem_of_mem hd
    rw [List.length_drop] at hj
    have hg : zs[front zs x + j]? = some (zs.drop (front zs x))[j] := by rw [List.getElem_drop]; exact List.getElem?_eq_getElem (by omega)
    exact bef_total (hp.2.2 _ _ (by omega) hg) (hn _ (List.mem_of_getElem? hg))
  · obtain ⟨i, hi, rfl⟩ := List.getElem_of_mem ha
    rw [List.length_take] at hi
    have hg : zs[i]? = some (zs.take (front zs x))[i] := by rw [List.getElem_take]; exact List.getElem?_eq_getElem (by omega)
    have h1 := hp.2.1 i _ (by omega) hg
    rcases List.mem_cons.1 hb with rfl | hb
    · exact h1
    · obtain ⟨j, hj, rfl⟩ := List.getElem_of_mem hb
      rw [List.length_drop] at hj
      have hg2 : zs[front zs x + j]? = some (zs.drop (front zs x))[j] := by rw [List.getElem_drop]; exact List.getElem?_eq_getElem (by omega)
      exact ord_at h hg hg2 (by omega)
/-- Whether a cue is added; the list behind it. -/
noncomputable def addG (zs : List C) (x : C) : Bool := score zs && (cB x && (freeB zs x && decide (zs.length ≠ 12)))
noncomputable def addL (zs : List C) (x : C) : List C := if addG zs x = true then insC zs x else zs
theorem addL_yes {zs : List C} {x : C} (h : addG zs x = true) : addL zs x = insC zs x := by unfold addL; rw [if_pos h]
theorem addL_no {zs : List C} {x : C} (h : addG zs x = false) : addL zs x = zs := by unfold addL; rw [h]; rfl
theorem addL_len (zs : List C) (x : C) : (addL zs x).length ≤ zs.length + 1 := by
  unfold addL; split
  · rw [ins_len]; exact Nat.le_refl _
  · exact Nat.le_succ _
theorem add_score {zs : List C} {x : C} (h : score zs = true) : score (addL zs x) = true := by
  cases hg : addG zs x
  · rw [addL_no hg]; exact h
  · rw [addL_yes hg]
    unfold addG at hg
    rw [Bool.and_eq_true, Bool.and_eq_true, Bool.and_eq_true] at hg
    obtain ⟨_, h2, h3, h4⟩ := hg
    obtain ⟨a, b, c⟩ := score_set.1 (score_of h)
    have h5 := of_decide_eq_true h4
    refine score_yes (score_set.2 ⟨by rw [ins_len]; omega, ins_ord b h3, fun d hd => ?_⟩)
    rcases mem_ins.1 hd with rfl | hd
    · exact h2
    · exact c d hd
theorem add_mem {zs : List C} {x e : C} (h : e ∈ addL zs x) : e = x ∨ e ∈ zs := by
  unfold addL at h
  split at h
  · exact mem_ins.1 h
  · exact Or.inr h
end Go.Proofs.Ytgcheplneolonac.Ac
