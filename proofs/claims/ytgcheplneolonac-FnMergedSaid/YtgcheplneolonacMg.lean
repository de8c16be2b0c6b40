/- Two scores made one: cue by cue, or put in order at once. -/
import Derived.Test.YtgcheplneolonacAc
import Derived.Sort.Statements
namespace Go.Proofs.Ytgcheplneolonac.Mg
open Go.RowKit Go.ChangeShapes Go.WideShapes Go.WideElems Go.Deep Go.Proofs.Ytgcheplneolonac.Mem Go.Proofs.Ytgcheplneolonac.Rw Go.Proofs.Ytgcheplneolonac.P2 Go.Proofs.Ytgcheplneolonac.Cd Go.Proofs.Ytgcheplneolonac.Cv Go.Proofs.Ytgcheplneolonac.Cl Go.Proofs.Ytgcheplneolonac.Cs
set_option linter.unusedVariables false
set_option linter.unusedSimpArgs false
open Go.Proofs.Ytgcheplneolonac.Sd Go.Proofs.Ytgcheplneolonac.Oc Go.Proofs.Ytgcheplneolonac.Cr Go.Proofs.Ytgcheplneolonac.Ld Go.Proofs.Ytgcheplneolonac.Cq Go.Proofs.Ytgcheplneolonac.Ac

/-- One cue behind another is put in, as long as each finds its place free. -/
noncomputable def mg : List C → List C → Bool × List C
  | acc, [] => (true, acc)
  | acc, x :: r => if freeB acc x = true then mg (insC acc x) r else (false, acc)
theorem mg_nil (acc : List C) : mg acc [] = (true, acc) := by unfold mg; rfl
theorem mg_yes {acc r : List C} {x : C} (h : freeB acc x = true) : mg acc (x :: r) = mg (insC acc x) r := by rw [mg, if_pos h]
theorem mg_no {acc r : List C} {x : C} (h : freeB acc x = false) : mg acc (x :: r) = (false, acc) := by rw [mg, h]; rfl
/-- Not the like of each other. -/
def Un (a d : C) : Prop := cmp2 a d ≠ 0
theorem un_symm {a d : C} (h : Un a d) : Un d a := fun e => h (by obtain ⟨e1, e2⟩ := same_iff.1 e; exact same_iff.2 ⟨e1.symm, e2.symm⟩)
theorem un_of {a d : C} (h : Bef a d) : Un a d := bef_not_same h
theorem ord_un {zs : List C} (h : Ord zs) : zs.Pairwise Un := List.Pairwise.imp un_of h
theorem un_perm {xs ys : List C} (h : xs.Perm ys) : xs.Pairwise Un ↔ ys.Pairwise Un := h.pairwise_iff un_symm
theorem ins_perm (zs : List C) (x : C) : (insC zs x).Perm (x :: zs) := by
  unfold insC
  refine List.perm_middle.trans ?_
  rw [List.take_append_drop]
theorem ins_perm2 (acc r : List C) (x : C) : (insC acc x ++ r).Perm (acc ++ x :: r) :=
  ((ins_perm acc x).append_right r).trans (List.perm_middle.symm)
/-- All find their place free just if no two are alike. -/
theorem mg_iff : ∀ (xs acc : List C), Ord acc → ((mg acc xs).1 = true ↔ (acc ++ xs).Pairwise Un)
  | [], acc, h => by rw [mg_nil, List.append_nil]; exact ⟨fun _ => ord_un h, fun _ => rfl⟩
  | x :: r, acc, h => by
    cases hf : freeB acc x
    · rw [mg_no hf]
      refine ⟨fun e => (by cases e), fun hp => ?_⟩
      exfalso
      have : freeB acc x = true := (free_iff h x).2 fun d hd => (List.pairwise_append.1 hp).2.2 d hd x (List.mem_cons_self ..)
      rw [hf] at this; cases this
    · rw [mg_yes hf, mg_iff r (insC acc x) (ins_ord h hf)]
      exact un_perm (ins_perm2 acc r x)
theorem mg_ord : ∀ (xs acc : List C), Ord acc → (mg acc xs).1 = true → Ord (mg acc xs).2 ∧ (mg acc xs).2.Perm (acc ++ xs)
  | [], acc, h, _ => by rw [mg_nil, List.append_nil]; exact ⟨h, List.Perm.refl _⟩
  | x :: r, acc, h, ho => by
    cases hf : freeB acc x
    · rw [mg_no hf] at ho; cases ho
    · rw [mg_yes hf] at ho ⊢
      obtain ⟨h1, h2⟩ := mg_ord r (insC acc x) (ins_ord h hf) ho
      exact ⟨h1, h2.trans (ins_perm2 acc r x)⟩
theorem bef_asymm {a d : C} (h : Bef a d) (k : Bef d a) : False := bef_irrefl a (bef_trans h k)
/-- Two lists in order that hold the same are one. -/
theorem ord_eq {xs ys : List C} (h : Ord xs) (k : Ord ys) (p : xs.Perm ys) : xs = ys :=
  List.Perm.eq_of_pairwise (fun a b _ _ h1 h2 => (bef_asymm h1 h2).elim) h k p
/-- The order that the program asks for. -/
def ltOfB (a d : C) : Bool := decide (cmp2 a d < 0)
theorem lt_cf {a d : C} : ltOfB a d = true ↔ Bef a d := by unfold ltOfB; exact decide_eq_true_iff
/-- A list that was put in order, and has no two alike, stands in order strictly. -/
theorem ord_sorted {ys : List C} (h : ys.Pairwise fun a b => ltOfB b a = false) (u : ys.Pairwise Un) : Ord ys := by
  refine List.Pairwise.imp₂ (fun a b h1 h2 => ?_) h u
  have n : ¬ Bef b a := fun e => by rw [lt_cf.2 e] at h1; cases h1
  exact bef_total n (un_symm h2)
theorem merge_same {zs xs ys : List C} (hz : score zs = true) (hx : score xs = true) (hp : ys.Perm (zs ++ xs)) (hs : ys.Pairwise fun a b => ltOfB b a = false) :
    score ys = (decide (zs.length + xs.length ≤ 12) && (mg zs xs).1) ∧ ((mg zs xs).1 = true → ys = (mg zs xs).2) := by
  obtain ⟨a1, b1, c1⟩ := score_set.1 (score_of hz)
  obtain ⟨a2, b2, c2⟩ := score_set.1 (score_of hx)
  have hl : ys.length = zs.length + xs.length := by rw [hp.length_eq, List.length_append]
  have hc : ∀ d ∈ ys, cB d = true := fun d hd => by
    rcases List.mem_append.1 (hp.mem_iff.1 hd) with h | h
    · exact c1 d h
    · exact c2 d h
  have key : (mg zs xs).1 = true → ys = (mg zs xs).2 := fun ho => by
    obtain ⟨h1, h2⟩ := mg_ord xs zs b1 ho
    refine ord_eq (ord_sorted hs ((un_perm hp).2 ((mg_iff xs zs b1).1 ho))) h1 (hp.trans h2.symm)
  refine ⟨?_, key⟩
  cases ho : (mg zs xs).1
  · rw [Bool.and_false]
    refine score_no fun hS => ?_
    obtain ⟨_, b3, _⟩ := score_set.1 hS
    have := (mg_iff xs zs b1).2 ((un_perm hp).1 (ord_un b3))
    rw [ho] at this; cases this
  · rw [Bool.and_true]
    by_cases h12 : zs.length + xs.length ≤ 12
    · rw [decide_eq_true h12]
      obtain ⟨h1, _⟩ := mg_ord xs zs b1 ho
      exact score_yes (score_set.2 ⟨by omega, by rw [key ho]; exact h1, hc⟩)
    · rw [decide_eq_false h12]
      exact score_no fun hS => h12 (by have := (score_set.1 hS).1; omega)
/-- Whether two scores merge; the score they make. -/
noncomputable def mgG (zs xs : List C) : Bool := score zs && (score xs && (decide (zs.length + xs.length ≤ 12) && (mg zs xs).1))
noncomputable def mgL (zs xs : List C) : List C := if mgG zs xs = true then (mg zs xs).2 else []
theorem mgL_no {zs xs : List C} (h : mgG zs xs = false) : mgL zs xs = [] := by unfold mgL; rw [h]; rfl
theorem mgL_yes {zs xs : List C} (h : mgG zs xs = true) : mgL zs xs = (mg zs xs).2 := by unfold mgL; rw [if_pos h]
theorem swoC : Go.Sort.SWO ltOfB where
  irrefl x := by
    cases h : ltOfB x x
    · rfl
    · exact absurd (lt_cf.1 h) (bef_irrefl x)
  trans x y z h1 h2 := lt_cf.2 (bef_trans (lt_cf.1 h1) (lt_cf.1 h2))
  ntrans x y z h1 h2 := by
    cases h : ltOfB x z
    · rfl
    · exfalso
      have hz := lt_cf.1 h
      have n1 : ¬ Bef x y := fun e => by rw [lt_cf.2 e] at h1; cases h1
      have n2 : ¬ Bef y z := fun e => by rw [lt_cf.2 e] at h2; cases h2
      by_cases e : cmp2 x y = 0
      · obtain ⟨e1, e2⟩ := same_iff.1 e
        refine n2 (bef_iff.2 ?_)
        rw [bef_iff, e1, e2] at hz
        exact hz
      · exact n2 (bef_trans (bef_total n1 e) hz)
/-- Adding one cue is merging with a score of one. -/
theorem add_merge (zs : List C) (x : C) (h1 : score [x] = cB x) : addG zs x = mgG zs [x] ∧ (mgG zs [x] = true → addL zs x = mgL zs [x]) := by
  have hm : (mg zs [x]).1 = freeB zs x := by
    cases hf : freeB zs x
    · rw [mg_no hf]
    · rw [mg_yes hf, mg_nil]
  cases hs : score zs
  · constructor
    · unfold addG mgG; rw [hs]; rfl
    · intro h; unfold mgG at h; rw [hs] at h; cases h
  have hl : decide (zs.length + [x].length ≤ 12) = decide (zs.length ≠ 12) := by
    have := (score_of hs).1
    simp only [List.length_cons, List.length_nil]
    by_cases c : zs.length = 12
    · rw [decide_eq_false (by omega), decide_eq_false (by simp [c])]
    · rw [decide_eq_true (by omega), decide_eq_true c]
  have hg : addG zs x = mgG zs [x] := by
    unfold addG mgG
    rw [hs, h1, hm, hl]
    cases cB x <;> cases freeB zs x <;> cases decide (zs.length ≠ 12) <;> rfl
  refine ⟨hg, fun h => ?_⟩
  have hf : freeB zs x = true := by
    rw [← hm]; unfold mgG at h
    simp only [Bool.and_eq_true] at h
    exact h.2.2.2
  rw [mgL_yes h, addL_yes (by rw [hg]; exact h), mg_yes hf, mg_nil]
end Go.Proofs.Ytgcheplneolonac.Mg
