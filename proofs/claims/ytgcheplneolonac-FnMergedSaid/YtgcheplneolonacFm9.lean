/- Scores that are merged: in either order, and again out of their parts; in lists. -/
import Derived.Test.YtgcheplneolonacMg
import Derived.Test.YtgcheplneolonacDr7c
import Derived.Test.YtgcheplneolonacMi7
import Derived.Test.YtgcheplneolonacMn7
namespace Go.Proofs.Ytgcheplneolonac.Fm9
open Go.RowKit Go.ChangeShapes Go.WideShapes Go.WideElems Go.Deep Go.Proofs.Ytgcheplneolonac.Mem Go.Proofs.Ytgcheplneolonac.Rw Go.Proofs.Ytgcheplneolonac.P2 Go.Proofs.Ytgcheplneolonac.Cd Go.Proofs.Ytgcheplneolonac.Cv Go.Proofs.Ytgcheplneolonac.Cl Go.Proofs.Ytgcheplneolonac.Cs
set_option linter.unusedVariables false
set_option linter.unusedSimpArgs false
open Go.Proofs.Ytgcheplneolonac.Sd Go.Proofs.Ytgcheplneolonac.Oc Go.Proofs.Ytgcheplneolonac.Cr Go.Proofs.Ytgcheplneolonac.Cq Go.Proofs.Ytgcheplneolonac.Ac Go.Proofs.Ytgcheplneolonac.Mg Go.Proofs.Ytgcheplneolonac.Tn

theorem mgG_iff {zs xs : List C} : mgG zs xs = true ↔ score zs = true ∧ score xs = true ∧ zs.length + xs.length ≤ 12 ∧ (zs ++ xs).Pairwise Un := by
  unfold mgG
  rw [Bool.and_eq_true, Bool.and_eq_true, Bool.and_eq_true, decide_eq_true_iff]
  constructor
  · rintro ⟨a, b, c, d⟩
    exact ⟨a, b, c, (mg_iff xs zs (score_set.1 (score_of a)).2.1).1 d⟩
  · rintro ⟨a, b, c, d⟩
    exact ⟨a, b, c, (mg_iff xs zs (score_set.1 (score_of a)).2.1).2 d⟩
/-- The merge has the cues of both, in order. -/
theorem mgL_is {zs xs : List C} (h : mgG zs xs = true) : Ord (mgL zs xs) ∧ (mgL zs xs).Perm (zs ++ xs) := by
  rw [mgL_yes h]
  obtain ⟨a, b, c, d⟩ := mgG_iff.1 h
  have ho := (score_set.1 (score_of a)).2.1
  exact mg_ord xs zs ho ((mg_iff xs zs ho).2 d)
theorem mg_comm (zs xs : List C) : mgG xs zs = mgG zs xs ∧ mgL xs zs = mgL zs xs := by
  have sw : ∀ a b : List C, mgG a b = true → mgG b a = true := fun a b h => by
    obtain ⟨h1, h2, h3, h4⟩ := mgG_iff.1 h
    exact mgG_iff.2 ⟨h2, h1, by omega, (un_perm List.perm_append_comm).1 h4⟩
  have e : mgG xs zs = mgG zs xs := by
    cases c : mgG zs xs
    · cases d : mgG xs zs
      · rfl
      · rw [sw _ _ d] at c; cases c
    · exact sw _ _ c
  refine ⟨e, ?_⟩
  cases c : mgG zs xs
  · rw [mgL_no c, mgL_no (e.trans c)]
  · obtain ⟨o1, p1⟩ := mgL_is c
    obtain ⟨o2, p2⟩ := mgL_is (e.trans c)
    exact ord_eq o2 o1 (p2.trans (List.perm_append_comm.trans p1.symm))
/-- What is merged is a score, of as many cues. -/
theorem mg_score {zs xs : List C} (h : mgG zs xs = true) : score (mgL zs xs) = true ∧ (mgL zs xs).length = zs.length + xs.length := by
  obtain ⟨h1, h2, h3, _⟩ := mgG_iff.1 h
  obtain ⟨o, p⟩ := mgL_is h
  have hl : (mgL zs xs).length = zs.length + xs.length := by rw [p.length_eq, List.length_append]
  refine ⟨score_yes (score_set.2 ⟨by omega, o, fun d hd => ?_⟩), hl⟩
  rcases List.mem_append.1 (p.mem_iff.1 hd) with hd | hd
  · exact (score_set.1 (score_of h1)).2.2 d hd
  · exact (score_set.1 (score_of h2)).2.2 d hd
theorem mg_len (zs xs : List C) : (mgL zs xs).length ≤ zs.length + xs.length := by
  cases h : mgG zs xs
  · rw [mgL_no h]; exact Nat.zero_le _
  · rw [(mg_score h).2]; exact Nat.le_refl _
def partA : List ByteArray := [⟨#[97]⟩, ⟨#[99]⟩]
def partB : List ByteArray := [⟨#[98]⟩, ⟨#[114]⟩, ⟨#[110, 111]⟩]
theorem other_part {x : ByteArray} (h : x ∈ Dr7.names) : hasN partB x = !hasN partA x := by
  unfold Dr7.names at h
  have y : ∀ {x : ByteArray} {l : List ByteArray}, x ∈ l → hasN l x = true := hasN_yes
  have n : ∀ {x : ByteArray} {l : List ByteArray}, ¬ x ∈ l → hasN l x = false := hasN_no
  simp only [List.mem_cons, List.not_mem_nil, or_false] at h
  rcases h with h | h | h | h | h | h <;> subst h
  · rw [y (l := partA) (by unfold partA; simp), n (l := partB) (by unfold partB; simp)]; rfl
  · rw [y (l := partA) (by unfold partA; simp), n (l := partB) (by unfold partB; simp)]; rfl
  · rw [n (l := partA) (by unfold partA; simp), y (l := partB) (by unfold partB; simp)]; rfl
  · rw [y (l := partA) (by unfold partA; simp), n (l := partB) (by unfold partB; simp)]; rfl
  · rw [n (l := partA) (by unfold partA; simp), y (l := partB) (by unfold partB; simp)]; rfl
  · rw [n (l := partA) (by unfold partA; simp), y (l := partB) (by unfold partB; simp)]; rfl
theorem pick_score {zs : List C} (h : score zs = true) (ss : List ByteArray) : score (pick zs ss) = true := by
  obtain ⟨h1, h2, h3⟩ := score_set.1 (score_of h)
  exact score_yes (score_set.2 ⟨Nat.le_trans (pick_len zs ss) h1, List.Pairwise.sublist List.filter_sublist h2, fun d hd => h3 d ((List.mem_filter.1 hd).1)⟩)
/-- A score is the merge of its parts. -/
theorem parts_merge {zs : List C} (h : score zs = true) (hn : ∀ d ∈ zs, d.nm ∈ Dr7.names) : mgG (only zs partA) (only zs partB) = true ∧ mgL (only zs partA) (only zs partB) = zs := by
  rw [only_yes h, only_yes h]
  have pm : (pick zs partA ++ pick zs partB).Perm zs := by
    have e : pick zs partB = zs.filter (fun d => !hasN partA d.nm) := by
      unfold pick
      exact List.filter_congr fun d hd => other_part (hn d hd)
    rw [e]
    exact List.filter_append_perm (fun d => hasN partA d.nm) zs
  obtain ⟨h1, h2, h3⟩ := score_set.1 (score_of h)
  have g : mgG (pick zs partA) (pick zs partB) = true := mgG_iff.2 ⟨pick_score h _, pick_score h _, by
    have := pm.length_eq; rw [List.length_append] at this; omega, (un_perm pm).2 (ord_un h2)⟩
  obtain ⟨o, p⟩ := mgL_is g
  exact ⟨g, ord_eq o h2 (p.trans pm)⟩
theorem rd_strs (w : World) (ss : List ByteArray) : Rd (w.alloc (.cells (Strs.strs ss).toArray 9)) (w.alloc (.cells (Strs.strs ss).toArray 9)).heap.size (some ⟨w.heap.size, 0, none⟩) (Strs.strs ss) :=
  Or.inr ⟨_, 0, rfl, by simp, fun j v hv => by
    unfold Strs.strs at hv
    rw [List.getElem?_map] at hv
    cases e : ss[j]? with
    | none => rw [e] at hv; cases hv
    | some z => rw [e] at hv; have := Dr7.cells_str w ss 9 j z e; rw [this]; exact hv⟩
/-- MergeScores, of whatever lists. -/
theorem mergeA (a b : Addr) (n0 c9 : Nat) (zs : List C) (m0 c8 : Nat) (xs : List C) (w : World) (hn : zs.length = n0) (hm : xs.length = m0) (hb : n0 ≤ 1048576) (hb2 : m0 ≤ 1048576) (hr : Rd w w.heap.size (some a) (dls zs)) (hx : Rd w w.heap.size (some b) (dls xs)) :
    Calls Try.prog 13 #[.slice (some a) n0 c9, .slice (some b) m0 c8] w fun e w' => ∃ (A : Option Addr) (c : Nat), e = .returned (.tuple #[.slice A (mgL zs xs).length c, .bool (mgG zs xs)]) ∧ Rd w' w'.heap.size A (dls (mgL zs xs)) ∧ Below w.heap.size w w' := by
  by_cases hp : 0 < n0 + m0
  · exact (Mi7.mergeI a b n0 c9 zs m0 c8 xs w hn hm hb hb2 hp hr hx).mono fun e w' ⟨g, c, h1, h2, h3⟩ => ⟨_, c, h1, Rd.own h2, h3⟩
  · obtain rfl : n0 = 0 := by omega
    obtain rfl : m0 = 0 := by omega
    obtain rfl : zs = [] := List.eq_nil_of_length_eq_zero hn
    obtain rfl : xs = [] := List.eq_nil_of_length_eq_zero hm
    have sc : score [] = true := score_yes (score_set.2 ⟨by simp, List.Pairwise.nil, fun d hd => by cases hd⟩)
    have g : mgG [] [] = true := mgG_iff.2 ⟨sc, sc, by simp, List.Pairwise.nil⟩
    have e : mgL [] [] = [] := by
      have := (mg_score g).2
      exact List.eq_nil_of_length_eq_zero this
    rw [g, e]
    exact (Mn7.mergeN a b c9 c8 w).mono fun e w' ⟨h1, h2⟩ => ⟨none, 0, h1, Or.inl rfl, h2⟩
end Go.Proofs.Ytgcheplneolonac.Fm9
