/- What the level of a name is between two cues of that name. -/
import Derived.Test.YtedijideojmmlaaFe
namespace Go.Proofs.Ytedijideojmmlaa.Fl7
open Go.RowKit Go.ChangeShapes Go.WideShapes Go.WideElems Go.Deep Go.Proofs.Ytedijideojmmlaa.Mem Go.Proofs.Ytedijideojmmlaa.Rw Go.Proofs.Ytedijideojmmlaa.P2 Go.Proofs.Ytedijideojmmlaa.Cd Go.Proofs.Ytedijideojmmlaa.Cv Go.Proofs.Ytedijideojmmlaa.Cl Go.Proofs.Ytedijideojmmlaa.Cs
set_option linter.unusedVariables false
set_option linter.unusedSimpArgs false
open Go.Proofs.Ytedijideojmmlaa.Jt Go.Proofs.Ytedijideojmmlaa.IsName Go.Proofs.Ytedijideojmmlaa.Sd Go.Proofs.Ytedijideojmmlaa.Oc Go.Proofs.Ytedijideojmmlaa.Cr Go.Proofs.Ytedijideojmmlaa.Ld Go.Proofs.Ytedijideojmmlaa.Cq Go.Proofs.Ytedijideojmmlaa.Ed Go.Proofs.Ytedijideojmmlaa.Td7 Go.Proofs.Ytedijideojmmlaa.RampAt Go.Proofs.Ytedijideojmmlaa.Tn Go.Proofs.Ytedijideojmmlaa.Fe

/-- u is not behind any cue of the name that comes after a place. -/
def Until (zs : List C) (s : ByteArray) (j : Nat) (u : Int) : Prop := (∀ m e, j < m → zs[m]? = some e → e.nm = s → u ≤ e.tk) ∧ 0 ≤ u ∧ u ≤ 84
theorem until_last {zs : List C} {s : ByteArray} {j : Nat} (h : zs.length ≤ j + 1) : Until zs s j 84 := ⟨fun m e hm he _ => by have := (List.getElem?_eq_some_iff.1 he).1; omega, by decide, by decide⟩
theorem tk_le {zs : List C} (hs : score zs = true) {i j : Nat} {a d : C} (ha : zs[i]? = some a) (hd : zs[j]? = some d) (hij : i ≤ j) : a.tk ≤ d.tk := by
  by_cases e : i = j
  · subst e; rw [ha] at hd; cases hd; exact Int.le_refl _
  · obtain ⟨_, b, _⟩ := score_set.1 (score_of hs)
    have := bef_iff.1 (ord_at b ha hd (by omega))
    omega
theorem until_take {zs : List C} (hs : score zs = true) {s : ByteArray} {j : Nat} {d : C} (hd : zs[j + 1]? = some d) : Until zs s j d.tk := by
  have := cB_in (score_all hs d (List.mem_of_getElem? hd))
  exact ⟨fun m e hm he _ => tk_le hs hd he (by omega), by omega, by omega⟩
theorem until_skip {zs : List C} {s : ByteArray} {j : Nat} {u : Int} {d : C} (h : Until zs s (j + 1) u) (hd : zs[j + 1]? = some d) (hn : d.nm ≠ s) : Until zs s j u :=
  ⟨fun m e hm he hes => by
    by_cases c : m = j + 1
    · subst c; rw [hd] at he; cases he; exact absurd hes hn
    · exact h.1 m e (by omega) he hes, h.2⟩
theorem reach_app (t : Int) (A B : List C) : reach t (A ++ B) = B.foldl (stepC t) (reach t A) := by unfold reach; rw [List.foldl_append]
theorem fold_none {t : Int} (u : Int × C) : ∀ (B : List C), (∀ e ∈ B, t < e.tk) → B.foldl (stepC t) u = u
  | [], _ => rfl
  | b :: r, h => by
    have := h b (List.mem_cons_self ..)
    rw [List.foldl_cons, step_no u (by omega)]
    exact fold_none u r fun e he => h e (List.mem_cons_of_mem _ he)
theorem reach_same {t u : Int} (A : List C) (h : ∀ e ∈ A, e.tk ≤ t ∧ e.tk ≤ u) : reach t A = reach u A := by
  have key : ∀ (A : List C) (v : Int × C), (∀ e ∈ A, e.tk ≤ t ∧ e.tk ≤ u) → A.foldl (stepC t) v = A.foldl (stepC u) v := by
    intro A
    induction A with
    | nil => intro v _; rfl
    | cons y r ih =>
      intro v hr
      have := hr y (List.mem_cons_self ..)
      rw [List.foldl_cons, List.foldl_cons, step_yes v this.1, step_yes v this.2]
      exact ih _ fun x hx => hr x (List.mem_cons_of_mem _ hx)
  exact key A _ h
theorem cut_at {zs : List C} {i : Nat} {x : C} (h : zs[i]? = some x) : zs = zs.take i ++ x :: zs.drop (i + 1) := by
  obtain ⟨hi, e⟩ := List.getElem?_eq_some_iff.1 h
  rw [← e, ← List.drop_eq_getElem_cons hi, List.take_append_drop]
theorem pick_at {zs : List C} {i : Nat} {x : C} (h : zs[i]? = some x) {s : ByteArray} (hx : x.nm = s) : pick zs [s] = pick (zs.take i) [s] ++ x :: pick (zs.drop (i + 1)) [s] := by
  conv => lhs; rw [cut_at h]
  unfold pick
  rw [List.filter_append, List.filter_cons_of_pos (by exact has_one.2 hx)]
theorem take_score {zs : List C} (hs : score zs = true) (i : Nat) : score (zs.take i) = true := by
  obtain ⟨a, b, c⟩ := score_set.1 (score_of hs)
  exact score_yes (score_set.2 ⟨by rw [List.length_take]; omega, List.Pairwise.sublist (List.take_sublist _ _) b, fun d hd => c d (List.mem_of_mem_take hd)⟩)
theorem pick_mem {zs : List C} {s : ByteArray} {e : C} (h : e ∈ pick zs [s]) : e ∈ zs ∧ e.nm = s := ⟨(List.mem_filter.1 h).1, has_one.1 (List.mem_filter.1 h).2⟩
theorem lev_in {zs : List C} (hs : score zs = true) (s : ByteArray) (t : Int) : 0 ≤ levV zs s t ∧ levV zs s t ≤ 32 := by
  have h := reach_sane t (pick zs [s]) (pick_all (score_all hs))
  unfold levV levP
  rw [only_yes hs]
  exact level_in _ _ h.1.1 h.1.2 h.2.1 h.2.2
/-- Between a cue and the next one of its name. -/
theorem lev_between {zs : List C} (hs : score zs = true) {s : ByteArray} {i : Nat} {x : C} (hx : zs[i]? = some x) (hn : x.nm = s) {u : Int} (hu : Until zs s i u) {t : Int} (h1 : x.tk ≤ t) (h2 : t < u) :
    levV zs s t = level (levV (zs.take i) s x.tk) x.lv (t - x.tk) x.rp := by
  have hB : ∀ e ∈ pick (zs.drop (i + 1)) [s], t < e.tk := fun e he => by
    obtain ⟨m1, m2⟩ := pick_mem he
    obtain ⟨m, hm, rfl⟩ := List.getElem_of_mem m1
    rw [List.length_drop] at hm
    have hg : zs[i + 1 + m]? = some (zs.drop (i + 1))[m] := by rw [List.getElem_drop]; exact List.getElem?_eq_getElem (by omega)
    have := hu.1 _ _ (by omega) hg m2
    omega
  have hA : ∀ e ∈ pick (zs.take i) [s], e.tk ≤ t ∧ e.tk ≤ x.tk := fun e he => by
    obtain ⟨m1, m2⟩ := pick_mem he
    obtain ⟨m, hm, rfl⟩ := List.getElem_of_mem m1
    rw [List.length_take] at hm
    have hg : zs[m]? = some (zs.take i)[m] := by rw [List.getElem_take]; exact List.getElem?_eq_getElem (by omega)
    have := tk_le hs hg hx (by omega)
    omega
  have e1 : levV (zs.take i) s x.tk = level (reach x.tk (pick (zs.take i) [s])).1 (reach x.tk (pick (zs.take i) [s])).2.lv (x.tk - (reach x.tk (pick (zs.take i) [s])).2.tk) (reach x.tk (pick (zs.take i) [s])).2.rp := by
    unfold levV levP
    rw [only_yes (take_score hs i)]
  have e2 : levV zs s t = levP t (pick (zs.take i) [s] ++ x :: pick (zs.drop (i + 1)) [s]) := by
    unfold levV
    rw [only_yes hs, pick_at hx hn]
  have e3 : reach t (pick (zs.take i) [s] ++ x :: pick (zs.drop (i + 1)) [s]) = (levV (zs.take i) s x.tk, x) := by
    rw [reach_app, List.foldl_cons, fold_none _ _ hB, step_yes _ h1, e1, reach_same (t := t) (u := x.tk) _ hA]
  rw [e2]
  unfold levP
  rw [e3]
theorem none_pick {zs : List C} {s : ByteArray} {k : Nat} (h : ∀ m e, m < k → zs[m]? = some e → e.nm ≠ s) : pick (zs.take k) [s] = [] := by
  refine List.eq_nil_iff_forall_not_mem.2 fun e he => ?_
  obtain ⟨m1, m2⟩ := pick_mem he
  obtain ⟨m, hm, rfl⟩ := List.getElem_of_mem m1
  rw [List.length_take] at hm
  exact h m _ (by omega) (by rw [List.getElem_take]; exact List.getElem?_eq_getElem (by omega)) m2
/-- Before the first cue of a name its level is 0. -/
theorem lev_first {zs : List C} (hs : score zs = true) {s : ByteArray} {i : Nat} {x : C} (hx : zs[i]? = some x) (hn : x.nm = s) (h : ∀ m e, m < i → zs[m]? = some e → e.nm ≠ s) : levV zs s (x.tk - 1) = 0 := by
  have hB : ∀ e ∈ x :: pick (zs.drop (i + 1)) [s], x.tk - 1 < e.tk := fun e he => by
    rcases List.mem_cons.1 he with rfl | he
    · omega
    · obtain ⟨m1, m2⟩ := pick_mem he
      obtain ⟨m, hm, rfl⟩ := List.getElem_of_mem m1
      rw [List.length_drop] at hm
      have hg : zs[i + 1 + m]? = some (zs.drop (i + 1))[m] := by rw [List.getElem_drop]; exact List.getElem?_eq_getElem (by omega)
      have := tk_le hs hx hg (by omega)
      omega
  unfold levV levP
  rw [only_yes hs, pick_at hx hn, none_pick h, List.nil_append]
  have : reach (x.tk - 1) (x :: pick (zs.drop (i + 1)) [s]) = (0, d0) := fold_none _ _ hB
  rw [this]
  exact level_none _
/-- A name that no cue has is at 0. -/
theorem lev_absent {zs : List C} (hs : score zs = true) {s : ByteArray} (h : ∀ m e, m < zs.length → zs[m]? = some e → e.nm ≠ s) (t : Int) : levV zs s t = 0 := by
  have e := none_pick (k := zs.length) h
  rw [List.take_length] at e
  unfold levV levP
  rw [only_yes hs, e]
  exact level_none _
/-- All that the law asks of a level. -/
theorem lev_good {zs : List C} (hs : score zs = true) {s : ByteArray} {i : Nat} {x : C} (hx : zs[i]? = some x) (hn : x.nm = s) {u : Int} (hu : Until zs s i u) {t : Int} (h1 : x.tk ≤ t) (h2 : t < u) :
    min (levV (zs.take i) s x.tk) x.lv ≤ levV zs s t ∧ levV zs s t ≤ max (levV (zs.take i) s x.tk) x.lv ∧ (x.tk + x.rp ≤ t → levV zs s t = x.lv) := by
  have hw := lev_in (take_score hs i) s x.tk
  have hc := cB_in (score_all hs x (List.mem_of_getElem? hx))
  rw [lev_between hs hx hn hu h1 h2]
  generalize levV (zs.take i) s x.tk = W at *
  have := level_between (a := W) (b := x.lv) (t - x.tk) x.rp (by omega) (by omega) (by omega) (by omega)
  refine ⟨by omega, by omega, fun h => level_rest (by omega) (by omega) (by omega) (by omega) (by omega)⟩
end Go.Proofs.Ytedijideojmmlaa.Fl7
