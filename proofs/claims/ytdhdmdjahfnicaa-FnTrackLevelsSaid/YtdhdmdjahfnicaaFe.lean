/- What levels do: they stay within bounds, rest after the end, and move with a score. -/
import Derived.Test.YtdhdmdjahfnicaaCq
import Derived.Test.YtdhdmdjahfnicaaEd
import Derived.Test.YtdhdmdjahfnicaaTd7
namespace Go.Proofs.Ytdhdmdjahfnicaa.Fe
open Go.RowKit Go.ChangeShapes Go.WideShapes Go.WideElems Go.Deep Go.Proofs.Ytdhdmdjahfnicaa.Mem Go.Proofs.Ytdhdmdjahfnicaa.Rw Go.Proofs.Ytdhdmdjahfnicaa.P2 Go.Proofs.Ytdhdmdjahfnicaa.Cd Go.Proofs.Ytdhdmdjahfnicaa.Cv Go.Proofs.Ytdhdmdjahfnicaa.Cl Go.Proofs.Ytdhdmdjahfnicaa.Cs
set_option linter.unusedVariables false
set_option linter.unusedSimpArgs false
open Go.Proofs.Ytdhdmdjahfnicaa.Jt Go.Proofs.Ytdhdmdjahfnicaa.IsName Go.Proofs.Ytdhdmdjahfnicaa.Sd Go.Proofs.Ytdhdmdjahfnicaa.Oc Go.Proofs.Ytdhdmdjahfnicaa.Cr Go.Proofs.Ytdhdmdjahfnicaa.Ld Go.Proofs.Ytdhdmdjahfnicaa.Cq Go.Proofs.Ytdhdmdjahfnicaa.Ed Go.Proofs.Ytdhdmdjahfnicaa.Td7 Go.Proofs.Ytdhdmdjahfnicaa.RampAt Go.Proofs.Ytdhdmdjahfnicaa.Tn

theorem quo_between (d i n : Int) (hi : 0 < i) (hin : i < n) : (0 ≤ d → 0 ≤ d * i / n ∧ d * i / n ≤ d) ∧ (d ≤ 0 → d ≤ d * i / n ∧ d * i / n ≤ 0) := by
  have hn : 0 < n := by omega
  constructor
  · intro hd
    refine ⟨Int.ediv_nonneg (Int.mul_nonneg hd (by omega)) (by omega), ?_⟩
    have : d * i ≤ d * n := Int.mul_le_mul_of_nonneg_left (by omega) hd
    calc d * i / n ≤ d * n / n := Int.ediv_le_ediv hn this
      _ = d := Int.mul_ediv_cancel _ (by omega)
  · intro hd
    constructor
    · have : d * n ≤ d * i := Int.mul_le_mul_of_nonpos_left hd (by omega)
      calc d = d * n / n := (Int.mul_ediv_cancel _ (by omega)).symm
        _ ≤ d * i / n := Int.ediv_le_ediv hn this
    · have : d * i ≤ 0 := Int.mul_nonpos_of_nonpos_of_nonneg hd (by omega)
      calc d * i / n ≤ 0 / n := Int.ediv_le_ediv hn this
        _ = 0 := Int.zero_ediv _
theorem level_between {a b : Int} (i n : Int) (ha1 : -4096 ≤ a) (ha2 : a ≤ 4096) (hb1 : -4096 ≤ b) (hb2 : b ≤ 4096) : (a ≤ level a b i n ∧ level a b i n ≤ b) ∨ (b ≤ level a b i n ∧ level a b i n ≤ a) := by
  rw [level_yes i n ha1 ha2 hb1 hb2]
  split
  · omega
  · split
    · omega
    · have := quo_between (b - a) i n (by omega) (by omega)
      generalize (b - a) * i / n = q at *
      by_cases h : a ≤ b
      · have := this.1 (by omega); omega
      · have := this.2 (by omega); omega
/-- Behind the ramp's ticks the level is the one it led to. -/
theorem level_rest {a b i n : Int} (ha1 : 0 ≤ a) (ha2 : a ≤ 32) (hb1 : 0 ≤ b) (hb2 : b ≤ 32) (h : n ≤ i) : level a b i n = b := by
  rw [level_yes i n (by omega) (by omega) (by omega) (by omega), if_pos h]
theorem level_in {a b : Int} (i n : Int) (ha1 : 0 ≤ a) (ha2 : a ≤ 32) (hb1 : 0 ≤ b) (hb2 : b ≤ 32) : 0 ≤ level a b i n ∧ level a b i n ≤ 32 := by
  have := level_between i n (show -4096 ≤ a by omega) (by omega) (show -4096 ≤ b by omega) (by omega)
  omega
/-- What is known where the cues led. -/
def Sane (u : Int × C) : Prop := (0 ≤ u.1 ∧ u.1 ≤ 32) ∧ (0 ≤ u.2.lv ∧ u.2.lv ≤ 32)
theorem sane_step {t : Int} {u : Int × C} (h : Sane u) {x : C} (hx : cB x = true) : Sane (stepC t u x) := by
  by_cases e : x.tk ≤ t
  · rw [step_yes u e]
    exact ⟨level_in _ _ h.1.1 h.1.2 h.2.1 h.2.2, (cB_in hx).2.1⟩
  · rw [step_no u e]; exact h
theorem reach_sane (t : Int) (ys : List C) (h : ∀ x ∈ ys, cB x = true) : Sane (reach t ys) := by
  have key : ∀ (ys : List C) (u : Int × C), Sane u → (∀ x ∈ ys, cB x = true) → Sane (ys.foldl (stepC t) u) := by
    intro ys
    induction ys with
    | nil => intro u hu _; exact hu
    | cons y r ih => intro u hu hr; exact ih _ (sane_step hu (hr y (List.mem_cons_self ..))) (fun x hx => hr x (List.mem_cons_of_mem _ hx))
  exact key ys _ ⟨⟨Int.le_refl _, by decide⟩, ⟨Int.le_refl _, by decide⟩⟩ h
theorem pick_app (zs : List C) (z : C) (ss : List ByteArray) : pick (zs ++ [z]) ss = pick zs ss ++ (if hasN ss z.nm = true then [z] else []) := by
  unfold pick
  rw [List.filter_append]
  by_cases h : hasN ss z.nm = true
  · rw [if_pos h, List.filter_cons_of_pos (by exact h)]; rfl
  · rw [if_neg h, List.filter_cons_of_neg (by exact h)]; rfl
theorem has_one {s x : ByteArray} : hasN [s] x = true ↔ x = s := by
  rw [hasN_one]; exact bl_eq
/-- The last cue of a name is its last one. -/
theorem pick_last (s : ByteArray) (zs : List C) : pick zs [s] = [] ∨ ∃ i d ys, pick zs [s] = ys ++ [d] ∧ LastAt zs i d ∧ d.nm = s := by
  have key : ∀ n, ∀ zs : List C, zs.length = n → pick zs [s] = [] ∨ ∃ i d ys, pick zs [s] = ys ++ [d] ∧ LastAt zs i d ∧ d.nm = s := by
    intro n
    induction n with
    | zero =>
      intro zs h
      obtain rfl := List.length_eq_zero_iff.1 h
      exact Or.inl rfl
    | succ n ih =>
      intro zs h
      have hne : zs ≠ [] := fun e => by rw [e] at h; cases h
      obtain ⟨ys, x, rfl⟩ : ∃ ys x, zs = ys ++ [x] := ⟨zs.dropLast, zs.getLast hne, (List.dropLast_concat_getLast hne).symm⟩
      rw [pick_app]
      by_cases e : x.nm = s
      · rw [if_pos (has_one.2 e)]
        exact Or.inr ⟨ys.length, x, pick ys [s], rfl, last_snoc.2 (Or.inl ⟨rfl, rfl⟩), e⟩
      · rw [if_neg (fun h => e (has_one.1 h)), List.append_nil]
        rcases ih ys (by simp at h; exact h) with h | ⟨i, d, zs', h1, h2, h3⟩
        · exact Or.inl h
        · exact Or.inr ⟨i, d, zs', h1, last_snoc.2 (Or.inr ⟨h2, fun e2 => e (by rw [← e2, h3])⟩), h3⟩
  exact key zs.length zs rfl
/-- From the end on the level of a name stays. -/
theorem lev_late {zs : List C} (hs : score zs = true) (s : ByteArray) : ∃ c, ∀ t, endV zs ≤ t → levV zs s t = c := by
  have hE := end_of zs
  rw [← endV_yes hs] at hE
  obtain ⟨e1, e2, _⟩ := hE
  rcases pick_last s zs with h | ⟨i, d, ys, h1, h2, _⟩
  · refine ⟨0, fun t ht => ?_⟩
    unfold levV levP
    rw [only_yes hs, h]
    exact level_none t
  · refine ⟨d.lv, fun t ht => ?_⟩
    have hl := e2 i d h2
    have hall : ∀ x ∈ pick zs [s], cB x = true := pick_all (score_all hs)
    have hd := cB_in (hall d (by rw [h1]; simp))
    have hsn : Sane (reach t ys) := reach_sane t ys fun x hx => hall x (by rw [h1]; simp [hx])
    unfold levV levP
    rw [only_yes hs, h1, reach_snoc, step_yes _ (show d.tk ≤ t by omega)]
    have := level_in (d.tk - (reach t ys).2.tk) (reach t ys).2.rp hsn.1.1 hsn.1.2 hsn.2.1 hsn.2.2
    exact level_rest this.1 this.2 hd.2.1.1 hd.2.1.2 (by show d.rp ≤ t - d.tk; omega)
theorem end_in {zs : List C} (hs : score zs = true) : 0 ≤ endV zs ∧ endV zs ≤ 80 := by
  obtain ⟨e1, e2, e3⟩ := end_of zs
  rw [endV_yes hs]
  rcases e3 with e3 | ⟨i, d, h, e3⟩
  · omega
  · have := cB_in (score_all hs d (List.mem_of_getElem? h.1)); omega
/-- The cues of some names are a score as well. -/
theorem pick_score {zs : List C} (hs : score zs = true) (ss : List ByteArray) : score (pick zs ss) = true := by
  obtain ⟨a, b, c⟩ := score_set.1 (score_of hs)
  exact score_yes (score_set.2 ⟨Nat.le_trans (pick_len _ _) a, List.Pairwise.sublist List.filter_sublist b, fun d hd => c d (List.mem_filter.1 hd).1⟩)
theorem pick_pick (zs : List C) (ss : List ByteArray) : pick (pick zs ss) ss = pick zs ss := by
  unfold pick
  rw [List.filter_filter]
  congr 1
  funext x
  simp
theorem lev_pick {zs : List C} (hs : score zs = true) (s : ByteArray) (t : Int) : levV (pick zs [s]) s t = levV zs s t := by
  unfold levV
  rw [only_yes (pick_score hs [s]), only_yes hs, pick_pick]
theorem pick_same {zs : List C} {ss : List ByteArray} (h : ∀ d ∈ zs, d.nm ∈ ss) : pick zs ss = zs := by
  unfold pick
  exact List.filter_eq_self.2 fun d hd => hasN_yes (h d hd)
theorem pick_sh (n : Int) (zs : List C) (ss : List ByteArray) : pick (zs.map (shC n)) ss = (pick zs ss).map (shC n) := by
  unfold pick
  rw [List.filter_map]
  rfl
/-- The same cues, n ticks later. -/
def Like (n : Int) (u v : Int × C) : Prop := u.1 = v.1 ∧ (v.2 = shC n u.2 ∨ (u = (0, d0) ∧ v = (0, d0)))
theorem level_zero {i : Int} (h : 0 ≤ i) : level 0 0 i 0 = 0 := by
  unfold level
  rw [if_pos (by decide), if_pos h]
theorem like_step {n t : Int} {u v : Int × C} (h : Like n u v) (hn : 0 ≤ n) {x : C} (hx : cB x = true) : Like n (stepC t u x) (stepC (t + n) v (shC n x)) := by
  have hx2 := cB_in hx
  by_cases e : x.tk ≤ t
  · rw [step_yes u e, step_yes v (show (shC n x).tk ≤ t + n by show x.tk + n ≤ t + n; omega)]
    refine ⟨?_, Or.inl rfl⟩
    rcases h.2 with h2 | ⟨h2, h3⟩
    · rw [← h.1, h2]
      show level u.1 u.2.lv (x.tk - u.2.tk) u.2.rp = level u.1 u.2.lv (x.tk + n - (u.2.tk + n)) u.2.rp
      rw [show x.tk + n - (u.2.tk + n) = x.tk - u.2.tk by omega]
    · rw [h2, h3]
      show level 0 0 (x.tk - 0) 0 = level 0 0 (x.tk + n - 0) 0
      rw [level_zero (by omega), level_zero (by omega)]
  · rw [step_no u e, step_no v (show ¬ (shC n x).tk ≤ t + n by show ¬ x.tk + n ≤ t + n; omega)]
    exact h
theorem like_reach {n t : Int} (hn : 0 ≤ n) (ys : List C) (h : ∀ x ∈ ys, cB x = true) : Like n (reach t ys) (reach (t + n) (ys.map (shC n))) := by
  have key : ∀ (ys : List C) (u v : Int × C), Like n u v → (∀ x ∈ ys, cB x = true) → Like n (ys.foldl (stepC t) u) ((ys.map (shC n)).foldl (stepC (t + n)) v) := by
    intro ys
    induction ys with
    | nil => intro u v hu _; exact hu
    | cons y r ih => intro u v hu hr; exact ih _ _ (like_step hu hn (hr y (List.mem_cons_self ..))) (fun x hx => hr x (List.mem_cons_of_mem _ hx))
  exact key ys _ _ ⟨rfl, Or.inr ⟨rfl, rfl⟩⟩ h
/-- The level moves with the score. -/
theorem lev_shift {zs : List C} {n t : Int} (hs : score zs = true) (hs2 : score (zs.map (shC n)) = true) (hn : 0 ≤ n) (s : ByteArray) : levV (zs.map (shC n)) s (t + n) = levV zs s t := by
  unfold levV levP
  rw [only_yes hs, only_yes hs2, pick_sh]
  obtain ⟨h1, h2⟩ := like_reach (t := t) hn (pick zs [s]) (pick_all (score_all hs))
  rcases h2 with h2 | ⟨h2, h3⟩
  · rw [← h1, h2]
    show level _ _ (t + n - ((reach t (pick zs [s])).2.tk + n)) _ = _
    rw [show t + n - ((reach t (pick zs [s])).2.tk + n) = t - (reach t (pick zs [s])).2.tk by omega]
    rfl
  · rw [h2, h3]
    show level 0 0 (t + n - 0) 0 = level 0 0 (t - 0) 0
    rw [level_none, level_none]
/-- Before its first tick a score that was moved is still. -/
theorem lev_before {zs : List C} {n t : Int} (hs : score zs = true) (hs2 : score (zs.map (shC n)) = true) (ht : t < n) (s : ByteArray) : levV (zs.map (shC n)) s t = 0 := by
  unfold levV levP
  rw [only_yes hs2, pick_sh]
  have hall := pick_all (ss := [s]) (score_all hs)
  have e : reach t ((pick zs [s]).map (shC n)) = (0, d0) := by
    unfold reach
    generalize pick zs [s] = ys at hall
    induction ys with
    | nil => rfl
    | cons y r ih =>
      have := cB_in (hall y (List.mem_cons_self ..))
      rw [List.map_cons, List.foldl_cons, step_no _ (show ¬ (shC n y).tk ≤ t by show ¬ y.tk + n ≤ t; omega)]
      exact ih fun x hx => hall x (List.mem_cons_of_mem _ hx)
  rw [e]
  exact level_none t
/-- A score whose ticks are few is one later as well. -/
theorem later_yes {zs : List C} {n : Int} (hs : score zs = true) (h13 : ∀ d ∈ zs, d.tk ≤ 13) (hn : 0 ≤ n) (hn2 : n ≤ 50) : ltG zs n = true ∧ ltL zs n = zs.map (shC n) ∧ score (zs.map (shC n)) = true := by
  have ha : allB n zs = true := by
    refine all_yes fun k d hd => ?_
    have hm := List.mem_of_getElem? hd
    have hv := score_all hs d hm
    have hv2 := cB_in hv
    have := h13 d hm
    unfold cB cueB at hv ⊢
    rw [Bool.and_eq_true] at hv
    show (iw (d.tk + n) 0 64 && (nameB d.nm && (iw d.lv 0 32 && iw d.rp 0 16))) = true
    rw [iw_yes (by omega), hv.2]
    rfl
  have hg : ltG zs n = true := by unfold ltG; rw [hs, ha, iw_yes (by omega)]; rfl
  exact ⟨hg, ltL_yes hg, by rw [score_sh hs]; exact ha⟩
end Go.Proofs.Ytdhdmdjahfnicaa.Fe
