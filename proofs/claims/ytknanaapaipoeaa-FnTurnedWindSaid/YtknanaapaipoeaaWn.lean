/- Numbers behind the laws on winds. -/
import Derived.Test.YtknanaapaipoeaaWh
import Derived.Test.YtknanaapaipoeaaWt
import Derived.Test.YtknanaapaipoeaaDw
namespace Go.Proofs.Ytknanaapaipoeaa.Wn
open Go.RowKit Go.Proofs.Ytknanaapaipoeaa.Jt Go.Proofs.Ytknanaapaipoeaa.Pl Go.Proofs.Ytknanaapaipoeaa.Gs Go.Proofs.Ytknanaapaipoeaa.Wm Go.Proofs.Ytknanaapaipoeaa.Wa Go.Proofs.Ytknanaapaipoeaa.Wc Go.Proofs.Ytknanaapaipoeaa.We Go.Proofs.Ytknanaapaipoeaa.Wg Go.Proofs.Ytknanaapaipoeaa.Wh Go.Proofs.Ytknanaapaipoeaa.Wt Go.Proofs.Ytknanaapaipoeaa.Dw
set_option linter.unusedVariables false
set_option linter.unusedSimpArgs false

theorem dr_snoc (zs : List G) (z : G) (t : Int) : dr (zs ++ [z]) t = if z.1 ≤ t then z.2 else dr zs t := by
  unfold dr; rw [List.foldl_append]; rfl
/-- The drift that the changes of a list tell. -/
theorem dr_chgs (l : List (Int × Int)) (t : Nat) : ∀ k, k ≤ l.length → dr (chgs l k) (t : Int) = was l (min (t + 1) k) := by
  intro k
  induction k with
  | zero => intro _; rw [Nat.min_zero, was_zero]; rfl
  | succ k ih =>
    intro hk
    have ih := ih (by omega)
    obtain ⟨p, hp⟩ : ∃ p, l[k]? = some p := ⟨_, List.getElem?_eq_getElem (by omega)⟩
    by_cases hpw : p = was l k
    · rw [chgs_no hp hpw, ih]
      by_cases ht : t + 1 ≤ k
      · rw [Nat.min_eq_left ht, Nat.min_eq_left (by omega)]
      · rw [Nat.min_eq_right (by omega), Nat.min_eq_right (by omega), was_next hp, hpw]
    · rw [chgs_yes hp hpw, dr_snoc]
      by_cases ht : k ≤ t
      · rw [if_pos (by simpa using ht), Nat.min_eq_right (by omega), was_next hp]
      · rw [if_neg (by simp; omega), ih, Nat.min_eq_left (by omega), Nat.min_eq_left (by omega)]
theorem dr_chg {l : List (Int × Int)} {t : Nat} {p : Int × Int} (h : l[t]? = some p) : dr (chg l) (t : Int) = p := by
  obtain ⟨hl, _⟩ := List.getElem?_eq_some_iff.1 h
  unfold chg
  rw [dr_chgs l t _ (Nat.le_refl _), Nat.min_eq_left (by omega), was_next h]
theorem dr_chg_end {l : List (Int × Int)} {t m : Nat} {p : Int × Int} (hm : l.length = m + 1) (h : l[m]? = some p) (ht : m ≤ t) : dr (chg l) (t : Int) = p := by
  unfold chg
  rw [dr_chgs l t _ (Nat.le_refl _), Nat.min_eq_right (by omega), hm, was_next h]

/-- A later gust behind gusts that may stand. -/
theorem ok_snoc {zs : List G} {t x y : Int} (h : okUp zs zs.length = true) (hl : ∀ z ∈ zs, z.1 < t) (ht : 0 ≤ t ∧ t ≤ 64) (hd : dk x y = true) : okUp (zs ++ [(t, x, y)]) (zs.length + 1) = true := by
  rw [okUp_succ, okUp_left (Nat.le_refl _), h, Bool.true_and]
  have hz : (zs ++ [(t, x, y)])[zs.length]? = some (t, x, y) := by rw [List.getElem?_append_right (Nat.le_refl _), Nat.sub_self]; rfl
  by_cases h0 : zs.length = 0
  · rw [h0] at hz ⊢
    exact ok_first hz (iw_yes ht) hd
  · have hp : (zs ++ [(t, x, y)])[zs.length - 1]? = some (zs[zs.length - 1]'(by omega)) := by rw [List.getElem?_append_left (by omega)]; exact List.getElem?_eq_getElem _
    rw [ok_next hz (iw_yes ht) hd h0 hp]
    exact decide_eq_true (hl _ (List.getElem_mem _))
theorem ok_chgs {l : List (Int × Int)} (hn : Near 8 l) (hl : l.length ≤ 65) : ∀ k, k ≤ l.length → okUp (chgs l k) (chgs l k).length = true ∧ ∀ z ∈ chgs l k, z.1 < (k : Int) := by
  intro k
  induction k with
  | zero => intro _; exact ⟨rfl, fun z hz => by cases hz⟩
  | succ k ih =>
    intro hk
    obtain ⟨ih1, ih2⟩ := ih (by omega)
    obtain ⟨p, hp⟩ : ∃ p, l[k]? = some p := ⟨_, List.getElem?_eq_getElem (by omega)⟩
    by_cases hpw : p = was l k
    · rw [chgs_no hp hpw]
      exact ⟨ih1, fun z hz => by have := ih2 z hz; omega⟩
    · rw [chgs_yes hp hpw]
      refine ⟨?_, fun z hz => ?_⟩
      · rw [List.length_append, List.length_singleton]
        exact ok_snoc ih1 ih2 (by omega) (dk_iff.2 (hn.at hp))
      · rcases List.mem_append.1 hz with h | h
        · have := ih2 z h; omega
        · rw [List.mem_singleton] at h; subst h; show (k : Int) < _; omega
theorem wd_chg {l : List (Int × Int)} (hn : Near 8 l) (hl : l.length ≤ 65) (h8 : (chg l).length ≤ 8) : wd (chg l) = true := by
  unfold wd
  rw [decide_eq_true h8, Bool.and_true]
  exact (ok_chgs hn hl l.length (Nat.le_refl _)).1

/-- How many gusts begin before a tick. -/
def cnt (zs : List G) (t : Int) : Nat := (zs.filter fun z => decide (z.1 < t)).length
theorem cnt_le (zs : List G) (t : Int) : cnt zs t ≤ zs.length := List.length_filter_le _ _
theorem cnt_mono (zs : List G) (t : Int) : cnt zs t ≤ cnt zs (t + 1) := by
  induction zs with
  | nil => exact Nat.le_refl _
  | cons z zs ih =>
    unfold cnt at ih ⊢
    simp only [List.filter_cons]
    by_cases h1 : z.1 < t
    · rw [if_pos (by simpa using h1), if_pos (by simp; omega), List.length_cons, List.length_cons]; omega
    · rw [if_neg (by simpa using h1)]
      split
      · rw [List.length_cons]; omega
      · exact ih
theorem cnt_next {zs : List G} {t : Int} (h : ∃ z ∈ zs, z.1 = t) : cnt zs t + 1 ≤ cnt zs (t + 1) := by
  obtain ⟨z, hz, e⟩ := h
  induction zs with
  | nil => cases hz
  | cons y zs ih =>
    have hm := cnt_mono zs t
    unfold cnt at ih hm ⊢
    simp only [List.filter_cons]
    rcases List.mem_cons.1 hz with h | h
    · subst h
      rw [if_neg (by simp; omega), if_pos (by simp; omega), List.length_cons]; omega
    · have ih := ih h
      by_cases h1 : y.1 < t
      · rw [if_pos (by simpa using h1), if_pos (by simp; omega), List.length_cons, List.length_cons]; omega
      · rw [if_neg (by simpa using h1)]
        split
        · rw [List.length_cons]; omega
        · exact ih
theorem dr_same {zs : List G} {t : Int} (h : ∀ z ∈ zs, z.1 ≠ t) : dr zs t = dr zs (t - 1) := by
  unfold dr
  have key : ∀ (zs : List G) (p : Int × Int), (∀ z ∈ zs, z.1 ≠ t) → zs.foldl (fun p z => if z.1 ≤ t then z.2 else p) p = zs.foldl (fun p z => if z.1 ≤ t - 1 then z.2 else p) p := by
    intro zs
    induction zs with
    | nil => intro p _; rfl
    | cons z zs ih =>
      intro p h
      rw [List.foldl_cons, List.foldl_cons]
      have h0 := h z (List.mem_cons_self ..)
      have : (if z.1 ≤ t then z.2 else p) = (if z.1 ≤ t - 1 then z.2 else p) := by
        by_cases h1 : z.1 ≤ t - 1
        · rw [if_pos h1, if_pos (by omega)]
        · rw [if_neg h1, if_neg (by omega)]
      rw [this]
      exact ih _ fun y hy => h y (List.mem_cons_of_mem _ hy)
  exact key zs _ h
theorem dr_none {zs : List G} {t : Int} (h : ∀ z ∈ zs, ¬ z.1 ≤ t) : dr zs t = (0, 0) := by
  unfold dr
  have key : ∀ (zs : List G) (p : Int × Int), (∀ z ∈ zs, ¬ z.1 ≤ t) → zs.foldl (fun p z => if z.1 ≤ t then z.2 else p) p = p := by
    intro zs
    induction zs with
    | nil => intro p _; rfl
    | cons z zs ih =>
      intro p h
      rw [List.foldl_cons, if_neg (h z (List.mem_cons_self ..))]
      exact ih _ fun y hy => h y (List.mem_cons_of_mem _ hy)
  exact key zs _ h
theorem cnt_pos {zs : List G} {t : Int} (h : ∃ z ∈ zs, z.1 ≤ t) : 1 ≤ cnt zs (t + 1) := by
  obtain ⟨z, hz, e⟩ := h
  unfold cnt
  exact List.length_pos_of_mem (List.mem_filter.2 ⟨hz, by simp; omega⟩)
theorem chgs_cnt (zs : List G) (a m : Nat) : ∀ k, k ≤ m → (chgs (drs zs a m) k).length ≤ cnt zs ((a + k : Nat) : Int) := by
  intro k
  induction k with
  | zero => intro _; exact Nat.zero_le _
  | succ k ih =>
    intro hk
    have ih := ih (by omega)
    have hp := drs_get (zs := zs) (a := a) (m := m) (j := k) (by omega)
    have e : ((a + (k + 1) : Nat) : Int) = ((a + k : Nat) : Int) + 1 := by omega
    rw [e]
    by_cases hpw : dr zs ((a + k : Nat) : Int) = was (drs zs a m) k
    · rw [chgs_no hp hpw]; exact Nat.le_trans ih (cnt_mono _ _)
    · rw [chgs_yes hp hpw, List.length_append, List.length_singleton]
      cases k with
      | zero =>
        rw [was_zero] at hpw
        have : ∃ z ∈ zs, z.1 ≤ ((a + 0 : Nat) : Int) := by
          false_or_by_contra
          rename_i hn
          exact hpw (dr_none fun z hz h => hn ⟨z, hz, h⟩)
        exact cnt_pos this
      | succ k =>
        rw [was_next (drs_get (zs := zs) (a := a) (m := m) (j := k) (by omega))] at hpw
        have : ∃ z ∈ zs, z.1 = ((a + (k + 1) : Nat) : Int) := by
          false_or_by_contra
          rename_i hn
          refine hpw ((dr_same fun z hz h => hn ⟨z, hz, h⟩).trans ?_)
          congr 1; omega
        have := cnt_next this
        omega
/-- No wind with these drifts has fewer gusts. -/
theorem chg_le (zs : List G) (a m : Nat) : (chg (drs zs a m)).length ≤ zs.length := by
  unfold chg
  rw [drs_len]
  exact Nat.le_trans (chgs_cnt zs a m m (Nat.le_refl _)) (cnt_le _ _)

theorem wd_later {zs : List G} (h : wd zs = true) (n : Nat) : wd (chg (drs zs n 65)) = true :=
  wd_chg (near_drs h _ _) (by rw [drs_len]; omega) (Nat.le_trans (chg_le zs n 65) (wd_len h))
theorem dr_later {zs : List G} (h : wd zs = true) (n t : Nat) : dr (chg (drs zs n 65)) (t : Int) = dr zs ((n + t : Nat) : Int) := by
  by_cases ht : t < 65
  · exact dr_chg (drs_get ht)
  · rw [dr_chg_end (m := 64) (drs_len ..) (drs_get (by omega)) (by omega), dr_late h (by omega), dr_late h (t := ((n + t : Nat) : Int)) (by omega)]
theorem lat_twice {zs : List G} (h : wd zs = true) {n m : Nat} (hn : n + m ≤ 64) : lat (lat zs (n : Int)) (m : Int) = lat zs ((n + m : Nat) : Int) := by
  rw [lat_yes h (by omega), lat_yes h hn, lat_yes (wd_later h n) (by omega)]
  congr 1
  apply List.ext_getElem?
  intro j
  by_cases hj : j < 65
  · rw [drs_get hj, drs_get hj, dr_later h, Nat.add_assoc]
  · rw [List.getElem?_eq_none (by rw [drs_len]; omega), List.getElem?_eq_none (by rw [drs_len]; omega)]
theorem wd_lat {zs : List G} (h : wd zs = true) {n : Nat} (hn : n ≤ 64) : wd (lat zs (n : Int)) = true := by rw [lat_yes h hn]; exact wd_later h n
/-- The drifts of a later wind are those of later ticks. -/
theorem dv_lat {zs : List G} (h : wd zs = true) {n : Nat} (hn : n ≤ 64) (t : Int) (ht : 0 ≤ t) : dv (lat zs (n : Int)) t = dv zs (t + (n : Int)) := by
  rw [dv_yes (wd_lat h hn), dv_yes h, lat_yes h hn]
  obtain ⟨k, rfl⟩ : ∃ k : Nat, t = (k : Int) := ⟨t.toNat, by omega⟩
  rw [dr_later h]
  congr 1; omega
theorem dv_normal {zs : List G} (h : wd zs = true) (t : Int) : dv (lat zs 0) t = dv zs t := by
  have hw := wd_lat h (n := 0) (by omega)
  by_cases ht : t < 0
  · rw [dv_yes (by exact hw), dv_yes h, dr_neg h ht, dr_neg (by exact hw) ht]
  · have := dv_lat h (n := 0) (by omega) t (by omega)
    rw [show t + ((0 : Nat) : Int) = t by omega] at this
    exact this
theorem lat_len' {zs : List G} (t : Int) : (lat zs t).length ≤ zs.length := by
  unfold lat; split
  · exact chg_le _ _ _
  · simp

theorem jl_get {a b : List G} {t j : Nat} (ht : t ≤ 64) (hj : j < 65) : (jl a b t)[j]? = some (if j < t then dr a (j : Int) else dr b (j : Int)) := by
  unfold jl
  by_cases h : j < t
  · rw [List.getElem?_append_left (by rw [drs_len]; exact h), drs_get h, if_pos h, Nat.zero_add]
  · rw [List.getElem?_append_right (by rw [drs_len]; omega), drs_len, drs_get (by omega), if_neg h, show t + (j - t) = j by omega]
theorem dr_joined {a b : List G} (hb : wd b = true) {t : Nat} (ht : t ≤ 64) (j : Nat) : dr (chg (jl a b t)) (j : Int) = if j < t then dr a (j : Int) else dr b (j : Int) := by
  by_cases hj : j < 65
  · exact dr_chg (jl_get ht hj)
  · rw [dr_chg_end (m := 64) (jl_len a b (by omega)) (jl_get ht (by omega)) (by omega), if_neg (by omega), if_neg (by omega), dr_late hb (t := (j : Int)) (by omega)]
    rfl
theorem wd_joined {a b : List G} (ha : wd a = true) (hb : wd b = true) {t : Nat} (ht : t ≤ 64) (h8 : (chg (jl a b t)).length ≤ 8) : wd (chg (jl a b t)) = true :=
  wd_chg (near_jl ha hb t) (by rw [jl_len a b (by omega)]; omega) h8
theorem lat_joined {a b : List G} (ha : wd a = true) (hb : wd b = true) {t : Nat} (ht : t ≤ 64) (h8 : (chg (jl a b t)).length ≤ 8) : lat (chg (jl a b t)) 0 = chg (jl a b t) := by
  have hw := wd_joined ha hb ht h8
  rw [show lat (chg (jl a b t)) 0 = chg (drs (chg (jl a b t)) 0 65) from lat_yes (k := 0) hw (by omega)]
  congr 1
  apply List.ext_getElem?
  intro j
  by_cases hj : j < 65
  · rw [drs_get hj, jl_get ht hj, Nat.zero_add, dr_joined hb ht]
  · rw [List.getElem?_eq_none (by rw [drs_len]; omega), List.getElem?_eq_none (by rw [jl_len a b (by omega)]; omega)]

/-- A place turned. -/
def rot (t : Int) (p : Int × Int) : Int × Int := (tx (t % 4).toNat p.1 p.2, ty (t % 4).toNat p.1 p.2)
theorem tg_rot (t : Int) (z : G) : tg t z = (z.1, rot t z.2) := rfl
theorem rot_zero (t : Int) : rot t (0, 0) = (0, 0) := by
  unfold rot; rcases mod4_cases t with h | h | h | h <;> rw [h] <;> rfl
theorem rot_plus (t : Int) (p q : Int × Int) : rot t (Wm.plus p q) = Wm.plus (rot t p) (rot t q) := by
  unfold rot Wm.plus
  rcases mod4_cases t with h | h | h | h <;> rw [h] <;> simp [tx, ty] <;> omega
theorem rot_dk (t x y : Int) : dk (rot t (x, y)).1 (rot t (x, y)).2 = dk x y := by
  unfold rot dk iw
  rcases mod4_cases t with h | h | h | h <;> rw [h] <;> simp only [tx, ty, Int.toNat_zero, Int.toNat_one] <;>
    (rw [Bool.eq_iff_iff]; simp [tx, ty]; omega)
theorem dr_rot (t : Int) (zs : List G) (j : Int) : dr (zs.map (tg t)) j = rot t (dr zs j) := by
  unfold dr
  have key : ∀ (zs : List G) (p : Int × Int), (zs.map (tg t)).foldl (fun p z => if z.1 ≤ j then z.2 else p) (rot t p) = rot t (zs.foldl (fun p z => if z.1 ≤ j then z.2 else p) p) := by
    intro zs
    induction zs with
    | nil => intro p; rfl
    | cons z zs ih =>
      intro p
      rw [List.map_cons, List.foldl_cons, List.foldl_cons, tg_rot]
      by_cases h : z.1 ≤ j
      · rw [if_pos (by exact h), if_pos h]; exact ih _
      · rw [if_neg (by exact h), if_neg h]; exact ih _
  rw [← rot_zero t]
  have := key zs (0, 0)
  rw [rot_zero] at this ⊢
  exact this
theorem sum_rot (t : Int) (l : List (Int × Int)) : sum2 (l.map (rot t)) = rot t (sum2 l) := by
  unfold sum2
  have key : ∀ (l : List (Int × Int)) (p : Int × Int), (l.map (rot t)).foldl Wm.plus (rot t p) = rot t (l.foldl Wm.plus p) := by
    intro l
    induction l with
    | nil => intro p; rfl
    | cons q l ih => intro p; rw [List.map_cons, List.foldl_cons, List.foldl_cons, ← rot_plus]; exact ih _
  have := key l (0, 0)
  rw [rot_zero] at this
  exact this
theorem drs_rot (t : Int) (zs : List G) (a m : Nat) : drs (zs.map (tg t)) a m = (drs zs a m).map (rot t) := by
  unfold drs
  rw [List.map_map]
  apply List.map_congr_left
  intro j _
  exact dr_rot t zs _
theorem wd_rot (t : Int) (zs : List G) : wd (zs.map (tg t)) = wd zs := by
  have key : ∀ i, okAt (zs.map (tg t)) i = okAt zs i := by
    intro i
    unfold okAt
    rw [List.getElem?_map, List.getElem?_map]
    cases zs[i]? with
    | none => rfl
    | some z =>
      have := rot_dk t z.2.1 z.2.2
      simp only [Option.map_some, tg_rot]
      rw [show dk (rot t z.2).1 (rot t z.2).2 = dk z.2.1 z.2.2 from this]
      cases zs[i - 1]? with
      | none => rfl
      | some p => rfl
  unfold wd okUp
  rw [List.length_map]
  congr 1
  induction zs.length with
  | zero => rfl
  | succ k ih => rw [List.range_succ, List.all_append, List.all_append, ih]; simp [key]
theorem tg_back (n : Int) (z : G) : tg (4 - n.tmod 4) (tg n z) = z := by
  obtain ⟨h1, h2⟩ := Tp.back_tx n z.2.1 z.2.2
  obtain ⟨f, x, y⟩ := z
  unfold tg
  simp only at h1 h2 ⊢
  rw [h1, h2]
theorem map_back (n : Int) (zs : List G) : (zs.map (tg n)).map (tg (4 - n.tmod 4)) = zs := by
  rw [List.map_map]
  have : (tg (4 - n.tmod 4) ∘ tg n) = id := by funext z; exact tg_back n z
  rw [this, List.map_id]

end Go.Proofs.Ytknanaapaipoeaa.Wn
