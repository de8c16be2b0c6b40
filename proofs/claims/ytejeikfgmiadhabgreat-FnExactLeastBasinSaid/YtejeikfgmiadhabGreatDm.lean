/- Water in numbers: demands, their sum, how they are cut, the level for a supply, shares; no program. -/
import Derived.Test.YtejeikfgmiadhabGreatRows
namespace Go.Proofs.YtejeikfgmiadhabGreat.Dm
set_option linter.unusedVariables false
set_option linter.unusedSimpArgs false

/-- Each is an eighth that may be wanted. -/
def okD (zs : List Int) : Prop := ∀ z ∈ zs, 0 ≤ z ∧ z ≤ 64
/-- Whether a list is demands. -/
noncomputable def dm (zs : List Int) : Bool := @decide (zs.length ≤ 8 ∧ okD zs) (Classical.propDecidable _)
theorem dm_iff {zs : List Int} : dm zs = true ↔ zs.length ≤ 8 ∧ okD zs := by unfold dm; exact @decide_eq_true_iff _ (Classical.propDecidable _)
theorem dm_yes {zs : List Int} (h : zs.length ≤ 8) (k : okD zs) : dm zs = true := dm_iff.2 ⟨h, k⟩
theorem dm_long {zs : List Int} (h : 8 < zs.length) : dm zs = false := by rw [← Bool.not_eq_true, dm_iff]; omega
theorem dm_bad {zs : List Int} {z : Int} {k : Nat} (h : zs[k]? = some z) (b : z < 0 ∨ 64 < z) : dm zs = false := by
  rw [← Bool.not_eq_true, dm_iff]; intro ⟨_, c⟩; have := c z (List.mem_of_getElem? h); omega
theorem okD_nil : okD [] := fun _ h => by cases h
theorem okD_take_succ {zs : List Int} {z : Int} {k : Nat} (h : zs[k]? = some z) (b : 0 ≤ z ∧ z ≤ 64) (c : okD (zs.take k)) : okD (zs.take (k + 1)) := by
  obtain ⟨hk, rfl⟩ := List.getElem?_eq_some_iff.1 h
  rw [List.take_succ_eq_append_getElem hk]
  intro x hx
  rcases List.mem_append.1 hx with hx | hx
  · exact c x hx
  · rw [List.mem_singleton.1 hx]; exact b

/-- The sum. -/
def tot : List Int → Int
  | [] => 0
  | z :: zs => z + tot zs
theorem tot_append : ∀ a b : List Int, tot (a ++ b) = tot a + tot b
  | [], b => by simp [tot]
  | z :: a, b => by simp only [List.cons_append, tot]; rw [tot_append a b]; omega
theorem tot_take {zs : List Int} {z : Int} {k : Nat} (h : zs[k]? = some z) : tot (zs.take (k + 1)) = tot (zs.take k) + z := by
  obtain ⟨hk, rfl⟩ := List.getElem?_eq_some_iff.1 h
  rw [List.take_succ_eq_append_getElem hk, tot_append]; simp [tot]
theorem tot_bound {B : Int} : ∀ {zs : List Int}, (∀ z ∈ zs, 0 ≤ z ∧ z ≤ B) → 0 ≤ tot zs ∧ tot zs ≤ B * zs.length
  | [], _ => by simp [tot]
  | z :: zs, h => by
    have h1 := h z (List.mem_cons_self ..)
    have h2 := tot_bound (B := B) (zs := zs) fun x hx => h x (List.mem_cons_of_mem _ hx)
    simp only [tot, List.length_cons]
    push_cast
    rw [Int.mul_add]
    omega
theorem tot_small {zs : List Int} (hl : zs.length ≤ 8) (h : okD zs) : 0 ≤ tot zs ∧ tot zs ≤ 512 := by
  have := tot_bound (B := 64) h
  have h2 : (64 : Int) * zs.length ≤ 64 * 8 := by omega
  omega
theorem okD_take {zs : List Int} (h : okD zs) (k : Nat) : okD (zs.take k) := fun z hz => h z (List.mem_of_mem_take hz)
theorem tot_take_small {zs : List Int} (hl : zs.length ≤ 8) (h : okD zs) (k : Nat) : 0 ≤ tot (zs.take k) ∧ tot (zs.take k) ≤ 512 := tot_small (by rw [List.length_take]; omega) (okD_take h k)

theorem min_if (z l : Int) : min z l = if l < z then l else z := by split <;> omega
theorem max_if (z l : Int) : max z l = if z < l then l else z := by split <;> omega
/-- Cut at a level. -/
def cut (zs : List Int) (l : Int) : List Int := zs.map fun z => min z l
theorem cut_len (zs : List Int) (l : Int) : (cut zs l).length = zs.length := by simp [cut]
theorem cut_get {zs : List Int} {z l : Int} {k : Nat} (h : zs[k]? = some z) : (cut zs l)[k]? = some (min z l) := by unfold cut; rw [List.getElem?_map, h]; rfl
theorem cut_take_succ {zs : List Int} {z l : Int} {k : Nat} (h : zs[k]? = some z) : (cut zs l).take k ++ [min z l] = (cut zs l).take (k + 1) := by
  obtain ⟨hk, e⟩ := List.getElem?_eq_some_iff.1 (cut_get (l := l) h)
  rw [List.take_succ_eq_append_getElem hk, e]
theorem cut_ok {zs : List Int} (h : okD zs) {l : Int} (hl : 0 ≤ l) : okD (cut zs l) := by
  intro x hx
  obtain ⟨z, hz, rfl⟩ := List.mem_map.1 hx
  have := h z hz
  show 0 ≤ min z l ∧ min z l ≤ 64
  omega
theorem cut_mono (l m : Int) (h : l ≤ m) : ∀ zs : List Int, tot (cut zs l) ≤ tot (cut zs m)
  | [] => Int.le_refl _
  | z :: zs => by
    have := cut_mono l m h zs
    simp only [cut, List.map_cons, tot] at *
    omega
theorem cut_zero : ∀ {zs : List Int}, okD zs → tot (cut zs 0) = 0
  | [], _ => rfl
  | z :: zs, h => by
    have h1 := h z (List.mem_cons_self ..)
    have := cut_zero (zs := zs) fun x hx => h x (List.mem_cons_of_mem _ hx)
    simp only [cut, List.map_cons, tot] at *
    omega
theorem cut_all : ∀ {zs : List Int} {l : Int}, (∀ z ∈ zs, z ≤ l) → cut zs l = zs
  | [], _, _ => rfl
  | z :: zs, l, h => by
    have h1 := h z (List.mem_cons_self ..)
    have := cut_all (zs := zs) (l := l) fun x hx => h x (List.mem_cons_of_mem _ hx)
    simp only [cut, List.map_cons] at *
    rw [this, show min z l = z by omega]

/-- A sum up to k of what is cut. -/
theorem cut_tot_take {zs : List Int} {z l : Int} {k : Nat} (h : zs[k]? = some z) : tot ((cut zs l).take (k + 1)) = tot ((cut zs l).take k) + min z l := tot_take (cut_get h)

/-- The greatest level up to n at which the cut ones fit. -/
def lv (s : Int) (zs : List Int) : Nat → Nat
  | 0 => 0
  | n + 1 => if tot (cut zs ((n : Int) + 1)) ≤ s then n + 1 else lv s zs n
theorem lv_yes {s : Int} {zs : List Int} {n : Nat} (h : tot (cut zs ((n : Int) + 1)) ≤ s) : lv s zs (n + 1) = n + 1 := if_pos h
theorem lv_no {s : Int} {zs : List Int} {n : Nat} (h : ¬ tot (cut zs ((n : Int) + 1)) ≤ s) : lv s zs (n + 1) = lv s zs n := if_neg h
theorem lv_le (s : Int) (zs : List Int) : ∀ n, lv s zs n ≤ n
  | 0 => Nat.le_refl _
  | n + 1 => by unfold lv; have := lv_le s zs n; split <;> omega
/-- What the level for a supply is. -/
theorem lv_fits {s : Int} {zs : List Int} (hz : okD zs) (hs : 0 ≤ s) : ∀ n, tot (cut zs (lv s zs n : Nat)) ≤ s
  | 0 => by rw [show ((lv s zs 0 : Nat) : Int) = 0 from rfl, cut_zero hz]; exact hs
  | n + 1 => by
    by_cases h : tot (cut zs ((n : Int) + 1)) ≤ s
    · rw [lv_yes h]; push_cast; exact h
    · rw [lv_no h]; exact lv_fits hz hs n
theorem lv_next {s : Int} {zs : List Int} : ∀ n, lv s zs n < n → s < tot (cut zs ((lv s zs n : Nat) + 1 : Int))
  | 0, h => absurd h (Nat.lt_irrefl _)
  | n + 1, h => by
    by_cases c : tot (cut zs ((n : Int) + 1)) ≤ s
    · rw [lv_yes c] at h; omega
    · rw [lv_no c]
      by_cases e : lv s zs n = n
      · rw [e]; omega
      · exact lv_next n (by have := lv_le s zs n; omega)
/-- Found by halves. -/
theorem lv_is {s : Int} {zs : List Int} {i : Nat} (hz : okD zs) (hs : 0 ≤ s) (hi : i ≤ 64) (h1 : i = 0 ∨ tot (cut zs (i : Int)) ≤ s) (h2 : i = 64 ∨ s < tot (cut zs ((i : Int) + 1))) : lv s zs 64 = i := by
  have f := lv_fits hz hs 64
  have l := lv_le s zs 64
  rcases Nat.lt_trichotomy (lv s zs 64) i with h | h | h
  · have n := lv_next (s := s) (zs := zs) 64 (by omega)
    have m := cut_mono ((lv s zs 64 : Nat) + 1 : Int) (i : Int) (by omega) zs
    rcases h1 with h1 | h1 <;> omega
  · exact h
  · have m := cut_mono ((i : Int) + 1) ((lv s zs 64 : Nat) : Int) (by omega) zs
    rcases h2 with h2 | h2 <;> omega
/-- The level for a supply. -/
noncomputable def level (s : Int) (zs : List Int) : Nat := if dm zs = true ∧ 0 ≤ s ∧ s ≤ 512 then lv s zs 64 else 0
theorem level_yes {s : Int} {zs : List Int} (h : dm zs = true) (h1 : 0 ≤ s) (h2 : s ≤ 512) : level s zs = lv s zs 64 := if_pos ⟨h, h1, h2⟩
theorem level_no {s : Int} {zs : List Int} (h : ¬ (dm zs = true ∧ 0 ≤ s ∧ s ≤ 512)) : level s zs = 0 := if_neg h
theorem level_le (s : Int) (zs : List Int) : level s zs ≤ 64 := by unfold level; split; exact lv_le _ _ _; omega

/-- An eighth more for those above the level, as long as there is a rest: what there is, and the rest, behind k of them. -/
def more (l r : Int) (zs : List Int) : Nat → List Int × Int
  | 0 => (cut zs l, r)
  | k + 1 => if l < zs.getD k 0 ∧ 0 < (more l r zs k).2 then ((more l r zs k).1.set k (min (zs.getD k 0) l + 1), (more l r zs k).2 - 1) else more l r zs k
theorem getD_of {zs : List Int} {z : Int} {k : Nat} (h : zs[k]? = some z) : zs.getD k 0 = z := by rw [List.getD_eq_getElem?_getD, h]; rfl
theorem more_yes {l r : Int} {zs : List Int} {z : Int} {k : Nat} (h : zs[k]? = some z) (h1 : l < z) (h2 : 0 < (more l r zs k).2) : more l r zs (k + 1) = ((more l r zs k).1.set k (min z l + 1), (more l r zs k).2 - 1) := by
  show (if _ then _ else _) = _
  rw [getD_of h, if_pos ⟨h1, h2⟩]
theorem more_no {l r : Int} {zs : List Int} {z : Int} {k : Nat} (h : zs[k]? = some z) (h1 : ¬ (l < z ∧ 0 < (more l r zs k).2)) : more l r zs (k + 1) = more l r zs k := by
  show (if _ then _ else _) = _
  rw [getD_of h, if_neg h1]
theorem more_len (l r : Int) (zs : List Int) : ∀ k, (more l r zs k).1.length = zs.length
  | 0 => cut_len zs l
  | k + 1 => by
    show (if _ then _ else _ : List Int × Int).1.length = _
    split
    · rw [List.length_set]; exact more_len l r zs k
    · exact more_len l r zs k
theorem more_far (l r : Int) (zs : List Int) : ∀ k j, k ≤ j → (more l r zs k).1[j]? = (cut zs l)[j]?
  | 0, _, _ => rfl
  | k + 1, j, h => by
    show (if _ then _ else _ : List Int × Int).1[j]? = _
    split
    · rw [List.getElem?_set_ne (by omega)]; exact more_far l r zs k j (by omega)
    · exact more_far l r zs k j (by omega)
theorem more_at {l r : Int} {zs : List Int} {z : Int} {k : Nat} (h : zs[k]? = some z) : (more l r zs k).1[k]? = some (min z l) := (more_far l r zs k k (Nat.le_refl _)).trans (cut_get h)
theorem more_rest (l r : Int) (zs : List Int) (hr : 0 ≤ r) : ∀ k, 0 ≤ (more l r zs k).2 ∧ (more l r zs k).2 ≤ r
  | 0 => ⟨hr, Int.le_refl _⟩
  | k + 1 => by
    show 0 ≤ (if _ then _ else _ : List Int × Int).2 ∧ (if _ then _ else _ : List Int × Int).2 ≤ r
    have := more_rest l r zs hr k
    split
    · rename_i h
      show 0 ≤ (more l r zs k).2 - 1 ∧ (more l r zs k).2 - 1 ≤ r
      omega
    · exact this
/-- What is shared out. -/
noncomputable def share (s : Int) (zs : List Int) : List Int :=
  if dm zs = true ∧ 0 ≤ s ∧ s ≤ 512 then (more (lv s zs 64) (s - tot (cut zs (lv s zs 64))) zs zs.length).1 else []
theorem share_yes {s : Int} {zs : List Int} (h : dm zs = true) (h1 : 0 ≤ s) (h2 : s ≤ 512) : share s zs = (more (lv s zs 64) (s - tot (cut zs (lv s zs 64))) zs zs.length).1 := if_pos ⟨h, h1, h2⟩
theorem share_no {s : Int} {zs : List Int} (h : ¬ (dm zs = true ∧ 0 ≤ s ∧ s ≤ 512)) : share s zs = [] := if_neg h
theorem share_len (s : Int) (zs : List Int) : (share s zs).length ≤ 8 := by
  unfold share
  split
  · rename_i h; rw [more_len]; exact (dm_iff.1 h.1).1
  · exact Nat.zero_le _

/-- Shares in turn. -/
def turn : Int → List Int → List Int
  | _, [] => []
  | s, z :: zs => min z s :: turn (s - min z s) zs
theorem turn_len : ∀ (s : Int) (zs : List Int), (turn s zs).length = zs.length
  | _, [] => rfl
  | s, z :: zs => by rw [turn, List.length_cons, List.length_cons, turn_len]
theorem turn_append : ∀ (s : Int) (zs : List Int) (z : Int), turn s (zs ++ [z]) = turn s zs ++ [min z (s - tot (turn s zs))]
  | s, [], z => by simp [turn, tot]
  | s, y :: zs, z => by
    rw [List.cons_append, turn, turn_append, turn, List.cons_append, tot, show s - min y s - tot (turn (s - min y s) zs) = s - (min y s + tot (turn (s - min y s) zs)) by omega]
theorem turn_take {s : Int} {zs : List Int} {z : Int} {k : Nat} (h : zs[k]? = some z) : turn s (zs.take (k + 1)) = turn s (zs.take k) ++ [min z (s - tot (turn s (zs.take k)))] := by
  obtain ⟨hk, rfl⟩ := List.getElem?_eq_some_iff.1 h
  rw [List.take_succ_eq_append_getElem hk, turn_append]
theorem turn_rest : ∀ (s : Int) (zs : List Int), 0 ≤ s → okD zs → 0 ≤ s - tot (turn s zs) ∧ s - tot (turn s zs) ≤ s
  | s, [], h, _ => by simp [turn, tot]; omega
  | s, z :: zs, h, k => by
    have h1 := k z (List.mem_cons_self ..)
    have := turn_rest (s - min z s) zs (by omega) fun x hx => k x (List.mem_cons_of_mem _ hx)
    rw [turn, tot]
    omega
theorem turn_take_take : ∀ (s : Int) (zs : List Int) (k : Nat), (turn s zs).take k = turn s (zs.take k)
  | _, [], k => by simp [turn]
  | s, z :: zs, 0 => by simp [turn]
  | s, z :: zs, k + 1 => by simp only [turn, List.take_succ_cons]; rw [turn_take_take]
theorem turn_get {s : Int} {zs : List Int} {z : Int} {k : Nat} (h : zs[k]? = some z) : (turn s zs)[k]? = some (min z (s - tot (turn s (zs.take k)))) := by
  have hk : k < zs.length := (List.getElem?_eq_some_iff.1 h).1
  have e := turn_take (s := s) h
  rw [← turn_take_take, ← turn_take_take] at e
  have := congrArg (·[k]?) e
  simp only [List.getElem?_append, List.length_take, turn_len, List.getElem?_take] at this
  rw [if_pos (by omega), if_neg (by omega), turn_take_take] at this
  rw [this, show k - min k zs.length = 0 by omega]
  rfl
noncomputable def inTurn (s : Int) (zs : List Int) : List Int := if dm zs = true ∧ 0 ≤ s ∧ s ≤ 512 then turn s zs else []
theorem inTurn_yes {s : Int} {zs : List Int} (h : dm zs = true) (h1 : 0 ≤ s) (h2 : s ≤ 512) : inTurn s zs = turn s zs := if_pos ⟨h, h1, h2⟩
theorem inTurn_no {s : Int} {zs : List Int} (h : ¬ (dm zs = true ∧ 0 ≤ s ∧ s ≤ 512)) : inTurn s zs = [] := if_neg h
theorem inTurn_len (s : Int) (zs : List Int) : (inTurn s zs).length ≤ 8 := by
  unfold inTurn
  split
  · rename_i h; rw [turn_len]; exact (dm_iff.1 h.1).1
  · exact Nat.zero_le _

/-- Whether a list is shares of demands. -/
def okS (zs ss : List Int) (k : Nat) : Prop := ∀ j, j < k → ∃ z s, zs[j]? = some z ∧ ss[j]? = some s ∧ 0 ≤ s ∧ s ≤ z
noncomputable def sh (zs ss : List Int) : Bool := @decide (ss.length = zs.length ∧ okS zs ss zs.length) (Classical.propDecidable _)
theorem sh_iff {zs ss : List Int} : sh zs ss = true ↔ ss.length = zs.length ∧ okS zs ss zs.length := by unfold sh; exact @decide_eq_true_iff _ (Classical.propDecidable _)
theorem sh_len {zs ss : List Int} (h : ss.length ≠ zs.length) : sh zs ss = false := by rw [← Bool.not_eq_true, sh_iff]; exact fun c => h c.1
theorem sh_yes {zs ss : List Int} (h : ss.length = zs.length) (k : okS zs ss zs.length) : sh zs ss = true := sh_iff.2 ⟨h, k⟩
theorem sh_bad {zs ss : List Int} {z s : Int} {k : Nat} (h : zs[k]? = some z) (h2 : ss[k]? = some s) (b : s < 0 ∨ z < s) : sh zs ss = false := by
  rw [← Bool.not_eq_true, sh_iff]; intro ⟨_, c⟩
  obtain ⟨z', s', e1, e2, _⟩ := c k (List.getElem?_eq_some_iff.1 h).1
  rw [h] at e1; rw [h2] at e2; cases e1; cases e2; omega
theorem okS_zero (zs ss : List Int) : okS zs ss 0 := fun _ h => absurd h (Nat.not_lt_zero _)
theorem okS_succ {zs ss : List Int} {z s : Int} {k : Nat} (h : zs[k]? = some z) (h2 : ss[k]? = some s) (b : 0 ≤ s ∧ s ≤ z) (c : okS zs ss k) : okS zs ss (k + 1) := fun j hj => by
  by_cases e : j = k
  · subst e; exact ⟨z, s, h, h2, b.1, b.2⟩
  · exact c j (by omega)
theorem sh_ok {zs ss : List Int} (h : sh zs ss = true) (d : dm zs = true) : ss.length ≤ 8 ∧ okD ss := by
  obtain ⟨e, c⟩ := sh_iff.1 h
  obtain ⟨l, o⟩ := dm_iff.1 d
  refine ⟨by omega, fun s hs => ?_⟩
  obtain ⟨j, hj⟩ := List.getElem?_of_mem hs
  obtain ⟨z, s', e1, e2, b1, b2⟩ := c j (by have := (List.getElem?_eq_some_iff.1 hj).1; omega)
  rw [hj] at e2; cases e2
  have := o z (List.mem_of_getElem? e1)
  omega
theorem sh_dm {zs ss : List Int} (h : sh zs ss = true) (d : dm zs = true) : dm ss = true := dm_iff.2 (sh_ok h d)

/-- Nobody lacks while another one has more than an eighth more. -/
def evenAt (zs ss : List Int) (i : Nat) (m : Nat) : Prop := ∀ k, k < m → ∀ z s t, zs[i]? = some z → ss[i]? = some s → ss[k]? = some t → s < z → t ≤ s + 1
def evenTo (zs ss : List Int) (n : Nat) : Prop := ∀ i, i < n → evenAt zs ss i ss.length
noncomputable def evB (zs ss : List Int) : Bool := @decide (evenTo zs ss ss.length) (Classical.propDecidable _)
theorem evB_iff {zs ss : List Int} : evB zs ss = true ↔ evenTo zs ss ss.length := by unfold evB; exact @decide_eq_true_iff _ (Classical.propDecidable _)
theorem evB_yes {zs ss : List Int} (h : evenTo zs ss ss.length) : evB zs ss = true := evB_iff.2 h
theorem evB_bad {zs ss : List Int} {i k : Nat} {z s t : Int} (h1 : zs[i]? = some z) (h2 : ss[i]? = some s) (h3 : ss[k]? = some t) (c : s < z) (d : s + 1 < t) : evB zs ss = false := by
  rw [← Bool.not_eq_true, evB_iff]
  intro h
  have := h i (List.getElem?_eq_some_iff.1 h2).1 k (List.getElem?_eq_some_iff.1 h3).1 z s t h1 h2 h3 c
  omega
theorem even_zero (zs ss : List Int) : evenTo zs ss 0 := fun _ h => absurd h (Nat.not_lt_zero _)
theorem even_succ {zs ss : List Int} {i : Nat} (h : evenTo zs ss i) (k : evenAt zs ss i ss.length) : evenTo zs ss (i + 1) := fun j hj => by
  by_cases e : j = i
  · subst e; exact k
  · exact h j (by omega)
theorem evenAt_zero (zs ss : List Int) (i : Nat) : evenAt zs ss i 0 := fun _ h => absurd h (Nat.not_lt_zero _)
theorem evenAt_succ {zs ss : List Int} {i k : Nat} {z s t : Int} (h1 : zs[i]? = some z) (h2 : ss[i]? = some s) (h3 : ss[k]? = some t) (c : s < z → t ≤ s + 1) (h : evenAt zs ss i k) : evenAt zs ss i (k + 1) := fun j hj z' s' t' e1 e2 e3 => by
  by_cases e : j = k
  · subst e; rw [h1] at e1; rw [h2] at e2; rw [h3] at e3; cases e1; cases e2; cases e3; exact c
  · exact h j (by omega) z' s' t' e1 e2 e3
theorem evenAt_full {zs ss : List Int} {i : Nat} {z s : Int} (h1 : zs[i]? = some z) (h2 : ss[i]? = some s) (c : ¬ s < z) (m : Nat) : evenAt zs ss i m := fun j _ z' s' t' e1 e2 _ d => by
  rw [h1] at e1; rw [h2] at e2; cases e1; cases e2; exact absurd d c
/-- The greatest of the first k. -/
def Top (ss : List Int) (k : Nat) (m : Int) : Prop := (∃ j, j < k ∧ ss[j]? = some m) ∧ ∀ j t, j < k → ss[j]? = some t → t ≤ m
theorem top_one {ss : List Int} {s : Int} (h : ss[0]? = some s) : Top ss 1 s := by
  refine ⟨⟨0, by omega, h⟩, fun j t hj e => ?_⟩
  obtain rfl : j = 0 := by omega
  rw [h] at e; cases e; exact Int.le_refl _
theorem top_succ {ss : List Int} {s m : Int} {k : Nat} (h : ss[k]? = some s) (t : Top ss k m) : Top ss (k + 1) (max m s) := by
  obtain ⟨⟨j, hj, e⟩, u⟩ := t
  refine ⟨?_, fun i t hi e2 => ?_⟩
  · by_cases c : m ≤ s
    · exact ⟨k, by omega, by rw [h, show max m s = s by omega]⟩
    · exact ⟨j, by omega, by rw [e, show max m s = m by omega]⟩
  · by_cases c : i = k
    · subst c; rw [h] at e2; cases e2; omega
    · have := u i t (by omega) e2; omega
theorem top_uniq {ss : List Int} {k : Nat} {x y : Int} (h : Top ss k x) (g : Top ss k y) : x = y := by
  obtain ⟨⟨i, hi, e1⟩, u⟩ := h
  obtain ⟨⟨j, hj, e2⟩, v⟩ := g
  have := u j y hj e2
  have := v i x hi e1
  omega
noncomputable def mx (ss : List Int) : Int := @dite _ (∃ x, Top ss ss.length x) (Classical.propDecidable _) (fun h => Classical.choose h) (fun _ => 0)
theorem mx_is {ss : List Int} {x : Int} (h : Top ss ss.length x) : mx ss = x := by
  unfold mx
  rw [dif_pos ⟨x, h⟩]
  exact top_uniq (Classical.choose_spec (⟨x, h⟩ : ∃ x, Top ss ss.length x)) h
theorem top_ex {ss : List Int} : ∀ k, 0 < k → k ≤ ss.length → ∃ x, Top ss k x
  | 0, h, _ => absurd h (Nat.lt_irrefl _)
  | 1, _, h => ⟨_, top_one (List.getElem?_eq_getElem (by omega))⟩
  | k + 2, _, h => by
    obtain ⟨x, hx⟩ := top_ex (ss := ss) (k + 1) (by omega) (by omega)
    exact ⟨_, top_succ (List.getElem?_eq_getElem (by omega)) hx⟩
theorem mx_top {ss : List Int} (h : 0 < ss.length) : Top ss ss.length (mx ss) := by
  obtain ⟨x, hx⟩ := top_ex (ss := ss) ss.length h (Nat.le_refl _)
  rw [mx_is hx]; exact hx
theorem evenAt_top {zs ss : List Int} {i : Nat} {z s m : Int} (h1 : zs[i]? = some z) (h2 : ss[i]? = some s) (t : Top ss ss.length m) (c : m ≤ s + 1) : evenAt zs ss i ss.length := fun j hj z' s' t' e1 e2 e3 d => by
  rw [h2] at e2; cases e2
  have := t.2 j t' hj e3
  omega

/-- Whether shares are fair. -/
noncomputable def fair (n : Int) (zs ss : List Int) : Bool := @decide ((0 ≤ n ∧ n ≤ 512) ∧ dm zs = true ∧ sh zs ss = true ∧ tot ss = min n (tot zs) ∧ evB zs ss = true) (Classical.propDecidable _)
theorem fair_iff {n : Int} {zs ss : List Int} : fair n zs ss = true ↔ (0 ≤ n ∧ n ≤ 512) ∧ dm zs = true ∧ sh zs ss = true ∧ tot ss = min n (tot zs) ∧ evB zs ss = true := by unfold fair; exact @decide_eq_true_iff _ (Classical.propDecidable _)
theorem fair_no {n : Int} {zs ss : List Int} (h : ¬ ((0 ≤ n ∧ n ≤ 512) ∧ dm zs = true ∧ sh zs ss = true ∧ tot ss = min n (tot zs) ∧ evB zs ss = true)) : fair n zs ss = false := by rw [← Bool.not_eq_true, fair_iff]; exact h
theorem fair_is {n : Int} {zs ss : List Int} (h0 : 0 ≤ n ∧ n ≤ 512) (h1 : dm zs = true) (h2 : sh zs ss = true) (h3 : tot ss = min n (tot zs)) : fair n zs ss = evB zs ss := by
  cases e : evB zs ss
  · exact fair_no fun c => by rw [e] at c; exact absurd c.2.2.2.2 (by decide)
  · exact fair_iff.2 ⟨h0, h1, h2, h3, e⟩
/-- What is lacking. -/
noncomputable def lack (zs ss : List Int) : Int := if dm zs = true ∧ sh zs ss = true then tot zs - tot ss else 0
theorem lack_yes {zs ss : List Int} (h : dm zs = true) (k : sh zs ss = true) : lack zs ss = tot zs - tot ss := if_pos ⟨h, k⟩
theorem lack_no {zs ss : List Int} (h : ¬ (dm zs = true ∧ sh zs ss = true)) : lack zs ss = 0 := if_neg h
noncomputable def totB (zs : List Int) : Int := if dm zs = true then tot zs else 0
theorem totB_yes {zs : List Int} (h : dm zs = true) : totB zs = tot zs := if_pos h
theorem totB_no {zs : List Int} (h : dm zs = false) : totB zs = 0 := if_neg (by rw [h]; decide)
noncomputable def cutB (zs : List Int) (l : Int) : List Int := if dm zs = true ∧ 0 ≤ l then cut zs l else []
theorem cutB_yes {zs : List Int} {l : Int} (h : dm zs = true) (h1 : 0 ≤ l) : cutB zs l = cut zs l := if_pos ⟨h, h1⟩
theorem cutB_no {zs : List Int} {l : Int} (h : ¬ (dm zs = true ∧ 0 ≤ l)) : cutB zs l = [] := if_neg h
theorem cutB_len (zs : List Int) (l : Int) : (cutB zs l).length ≤ 8 := by
  unfold cutB
  split
  · rename_i h; rw [cut_len]; exact (dm_iff.1 h.1).1
  · exact Nat.zero_le _

end Go.Proofs.YtejeikfgmiadhabGreat.Dm
