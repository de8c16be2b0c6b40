/- Water in numbers: demands, their sum, how they are cut, the level for a supply, shares; no program. -/
import Derived.Test.YtejeikfgmiadhabGreatRows
set_option linter.unusedVariables false
set_option linter.unusedSimpArgs false
namespace Go.Proofs.YtejeikfgmiadhabGreat.Dm
set_option linter.unusedVariables false
set_option linter.unusedSimpArgs false

/-- Each is an eighth that may be wanted. -/
def okD (zs : List Int) : Prop := ∀ z ∈ zs, 0 ≤ z ∧ z ≤ 64
/-- Whether a list is demands. -/
noncomputable def dm (zs : List Int) : Bool := @decide (zs.length ≤ 8 ∧ okD zs) (Classical.propDecidable _)
theorem dm_iff {zs : List Int} : dm zs = true ↔ zs.length ≤ 8 ∧ okD zs := by unfold dm; exact @decide_eq_true_iff _ (Classical.propDecidable _)
theorem dm_yes {zs : List Int} (h : zs.length ≤ 8) (k : okD zs) : dm zs = true := dm_iff.2 ⟨h, k⟩
theorem dm_long {zs : List Int} (h : 8 < zs.length) : dm zs = false := by rw [← Bool.not_eq_true, dm_iff]; omega
theorem dm_bad {zs : List Int} {z : Int} {k : Nat} (h : zs[k]? = some z) (b : z < 0 ∨ 64 < z) : dm zs = false := by
  rw [← Bool.not_eq_true, dm_iff]; intro ⟨_, c⟩; have := c z (List.mem_of_getElem? h); omega
theorem okD_nil : okD [] := fun _ h => by cases h
theorem okD_take_succ {zs : List Int} {z : Int} {k : Nat} (h : zs[k]? = some z) (b : 0 ≤ z ∧ z ≤ 64) (c : okD (zs.take k)) : okD (zs.take (k + 1)) := by
  obtain ⟨hk, rfl⟩ := List.getElem?_eq_some_iff.1 h
  rw [List.take_succ_eq_append_getElem hk]
  intro x hx
  rcases List.mem_append.1 hx with hx | hx
  · exact c x hx
  · rw [List.mem_singleton.1 hx]; exact b

/-- The sum. -/
def tot : List Int → Int
  | [] => 0
  | z :: zs => z + tot zs
theorem tot_append : ∀ a b : List Int, tot (a ++ b) = tot a + tot b
  | [], b => by simp [tot]
  | z :: a, b => by simp only [List.cons_append, tot]; rw [tot_append a b]; omega
theorem tot_take {zs : List Int} {z : Int} {k : Nat} (h : zs[k]? = some z) : tot (zs.take (k + 1)) = tot (zs.take k) + z := by
  obtain ⟨hk, rfl⟩ := List.getElem?_eq_some_iff.1 h
  rw [List.take_succ_eq_append_getElem hk, tot_append]; simp [tot]
theorem tot_bound {B : Int} : ∀ {zs : List Int}, (∀ z ∈ zs, 0 ≤ z ∧ z ≤ B) → 0 ≤ tot zs ∧ tot zs ≤ B * zs.length
  | [], _ => by simp [tot]
  | z :: zs, h => by
    have h1 := h z (List.mem_cons_self ..)
    have h2 := tot_bound (B := B) (zs := zs) fun x hx => h x (List.mem_cons_of_mem _ hx)
    simp only [tot, List.length_cons]
    push_cast
    rw [Int.mul_add]
    omega
theorem tot_small {zs : List Int} (hl : zs.length ≤ 8) (h : okD zs) : 0 ≤ tot zs ∧ tot zs ≤ 512 := by
  have := tot_bound (B := 64) h
  have h2 : (64 : Int) * zs.length ≤ 64 * 8 := by omega
  omega
theorem okD_take {zs : List Int} (h : okD zs) (k : Nat) : okD (zs.take k) := fun z hz => h z (List.mem_of_mem_take hz)
theorem tot_take_small {zs : List Int} (hl : zs.length ≤ 8) (h : okD zs) (k : Nat) : 0 ≤ tot (zs.take k) ∧ tot (zs.take k) ≤ 512 := tot_small (by rw [List.length_take]; omega) (okD_take h k)

theorem min_if (z l : Int) : min z l = if l < z then l else z := by split <;> omega
/-- Cut at a level. -/
def cut (zs : List Int) (l : Int) : List Int := zs.map fun z => min z l
theorem cut_len (zs : List Int) (l : Int) : (cut zs l).length = zs.length := by simp [cut]
theorem cut_get {zs : List Int} {z l : Int} {k : Nat} (h : zs[k]? = some z) : (cut zs l)[k]? = some (min z l) := by unfold cut; rw [List.getElem?_map, h]; rfl
theorem cut_take_succ {zs : List Int} {z l : Int} {k : Nat} (h : zs[k]? = some z) : (cut zs l).take k ++ [min z l] = (cut zs l).take (k + 1) := by
  obtain ⟨hk, e⟩ := List.getElem?_eq_some_iff.1 (cut_get (l := l) h)
  rw [List.take_succ_eq_append_getElem hk, e]
theorem cut_ok {zs : List Int} (h : okD zs) {l : Int} (hl : 0 ≤ l) : okD (cut zs l) := by
  intro x hx
  obtain ⟨z, hz, rfl⟩ := List.mem_map.1 hx
  have := h z hz
  show 0 ≤ min z l ∧ min z l ≤ 64
  omega
theorem cut_mono (l m : Int) (h : l ≤ m) : ∀ zs : List Int, tot (cut zs l) ≤ tot (cut zs m)
  | [] => Int.le_refl _
  | z :: zs => by
    have := cut_mono l m h zs
    simp only [cut, List.map_cons, tot] at *
    omega
theorem cut_zero : ∀ {zs : List Int}, okD zs → tot (cut zs 0) = 0
  | [], _ => rfl
  | z :: zs, h => by
    have h1 := h z (List.mem_cons_self ..)
    have := cut_zero (zs := zs) fun x hx => h x (List.mem_cons_of_mem _ hx)
    simp only [cut, List.map_cons, tot] at *
    omega
theorem cut_all : ∀ {zs : List Int} {l : Int}, (∀ z ∈ zs, z ≤ l) → cut zs l = zs
  | [], _, _ => rfl
  | z :: zs, l, h => by
    have h1 := h z (List.mem_cons_self ..)
    have := cut_all (zs := zs) (l := l) fun x hx => h x (List.mem_cons_of_mem _ hx)
    simp only [cut, List.map_cons] at *
    rw [this, show min z l = z by omega]

/-- A sum up to k of what is cut. -/
theorem cut_tot_take {zs : List Int} {z l : Int} {k : Nat} (h : zs[k]? = some z) : tot ((cut zs l).take (k + 1)) = tot ((cut zs l).take k) + min z l := tot_take (cut_get h)

/-- The greatest level up to n at which the cut ones fit. -/
def lv (s : Int) (zs : List Int) : Nat → Nat
  | 0 => 0
  | n + 1 => if tot (cut zs ((n : Int) + 1)) ≤ s then n + 1 else lv s zs n
theorem lv_yes {s : Int} {zs : List Int} {n : Nat} (h : tot (cut zs ((n : Int) + 1)) ≤ s) : lv s zs (n + 1) = n + 1 := if_pos h
theorem lv_no {s : Int} {zs : List Int} {n : Nat} (h : ¬ tot (cut zs ((n : Int) + 1)) ≤ s) : lv s zs (n + 1) = lv s zs n := if_neg h
theorem lv_le (s : Int) (zs : List Int) : ∀ n, lv s zs n ≤ n
  | 0 => Nat.le_refl _
  | n + 1 => by unfold lv; have := lv_le s zs n; split <;> omega
/-- What the level for a supply is. -/
theorem lv_fits {s : Int} {zs : List Int} (hz : okD zs) (hs : 0 ≤ s) : ∀ n, tot (cut zs (lv s zs n : Nat)) ≤ s
  | 0 => by rw [show ((lv s zs 0 : Nat) : Int) = 0 from rfl, cut_zero hz]; exact hs
  | n + 1 => by
    by_cases h : tot (cut zs ((n : Int) + 1)) ≤ s
    · rw [lv_yes h]; push_cast; exact h
    · rw [lv_no h]; exact lv_fits hz hs n
theorem lv_next {s : Int} {zs : List Int} : ∀ n, lv s zs n < n → s < tot (cut zs ((lv s zs n : Nat) + 1 : Int))
  | 0, h => absurd h (Nat.lt_irrefl _)
  | n + 1, h => by
    by_cases c : tot (cut zs ((n : Int) + 1)) ≤ s
    · rw [lv_yes c] at h; omega
    · rw [lv_no c]
      by_cases e : lv s zs n = n
      · rw [e]; omega
      · exact lv_next n (by have := lv_le s zs n; omega)
/-- Found by halves. -/
theorem lv_is {s : Int} {zs : List Int} {i : Nat} (hz : okD zs) (hs : 0 ≤ s) (hi : i ≤ 64) (h1 : i = 0 ∨ tot (cut zs (i : Int)) ≤ s) (h2 : i = 64 ∨ s < tot (cut zs ((i : Int) + 1))) : lv s zs 64 = i := by
  have f := lv_fits hz hs 64
  have l := lv_le s zs 64
  rcases Nat.lt_trichotomy (lv s zs 64) i with h | h | h
  · have n := lv_next (s := s) (zs := zs) 64 (by omega)
    have m := cut_mono ((lv s zs 64 : Nat) + 1 : Int) (i : Int) (by omega) zs
    rcases h1 with h1 | h1 <;> omega
  · exact h
  · have m := cut_mono ((i : Int) + 1) ((lv s zs 64 : Nat) : Int) (by omega) zs
    rcases h2 with h2 | h2 <;> omega
/-- The level for a supply. -/
noncomputable def level (s : Int) (zs : List Int) : Nat := if dm zs = true ∧ 0 ≤ s ∧ s ≤ 512 then lv s zs 64 else 0
theorem level_yes {s : Int} {zs : List Int} (h : dm zs = true) (h1 : 0 ≤ s) (h2 : s ≤ 512) : level s zs = lv s zs 64 := if_pos ⟨h, h1, h2⟩
theorem level_no {s : Int} {zs : List Int} (h : ¬ (dm zs = true ∧ 0 ≤ s ∧ s ≤ 512)) : level s zs = 0 := if_neg h
/-- An eighth more for those above the level, as long as there is a rest: what there is, and the rest, behind k of them. -/
def more (l r : Int) (zs : List Int) : Nat → List Int × Int
  | 0 => (cut zs l, r)
  | k + 1 => if l < zs.getD k 0 ∧ 0 < (more l r zs k).2 then ((more l r zs k).1.set k (min (zs.getD k 0) l + 1), (more l r zs k).2 - 1) else more l r zs k
theorem getD_of {zs : List Int} {z : Int} {k : Nat} (h : zs[k]? = some z) : zs.getD k 0 = z := by rw [List.getD_eq_getElem?_getD, h]; rfl
theorem more_yes {l r : Int} {zs : List Int} {z : Int} {k : Nat} (h : zs[k]? = some z) (h1 : l < z) (h2 : 0 < (more l r zs k).2) : more l r zs (k + 1) = ((more l r zs k).1.set k (min z l + 1), (more l r zs k).2 - 1) := by
  show (if _ then _ else _) = _
  rw [getD_of h, if_pos ⟨h1, h2⟩]
theorem more_no {l r : Int} {zs : List Int} {z : Int} {k : Nat} (h : zs[k]? = some z) (h1 : ¬ (l < z ∧ 0 < (more l r zs k).2)) : more l r zs (k + 1) = more l r zs k := by
  show (if _ then _ else _) = _
  rw [getD_of h, if_neg h1]
theorem more_len (l r : Int) (zs : List Int) : ∀ k, (more l r zs k).1.length = zs.length
  | 0 => cut_len zs l
  | k + 1 => by
    show (if _ then _ else _ : List Int × Int).1.length = _
    split
    · rw [List.length_set]; exact more_len l r zs k
    · exact more_len l r zs k
theorem more_far (l r : Int) (zs : List Int) : ∀ k j, k ≤ j → (more l r zs k).1[j]? = (cut zs l)[j]?
  | 0, _, _ => rfl
  | k + 1, j, h => by
    show (if _ then _ else _ : List Int × Int).1[j]? = _
    split
    · rw [List.getElem?_set_ne (by omega)]; exact more_far l r zs k j (by omega)
    · exact more_far l r zs k j (by omega)
theorem more_at {l r : Int} {zs : List Int} {z : Int} {k : Nat} (h : zs[k]? = some z) : (more l r zs k).1[k]? = some (min z l) := (more_far l r zs k k (Nat.le_refl _)).trans (cut_get h)
theorem more_rest (l r : Int) (zs : List Int) (hr : 0 ≤ r) : ∀ k, 0 ≤ (more l r zs k).2 ∧ (more l r zs k).2 ≤ r
  | 0 => ⟨hr, Int.le_refl _⟩
  | k + 1 => by
    show 0 ≤ (if _ then _ else _ : List Int × Int).2 ∧ (if _ then _ else _ : List Int × Int).2 ≤ r
    have := more_rest l r zs hr k
    split
    · rename_i h
      show 0 ≤ (more l r zs k).2 - 1 ∧ (more l r zs k).2 - 1 ≤ r
      omega
    · exact this
/-- What is shared out. -/
noncomputable def share (s : Int) (zs : List Int) : List Int :=
  if dm zs = true ∧ 0 ≤ s ∧ s ≤ 512 then (more (lv s zs 64) (s - tot (cut zs (lv s zs 64))) zs zs.length).1 else []
theorem share_yes {s : Int} {zs : List Int} (h : dm zs = true) (h1 : 0 ≤ s) (h2 : s ≤ 512) : share s zs = (more (lv s zs 64) (s - tot (cut zs (lv s zs 64))) zs zs.length).1 := if_pos ⟨h, h1, h2⟩
theorem share_no {s : Int} {zs : List Int} (h : ¬ (dm zs = true ∧ 0 ≤ s ∧ s ≤ 512)) : share s zs = [] := if_neg h
/-- Shares in turn. -/
def turn : Int → List Int → List Int
  | _, [] => []
  | s, z :: zs => min z s :: turn (s - min z s) zs
/-- Whether a list is shares of demands. -/
def okS (zs ss : List Int) (k : Nat) : Prop := ∀ j, j < k → ∃ z s, zs[j]? = some z ∧ ss[j]? = some s ∧ 0 ≤ s ∧ s ≤ z
noncomputable def sh (zs ss : List Int) : Bool := @decide (ss.length = zs.length ∧ okS zs ss zs.length) (Classical.propDecidable _)
/-- Nobody lacks while another one has more than an eighth more. -/
def evenAt (zs ss : List Int) (i : Nat) (m : Nat) : Prop := ∀ k, k < m → ∀ z s t, zs[i]? = some z → ss[i]? = some s → ss[k]? = some t → s < z → t ≤ s + 1
def evenTo (zs ss : List Int) (n : Nat) : Prop := ∀ i, i < n → evenAt zs ss i ss.length
noncomputable def evB (zs ss : List Int) : Bool := @decide (evenTo zs ss ss.length) (Classical.propDecidable _)
/-- Whether shares are fair. -/
noncomputable def fair (n : Int) (zs ss : List Int) : Bool := @decide ((0 ≤ n ∧ n ≤ 512) ∧ dm zs = true ∧ sh zs ss = true ∧ tot ss = min n (tot zs) ∧ evB zs ss = true) (Classical.propDecidable _)
noncomputable def totB (zs : List Int) : Int := if dm zs = true then tot zs else 0
theorem totB_yes {zs : List Int} (h : dm zs = true) : totB zs = tot zs := if_pos h
theorem totB_no {zs : List Int} (h : dm zs = false) : totB zs = 0 := if_neg (by rw [h]; decide)
noncomputable def cutB (zs : List Int) (l : Int) : List Int := if dm zs = true ∧ 0 ≤ l then cut zs l else []
theorem cutB_yes {zs : List Int} {l : Int} (h : dm zs = true) (h1 : 0 ≤ l) : cutB zs l = cut zs l := if_pos ⟨h, h1⟩
theorem cutB_no {zs : List Int} {l : Int} (h : ¬ (dm zs = true ∧ 0 ≤ l)) : cutB zs l = [] := if_neg h
end Go.Proofs.YtejeikfgmiadhabGreat.Dm
