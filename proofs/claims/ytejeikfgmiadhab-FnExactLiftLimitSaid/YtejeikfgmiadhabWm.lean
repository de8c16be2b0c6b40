/- Winds as lists of numbers: which lists are winds, what drift there is at a tick, sums of drifts, and the changes of a list of drifts. -/
import Derived.Test.YtejeikfgmiadhabIw
import Derived.Test.YtejeikfgmiadhabGs
set_option linter.unusedVariables false
set_option linter.unusedSimpArgs false
namespace Go.Proofs.Ytejeikfgmiadhab.Wm
open Go.RowKit Go.Proofs.Ytejeikfgmiadhab.Jt Go.Proofs.Ytejeikfgmiadhab.Gs
set_option linter.unusedVariables false

/-- Whether a place is a drift. -/
def dk (x y : Int) : Bool := iw x (-8) 8 && iw y (-8) 8
theorem dk_iff {x y : Int} : dk x y = true ↔ (-8 ≤ x ∧ x ≤ 8) ∧ (-8 ≤ y ∧ y ≤ 8) := by unfold dk; rw [Bool.and_eq_true, iw_iff, iw_iff]

abbrev G := Int × Int × Int
/-- Whether the gust at i may stand there. -/
def okAt (zs : List G) (i : Nat) : Bool := match zs[i]? with
  | none => true
  | some z => iw z.1 0 64 && dk z.2.1 z.2.2 && (decide (i = 0) || match zs[i - 1]? with | none => true | some p => decide (p.1 < z.1))
def okUp (zs : List G) (k : Nat) : Bool := (List.range k).all (okAt zs)
/-- Whether a list is a wind. -/
def wd (zs : List G) : Bool := okUp zs zs.length && decide (zs.length ≤ 8)

theorem okUp_zero (zs : List G) : okUp zs 0 = true := rfl
theorem okUp_succ {zs : List G} {k : Nat} : okUp zs (k + 1) = (okUp zs k && okAt zs k) := by
  unfold okUp; rw [List.range_succ, List.all_append]; simp
theorem okUp_no {zs : List G} {k m : Nat} (hk : k < m) (h : okAt zs k = false) : okUp zs m = false := by
  unfold okUp; rw [List.all_eq_false]; exact ⟨k, List.mem_range.2 hk, by rw [h]; decide⟩
theorem okUp_at {zs : List G} {k m : Nat} (hk : k < m) (h : okUp zs m = true) : okAt zs k = true := by
  unfold okUp at h; exact List.all_eq_true.1 h k (List.mem_range.2 hk)

theorem ok_from {zs : List G} {k : Nat} {z : G} (hz : zs[k]? = some z) (h : iw z.1 0 64 = false) : okAt zs k = false := by
  unfold okAt; rw [hz]; simp [h]
theorem ok_drift {zs : List G} {k : Nat} {z : G} (hz : zs[k]? = some z) (h : dk z.2.1 z.2.2 = false) : okAt zs k = false := by
  unfold okAt; rw [hz]; simp [h]
theorem ok_first {zs : List G} {z : G} (hz : zs[0]? = some z) (h : iw z.1 0 64 = true) (h2 : dk z.2.1 z.2.2 = true) : okAt zs 0 = true := by
  unfold okAt; rw [hz]; simp [h, h2]
theorem ok_next {zs : List G} {k : Nat} {z p : G} (hz : zs[k]? = some z) (h : iw z.1 0 64 = true) (h2 : dk z.2.1 z.2.2 = true) (hk : k ≠ 0) (hp : zs[k - 1]? = some p) : okAt zs k = decide (p.1 < z.1) := by
  unfold okAt; rw [hz]; simp [h, h2, hk, hp]
theorem wd_no {zs : List G} {k n : Nat} (hn : zs.length = n) (hk : k < n) (h : okAt zs k = false) : wd zs = false := by
  unfold wd; rw [hn, okUp_no hk h]; rfl
theorem wd_long {zs : List G} {n : Nat} (hn : zs.length = n) (h : 8 < n) : wd zs = false := by
  unfold wd; rw [hn, decide_eq_false (p := n ≤ 8) (by omega), Bool.and_false]
theorem wd_fin {zs : List G} {n : Nat} (hn : zs.length = n) (h : okUp zs n = true) : wd zs = decide (n ≤ 8) := by
  unfold wd; rw [hn, h]; rfl
theorem wd_len {zs : List G} (h : wd zs = true) : zs.length ≤ 8 := by unfold wd at h; rw [Bool.and_eq_true, decide_eq_true_eq] at h; exact h.2

/-- Each gust of a wind begins at a tick from 0 to 64, and has a drift. -/
theorem wd_each {zs : List G} (h : wd zs = true) {k : Nat} {z : G} (hz : zs[k]? = some z) : (0 ≤ z.1 ∧ z.1 ≤ 64) ∧ (-8 ≤ z.2.1 ∧ z.2.1 ≤ 8) ∧ (-8 ≤ z.2.2 ∧ z.2.2 ≤ 8) := by
  have hk : k < zs.length := (List.getElem?_eq_some_iff.1 hz).1
  unfold wd at h
  rw [Bool.and_eq_true] at h
  have := okUp_at hk h.1
  unfold okAt at this
  rw [hz] at this
  simp only [Bool.and_eq_true] at this
  exact ⟨iw_iff.1 this.1.1, dk_iff.1 this.1.2⟩

/-- The drift at a tick: that of the last gust that has begun. -/
def dr (zs : List G) (t : Int) : Int × Int := zs.foldl (fun p z => if z.1 ≤ t then z.2 else p) (0, 0)
theorem dr_nil (t : Int) : dr [] t = (0, 0) := rfl
theorem dr_take {zs : List G} {k : Nat} {z : G} (h : zs[k]? = some z) (t : Int) : dr (zs.take (k + 1)) t = if z.1 ≤ t then z.2 else dr (zs.take k) t := by
  obtain ⟨hk, rfl⟩ := List.getElem?_eq_some_iff.1 h
  rw [List.take_succ_eq_append_getElem hk]
  unfold dr
  rw [List.foldl_append]; rfl
theorem dr_ind {zs : List G} {t : Int} (Q : Int × Int → Prop) (h0 : Q (0, 0)) (h : ∀ (k : Nat) (z : G), zs[k]? = some z → Q z.2) : Q (dr zs t) := by
  have key : ∀ k, k ≤ zs.length → Q (dr (zs.take k) t) := by
    intro k
    induction k with
    | zero => intro _; exact h0
    | succ k ih =>
      intro hk
      obtain ⟨z, hz⟩ : ∃ z, zs[k]? = some z := ⟨_, List.getElem?_eq_getElem (by omega)⟩
      rw [dr_take hz]
      split
      · exact h k z hz
      · exact ih (by omega)
  have := key zs.length (Nat.le_refl _)
  rwa [List.take_length] at this
theorem dr_bound {zs : List G} (h : wd zs = true) (t : Int) : (-8 ≤ (dr zs t).1 ∧ (dr zs t).1 ≤ 8) ∧ (-8 ≤ (dr zs t).2 ∧ (dr zs t).2 ≤ 8) :=
  dr_ind (fun p => (-8 ≤ p.1 ∧ p.1 ≤ 8) ∧ (-8 ≤ p.2 ∧ p.2 ≤ 8)) (by decide) fun k z hz => (wd_each h hz).2
theorem dr_neg {zs : List G} (h : wd zs = true) {t : Int} (ht : t < 0) : dr zs t = (0, 0) := by
  have key : ∀ k, k ≤ zs.length → dr (zs.take k) t = (0, 0) := by
    intro k
    induction k with
    | zero => intro _; rfl
    | succ k ih =>
      intro hk
      obtain ⟨z, hz⟩ : ∃ z, zs[k]? = some z := ⟨_, List.getElem?_eq_getElem (by omega)⟩
      have := (wd_each h hz).1
      rw [dr_take hz, if_neg (by omega)]
      exact ih (by omega)
  have := key zs.length (Nat.le_refl _)
  rwa [List.take_length] at this
/-- From tick 64 on the drift stays. -/
theorem dr_late {zs : List G} (h : wd zs = true) {t : Int} (ht : 64 ≤ t) : dr zs t = dr zs 64 := by
  have key : ∀ k, k ≤ zs.length → dr (zs.take k) t = dr (zs.take k) 64 := by
    intro k
    induction k with
    | zero => intro _; rfl
    | succ k ih =>
      intro hk
      obtain ⟨z, hz⟩ : ∃ z, zs[k]? = some z := ⟨_, List.getElem?_eq_getElem (by omega)⟩
      have := (wd_each h hz).1
      rw [dr_take hz, dr_take hz, if_pos (by omega), if_pos (by omega)]
  have := key zs.length (Nat.le_refl _)
  rwa [List.take_length] at this

/-- The drifts of m ticks from a on. -/
def drs (zs : List G) (a m : Nat) : List (Int × Int) := (List.range m).map fun j => dr zs ((a + j : Nat) : Int)
theorem drs_len (zs : List G) (a m : Nat) : (drs zs a m).length = m := by simp [drs]
theorem drs_get {zs : List G} {a m j : Nat} (h : j < m) : (drs zs a m)[j]? = some (dr zs ((a + j : Nat) : Int)) := by
  unfold drs; rw [List.getElem?_map, List.getElem?_range h]; rfl
theorem drs_take {zs : List G} {a m k : Nat} (h : k ≤ m) : (drs zs a m).take k = drs zs a k := by
  unfold drs; rw [← List.map_take, List.take_range, Nat.min_eq_left h]
theorem drs_drop {zs : List G} {m k : Nat} : (drs zs 0 m).drop k = drs zs k (m - k) := by
  apply List.ext_getElem?
  intro j
  rw [List.getElem?_drop]
  by_cases h : k + j < m
  · rw [drs_get h, drs_get (by omega), Nat.zero_add]
  · rw [List.getElem?_eq_none (by rw [drs_len]; omega), List.getElem?_eq_none (by rw [drs_len]; omega)]
theorem drs_snoc (zs : List G) (a m : Nat) : drs zs a (m + 1) = drs zs a m ++ [dr zs ((a + m : Nat) : Int)] := by
  unfold drs; rw [List.range_succ, List.map_append]; rfl

def plus (p q : Int × Int) : Int × Int := (p.1 + q.1, p.2 + q.2)
/-- The sum of a list of places. -/
def sum2 (l : List (Int × Int)) : Int × Int := l.foldl plus (0, 0)
theorem sum2_snoc (l : List (Int × Int)) (p : Int × Int) : sum2 (l ++ [p]) = plus (sum2 l) p := by unfold sum2; rw [List.foldl_append]; rfl
theorem sum2_take {l : List (Int × Int)} {k : Nat} {p : Int × Int} (h : l[k]? = some p) : sum2 (l.take (k + 1)) = plus (sum2 (l.take k)) p := by
  obtain ⟨hk, rfl⟩ := List.getElem?_eq_some_iff.1 h
  rw [List.take_succ_eq_append_getElem hk, sum2_snoc]
theorem sum2_bound {l : List (Int × Int)} {D : Int} (h0 : 0 ≤ D) (h : ∀ p ∈ l, (-D ≤ p.1 ∧ p.1 ≤ D) ∧ (-D ≤ p.2 ∧ p.2 ≤ D)) (k : Nat) (hk : k ≤ l.length) :
    (-(D * k) ≤ (sum2 (l.take k)).1 ∧ (sum2 (l.take k)).1 ≤ D * k) ∧ (-(D * k) ≤ (sum2 (l.take k)).2 ∧ (sum2 (l.take k)).2 ≤ D * k) := by
  induction k with
  | zero => simp [sum2]
  | succ k ih =>
    obtain ⟨p, hp⟩ : ∃ p, l[k]? = some p := ⟨_, List.getElem?_eq_getElem (by omega)⟩
    rw [sum2_take hp]
    have h1 := ih (by omega)
    have h2 := h p (List.mem_of_getElem? hp)
    unfold plus
    rw [show D * ((k + 1 : Nat) : Int) = D * k + D by rw [Int.natCast_add, Int.mul_add]; simp]
    refine ⟨⟨?_, ?_⟩, ?_, ?_⟩ <;> simp only <;> omega

/-- The place before, at the k-th one of a list. -/
def was (l : List (Int × Int)) (k : Nat) : Int × Int := if k = 0 then (0, 0) else l.getD (k - 1) (0, 0)
/-- The changes of a list of places, the one before the first being 0, 0. -/
def chgs (l : List (Int × Int)) (k : Nat) : List G := ((List.range k).filter fun j : Nat => decide (l.getD j (0, 0) ≠ was l j)).map fun j : Nat => ((j : Int), l.getD j (0, 0))
def chg (l : List (Int × Int)) : List G := chgs l l.length
theorem chgs_zero (l : List (Int × Int)) : chgs l 0 = [] := rfl
theorem chgs_yes {l : List (Int × Int)} {k : Nat} {p : Int × Int} (h : l[k]? = some p) (hp : p ≠ was l k) : chgs l (k + 1) = chgs l k ++ [((k : Int), p)] := by
  unfold chgs
  have e : l.getD k (0, 0) = p := by rw [List.getD_eq_getElem?_getD, h]; rfl
  rw [List.range_succ, List.filter_append, List.map_append]
  simp only [List.filter_cons, e, List.filter_nil, decide_eq_true hp, if_true, List.map_cons, List.map_nil]
theorem chgs_no {l : List (Int × Int)} {k : Nat} {p : Int × Int} (h : l[k]? = some p) (hp : p = was l k) : chgs l (k + 1) = chgs l k := by
  unfold chgs
  have e : l.getD k (0, 0) = p := by rw [List.getD_eq_getElem?_getD, h]; rfl
  rw [List.range_succ, List.filter_append, List.map_append]
  have : decide (p ≠ was l k) = false := decide_eq_false (by simpa using hp)
  simp only [List.filter_cons, e, List.filter_nil, this]
  simp
theorem chgs_len (l : List (Int × Int)) (k : Nat) : (chgs l k).length ≤ k := by
  unfold chgs; rw [List.length_map]; have := List.length_filter_le (fun j => decide (l.getD j (0, 0) ≠ was l j)) (List.range k); simpa using this
theorem was_next {l : List (Int × Int)} {k : Nat} {p : Int × Int} (h : l[k]? = some p) : was l (k + 1) = p := by
  unfold was; rw [if_neg (by omega), Nat.add_sub_cancel, List.getD_eq_getElem?_getD, h]; rfl
theorem was_zero (l : List (Int × Int)) : was l 0 = (0, 0) := rfl

end Go.Proofs.Ytejeikfgmiadhab.Wm
