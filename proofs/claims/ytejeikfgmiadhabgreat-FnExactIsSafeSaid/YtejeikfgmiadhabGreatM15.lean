/- Why shares are fair, and how those for more water compare: numbers only. -/
import Derived.Test.YtejeikfgmiadhabGreatDm
import Derived.Test.YtejeikfgmiadhabGreatM8
import Derived.Test.YtejeikfgmiadhabGreatM5
set_option linter.unusedVariables false
set_option linter.unusedSimpArgs false
namespace Go.Proofs.YtejeikfgmiadhabGreat.Dn
open Go.Proofs.YtejeikfgmiadhabGreat.Dm
set_option linter.unusedVariables false
set_option linter.unusedSimpArgs false

theorem tot_set : ∀ (l : List Int) (k : Nat) (v a : Int), l[k]? = some a → tot (l.set k v) = tot l - a + v
  | [], _, _, _, h => by simp at h
  | x :: l, 0, v, a, h => by simp at h; subst h; simp only [List.set_cons_zero, tot]; omega
  | x :: l, k + 1, v, a, h => by
    have := tot_set l k v a (by simpa using h)
    simp only [List.set_cons_succ, tot]; omega
/-- Sums of lists that compare place by place. -/
theorem tot_le : ∀ (a b : List Int), a.length = b.length → (∀ (j : Nat) (x y : Int), a[j]? = some x → b[j]? = some y → x ≤ y) → tot a ≤ tot b
  | [], [], _, _ => Int.le_refl _
  | [], _ :: _, h, _ => by simp at h
  | _ :: _, [], h, _ => by simp at h
  | x :: a, y :: b, h, k => by
    have h0 := k 0 x y rfl rfl
    have := tot_le a b (by simpa using h) fun j p q e1 e2 => k (j + 1) p q (by simpa using e1) (by simpa using e2)
    simp only [tot]; omega
/-- What is known behind k of them. -/
theorem more_inv (l r : Int) (zs : List Int) (hr : 0 ≤ r) : ∀ k, k ≤ zs.length →
    tot (more l r zs k).1 + (more l r zs k).2 = tot (cut zs l) + r ∧
    (∀ (j : Nat) (z : Int), zs[j]? = some z → ∃ s, (more l r zs k).1[j]? = some s ∧ min z l ≤ s ∧ s ≤ min z l + 1 ∧ s ≤ z) ∧
    (0 < (more l r zs k).2 → ∀ (j : Nat) (z : Int), j < k → zs[j]? = some z → l < z → (more l r zs k).1[j]? = some (l + 1))
  | 0, _ => ⟨rfl, fun j z h => ⟨min z l, cut_get h, by omega, by omega, by omega⟩, fun _ j z h => absurd h (Nat.not_lt_zero _)⟩
  | k + 1, hk => by
    obtain ⟨i1, i2, i3⟩ := more_inv l r zs hr k (by omega)
    obtain ⟨z, hz⟩ : ∃ z, zs[k]? = some z := ⟨_, List.getElem?_eq_getElem (by omega)⟩
    have hat := more_at (l := l) (r := r) hz
    by_cases c : l < z ∧ 0 < (more l r zs k).2
    · rw [more_yes hz c.1 c.2]
      refine ⟨?_, ?_, ?_⟩
      · show tot ((more l r zs k).1.set k (min z l + 1)) + ((more l r zs k).2 - 1) = _
        rw [tot_set _ _ _ _ hat]; omega
      · intro j y hy
        by_cases e : k = j
        · subst e
          rw [hz] at hy; cases hy
          have hb := (List.getElem?_eq_some_iff.1 hat).1
          exact ⟨min z l + 1, by show ((more l r zs k).1.set k (min z l + 1))[k]? = _; rw [List.getElem?_set_self hb], by omega, by omega, by omega⟩
        · obtain ⟨s, h1, h2⟩ := i2 j y hy
          exact ⟨s, by show ((more l r zs k).1.set k (min z l + 1))[j]? = _; rw [List.getElem?_set_ne e]; exact h1, h2⟩
      · intro h j y hj hy hl
        have h : 0 < (more l r zs k).2 - 1 := h
        by_cases e : k = j
        · subst e
          rw [hz] at hy; cases hy
          have hb := (List.getElem?_eq_some_iff.1 hat).1
          show ((more l r zs k).1.set k (min z l + 1))[k]? = _
          rw [List.getElem?_set_self hb, show min z l = l by omega]
        · show ((more l r zs k).1.set k (min z l + 1))[j]? = _
          rw [List.getElem?_set_ne e]; exact i3 (by omega) j y (by omega) hy hl
    · rw [more_no hz c]
      refine ⟨i1, i2, fun h j y hj hy hl => ?_⟩
      by_cases e : j = k
      · subst e; rw [hz] at hy; cases hy; exact absurd ⟨hl, h⟩ c
      · exact i3 h j y (by omega) hy hl
/-- What is shared out of a supply among demands: all that the law asks. -/
theorem share_facts {n : Int} {zs : List Int} (hd : dm zs = true) (h0 : 0 ≤ n) (h5 : n ≤ 512) :
    (share n zs).length = zs.length ∧ tot (share n zs) = min n (tot zs) ∧
    ∀ (j : Nat) (z : Int), zs[j]? = some z → ∃ s, (share n zs)[j]? = some s ∧ min z (lv n zs 64 : Nat) ≤ s ∧ s ≤ min z (lv n zs 64 : Nat) + 1 ∧ s ≤ z := by
  have hz := (dm_iff.1 hd).2
  have fits := lv_fits (s := n) hz h0 64
  have nxt := lv_next (s := n) (zs := zs) 64
  have le := lv_le n zs 64
  rw [share_yes hd h0 h5]
  obtain ⟨L, hL⟩ : ∃ L, lv n zs 64 = L := ⟨_, rfl⟩
  rw [hL] at fits nxt le ⊢
  obtain ⟨r, hr⟩ : ∃ r, n - tot (cut zs (L : Int)) = r := ⟨_, rfl⟩
  rw [hr]
  have hr0 : 0 ≤ r := by omega
  obtain ⟨i1, i2, i3⟩ := more_inv (L : Int) r zs hr0 zs.length (Nat.le_refl _)
  have hlen := more_len (L : Int) r zs zs.length
  have hq := more_rest (L : Int) r zs hr0 zs.length
  refine ⟨hlen, ?_, i2⟩
  have hle : tot (more (L : Int) r zs zs.length).1 ≤ tot zs := tot_le _ _ hlen fun j x y e1 e2 => by
    obtain ⟨s, h1, _, _, h4⟩ := i2 j y e2
    rw [h1] at e1; cases e1; exact h4
  by_cases c : 0 < (more (L : Int) r zs zs.length).2
  · have full : (more (L : Int) r zs zs.length).1 = cut zs ((L : Int) + 1) := by
      apply List.ext_getElem?
      intro j
      by_cases hj : j < zs.length
      · have e : zs[j]? = some zs[j] := List.getElem?_eq_getElem hj
        rw [cut_get e]
        by_cases g : (L : Int) < zs[j]
        · rw [i3 c j _ hj e g, show min zs[j] ((L : Int) + 1) = (L : Int) + 1 by omega]
        · obtain ⟨s, h1, h2, _, h4⟩ := i2 j _ e
          rw [h1]; congr 1; omega
      · rw [List.getElem?_eq_none (by rw [hlen]; omega), List.getElem?_eq_none (by rw [cut_len]; omega)]
    by_cases hL64 : L < 64
    · have := nxt hL64
      rw [full] at i1
      omega
    · have e64 : cut zs ((L : Int) + 1) = zs := cut_all fun z h => by have := (hz z h).2; omega
      rw [full, e64] at i1 ⊢
      omega
  · omega
end Go.Proofs.YtejeikfgmiadhabGreat.Dn
namespace Go.Proofs.YtejeikfgmiadhabGreat.Wm
open Go.RowKit Go.Proofs.YtejeikfgmiadhabGreat.Jt Go.Proofs.YtejeikfgmiadhabGreat.Gs
set_option linter.unusedVariables false

/-- Whether a place is a drift. -/
def dk (x y : Int) : Bool := iw x (-8) 8 && iw y (-8) 8
theorem dk_iff {x y : Int} : dk x y = true ↔ (-8 ≤ x ∧ x ≤ 8) ∧ (-8 ≤ y ∧ y ≤ 8) := by unfold dk; rw [Bool.and_eq_true, iw_iff, iw_iff]

abbrev G := Int × Int × Int
/-- Whether the gust at i may stand there. -/
def okAt (zs : List G) (i : Nat) : Bool := match zs[i]? with
  | none => true
  | some z => iw z.1 0 64 && dk z.2.1 z.2.2 && (decide (i = 0) || match zs[i - 1]? with | none => true | some p => decide (p.1 < z.1))
def okUp (zs : List G) (k : Nat) : Bool := (List.range k).all (okAt zs)
/-- Whether a list is a wind. -/
def wd (zs : List G) : Bool := okUp zs zs.length && decide (zs.length ≤ 8)

theorem okUp_zero (zs : List G) : okUp zs 0 = true := rfl
theorem okUp_succ {zs : List G} {k : Nat} : okUp zs (k + 1) = (okUp zs k && okAt zs k) := by
  unfold okUp; rw [List.range_succ, List.all_append]; simp
theorem okUp_no {zs : List G} {k m : Nat} (hk : k < m) (h : okAt zs k = false) : okUp zs m = false := by
  unfold okUp; rw [List.all_eq_false]; exact ⟨k, List.mem_range.2 hk, by rw [h]; decide⟩
theorem okUp_at {zs : List G} {k m : Nat} (hk : k < m) (h : okUp zs m = true) : okAt zs k = true := by
  unfold okUp at h; exact List.all_eq_true.1 h k (List.mem_range.2 hk)

theorem ok_from {zs : List G} {k : Nat} {z : G} (hz : zs[k]? = some z) (h : iw z.1 0 64 = false) : okAt zs k = false := by
  unfold okAt; rw [hz]; simp [h]
theorem ok_drift {zs : List G} {k : Nat} {z : G} (hz : zs[k]? = some z) (h : dk z.2.1 z.2.2 = false) : okAt zs k = false := by
  unfold okAt; rw [hz]; simp [h]
theorem ok_first {zs : List G} {z : G} (hz : zs[0]? = some z) (h : iw z.1 0 64 = true) (h2 : dk z.2.1 z.2.2 = true) : okAt zs 0 = true := by
  unfold okAt; rw [hz]; simp [h, h2]
theorem ok_next {zs : List G} {k : Nat} {z p : G} (hz : zs[k]? = some z) (h : iw z.1 0 64 = true) (h2 : dk z.2.1 z.2.2 = true) (hk : k ≠ 0) (hp : zs[k - 1]? = some p) : okAt zs k = decide (p.1 < z.1) := by
  unfold okAt; rw [hz]; simp [h, h2, hk, hp]
theorem wd_no {zs : List G} {k n : Nat} (hn : zs.length = n) (hk : k < n) (h : okAt zs k = false) : wd zs = false := by
  unfold wd; rw [hn, okUp_no hk h]; rfl
theorem wd_long {zs : List G} {n : Nat} (hn : zs.length = n) (h : 8 < n) : wd zs = false := by
  unfold wd; rw [hn, decide_eq_false (p := n ≤ 8) (by omega), Bool.and_false]
theorem wd_fin {zs : List G} {n : Nat} (hn : zs.length = n) (h : okUp zs n = true) : wd zs = decide (n ≤ 8) := by
  unfold wd; rw [hn, h]; rfl
/-- Each gust of a wind begins at a tick from 0 to 64, and has a drift. -/
theorem wd_each {zs : List G} (h : wd zs = true) {k : Nat} {z : G} (hz : zs[k]? = some z) : (0 ≤ z.1 ∧ z.1 ≤ 64) ∧ (-8 ≤ z.2.1 ∧ z.2.1 ≤ 8) ∧ (-8 ≤ z.2.2 ∧ z.2.2 ≤ 8) := by
  have hk : k < zs.length := (List.getElem?_eq_some_iff.1 hz).1
  unfold wd at h
  rw [Bool.and_eq_true] at h
  have := okUp_at hk h.1
  unfold okAt at this
  rw [hz] at this
  simp only [Bool.and_eq_true] at this
  exact ⟨iw_iff.1 this.1.1, dk_iff.1 this.1.2⟩

/-- The drift at a tick: that of the last gust that has begun. -/
def dr (zs : List G) (t : Int) : Int × Int := zs.foldl (fun p z => if z.1 ≤ t then z.2 else p) (0, 0)
theorem dr_take {zs : List G} {k : Nat} {z : G} (h : zs[k]? = some z) (t : Int) : dr (zs.take (k + 1)) t = if z.1 ≤ t then z.2 else dr (zs.take k) t := by
  obtain ⟨hk, rfl⟩ := List.getElem?_eq_some_iff.1 h
  rw [List.take_succ_eq_append_getElem hk]
  unfold dr
  rw [List.foldl_append]; rfl
theorem dr_ind {zs : List G} {t : Int} (Q : Int × Int → Prop) (h0 : Q (0, 0)) (h : ∀ (k : Nat) (z : G), zs[k]? = some z → Q z.2) : Q (dr zs t) := by
  have key : ∀ k, k ≤ zs.length → Q (dr (zs.take k) t) := by
    intro k
    induction k with
    | zero => intro _; exact h0
    | succ k ih =>
      intro hk
      obtain ⟨z, hz⟩ : ∃ z, zs[k]? = some z := ⟨_, List.getElem?_eq_getElem (by omega)⟩
      rw [dr_take hz]
      split
      · exact h k z hz
      · exact ih (by omega)
  have := key zs.length (Nat.le_refl _)
  rwa [List.take_length] at this
theorem dr_bound {zs : List G} (h : wd zs = true) (t : Int) : (-8 ≤ (dr zs t).1 ∧ (dr zs t).1 ≤ 8) ∧ (-8 ≤ (dr zs t).2 ∧ (dr zs t).2 ≤ 8) :=
  dr_ind (fun p => (-8 ≤ p.1 ∧ p.1 ≤ 8) ∧ (-8 ≤ p.2 ∧ p.2 ≤ 8)) (by decide) fun k z hz => (wd_each h hz).2
/-- From tick 64 on the drift stays. -/
theorem dr_late {zs : List G} (h : wd zs = true) {t : Int} (ht : 64 ≤ t) : dr zs t = dr zs 64 := by
  have key : ∀ k, k ≤ zs.length → dr (zs.take k) t = dr (zs.take k) 64 := by
    intro k
    induction k with
    | zero => intro _; rfl
    | succ k ih =>
      intro hk
      obtain ⟨z, hz⟩ : ∃ z, zs[k]? = some z := ⟨_, List.getElem?_eq_getElem (by omega)⟩
      have := (wd_each h hz).1
      rw [dr_take hz, dr_take hz, if_pos (by omega), if_pos (by omega)]
  have := key zs.length (Nat.le_refl _)
  rwa [List.take_length] at this

/-- The drifts of m ticks from a on. -/
def drs (zs : List G) (a m : Nat) : List (Int × Int) := (List.range m).map fun j => dr zs ((a + j : Nat) : Int)
theorem drs_len (zs : List G) (a m : Nat) : (drs zs a m).length = m := by simp [drs]
theorem drs_get {zs : List G} {a m j : Nat} (h : j < m) : (drs zs a m)[j]? = some (dr zs ((a + j : Nat) : Int)) := by
  unfold drs; rw [List.getElem?_map, List.getElem?_range h]; rfl
theorem drs_take {zs : List G} {a m k : Nat} (h : k ≤ m) : (drs zs a m).take k = drs zs a k := by
  unfold drs; rw [← List.map_take, List.take_range, Nat.min_eq_left h]
theorem drs_drop {zs : List G} {m k : Nat} : (drs zs 0 m).drop k = drs zs k (m - k) := by
  apply List.ext_getElem?
  intro j
  rw [List.getElem?_drop]
  by_cases h : k + j < m
  · rw [drs_get h, drs_get (by omega), Nat.zero_add]
  · rw [List.getElem?_eq_none (by rw [drs_len]; omega), List.getElem?_eq_none (by rw [drs_len]; omega)]
/-- The place before, at the k-th one of a list. -/
def was (l : List (Int × Int)) (k : Nat) : Int × Int := if k = 0 then (0, 0) else l.getD (k - 1) (0, 0)
/-- The changes of a list of places, the one before the first being 0, 0. -/
def chgs (l : List (Int × Int)) (k : Nat) : List G := ((List.range k).filter fun j : Nat => decide (l.getD j (0, 0) ≠ was l j)).map fun j : Nat => ((j : Int), l.getD j (0, 0))
def chg (l : List (Int × Int)) : List G := chgs l l.length
theorem chgs_yes {l : List (Int × Int)} {k : Nat} {p : Int × Int} (h : l[k]? = some p) (hp : p ≠ was l k) : chgs l (k + 1) = chgs l k ++ [((k : Int), p)] := by
  unfold chgs
  have e : l.getD k (0, 0) = p := by rw [List.getD_eq_getElem?_getD, h]; rfl
  rw [List.range_succ, List.filter_append, List.map_append]
  simp only [List.filter_cons, e, List.filter_nil, decide_eq_true hp, if_true, List.map_cons, List.map_nil]
theorem chgs_no {l : List (Int × Int)} {k : Nat} {p : Int × Int} (h : l[k]? = some p) (hp : p = was l k) : chgs l (k + 1) = chgs l k := by
  unfold chgs
  have e : l.getD k (0, 0) = p := by rw [List.getD_eq_getElem?_getD, h]; rfl
  rw [List.range_succ, List.filter_append, List.map_append]
  have : decide (p ≠ was l k) = false := decide_eq_false (by simpa using hp)
  simp only [List.filter_cons, e, List.filter_nil, this]
  simp
theorem was_next {l : List (Int × Int)} {k : Nat} {p : Int × Int} (h : l[k]? = some p) : was l (k + 1) = p := by
  unfold was; rw [if_neg (by omega), Nat.add_sub_cancel, List.getD_eq_getElem?_getD, h]; rfl
theorem was_zero (l : List (Int × Int)) : was l 0 = (0, 0) := rfl

end Go.Proofs.YtejeikfgmiadhabGreat.Wm
