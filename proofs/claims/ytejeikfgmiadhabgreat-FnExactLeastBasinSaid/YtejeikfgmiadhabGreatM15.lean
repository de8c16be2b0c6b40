/- Why shares are fair, and how those for more water compare: numbers only. -/
import Derived.Test.YtejeikfgmiadhabGreatDm
import Derived.Test.YtejeikfgmiadhabGreatM8
import Derived.Test.YtejeikfgmiadhabGreatM5
namespace Go.Proofs.YtejeikfgmiadhabGreat.Dn
open Go.Proofs.YtejeikfgmiadhabGreat.Dm
set_option linter.unusedVariables false
set_option linter.unusedSimpArgs false

theorem tot_set : ∀ (l : List Int) (k : Nat) (v a : Int), l[k]? = some a → tot (l.set k v) = tot l - a + v
  | [], _, _, _, h => by simp at h
  | x :: l, 0, v, a, h => by simp at h; subst h; simp only [List.set_cons_zero, tot]; omega
  | x :: l, k + 1, v, a, h => by
    have := tot_set l k v a (by simpa using h)
    simp only [List.set_cons_succ, tot]; omega
/-- Sums of lists that compare place by place. -/
theorem tot_le : ∀ (a b : List Int), a.length = b.length → (∀ (j : Nat) (x y : Int), a[j]? = some x → b[j]? = some y → x ≤ y) → tot a ≤ tot b
  | [], [], _, _ => Int.le_refl _
  | [], _ :: _, h, _ => by simp at h
  | _ :: _, [], h, _ => by simp at h
  | x :: a, y :: b, h, k => by
    have h0 := k 0 x y rfl rfl
    have := tot_le a b (by simpa using h) fun j p q e1 e2 => k (j + 1) p q (by simpa using e1) (by simpa using e2)
    simp only [tot]; omega
theorem tot_lt : ∀ (a b : List Int) (i : Nat) (p q : Int), a.length = b.length → (∀ (j : Nat) (x y : Int), a[j]? = some x → b[j]? = some y → x ≤ y) → a[i]? = some p → b[i]? = some q → p < q → tot a < tot b
  | [], _, _, _, _, _, _, h, _, _ => by simp at h
  | _ :: _, [], _, _, _, h, _, _, _, _ => by simp at h
  | x :: a, y :: b, 0, p, q, h, k, e1, e2, hl => by
    simp at e1 e2; subst e1 e2
    have := tot_le a b (by simpa using h) fun j p q e1 e2 => k (j + 1) p q (by simpa using e1) (by simpa using e2)
    simp only [tot]; omega
  | x :: a, y :: b, i + 1, p, q, h, k, e1, e2, hl => by
    have h0 := k 0 x y rfl rfl
    have := tot_lt a b i p q (by simpa using h) (fun j p q e1 e2 => k (j + 1) p q (by simpa using e1) (by simpa using e2)) (by simpa using e1) (by simpa using e2) hl
    simp only [tot]; omega
/-- Equal sums of lists that compare place by place: equal lists. -/
theorem tot_eq {a b : List Int} (h : a.length = b.length) (k : ∀ (j : Nat) (x y : Int), a[j]? = some x → b[j]? = some y → x ≤ y) (e : tot a = tot b) : a = b := by
  apply List.ext_getElem h
  intro i h1 h2
  have e1 : a[i]? = some a[i] := List.getElem?_eq_getElem h1
  have e2 : b[i]? = some b[i] := List.getElem?_eq_getElem h2
  have := k i _ _ e1 e2
  by_cases c : a[i] = b[i]
  · exact c
  · have := tot_lt a b i _ _ h k e1 e2 (by omega)
    omega

/-- What is known behind k of them. -/
theorem more_inv (l r : Int) (zs : List Int) (hr : 0 ≤ r) : ∀ k, k ≤ zs.length →
    tot (more l r zs k).1 + (more l r zs k).2 = tot (cut zs l) + r ∧
    (∀ (j : Nat) (z : Int), zs[j]? = some z → ∃ s, (more l r zs k).1[j]? = some s ∧ min z l ≤ s ∧ s ≤ min z l + 1 ∧ s ≤ z) ∧
    (0 < (more l r zs k).2 → ∀ (j : Nat) (z : Int), j < k → zs[j]? = some z → l < z → (more l r zs k).1[j]? = some (l + 1))
  | 0, _ => ⟨rfl, fun j z h => ⟨min z l, cut_get h, by omega, by omega, by omega⟩, fun _ j z h => absurd h (Nat.not_lt_zero _)⟩
  | k + 1, hk => by
    obtain ⟨i1, i2, i3⟩ := more_inv l r zs hr k (by omega)
    obtain ⟨z, hz⟩ : ∃ z, zs[k]? = some z := ⟨_, List.getElem?_eq_getElem (by omega)⟩
    have hat := more_at (l := l) (r := r) hz
    by_cases c : l < z ∧ 0 < (more l r zs k).2
    · rw [more_yes hz c.1 c.2]
      refine ⟨?_, ?_, ?_⟩
      · show tot ((more l r zs k).1.set k (min z l + 1)) + ((more l r zs k).2 - 1) = _
        rw [tot_set _ _ _ _ hat]; omega
      · intro j y hy
        by_cases e : k = j
        · subst e
          rw [hz] at hy; cases hy
          have hb := (List.getElem?_eq_some_iff.1 hat).1
          exact ⟨min z l + 1, by show ((more l r zs k).1.set k (min z l + 1))[k]? = _; rw [List.getElem?_set_self hb], by omega, by omega, by omega⟩
        · obtain ⟨s, h1, h2⟩ := i2 j y hy
          exact ⟨s, by show ((more l r zs k).1.set k (min z l + 1))[j]? = _; rw [List.getElem?_set_ne e]; exact h1, h2⟩
      · intro h j y hj hy hl
        have h : 0 < (more l r zs k).2 - 1 := h
        by_cases e : k = j
        · subst e
          rw [hz] at hy; cases hy
          have hb := (List.getElem?_eq_some_iff.1 hat).1
          show ((more l r zs k).1.set k (min z l + 1))[k]? = _
          rw [List.getElem?_set_self hb, show min z l = l by omega]
        · show ((more l r zs k).1.set k (min z l + 1))[j]? = _
          rw [List.getElem?_set_ne e]; exact i3 (by omega) j y (by omega) hy hl
    · rw [more_no hz c]
      refine ⟨i1, i2, fun h j y hj hy hl => ?_⟩
      by_cases e : j = k
      · subst e; rw [hz] at hy; cases hy; exact absurd ⟨hl, h⟩ c
      · exact i3 h j y (by omega) hy hl
theorem more_mono (l r : Int) (zs : List Int) (hr : 0 ≤ r) : ∀ k, k ≤ zs.length →
    (more l r zs k).2 ≤ (more l (r + 1) zs k).2 ∧ ∀ (j : Nat) (a b : Int), (more l r zs k).1[j]? = some a → (more l (r + 1) zs k).1[j]? = some b → a ≤ b
  | 0, _ => ⟨by show r ≤ r + 1; omega, fun j a b e1 e2 => by have e1 : (cut zs l)[j]? = some a := e1
                                                             have e2 : (cut zs l)[j]? = some b := e2
                                                             rw [e1] at e2; cases e2; exact Int.le_refl _⟩
  | k + 1, hk => by
    obtain ⟨i1, i2⟩ := more_mono l r zs hr k (by omega)
    obtain ⟨z, hz⟩ : ∃ z, zs[k]? = some z := ⟨_, List.getElem?_eq_getElem (by omega)⟩
    have hat := more_at (l := l) (r := r) hz
    have hbt := more_at (l := l) (r := r + 1) hz
    have q := more_rest l r zs hr k
    by_cases c : l < z ∧ 0 < (more l r zs k).2
    · rw [more_yes hz c.1 c.2, more_yes hz c.1 (by omega)]
      refine ⟨by show (more l r zs k).2 - 1 ≤ (more l (r + 1) zs k).2 - 1; omega, fun j a b e1 e2 => ?_⟩
      have e1 : ((more l r zs k).1.set k (min z l + 1))[j]? = some a := e1
      have e2 : ((more l (r + 1) zs k).1.set k (min z l + 1))[j]? = some b := e2
      by_cases e : k = j
      · subst e
        rw [List.getElem?_set_self (List.getElem?_eq_some_iff.1 hat).1] at e1
        rw [List.getElem?_set_self (List.getElem?_eq_some_iff.1 hbt).1] at e2
        cases e1; cases e2; exact Int.le_refl _
      · rw [List.getElem?_set_ne e] at e1 e2
        exact i2 j a b e1 e2
    · rw [more_no hz c]
      by_cases d : l < z ∧ 0 < (more l (r + 1) zs k).2
      · rw [more_yes hz d.1 d.2]
        refine ⟨by show (more l r zs k).2 ≤ (more l (r + 1) zs k).2 - 1; omega, fun j a b e1 e2 => ?_⟩
        have e2 : ((more l (r + 1) zs k).1.set k (min z l + 1))[j]? = some b := e2
        by_cases e : k = j
        · subst e
          rw [List.getElem?_set_self (List.getElem?_eq_some_iff.1 hbt).1] at e2
          rw [hat] at e1
          cases e1; cases e2; omega
        · rw [List.getElem?_set_ne e] at e2
          exact i2 j a b e1 e2
      · rw [more_no hz d]; exact ⟨i1, i2⟩

theorem cut_le (zs : List Int) (l : Int) : ∀ (j : Nat) (x y : Int), (cut zs l)[j]? = some x → zs[j]? = some y → x ≤ y := fun j x y e1 e2 => by
  rw [cut_get e2] at e1; cases e1; omega
/-- What is shared out of a supply among demands: all that the law asks. -/
theorem share_facts {n : Int} {zs : List Int} (hd : dm zs = true) (h0 : 0 ≤ n) (h5 : n ≤ 512) :
    (share n zs).length = zs.length ∧ tot (share n zs) = min n (tot zs) ∧
    ∀ (j : Nat) (z : Int), zs[j]? = some z → ∃ s, (share n zs)[j]? = some s ∧ min z (lv n zs 64 : Nat) ≤ s ∧ s ≤ min z (lv n zs 64 : Nat) + 1 ∧ s ≤ z := by
  have hz := (dm_iff.1 hd).2
  have fits := lv_fits (s := n) hz h0 64
  have nxt := lv_next (s := n) (zs := zs) 64
  have le := lv_le n zs 64
  rw [share_yes hd h0 h5]
  obtain ⟨L, hL⟩ : ∃ L, lv n zs 64 = L := ⟨_, rfl⟩
  rw [hL] at fits nxt le ⊢
  obtain ⟨r, hr⟩ : ∃ r, n - tot (cut zs (L : Int)) = r := ⟨_, rfl⟩
  rw [hr]
  have hr0 : 0 ≤ r := by omega
  obtain ⟨i1, i2, i3⟩ := more_inv (L : Int) r zs hr0 zs.length (Nat.le_refl _)
  have hlen := more_len (L : Int) r zs zs.length
  have hq := more_rest (L : Int) r zs hr0 zs.length
  refine ⟨hlen, ?_, i2⟩
  have hle : tot (more (L : Int) r zs zs.length).1 ≤ tot zs := tot_le _ _ hlen fun j x y e1 e2 => by
    obtain ⟨s, h1, _, _, h4⟩ := i2 j y e2
    rw [h1] at e1; cases e1; exact h4
  by_cases c : 0 < (more (L : Int) r zs zs.length).2
  · have full : (more (L : Int) r zs zs.length).1 = cut zs ((L : Int) + 1) := by
      apply List.ext_getElem?
      intro j
      by_cases hj : j < zs.length
      · have e : zs[j]? = some zs[j] := List.getElem?_eq_getElem hj
        rw [cut_get e]
        by_cases g : (L : Int) < zs[j]
        · rw [i3 c j _ hj e g, show min zs[j] ((L : Int) + 1) = (L : Int) + 1 by omega]
        · obtain ⟨s, h1, h2, _, h4⟩ := i2 j _ e
          rw [h1]; congr 1; omega
      · rw [List.getElem?_eq_none (by rw [hlen]; omega), List.getElem?_eq_none (by rw [cut_len]; omega)]
    by_cases hL64 : L < 64
    · have := nxt hL64
      rw [full] at i1
      omega
    · have e64 : cut zs ((L : Int) + 1) = zs := cut_all fun z h => by have := (hz z h).2; omega
      rw [full, e64] at i1 ⊢
      omega
  · omega
theorem share_sh {n : Int} {zs : List Int} (hd : dm zs = true) (h0 : 0 ≤ n) (h5 : n ≤ 512) : sh zs (share n zs) = true := by
  obtain ⟨f1, _, f3⟩ := share_facts hd h0 h5
  refine sh_yes f1 fun j hj => ?_
  have e : zs[j]? = some zs[j] := List.getElem?_eq_getElem hj
  obtain ⟨s, h1, h2, _, h4⟩ := f3 j _ e
  have := (dm_iff.1 hd).2 _ (List.getElem_mem hj)
  exact ⟨_, s, e, h1, by omega, h4⟩
theorem share_fair {n : Int} {zs : List Int} (hd : dm zs = true) (h0 : 0 ≤ n) (h5 : n ≤ 512) : fair n zs (share n zs) = true := by
  obtain ⟨f1, f2, f3⟩ := share_facts hd h0 h5
  refine fair_iff.2 ⟨⟨h0, h5⟩, hd, share_sh hd h0 h5, f2, evB_yes ?_⟩
  intro i hi k hk z s t e1 e2 e3 c
  obtain ⟨s', g1, g2, g3, g4⟩ := f3 i z e1
  rw [e2] at g1; cases g1
  obtain ⟨y, hy⟩ : ∃ y, zs[k]? = some y := ⟨_, List.getElem?_eq_getElem (by rw [← f1]; exact hk)⟩
  obtain ⟨t', q1, q2, q3, q4⟩ := f3 k y hy
  rw [e3] at q1; cases q1
  omega
/-- Of two fair ways neither gives more than an eighth more. -/
theorem fair_alike {n : Int} {zs a b : List Int} (ha : fair n zs a = true) (hb : fair n zs b = true) {i : Nat} {x y : Int} (e1 : a[i]? = some x) (e2 : b[i]? = some y) : x ≤ y + 1 := by
  obtain ⟨_, hd, sa, ta, va⟩ := fair_iff.1 ha
  obtain ⟨_, _, sb, tb, vb⟩ := fair_iff.1 hb
  obtain ⟨la, oa⟩ := sh_iff.1 sa
  obtain ⟨lb, ob⟩ := sh_iff.1 sb
  have va := evB_iff.1 va
  have vb := evB_iff.1 vb
  by_cases c : x ≤ y + 1
  · exact c
  · exfalso
    have hi : i < zs.length := by rw [← la]; exact (List.getElem?_eq_some_iff.1 e1).1
    obtain ⟨z, x', f1, f2, f3, f4⟩ := oa i hi
    rw [e1] at f2; cases f2
    have all : ∀ (k : Nat) (p q : Int), b[k]? = some p → a[k]? = some q → p ≤ q := by
      intro k p q g1 g2
      have hk : k < zs.length := by rw [← la]; exact (List.getElem?_eq_some_iff.1 g2).1
      have h1 := vb i (by rw [lb]; exact hi) k (by rw [lb]; exact hk) z y p f1 e2 g1 (by omega)
      obtain ⟨u, q', f5, f6, f7, f8⟩ := oa k hk
      rw [g2] at f6; cases f6
      obtain ⟨u', p', g5, g6, g7, g8⟩ := ob k hk
      rw [g1] at g6; cases g6
      rw [f5] at g5; cases g5
      by_cases d : q < u
      · have h2 := va k (by rw [la]; exact hk) i (by rw [la]; exact hi) u q x f5 g2 e1 d
        omega
      · omega
    have := tot_lt b a i y x (by rw [la, lb]) all e2 e1 (by omega)
    omega
theorem lv_mono {n : Int} {zs : List Int} (hz : okD zs) (h0 : 0 ≤ n) : lv n zs 64 ≤ lv (n + 1) zs 64 := by
  have f := lv_fits (s := n) hz h0 64
  have nx := lv_next (s := n + 1) (zs := zs) 64
  have l1 := lv_le n zs 64
  by_cases c : lv n zs 64 ≤ lv (n + 1) zs 64
  · exact c
  · have m := cut_mono ((lv (n + 1) zs 64 : Nat) + 1 : Int) ((lv n zs 64 : Nat) : Int) (by omega) zs
    have := nx (by omega)
    omega
/-- With an eighth more water nobody gets less. -/
theorem share_mono {n : Int} {zs : List Int} (hd : dm zs = true) (h0 : 0 ≤ n) (h5 : n < 512) {j : Nat} {a b : Int} (e1 : (share n zs)[j]? = some a) (e2 : (share (n + 1) zs)[j]? = some b) : a ≤ b := by
  have hz := (dm_iff.1 hd).2
  obtain ⟨f1, _, f3⟩ := share_facts hd h0 (by omega)
  obtain ⟨g1, _, g3⟩ := share_facts (n := n + 1) hd (by omega) (by omega)
  have m := lv_mono hz h0
  obtain ⟨z, hj⟩ : ∃ z, zs[j]? = some z := ⟨_, List.getElem?_eq_getElem (by rw [← f1]; exact (List.getElem?_eq_some_iff.1 e1).1)⟩
  by_cases c : lv n zs 64 = lv (n + 1) zs 64
  · rw [share_yes hd h0 (by omega)] at e1
    rw [share_yes hd (by omega) (by omega), ← c, show n + 1 - tot (cut zs (lv n zs 64 : Nat)) = n - tot (cut zs (lv n zs 64 : Nat)) + 1 by omega] at e2
    have fits := lv_fits (s := n) hz h0 64
    exact (more_mono _ _ zs (by omega) zs.length (Nat.le_refl _)).2 j a b e1 e2
  · obtain ⟨s, h1, h2, h3, h4⟩ := f3 j z hj
    obtain ⟨t, k1, k2, k3, k4⟩ := g3 j z hj
    rw [e1] at h1; cases h1
    rw [e2] at k1; cases k1
    omega
/-- With enough everybody gets all. -/
theorem share_all {n : Int} {zs : List Int} (hd : dm zs = true) (h0 : 0 ≤ n) (h5 : n ≤ 512) (h : tot zs ≤ n) : share n zs = zs := by
  obtain ⟨f1, f2, f3⟩ := share_facts hd h0 h5
  refine tot_eq f1 (fun j x y e1 e2 => ?_) (by omega)
  obtain ⟨s, h1, _, _, h4⟩ := f3 j y e2
  rw [e1] at h1; cases h1; exact h4

theorem turn_tot : ∀ (s : Int) (zs : List Int), 0 ≤ s → okD zs → tot (turn s zs) = min s (tot zs)
  | s, [], h, _ => by simp only [turn, tot]; omega
  | s, z :: zs, h, k => by
    have h1 := k z (List.mem_cons_self ..)
    have hk : okD zs := fun x hx => k x (List.mem_cons_of_mem _ hx)
    have h2 := (tot_bound (B := 64) hk).1
    have := turn_tot (s - min z s) zs (by omega) hk
    simp only [turn, tot]
    omega
/-- What is served in turn: all that the law asks. -/
theorem turn_facts {n : Int} {zs : List Int} (hd : dm zs = true) (h0 : 0 ≤ n) (h5 : n ≤ 512) :
    (inTurn n zs).length = zs.length ∧ tot (inTurn n zs) = min n (tot zs) ∧ sh zs (inTurn n zs) = true ∧
    ∀ (j : Nat) (z s t : Int), zs[j]? = some z → (inTurn n zs)[j]? = some s → (inTurn n zs)[j + 1]? = some t → s < z → t ≤ 0 := by
  have hz := (dm_iff.1 hd).2
  rw [inTurn_yes hd h0 h5]
  refine ⟨turn_len _ _, turn_tot _ _ h0 hz, sh_yes (turn_len _ _) fun j hj => ?_, fun j z s t e1 e2 e3 c => ?_⟩
  · have e : zs[j]? = some zs[j] := List.getElem?_eq_getElem hj
    have := turn_rest n (zs.take j) h0 (okD_take hz j)
    have b := hz _ (List.getElem_mem hj)
    exact ⟨_, _, e, turn_get e, by omega, by omega⟩
  · rw [turn_get e1] at e2; cases e2
    have hj : j + 1 < zs.length := by rw [← turn_len n zs]; exact (List.getElem?_eq_some_iff.1 e3).1
    have e : zs[j + 1]? = some zs[j + 1] := List.getElem?_eq_getElem hj
    rw [turn_get e, turn_take e1, tot_append] at e3
    simp only [tot] at e3
    cases e3
    omega

end Go.Proofs.YtejeikfgmiadhabGreat.Dn
namespace Go.Proofs.YtejeikfgmiadhabGreat.Wm
open Go.RowKit Go.Proofs.YtejeikfgmiadhabGreat.Jt Go.Proofs.YtejeikfgmiadhabGreat.Gs
set_option linter.unusedVariables false

/-- Whether a place is a drift. -/
def dk (x y : Int) : Bool := iw x (-8) 8 && iw y (-8) 8
theorem dk_iff {x y : Int} : dk x y = true ↔ (-8 ≤ x ∧ x ≤ 8) ∧ (-8 ≤ y ∧ y ≤ 8) := by unfold dk; rw [Bool.and_eq_true, iw_iff, iw_iff]

abbrev G := Int × Int × Int
/-- Whether the gust at i may stand there. -/
def okAt (zs : List G) (i : Nat) : Bool := match zs[i]? with
  | none => true
  | some z => iw z.1 0 64 && dk z.2.1 z.2.2 && (decide (i = 0) || match zs[i - 1]? with | none => true | some p => decide (p.1 < z.1))
def okUp (zs : List G) (k : Nat) : Bool := (List.range k).all (okAt zs)
/-- Whether a list is a wind. -/
def wd (zs : List G) : Bool := okUp zs zs.length && decide (zs.length ≤ 8)

theorem okUp_zero (zs : List G) : okUp zs 0 = true := rfl
theorem okUp_succ {zs : List G} {k : Nat} : okUp zs (k + 1) = (okUp zs k && okAt zs k) := by
  unfold okUp; rw [List.range_succ, List.all_append]; simp
theorem okUp_no {zs : List G} {k m : Nat} (hk : k < m) (h : okAt zs k = false) : okUp zs m = false := by
  unfold okUp; rw [List.all_eq_false]; exact ⟨k, List.mem_range.2 hk, by rw [h]; decide⟩
theorem okUp_at {zs : List G} {k m : Nat} (hk : k < m) (h : okUp zs m = true) : okAt zs k = true := by
  unfold okUp at h; exact List.all_eq_true.1 h k (List.mem_range.2 hk)

theorem ok_from {zs : List G} {k : Nat} {z : G} (hz : zs[k]? = some z) (h : iw z.1 0 64 = false) : okAt zs k = false := by
  unfold okAt; rw [hz]; simp [h]
theorem ok_drift {zs : List G} {k : Nat} {z : G} (hz : zs[k]? = some z) (h : dk z.2.1 z.2.2 = false) : okAt zs k = false := by
  unfold okAt; rw [hz]; simp [h]
theorem ok_first {zs : List G} {z : G} (hz : zs[0]? = some z) (h : iw z.1 0 64 = true) (h2 : dk z.2.1 z.2.2 = true) : okAt zs 0 = true := by
  unfold okAt; rw [hz]; simp [h, h2]
theorem ok_next {zs : List G} {k : Nat} {z p : G} (hz : zs[k]? = some z) (h : iw z.1 0 64 = true) (h2 : dk z.2.1 z.2.2 = true) (hk : k ≠ 0) (hp : zs[k - 1]? = some p) : okAt zs k = decide (p.1 < z.1) := by
  unfold okAt; rw [hz]; simp [h, h2, hk, hp]
theorem wd_no {zs : List G} {k n : Nat} (hn : zs.length = n) (hk : k < n) (h : okAt zs k = false) : wd zs = false := by
  unfold wd; rw [hn, okUp_no hk h]; rfl
theorem wd_long {zs : List G} {n : Nat} (hn : zs.length = n) (h : 8 < n) : wd zs = false := by
  unfold wd; rw [hn, decide_eq_false (p := n ≤ 8) (by omega), Bool.and_false]
theorem wd_fin {zs : List G} {n : Nat} (hn : zs.length = n) (h : okUp zs n = true) : wd zs = decide (n ≤ 8) := by
  unfold wd; rw [hn, h]; rfl
theorem wd_len {zs : List G} (h : wd zs = true) : zs.length ≤ 8 := by unfold wd at h; rw [Bool.and_eq_true, decide_eq_true_eq] at h; exact h.2

/-- Each gust of a wind begins at a tick from 0 to 64, and has a drift. -/
theorem wd_each {zs : List G} (h : wd zs = true) {k : Nat} {z : G} (hz : zs[k]? = some z) : (0 ≤ z.1 ∧ z.1 ≤ 64) ∧ (-8 ≤ z.2.1 ∧ z.2.1 ≤ 8) ∧ (-8 ≤ z.2.2 ∧ z.2.2 ≤ 8) := by
  have hk : k < zs.length := (List.getElem?_eq_some_iff.1 hz).1
  unfold wd at h
  rw [Bool.and_eq_true] at h
  have := okUp_at hk h.1
  unfold okAt at this
  rw [hz] at this
  simp only [Bool.and_eq_true] at this
  exact ⟨iw_iff.1 this.1.1, dk_iff.1 this.1.2⟩

/-- The drift at a tick: that of the last gust that has begun. -/
def dr (zs : List G) (t : Int) : Int × Int := zs.foldl (fun p z => if z.1 ≤ t then z.2 else p) (0, 0)
theorem dr_nil (t : Int) : dr [] t = (0, 0) := rfl
theorem dr_take {zs : List G} {k : Nat} {z : G} (h : zs[k]? = some z) (t : Int) : dr (zs.take (k + 1)) t = if z.1 ≤ t then z.2 else dr (zs.take k) t := by
  obtain ⟨hk, rfl⟩ := List.getElem?_eq_some_iff.1 h
  rw [List.take_succ_eq_append_getElem hk]
  unfold dr
  rw [List.foldl_append]; rfl
theorem dr_ind {zs : List G} {t : Int} (Q : Int × Int → Prop) (h0 : Q (0, 0)) (h : ∀ (k : Nat) (z : G), zs[k]? = some z → Q z.2) : Q (dr zs t) := by
  have key : ∀ k, k ≤ zs.length → Q (dr (zs.take k) t) := by
    intro k
    induction k with
    | zero => intro _; exact h0
    | succ k ih =>
      intro hk
      obtain ⟨z, hz⟩ : ∃ z, zs[k]? = some z := ⟨_, List.getElem?_eq_getElem (by omega)⟩
      rw [dr_take hz]
      split
      · exact h k z hz
      · exact ih (by omega)
  have := key zs.length (Nat.le_refl _)
  rwa [List.take_length] at this
theorem dr_bound {zs : List G} (h : wd zs = true) (t : Int) : (-8 ≤ (dr zs t).1 ∧ (dr zs t).1 ≤ 8) ∧ (-8 ≤ (dr zs t).2 ∧ (dr zs t).2 ≤ 8) :=
  dr_ind (fun p => (-8 ≤ p.1 ∧ p.1 ≤ 8) ∧ (-8 ≤ p.2 ∧ p.2 ≤ 8)) (by decide) fun k z hz => (wd_each h hz).2
theorem dr_neg {zs : List G} (h : wd zs = true) {t : Int} (ht : t < 0) : dr zs t = (0, 0) := by
  have key : ∀ k, k ≤ zs.length → dr (zs.take k) t = (0, 0) := by
    intro k
    induction k with
    | zero => intro _; rfl
    | succ k ih =>
      intro hk
      obtain ⟨z, hz⟩ : ∃ z, zs[k]? = some z := ⟨_, List.getElem?_eq_getElem (by omega)⟩
      have := (wd_each h hz).1
      rw [dr_take hz, if_neg (by omega)]
      exact ih (by omega)
  have := key zs.length (Nat.le_refl _)
  rwa [List.take_length] at this
/-- From tick 64 on the drift stays. -/
theorem dr_late {zs : List G} (h : wd zs = true) {t : Int} (ht : 64 ≤ t) : dr zs t = dr zs 64 := by
  have key : ∀ k, k ≤ zs.length → dr (zs.take k) t = dr (zs.take k) 64 := by
    intro k
    induction k with
    | zero => intro _; rfl
    | succ k ih =>
      intro hk
      obtain ⟨z, hz⟩ : ∃ z, zs[k]? = some z := ⟨_, List.getElem?_eq_getElem (by omega)⟩
      have := (wd_each h hz).1
      rw [dr_take hz, dr_take hz, if_pos (by omega), if_pos (by omega)]
  have := key zs.length (Nat.le_refl _)
  rwa [List.take_length] at this

/-- The drifts of m ticks from a on. -/
def drs (zs : List G) (a m : Nat) : List (Int × Int) := (List.range m).map fun j => dr zs ((a + j : Nat) : Int)
theorem drs_len (zs : List G) (a m : Nat) : (drs zs a m).length = m := by simp [drs]
theorem drs_get {zs : List G} {a m j : Nat} (h : j < m) : (drs zs a m)[j]? = some (dr zs ((a + j : Nat) : Int)) := by
  unfold drs; rw [List.getElem?_map, List.getElem?_range h]; rfl
theorem drs_take {zs : List G} {a m k : Nat} (h : k ≤ m) : (drs zs a m).take k = drs zs a k := by
  unfold drs; rw [← List.map_take, List.take_range, Nat.min_eq_left h]
theorem drs_drop {zs : List G} {m k : Nat} : (drs zs 0 m).drop k = drs zs k (m - k) := by
  apply List.ext_getElem?
  intro j
  rw [List.getElem?_drop]
  by_cases h : k + j < m
  · rw [drs_get h, drs_get (by omega), Nat.zero_add]
  · rw [List.getElem?_eq_none (by rw [drs_len]; omega), List.getElem?_eq_none (by rw [drs_len]; omega)]
theorem drs_snoc (zs : List G) (a m : Nat) : drs zs a (m + 1) = drs zs a m ++ [dr zs ((a + m : Nat) : Int)] := by
  unfold drs; rw [List.range_succ, List.map_append]; rfl

def plus (p q : Int × Int) : Int × Int := (p.1 + q.1, p.2 + q.2)
/-- The sum of a list of places. -/
def sum2 (l : List (Int × Int)) : Int × Int := l.foldl plus (0, 0)
theorem sum2_snoc (l : List (Int × Int)) (p : Int × Int) : sum2 (l ++ [p]) = plus (sum2 l) p := by unfold sum2; rw [List.foldl_append]; rfl
theorem sum2_take {l : List (Int × Int)} {k : Nat} {p : Int × Int} (h : l[k]? = some p) : sum2 (l.take (k + 1)) = plus (sum2 (l.take k)) p := by
  obtain ⟨hk, rfl⟩ := List.getElem?_eq_some_iff.1 h
  rw [List.take_succ_eq_append_getElem hk, sum2_snoc]
theorem sum2_bound {l : List (Int × Int)} {D : Int} (h0 : 0 ≤ D) (h : ∀ p ∈ l, (-D ≤ p.1 ∧ p.1 ≤ D) ∧ (-D ≤ p.2 ∧ p.2 ≤ D)) (k : Nat) (hk : k ≤ l.length) :
    (-(D * k) ≤ (sum2 (l.take k)).1 ∧ (sum2 (l.take k)).1 ≤ D * k) ∧ (-(D * k) ≤ (sum2 (l.take k)).2 ∧ (sum2 (l.take k)).2 ≤ D * k) := by
  induction k with
  | zero => simp [sum2]
  | succ k ih =>
    obtain ⟨p, hp⟩ : ∃ p, l[k]? = some p := ⟨_, List.getElem?_eq_getElem (by omega)⟩
    rw [sum2_take hp]
    have h1 := ih (by omega)
    have h2 := h p (List.mem_of_getElem? hp)
    unfold plus
    rw [show D * ((k + 1 : Nat) : Int) = D * k + D by rw [Int.natCast_add, Int.mul_add]; simp]
    refine ⟨⟨?_, ?_⟩, ?_, ?_⟩ <;> simp only <;> omega

/-- The place before, at the k-th one of a list. -/
def was (l : List (Int × Int)) (k : Nat) : Int × Int := if k = 0 then (0, 0) else l.getD (k - 1) (0, 0)
/-- The changes of a list of places, the one before the first being 0, 0. -/
def chgs (l : List (Int × Int)) (k : Nat) : List G := ((List.range k).filter fun j : Nat => decide (l.getD j (0, 0) ≠ was l j)).map fun j : Nat => ((j : Int), l.getD j (0, 0))
def chg (l : List (Int × Int)) : List G := chgs l l.length
theorem chgs_zero (l : List (Int × Int)) : chgs l 0 = [] := rfl
theorem chgs_yes {l : List (Int × Int)} {k : Nat} {p : Int × Int} (h : l[k]? = some p) (hp : p ≠ was l k) : chgs l (k + 1) = chgs l k ++ [((k : Int), p)] := by
  unfold chgs
  have e : l.getD k (0, 0) = p := by rw [List.getD_eq_getElem?_getD, h]; rfl
  rw [List.range_succ, List.filter_append, List.map_append]
  simp only [List.filter_cons, e, List.filter_nil, decide_eq_true hp, if_true, List.map_cons, List.map_nil]
theorem chgs_no {l : List (Int × Int)} {k : Nat} {p : Int × Int} (h : l[k]? = some p) (hp : p = was l k) : chgs l (k + 1) = chgs l k := by
  unfold chgs
  have e : l.getD k (0, 0) = p := by rw [List.getD_eq_getElem?_getD, h]; rfl
  rw [List.range_succ, List.filter_append, List.map_append]
  have : decide (p ≠ was l k) = false := decide_eq_false (by simpa using hp)
  simp only [List.filter_cons, e, List.filter_nil, this]
  simp
theorem chgs_len (l : List (Int × Int)) (k : Nat) : (chgs l k).length ≤ k := by
  unfold chgs; rw [List.length_map]; have := List.length_filter_le (fun j => decide (l.getD j (0, 0) ≠ was l j)) (List.range k); simpa using this
theorem was_next {l : List (Int × Int)} {k : Nat} {p : Int × Int} (h : l[k]? = some p) : was l (k + 1) = p := by
  unfold was; rw [if_neg (by omega), Nat.add_sub_cancel, List.getD_eq_getElem?_getD, h]; rfl
theorem was_zero (l : List (Int × Int)) : was l 0 = (0, 0) := rfl

end Go.Proofs.YtejeikfgmiadhabGreat.Wm
