/- Rigs as sorted lists: what hangs is found by membership; a device put in where it belongs. -/
import Derived.Test.YtokncfhpmjohdaaGreatIg
import Derived.Sort.Walk0
set_option linter.unusedVariables false
set_option linter.unusedSimpArgs false
namespace Go.Proofs.YtokncfhpmjohdaaGreat.Rz
open Go.RowKit Go.ChangeShapes Go.WideShapes Go.WideElems Go.Deep Go.Proofs.YtokncfhpmjohdaaGreat.Mem Go.Proofs.YtokncfhpmjohdaaGreat.Rw Go.Proofs.YtokncfhpmjohdaaGreat.Pw Go.Proofs.YtokncfhpmjohdaaGreat.P2 Go.Proofs.YtokncfhpmjohdaaGreat.Dd Go.Proofs.YtokncfhpmjohdaaGreat.Dv Go.Proofs.YtokncfhpmjohdaaGreat.Dl Go.Proofs.YtokncfhpmjohdaaGreat.Ds Go.Proofs.YtokncfhpmjohdaaGreat.Fd Go.Proofs.YtokncfhpmjohdaaGreat.Ch Go.Proofs.YtokncfhpmjohdaaGreat.Hn Go.Proofs.YtokncfhpmjohdaaGreat.Po
set_option linter.unusedVariables false
set_option linter.unusedSimpArgs false
open Go.Proofs.YtokncfhpmjohdaaGreat.Ho Go.Proofs.YtokncfhpmjohdaaGreat.Ig Go.Sort

theorem lt_iff {a b : ByteArray} : Ig.lt a b = true ↔ a.toList < b.toList := by unfold Ig.lt; rw [bytesLess_eq]; exact decide_eq_true_iff
theorem lt_trans {a b c : ByteArray} (h : Ig.lt a b = true) (k : Ig.lt b c = true) : Ig.lt a c = true := lt_iff.2 (List.lt_trans (lt_iff.1 h) (lt_iff.1 k))
theorem lt_irrefl (a : ByteArray) : Ig.lt a a = false := by
  cases h : Ig.lt a a
  · rfl
  · exact absurd (lt_iff.1 h) (List.lt_irrefl _)
theorem lt_ne {a b : ByteArray} (h : Ig.lt a b = true) : a.toList ≠ b.toList := fun e => by
  have := lt_iff.1 h
  rw [e] at this
  exact List.lt_irrefl _ this

/-- The names stand in their order, each once. -/
def Ord (zs : List D) : Prop := zs.Pairwise (fun a b => Ig.lt a.nm b.nm = true)
theorem ord_of : ∀ (zs : List D), (∀ k, k < zs.length → ordA zs k = true) → Ord zs
  | [], _ => List.Pairwise.nil
  | [d], _ => List.pairwise_singleton _ _
  | a :: d :: r, h => by
    have hr : Ord (d :: r) := ord_of (d :: r) fun k hk => by
      cases k with
      | zero => rfl
      | succ p =>
        have := h (p + 2) (by simp only [List.length_cons] at hk ⊢; omega)
        obtain ⟨x, hx⟩ : ∃ x, (d :: r)[p]? = some x := ⟨_, List.getElem?_eq_getElem (by simp only [List.length_cons] at hk ⊢; omega)⟩
        obtain ⟨y, hy⟩ : ∃ y, (d :: r)[p + 1]? = some y := ⟨_, List.getElem?_eq_getElem hk⟩
        rw [ordA_succ (zs := a :: d :: r) (p := p + 1) (a := x) (d := y) (by rw [List.getElem?_cons_succ]; exact hx) (by rw [List.getElem?_cons_succ]; exact hy)] at this
        rw [ordA_succ hx hy]
        exact this
    have h1 : Ig.lt a.nm d.nm = true := by
      have := h 1 (by simp)
      rw [ordA_succ (zs := a :: d :: r) (p := 0) (a := a) (d := d) rfl rfl] at this
      exact this
    refine List.Pairwise.cons (fun x hx => ?_) hr
    rcases List.mem_cons.1 hx with rfl | hx
    · exact h1
    · exact lt_trans h1 ((List.pairwise_cons.1 hr).1 x hx)
theorem ord_to {zs : List D} (h : Ord zs) (k : Nat) : ordA zs k = true := by
  cases k with
  | zero => rfl
  | succ p =>
    cases hb : zs[p + 1]? with
    | none =>
      show (match zs[p]?, zs[p + 1]? with | some a, some d => Ig.lt a.nm d.nm | _, _ => true) = true
      rw [hb]; cases zs[p]? <;> rfl
    | some d =>
      obtain ⟨hk, e⟩ := List.getElem?_eq_some_iff.1 hb
      obtain ⟨a, ha⟩ : ∃ a, zs[p]? = some a := ⟨_, List.getElem?_eq_getElem (by omega)⟩
      rw [ordA_succ ha hb]
      obtain ⟨hk2, e2⟩ := List.getElem?_eq_some_iff.1 ha
      have := List.pairwise_iff_getElem.1 h p (p + 1) hk2 hk (by omega)
      rw [e, e2] at this
      exact this
theorem ord_one {zs : List D} (h : Ord zs) {x y : D} (hx : x ∈ zs) (hy : y ∈ zs) (e : x.nm.toList = y.nm.toList) : x = y := by
  obtain ⟨i, hi, rfl⟩ := List.getElem_of_mem hx
  obtain ⟨j, hj, rfl⟩ := List.getElem_of_mem hy
  rcases Nat.lt_trichotomy i j with c | c | c
  · exact absurd e (lt_ne (List.pairwise_iff_getElem.1 h i j hi hj c))
  · subst c; rfl
  · exact absurd e.symm (lt_ne (List.pairwise_iff_getElem.1 h j i hj hi c))

theorem fdN_no : ∀ (zs : List D) (s : ByteArray) (i : Nat), (∀ d ∈ zs, sb d.nm s = false) → fdN zs s i = -1
  | [], _, _, _ => rfl
  | d :: r, s, i, h => by
    rw [fdN, if_neg (by rw [h d (List.mem_cons_self ..)]; decide)]
    exact fdN_no r s (i + 1) fun x hx => h x (List.mem_cons_of_mem _ hx)
/-- A device of a name is found just when there is one. -/
theorem fd_none {zs : List D} {s : ByteArray} : fd zs s < 0 ↔ ∀ d ∈ zs, sb d.nm s = false := by
  constructor
  · intro h d hd
    cases hc : sb d.nm s
    · rfl
    · exfalso
      have : ∀ (l : List D) (i : Nat), d ∈ l → 0 ≤ fdN l s i := by
        intro l
        induction l with
        | nil => intro i hm; cases hm
        | cons x r ih =>
          intro i hm
          rw [fdN]
          by_cases c : sb x.nm s = true
          · rw [if_pos c]; omega
          · rw [if_neg c]
            rcases List.mem_cons.1 hm with rfl | hm
            · exact absurd hc c
            · exact ih _ hm
      have := this zs 0 hd
      unfold fd at h; omega
  · intro h; unfold fd; rw [fdN_no zs s 0 h]; decide
/-- What a device hangs on, by membership. -/
theorem kAt_iff {zs : List D} (h : Ord zs) (s : ByteArray) (q : Int) : kAt zs (fd zs s) q = true ↔ ∃ e ∈ zs, sb e.nm s = true ∧ e.kd = q := by
  rcases fd_cases zs s with e | ⟨j, e, hj, d, hd, hs⟩
  · rw [e, kAt_no]
    refine ⟨fun h => absurd h (by decide), ?_⟩
    rintro ⟨x, hx, h1, _⟩
    have := fd_none.1 (by rw [e]; decide) x hx
    rw [this] at h1; cases h1
  · rw [e, kAt_yes hd]
    have hm := List.mem_of_getElem? hd
    refine ⟨fun h => ⟨d, hm, hs, (by simpa using h)⟩, ?_⟩
    rintro ⟨x, hx, h1, h2⟩
    have : x = d := ord_one h hx hm (by
      have a : x.nm.toList = s.toList := by unfold sb at h1; simpa using h1
      have b : d.nm.toList = s.toList := by unfold sb at hs; simpa using hs
      rw [a, b])
    subst this
    simpa using h2
/-- A rig, by membership. -/
theorem rig_set {zs : List D} : Rig zs ↔ zs.length ≤ 8 ∧ Ord zs ∧ ∀ d ∈ zs, dB d = true ∧ (d.kd = 2 → ∃ e ∈ zs, sb e.nm d.ln = true ∧ e.kd = 1) ∧ (d.kd = 3 → ∃ e ∈ zs, sb e.nm d.ln = true ∧ e.kd = 2) := by
  constructor
  · rintro ⟨h1, h2⟩
    have ho : Ord zs := ord_of zs fun k hk => (h2 k _ (List.getElem?_eq_getElem hk)).2.1
    refine ⟨h1, ho, fun d hd => ?_⟩
    obtain ⟨k, hk, rfl⟩ := List.getElem_of_mem hd
    obtain ⟨a, _, c⟩ := h2 k _ (List.getElem?_eq_getElem hk)
    refine ⟨a, fun e => ?_, fun e => ?_⟩
    · rw [e, hgV_2] at c; exact (kAt_iff ho _ _).1 c
    · rw [e, hgV_3] at c; exact (kAt_iff ho _ _).1 c
  · rintro ⟨h1, ho, h2⟩
    refine ⟨h1, fun k d hd => ?_⟩
    obtain ⟨a, b, c⟩ := h2 d (List.mem_of_getElem? hd)
    refine ⟨a, ord_to ho k, ?_⟩
    by_cases e2 : d.kd = 2
    · rw [e2, hgV_2]; exact (kAt_iff ho _ _).2 (b e2)
    · by_cases e3 : d.kd = 3
      · rw [e3, hgV_3]; exact (kAt_iff ho _ _).2 (c e3)
      · exact hgV_o e2 e3 _ _

end Go.Proofs.YtokncfhpmjohdaaGreat.Rz
