/- Rigs as sorted lists: what hangs is found by membership; a device put in where it belongs. -/
import Derived.Test.YtokncfhpmjohdabGreatM8
import Derived.Sort.Walk0
set_option linter.unusedVariables false
set_option linter.unusedSimpArgs false
namespace Go.Proofs.YtokncfhpmjohdabGreat.Rz
open Go.RowKit Go.ChangeShapes Go.WideShapes Go.WideElems Go.Deep Go.Proofs.YtokncfhpmjohdabGreat.Mem Go.Proofs.YtokncfhpmjohdabGreat.Rw Go.Proofs.YtokncfhpmjohdabGreat.Pw Go.Proofs.YtokncfhpmjohdabGreat.P2 Go.Proofs.YtokncfhpmjohdabGreat.Dd Go.Proofs.YtokncfhpmjohdabGreat.Dv Go.Proofs.YtokncfhpmjohdabGreat.Dl Go.Proofs.YtokncfhpmjohdabGreat.Ds Go.Proofs.YtokncfhpmjohdabGreat.Fd Go.Proofs.YtokncfhpmjohdabGreat.Ch Go.Proofs.YtokncfhpmjohdabGreat.Hn Go.Proofs.YtokncfhpmjohdabGreat.Po
set_option linter.unusedVariables false
set_option linter.unusedSimpArgs false
open Go.Proofs.YtokncfhpmjohdabGreat.Ho Go.Proofs.YtokncfhpmjohdabGreat.Ig Go.Sort

theorem lt_iff {a b : ByteArray} : Ig.lt a b = true ↔ a.toList < b.toList := by unfold Ig.lt; rw [bytesLess_eq]; exact decide_eq_true_iff
theorem lt_trans {a b c : ByteArray} (h : Ig.lt a b = true) (k : Ig.lt b c = true) : Ig.lt a c = true := lt_iff.2 (List.lt_trans (lt_iff.1 h) (lt_iff.1 k))
theorem lt_irrefl (a : ByteArray) : Ig.lt a a = false := by
  cases h : Ig.lt a a
  · rfl
  · exact absurd (lt_iff.1 h) (List.lt_irrefl _)
theorem lt_ne {a b : ByteArray} (h : Ig.lt a b = true) : a.toList ≠ b.toList := fun e => by
  have := lt_iff.1 h
  rw [e] at this
  exact List.lt_irrefl _ this

/-- The names stand in their order, each once. -/
def Ord (zs : List D) : Prop := zs.Pairwise (fun a b => Ig.lt a.nm b.nm = true)
theorem ord_of : ∀ (zs : List D), (∀ k, k < zs.length → ordA zs k = true) → Ord zs
  | [], _ => List.Pairwise.nil
  | [d], _ => List.pairwise_singleton _ _
  | a :: d :: r, h => by
    have hr : Ord (d :: r) := ord_of (d :: r) fun k hk => by
      cases k with
      | zero => rfl
      | succ p =>
        have := h (p + 2) (by simp only [List.length_cons] at hk ⊢; omega)
        obtain ⟨x, hx⟩ : ∃ x, (d :: r)[p]? = some x := ⟨_, List.getElem?_eq_getElem (by simp only [List.length_cons] at hk ⊢; omega)⟩
        obtain ⟨y, hy⟩ : ∃ y, (d :: r)[p + 1]? = some y := ⟨_, List.getElem?_eq_getElem hk⟩
        rw [ordA_succ (zs := a :: d :: r) (p := p + 1) (a := x) (d := y) (by rw [List.getElem?_cons_succ]; exact hx) (by rw [List.getElem?_cons_succ]; exact hy)] at this
        rw [ordA_succ hx hy]
        exact this
    have h1 : Ig.lt a.nm d.nm = true := by
      have := h 1 (by simp)
      rw [ordA_succ (zs := a :: d :: r) (p := 0) (a := a) (d := d) rfl rfl] at this
      exact this
    refine List.Pairwise.cons (fun x hx => ?_) hr
    rcases List.mem_cons.1 hx with rfl | hx
    · exact h1
    · exact lt_trans h1 ((List.pairwise_cons.1 hr).1 x hx)
theorem ord_to {zs : List D} (h : Ord zs) (k : Nat) : ordA zs k = true := by
  cases k with
  | zero => rfl
  | succ p =>
    cases hb : zs[p + 1]? with
    | none =>
      show (match zs[p]?, zs[p + 1]? with | some a, some d => Ig.lt a.nm d.nm | _, _ => true) = true
      rw [hb]; cases zs[p]? <;> rfl
    | some d =>
      obtain ⟨hk, e⟩ := List.getElem?_eq_some_iff.1 hb
      obtain ⟨a, ha⟩ : ∃ a, zs[p]? = some a := ⟨_, List.getElem?_eq_getElem (by omega)⟩
      rw [ordA_succ ha hb]
      obtain ⟨hk2, e2⟩ := List.getElem?_eq_some_iff.1 ha
      have := List.pairwise_iff_getElem.1 h p (p + 1) hk2 hk (by omega)
      rw [e, e2] at this
      exact this
theorem ord_one {zs : List D} (h : Ord zs) {x y : D} (hx : x ∈ zs) (hy : y ∈ zs) (e : x.nm.toList = y.nm.toList) : x = y := by
  obtain ⟨i, hi, rfl⟩ := List.getElem_of_mem hx
  obtain ⟨j, hj, rfl⟩ := List.getElem_of_mem hy
  rcases Nat.lt_trichotomy i j with c | c | c
  · exact absurd e (lt_ne (List.pairwise_iff_getElem.1 h i j hi hj c))
  · subst c; rfl
  · exact absurd e.symm (lt_ne (List.pairwise_iff_getElem.1 h j i hj hi c))

theorem fdN_no : ∀ (zs : List D) (s : ByteArray) (i : Nat), (∀ d ∈ zs, sb d.nm s = false) → fdN zs s i = -1
  | [], _, _, _ => rfl
  | d :: r, s, i, h => by
    rw [fdN, if_neg (by rw [h d (List.mem_cons_self ..)]; decide)]
    exact fdN_no r s (i + 1) fun x hx => h x (List.mem_cons_of_mem _ hx)
/-- A device of a name is found just when there is one. -/
theorem fd_none {zs : List D} {s : ByteArray} : fd zs s < 0 ↔ ∀ d ∈ zs, sb d.nm s = false := by
  constructor
  · intro h d hd
    cases hc : sb d.nm s
    · rfl
    · exfalso
      have : ∀ (l : List D) (i : Nat), d ∈ l → 0 ≤ fdN l s i := by
        intro l
        induction l with
        | nil => intro i hm; cases hm
        | cons x r ih =>
          intro i hm
          rw [fdN]
          by_cases c : sb x.nm s = true
          · rw [if_pos c]; omega
          · rw [if_neg c]
            rcases List.mem_cons.1 hm with rfl | hm
            · exact absurd hc c
            · exact ih _ hm
      have := this zs 0 hd
      unfold fd at h; omega
  · intro h; unfold fd; rw [fdN_no zs s 0 h]; decide
/-- What a device hangs on, by membership. -/
theorem kAt_iff {zs : List D} (h : Ord zs) (s : ByteArray) (q : Int) : kAt zs (fd zs s) q = true ↔ ∃ e ∈ zs, sb e.nm s = true ∧ e.kd = q := by
  rcases fd_cases zs s with e | ⟨j, e, hj, d, hd, hs⟩
  · rw [e, kAt_no]
    refine ⟨fun h => absurd h (by decide), ?_⟩
    rintro ⟨x, hx, h1, _⟩
    have := fd_none.1 (by rw [e]; decide) x hx
    rw [this] at h1; cases h1
  · rw [e, kAt_yes hd]
    have hm := List.mem_of_getElem? hd
    refine ⟨fun h => ⟨d, hm, hs, (by simpa using h)⟩, ?_⟩
    rintro ⟨x, hx, h1, h2⟩
    have : x = d := ord_one h hx hm (by
      have a : x.nm.toList = s.toList := by unfold sb at h1; simpa using h1
      have b : d.nm.toList = s.toList := by unfold sb at hs; simpa using hs
      rw [a, b])
    subst this
    simpa using h2
/-- A rig, by membership. -/
theorem rig_set {zs : List D} : Rig zs ↔ zs.length ≤ 8 ∧ Ord zs ∧ ∀ d ∈ zs, dB d = true ∧ (d.kd = 2 → ∃ e ∈ zs, sb e.nm d.ln = true ∧ e.kd = 1) ∧ (d.kd = 3 → ∃ e ∈ zs, sb e.nm d.ln = true ∧ e.kd = 2) := by
  constructor
  · rintro ⟨h1, h2⟩
    have ho : Ord zs := ord_of zs fun k hk => (h2 k _ (List.getElem?_eq_getElem hk)).2.1
    refine ⟨h1, ho, fun d hd => ?_⟩
    obtain ⟨k, hk, rfl⟩ := List.getElem_of_mem hd
    obtain ⟨a, _, c⟩ := h2 k _ (List.getElem?_eq_getElem hk)
    refine ⟨a, fun e => ?_, fun e => ?_⟩
    · rw [e, hgV_2] at c; exact (kAt_iff ho _ _).1 c
    · rw [e, hgV_3] at c; exact (kAt_iff ho _ _).1 c
  · rintro ⟨h1, ho, h2⟩
    refine ⟨h1, fun k d hd => ?_⟩
    obtain ⟨a, b, c⟩ := h2 d (List.mem_of_getElem? hd)
    refine ⟨a, ord_to ho k, ?_⟩
    by_cases e2 : d.kd = 2
    · rw [e2, hgV_2]; exact (kAt_iff ho _ _).2 (b e2)
    · by_cases e3 : d.kd = 3
      · rw [e3, hgV_3]; exact (kAt_iff ho _ _).2 (c e3)
      · exact hgV_o e2 e3 _ _

theorem lt_other {a b : ByteArray} (h : Ig.lt a b = false) (hn : a.toList ≠ b.toList) : Ig.lt b a = true := by
  have h1 : ¬ a.toList < b.toList := fun c => by rw [lt_iff.2 c] at h; cases h
  exact lt_iff.2 (by
    rcases Std.Trichotomous.trichotomous (r := (· < · : List UInt8 → List UInt8 → Prop)) a.toList b.toList h1 with c
    by_cases k : b.toList < a.toList
    · exact k
    · exact absurd (c k) hn)
/-- A device put in where it belongs. -/
def insD : List D → D → List D
  | [], d => [d]
  | x :: r, d => if Ig.lt d.nm x.nm = true then d :: x :: r else x :: insD r d
theorem ins_len : ∀ (zs : List D) (d : D), (insD zs d).length = zs.length + 1
  | [], _ => rfl
  | x :: r, d => by
    rw [insD]; split
    · rfl
    · rw [List.length_cons, ins_len r d]; rfl
theorem ins_mem : ∀ {zs : List D} {d e : D}, e ∈ insD zs d ↔ e = d ∨ e ∈ zs
  | [], d, e => by simp [insD]
  | x :: r, d, e => by
    rw [insD]; split
    · simp
    · rw [List.mem_cons, ins_mem (zs := r), List.mem_cons]
      constructor
      · rintro (h | h | h) <;> simp [h]
      · rintro (h | h | h) <;> simp [h]
theorem ins_ord : ∀ {zs : List D} {d : D}, Ord zs → (∀ e ∈ zs, sb e.nm d.nm = false) → Ord (insD zs d)
  | [], d, _, _ => List.pairwise_singleton _ _
  | x :: r, d, h, hn => by
    obtain ⟨h1, h2⟩ := List.pairwise_cons.1 h
    rw [insD]; split
    · rename_i c
      refine List.Pairwise.cons (fun y hy => ?_) h
      rcases List.mem_cons.1 hy with rfl | hy
      · exact c
      · exact lt_trans c (h1 y hy)
    · rename_i c
      have c0 : Ig.lt d.nm x.nm = false := by cases k : Ig.lt d.nm x.nm; rfl; exact absurd k c
      have cx := hn x (List.mem_cons_self ..)
      refine List.Pairwise.cons (fun y hy => ?_) (ins_ord h2 fun e he => hn e (List.mem_cons_of_mem _ he))
      rcases ins_mem.1 hy with rfl | hy
      · exact lt_other c0 (fun e => by unfold sb at cx; rw [e] at cx; simp at cx)
      · exact h1 y hy
/-- A valid device of a new name that hangs as it should keeps the rig. -/
theorem rig_ins {zs : List D} {d : D} (h : Rig zs) (hd : dB d = true) (hn : ∀ e ∈ zs, sb e.nm d.nm = false) (hl : zs.length < 8) (hh : hgV zs d.kd d.ln = true) : Rig (insD zs d) := by
  obtain ⟨_, ho, h2⟩ := rig_set.1 h
  refine rig_set.2 ⟨by rw [ins_len]; omega, ins_ord ho hn, fun e he => ?_⟩
  rcases ins_mem.1 he with rfl | he
  · refine ⟨hd, fun k => ?_, fun k => ?_⟩
    · rw [k, hgV_2] at hh
      obtain ⟨x, hx, a⟩ := (kAt_iff ho _ _).1 hh
      exact ⟨x, ins_mem.2 (Or.inr hx), a⟩
    · rw [k, hgV_3] at hh
      obtain ⟨x, hx, a⟩ := (kAt_iff ho _ _).1 hh
      exact ⟨x, ins_mem.2 (Or.inr hx), a⟩
  · obtain ⟨a, b, c⟩ := h2 e he
    refine ⟨a, fun k => ?_, fun k => ?_⟩
    · obtain ⟨x, hx, y⟩ := b k
      exact ⟨x, ins_mem.2 (Or.inr hx), y⟩
    · obtain ⟨x, hx, y⟩ := c k
      exact ⟨x, ins_mem.2 (Or.inr hx), y⟩

end Go.Proofs.YtokncfhpmjohdabGreat.Rz
namespace Go.Proofs.YtokncfhpmjohdabGreat.Adn
open Go.RowKit Go.ChangeShapes Go.WideShapes Go.WideElems Go.Deep Go.Proofs.YtokncfhpmjohdabGreat.Mem Go.Proofs.YtokncfhpmjohdabGreat.Rw Go.Proofs.YtokncfhpmjohdabGreat.Pw Go.Proofs.YtokncfhpmjohdabGreat.P2 Go.Proofs.YtokncfhpmjohdabGreat.Dd Go.Proofs.YtokncfhpmjohdabGreat.Dv Go.Proofs.YtokncfhpmjohdabGreat.Dl Go.Proofs.YtokncfhpmjohdabGreat.Ds Go.Proofs.YtokncfhpmjohdabGreat.Fd Go.Proofs.YtokncfhpmjohdabGreat.Ch Go.Proofs.YtokncfhpmjohdabGreat.Hn Go.Proofs.YtokncfhpmjohdabGreat.Po
set_option linter.unusedVariables false
set_option linter.unusedSimpArgs false
open Go.Proofs.YtokncfhpmjohdabGreat.Ho Go.Proofs.YtokncfhpmjohdabGreat.Ig Go.Proofs.YtokncfhpmjohdabGreat.Rz

/-- Whether a device may be put in; the list with it. -/
noncomputable def adG (zs : List D) (d : D) : Bool := rig zs && (dB d && (decide (fd zs d.nm < 0) && (decide (zs.length ≠ 8) && hgV zs d.kd d.ln)))
noncomputable def adL (zs : List D) (d : D) : List D := if adG zs d = true then insD zs d else zs
theorem adL_no {zs : List D} {d : D} (h : adG zs d = false) : adL zs d = zs := by unfold adL; rw [h]; rfl
theorem adL_yes {zs : List D} {d : D} (h : adG zs d = true) : adL zs d = insD zs d := by unfold adL; rw [if_pos h]
theorem ad_rig {zs : List D} {d : D} (h : Rig zs) : Rig (adL zs d) := by
  cases hg : adG zs d
  · rw [adL_no hg]; exact h
  · rw [adL_yes hg]
    unfold adG at hg
    rw [Bool.and_eq_true, Bool.and_eq_true, Bool.and_eq_true, Bool.and_eq_true] at hg
    obtain ⟨_, h2, h3, h4, h5⟩ := hg
    have h8 := h.1
    have := of_decide_eq_true h4
    exact rig_ins h h2 (fd_none.1 (of_decide_eq_true h3)) (by omega) h5
theorem ad_mem {zs : List D} {d e : D} (h : e ∈ adL zs d) : e = d ∨ e ∈ zs := by
  cases hg : adG zs d
  · rw [adL_no hg] at h; exact Or.inr h
  · rw [adL_yes hg] at h; exact ins_mem.1 h
theorem ins_all : ∀ {zs : List D} {d : D}, (∀ x ∈ zs, Ig.lt d.nm x.nm = false) → insD zs d = zs ++ [d]
  | [], d, _ => rfl
  | x :: r, d, h => by
    rw [insD, if_neg (by rw [h x (List.mem_cons_self ..)]; decide), ins_all fun y hy => h y (List.mem_cons_of_mem _ hy)]; rfl
theorem ins_more : ∀ {zs : List D} {d y : D}, (∃ x ∈ zs, Ig.lt d.nm x.nm = true) → insD (zs ++ [y]) d = insD zs d ++ [y]
  | [], d, y, h => by obtain ⟨x, hx, _⟩ := h; cases hx
  | x :: r, d, y, h => by
    rw [List.cons_append, insD, insD]
    by_cases c : Ig.lt d.nm x.nm = true
    · rw [if_pos c, if_pos c]; rfl
    · rw [if_neg c, if_neg c, ins_more (by
        obtain ⟨z, hz, hc⟩ := h
        rcases List.mem_cons.1 hz with rfl | hz
        · exact absurd hc c
        · exact ⟨z, hz, hc⟩)]; rfl
theorem ins_now {zs : List D} {d y : D} (h : ∀ x ∈ zs, Ig.lt d.nm x.nm = false) (hy : Ig.lt d.nm y.nm = true) : insD (zs ++ [y]) d = (zs ++ [d]) ++ [y] := by
  induction zs with
  | nil => rw [List.nil_append, insD, if_pos hy]; rfl
  | cons x r ih =>
    rw [List.cons_append, insD, if_neg (by rw [h x (List.mem_cons_self ..)]; decide), ih fun z hz => h z (List.mem_cons_of_mem _ hz)]; rfl
/-- Behind a name: not before it, and not the same. -/
theorem lt_swap {a b : ByteArray} (h : sb a b = false) : (!(Ig.lt a b || sb a b)) = Ig.lt b a := by
  have hn : a.toList ≠ b.toList := fun e => by unfold sb at h; rw [e] at h; simp at h
  rw [h, Bool.or_false]
  cases c : Ig.lt a b
  · rw [lt_other c hn]; rfl
  · cases k : Ig.lt b a
    · rfl
    · have := lt_trans c k
      rw [lt_irrefl] at this; cases this
/-- What has been put together behind the first devices. -/
def At (zs : List D) (d : D) (k : Nat) (dn : Bool) : Prop := if dn = true then ∃ x ∈ zs.take k, Ig.lt d.nm x.nm = true else ∀ x ∈ zs.take k, Ig.lt d.nm x.nm = false
def row (zs : List D) (d : D) (k : Nat) (dn : Bool) : List D := if dn = true then insD (zs.take k) d else zs.take k
theorem at_zero (zs : List D) (d : D) : At zs d 0 false := by
  show ∀ x ∈ zs.take 0, _
  intro x hx; simp at hx
theorem row_no (zs : List D) (d : D) (k : Nat) : row zs d k false = zs.take k := rfl
theorem row_yes (zs : List D) (d : D) (k : Nat) : row zs d k true = insD (zs.take k) d := rfl
theorem row_len (zs : List D) (d : D) (k : Nat) (dn : Bool) (h : k ≤ zs.length) : (row zs d k dn).length = if dn = true then k + 1 else k := by
  cases dn
  · rw [row_no, List.length_take, Nat.min_eq_left h]; rfl
  · rw [row_yes, ins_len, List.length_take, Nat.min_eq_left h]; rfl
theorem take_one {zs : List D} {k : Nat} {z : D} (hz : zs[k]? = some z) : zs.take (k + 1) = zs.take k ++ [z] := by
  obtain ⟨hk, rfl⟩ := List.getElem?_eq_some_iff.1 hz
  exact List.take_succ_eq_append_getElem hk
theorem at_more {zs : List D} {d z : D} {k : Nat} (hz : zs[k]? = some z) (h : At zs d k true) : At zs d (k + 1) true ∧ row zs d (k + 1) true = row zs d k true ++ [z] := by
  have h : ∃ x ∈ zs.take k, Ig.lt d.nm x.nm = true := h
  refine ⟨?_, ?_⟩
  · show ∃ x ∈ zs.take (k + 1), _
    obtain ⟨x, hx, hc⟩ := h
    exact ⟨x, by rw [take_one hz]; exact List.mem_append_left _ hx, hc⟩
  · rw [row_yes, row_yes, take_one hz, ins_more h]
theorem at_now {zs : List D} {d z : D} {k : Nat} (hz : zs[k]? = some z) (h : At zs d k false) (hc : Ig.lt d.nm z.nm = true) : At zs d (k + 1) true ∧ row zs d (k + 1) true = (row zs d k false ++ [d]) ++ [z] := by
  have h : ∀ x ∈ zs.take k, Ig.lt d.nm x.nm = false := h
  refine ⟨?_, ?_⟩
  · show ∃ x ∈ zs.take (k + 1), _
    exact ⟨z, by rw [take_one hz]; exact List.mem_append_right _ (List.mem_singleton_self _), hc⟩
  · rw [row_yes, row_no, take_one hz, ins_now h hc]
theorem at_not {zs : List D} {d z : D} {k : Nat} (hz : zs[k]? = some z) (h : At zs d k false) (hc : Ig.lt d.nm z.nm = false) : At zs d (k + 1) false ∧ row zs d (k + 1) false = row zs d k false ++ [z] := by
  have h : ∀ x ∈ zs.take k, Ig.lt d.nm x.nm = false := h
  refine ⟨?_, ?_⟩
  · show ∀ x ∈ zs.take (k + 1), _
    intro x hx
    rw [take_one hz] at hx
    rcases List.mem_append.1 hx with hx | hx
    · exact h x hx
    · rw [List.mem_singleton.1 hx]; exact hc
  · rw [row_no, row_no, take_one hz]
theorem at_end {zs : List D} {d : D} (dn : Bool) (h : At zs d zs.length dn) : insD zs d = if dn = true then row zs d zs.length true else row zs d zs.length false ++ [d] := by
  cases dn
  · have h : ∀ x ∈ zs.take zs.length, Ig.lt d.nm x.nm = false := h
    rw [List.take_length] at h
    rw [ins_all h, row_no, List.take_length]; rfl
  · rw [row_yes, List.take_length]; rfl
end Go.Proofs.YtokncfhpmjohdabGreat.Adn
