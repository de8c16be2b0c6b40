/- A device put into a list of devices where it belongs: the lists. -/
import Derived.Test.YtgcheplneolonabRz
namespace Go.Proofs.Ytgcheplneolonab.Adn
open Go.RowKit Go.ChangeShapes Go.WideShapes Go.WideElems Go.Deep Go.Proofs.Ytgcheplneolonab.Mem Go.Proofs.Ytgcheplneolonab.Rw Go.Proofs.Ytgcheplneolonab.Pw Go.Proofs.Ytgcheplneolonab.P2 Go.Proofs.Ytgcheplneolonab.Dd Go.Proofs.Ytgcheplneolonab.Dv Go.Proofs.Ytgcheplneolonab.Dl Go.Proofs.Ytgcheplneolonab.Ds Go.Proofs.Ytgcheplneolonab.Fd Go.Proofs.Ytgcheplneolonab.Ch Go.Proofs.Ytgcheplneolonab.Hn Go.Proofs.Ytgcheplneolonab.Po
set_option linter.unusedVariables false
set_option linter.unusedSimpArgs false
open Go.Proofs.Ytgcheplneolonab.Ho Go.Proofs.Ytgcheplneolonab.Ig Go.Proofs.Ytgcheplneolonab.Rz

/-- Whether a device may be put in; the list with it. -/
noncomputable def adG (zs : List D) (d : D) : Bool := rig zs && (dB d && (decide (fd zs d.nm < 0) && (decide (zs.length ≠ 8) && hgV zs d.kd d.ln)))
noncomputable def adL (zs : List D) (d : D) : List D := if adG zs d = true then insD zs d else zs
theorem adL_no {zs : List D} {d : D} (h : adG zs d = false) : adL zs d = zs := by unfold adL; rw [h]; rfl
theorem adL_yes {zs : List D} {d : D} (h : adG zs d = true) : adL zs d = insD zs d := by unfold adL; rw [if_pos h]
theorem adL_len (zs : List D) (d : D) : (adL zs d).length ≤ zs.length + 1 := by
  cases h : adG zs d
  · rw [adL_no h]; omega
  · rw [adL_yes h, ins_len]; omega
theorem ad_rig {zs : List D} {d : D} (h : Rig zs) : Rig (adL zs d) := by
  cases hg : adG zs d
  · rw [adL_no hg]; exact h
  · rw [adL_yes hg]
    unfold adG at hg
    rw [Bool.and_eq_true, Bool.and_eq_true, Bool.and_eq_true, Bool.and_eq_true] at hg
    obtain ⟨_, h2, h3, h4, h5⟩ := hg
    have h8 := h.1
    have := of_decide_eq_true h4
    exact rig_ins h h2 (fd_none.1 (of_decide_eq_true h3)) (by omega) h5
theorem ad_mem {zs : List D} {d e : D} (h : e ∈ adL zs d) : e = d ∨ e ∈ zs := by
  cases hg : adG zs d
  · rw [adL_no hg] at h; exact Or.inr h
  · rw [adL_yes hg] at h; exact ins_mem.1 h
theorem ins_all : ∀ {zs : List D} {d : D}, (∀ x ∈ zs, Ig.lt d.nm x.nm = false) → insD zs d = zs ++ [d]
  | [], d, _ => rfl
  | x :: r, d, h => by
    rw [insD, if_neg (by rw [h x (List.mem_cons_self ..)]; decide), ins_all fun y hy => h y (List.mem_cons_of_mem _ hy)]; rfl
theorem ins_more : ∀ {zs : List D} {d y : D}, (∃ x ∈ zs, Ig.lt d.nm x.nm = true) → insD (zs ++ [y]) d = insD zs d ++ [y]
  | [], d, y, h => by obtain ⟨x, hx, _⟩ := h; cases hx
  | x :: r, d, y, h => by
    rw [List.cons_append, insD, insD]
    by_cases c : Ig.lt d.nm x.nm = true
    · rw [if_pos c, if_pos c]; rfl
    · rw [if_neg c, if_neg c, ins_more (by
        obtain ⟨z, hz, hc⟩ := h
        rcases List.mem_cons.1 hz with rfl | hz
        · exact absurd hc c
        · exact ⟨z, hz, hc⟩)]; rfl
theorem ins_now {zs : List D} {d y : D} (h : ∀ x ∈ zs, Ig.lt d.nm x.nm = false) (hy : Ig.lt d.nm y.nm = true) : insD (zs ++ [y]) d = (zs ++ [d]) ++ [y] := by
  induction zs with
  | nil => rw [List.nil_append, insD, if_pos hy]; rfl
  | cons x r ih =>
    rw [List.cons_append, insD, if_neg (by rw [h x (List.mem_cons_self ..)]; decide), ih fun z hz => h z (List.mem_cons_of_mem _ hz)]; rfl
/-- Behind a name: not before it, and not the same. -/
theorem lt_swap {a b : ByteArray} (h : sb a b = false) : (!(Ig.lt a b || sb a b)) = Ig.lt b a := by
  have hn : a.toList ≠ b.toList := fun e => by unfold sb at h; rw [e] at h; simp at h
  rw [h, Bool.or_false]
  cases c : Ig.lt a b
  · rw [lt_other c hn]; rfl
  · cases k : Ig.lt b a
    · rfl
    · have := lt_trans c k
      rw [lt_irrefl] at this; cases this
/-- What has been put together behind the first devices. -/
def At (zs : List D) (d : D) (k : Nat) (dn : Bool) : Prop := if dn = true then ∃ x ∈ zs.take k, Ig.lt d.nm x.nm = true else ∀ x ∈ zs.take k, Ig.lt d.nm x.nm = false
def row (zs : List D) (d : D) (k : Nat) (dn : Bool) : List D := if dn = true then insD (zs.take k) d else zs.take k
theorem at_zero (zs : List D) (d : D) : At zs d 0 false := by
  show ∀ x ∈ zs.take 0, _
  intro x hx; simp at hx
theorem row_no (zs : List D) (d : D) (k : Nat) : row zs d k false = zs.take k := rfl
theorem row_yes (zs : List D) (d : D) (k : Nat) : row zs d k true = insD (zs.take k) d := rfl
theorem row_len (zs : List D) (d : D) (k : Nat) (dn : Bool) (h : k ≤ zs.length) : (row zs d k dn).length = if dn = true then k + 1 else k := by
  cases dn
  · rw [row_no, List.length_take, Nat.min_eq_left h]; rfl
  · rw [row_yes, ins_len, List.length_take, Nat.min_eq_left h]; rfl
theorem take_one {zs : List D} {k : Nat} {z : D} (hz : zs[k]? = some z) : zs.take (k + 1) = zs.take k ++ [z] := by
  obtain ⟨hk, rfl⟩ := List.getElem?_eq_some_iff.1 hz
  exact List.take_succ_eq_append_getElem hk
theorem at_more {zs : List D} {d z : D} {k : Nat} (hz : zs[k]? = some z) (h : At zs d k true) : At zs d (k + 1) true ∧ row zs d (k + 1) true = row zs d k true ++ [z] := by
  have h : ∃ x ∈ zs.take k, Ig.lt d.nm x.nm = true := h
  refine ⟨?_, ?_⟩
  · show ∃ x ∈ zs.take (k + 1), _
    obtain ⟨x, hx, hc⟩ := h
    exact ⟨x, by rw [take_one hz]; exact List.mem_append_left _ hx, hc⟩
  · rw [row_yes, row_yes, take_one hz, ins_more h]
theorem at_now {zs : List D} {d z : D} {k : Nat} (hz : zs[k]? = some z) (h : At zs d k false) (hc : Ig.lt d.nm z.nm = true) : At zs d (k + 1) true ∧ row zs d (k + 1) true = (row zs d k false ++ [d]) ++ [z] := by
  have h : ∀ x ∈ zs.take k, Ig.lt d.nm x.nm = false := h
  refine ⟨?_, ?_⟩
  · show ∃ x ∈ zs.take (k + 1), _
    exact ⟨z, by rw [take_one hz]; exact List.mem_append_right _ (List.mem_singleton_self _), hc⟩
  · rw [row_yes, row_no, take_one hz, ins_now h hc]
theorem at_not {zs : List D} {d z : D} {k : Nat} (hz : zs[k]? = some z) (h : At zs d k false) (hc : Ig.lt d.nm z.nm = false) : At zs d (k + 1) false ∧ row zs d (k + 1) false = row zs d k false ++ [z] := by
  have h : ∀ x ∈ zs.take k, Ig.lt d.nm x.nm = false := h
  refine ⟨?_, ?_⟩
  · show ∀ x ∈ zs.take (k + 1), _
    intro x hx
    rw [take_one hz] at hx
    rcases List.mem_append.1 hx with hx | hx
    · exact h x hx
    · rw [List.mem_singleton.1 hx]; exact hc
  · rw [row_no, row_no, take_one hz]
theorem at_end {zs : List D} {d : D} (dn : Bool) (h : At zs d zs.length dn) : insD zs d = if dn = true then row zs d zs.length true else row zs d zs.length false ++ [d] := by
  cases dn
  · have h : ∀ x ∈ zs.take zs.length, Ig.lt d.nm x.nm = false := h
    rw [List.take_length] at h
    rw [ins_all h, row_no, List.take_length]; rfl
  · rw [row_yes, List.take_length]; rfl
end Go.Proofs.Ytgcheplneolonab.Adn
