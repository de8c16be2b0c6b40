/- A cue taken out of a list. -/
import Derived.Test.YtgcheplneolonacCq
import Derived.Test.YtgcheplneolonacCr
namespace Go.Proofs.Ytgcheplneolonac.Vd7
open Go.RowKit Go.ChangeShapes Go.WideShapes Go.WideElems Go.Deep Go.Proofs.Ytgcheplneolonac.Mem Go.Proofs.Ytgcheplneolonac.Rw Go.Proofs.Ytgcheplneolonac.P2 Go.Proofs.Ytgcheplneolonac.Cd Go.Proofs.Ytgcheplneolonac.Cv Go.Proofs.Ytgcheplneolonac.Cl Go.Proofs.Ytgcheplneolonac.Cs
set_option linter.unusedVariables false
set_option linter.unusedSimpArgs false
open Go.Proofs.Ytgcheplneolonac.Sd Go.Proofs.Ytgcheplneolonac.Oc Go.Proofs.Ytgcheplneolonac.Cr Go.Proofs.Ytgcheplneolonac.Cq

/-- Whether a cue has this tick and name. -/
def isT (t : Int) (s : ByteArray) (d : C) : Bool := (d.tk == t) && sb d.nm s
theorem isT_iff {t : Int} {s : ByteArray} {d : C} : isT t s d = true ↔ d.tk = t ∧ d.nm = s := by
  unfold isT; rw [Bool.and_eq_true, sb_iff]; simp
def rmP (zs : List C) (t : Int) (s : ByteArray) : List C := zs.filter fun d => !isT t s d
def hasT (zs : List C) (t : Int) (s : ByteArray) : Bool := zs.any (isT t s)
noncomputable def rmG (zs : List C) (t : Int) (s : ByteArray) : Bool := score zs && hasT zs t s
noncomputable def rmL (zs : List C) (t : Int) (s : ByteArray) : List C := if rmG zs t s = true then rmP zs t s else zs
theorem rmL_no {zs : List C} {t : Int} {s : ByteArray} (h : rmG zs t s = false) : rmL zs t s = zs := by unfold rmL; rw [h]; rfl
theorem rmL_yes {zs : List C} {t : Int} {s : ByteArray} (h : rmG zs t s = true) : rmL zs t s = rmP zs t s := by unfold rmL; rw [if_pos h]
theorem rmP_len (zs : List C) (t : Int) (s : ByteArray) : (rmP zs t s).length ≤ zs.length := List.length_filter_le _ _
theorem rmL_len (zs : List C) (t : Int) (s : ByteArray) : (rmL zs t s).length ≤ zs.length := by
  unfold rmL; split
  · exact rmP_len _ _ _
  · exact Nat.le_refl _
theorem rmP_same {zs : List C} {t : Int} {s : ByteArray} : (rmP zs t s).length = zs.length ↔ hasT zs t s = false := by
  unfold rmP hasT
  rw [List.length_filter_eq_length_iff, List.any_eq_false]
  constructor
  · intro h d hd; have := h d hd; simpa using this
  · intro h d hd; have := h d hd; simpa using this
theorem rmP_yes {zs : List C} {t : Int} {s : ByteArray} {k : Nat} {d : C} (h : zs[k]? = some d) (hn : isT t s d = false) : rmP (zs.take (k + 1)) t s = rmP (zs.take k) t s ++ [d] := by
  obtain ⟨hk, rfl⟩ := List.getElem?_eq_some_iff.1 h
  unfold rmP
  rw [List.take_succ_eq_append_getElem hk, List.filter_append]
  simp [hn]
theorem rmP_no {zs : List C} {t : Int} {s : ByteArray} {k : Nat} {d : C} (h : zs[k]? = some d) (hn : isT t s d = true) : rmP (zs.take (k + 1)) t s = rmP (zs.take k) t s := by
  obtain ⟨hk, rfl⟩ := List.getElem?_eq_some_iff.1 h
  unfold rmP
  rw [List.take_succ_eq_append_getElem hk, List.filter_append]
  simp [hn]
theorem same_T {t : Int} {s : ByteArray} {l r : Int} {d : C} : cmp2 d ⟨t, s, l, r⟩ = 0 ↔ isT t s d = true := by rw [same_iff, isT_iff]
theorem keep_all {zs : List C} {t : Int} {s : ByteArray} (h : ∀ d ∈ zs, isT t s d = false) : rmP zs t s = zs := by
  unfold rmP; exact List.filter_eq_self.2 fun d hd => by rw [h d hd]; rfl
/-- Of a score, the one of this tick and name is cut out. -/
theorem rmP_cut {zs : List C} (ho : Ord zs) {t : Int} {s : ByteArray} {k : Nat} {d : C} (hd : zs[k]? = some d) (h : isT t s d = true) : rmP zs t s = cut zs k := by
  obtain ⟨hk, e⟩ := List.getElem?_eq_some_iff.1 hd
  have hz : zs = zs.take k ++ d :: zs.drop (k + 1) := by
    rw [← e, List.getElem_cons_drop, List.take_append_drop]
  have h1 : ∀ x ∈ zs.take k, isT t s x = false := fun x hx => by
    obtain ⟨j, hj, rfl⟩ := List.getElem_of_mem hx
    rw [List.length_take] at hj
    have hb : Bef (zs.take k)[j] d := by
      refine ord_at ho (i := j) (j := k) ?_ hd (by omega)
      rw [List.getElem_take]; exact List.getElem?_eq_getElem (by omega)
    cases c : isT t s (zs.take k)[j]
    · rfl
    · exact absurd (same_T (l := 0) (r := 0) |>.2 c) (bef_not_same (bef_same hb (same_T (l := 0) (r := 0) |>.2 h)))
  have h2 : ∀ x ∈ zs.drop (k + 1), isT t s x = false := fun x hx => by
    obtain ⟨j, hj, rfl⟩ := List.getElem_of_mem hx
    rw [List.length_drop] at hj
    have hb : Bef d (zs.drop (k + 1))[j] := by
      refine ord_at ho (i := k) (j := k + 1 + j) hd ?_ (by omega)
      rw [List.getElem_drop]; exact List.getElem?_eq_getElem (by omega)
    cases c : isT t s (zs.drop (k + 1))[j]
    · rfl
    · exfalso
      have e1 := isT_iff.1 c
      have e2 := isT_iff.1 h
      exact bef_not_same hb (same_iff.2 ⟨by rw [e1.1, e2.1], by rw [e1.2, e2.2]⟩)
  have e3 : rmP zs t s = rmP (zs.take k) t s ++ rmP (d :: zs.drop (k + 1)) t s := by
    unfold rmP; rw [← List.filter_append, ← hz]
  rw [e3, keep_all h1, show rmP (d :: zs.drop (k + 1)) t s = rmP (zs.drop (k + 1)) t s by unfold rmP; rw [List.filter_cons_of_neg (by rw [h]; decide)], keep_all h2]
  rfl
theorem hasT_yes {zs : List C} {t : Int} {s : ByteArray} {d : C} (hd : d ∈ zs) (h : isT t s d = true) : hasT zs t s = true := List.any_eq_true.2 ⟨d, hd, h⟩
theorem hasT_no {zs : List C} {t : Int} {s : ByteArray} (h : ∀ d ∈ zs, cmp2 d ⟨t, s, 0, 0⟩ ≠ 0) : hasT zs t s = false := List.any_eq_false.2 fun d hd c => h d hd (same_T.2 c)
end Go.Proofs.Ytgcheplneolonac.Vd7
