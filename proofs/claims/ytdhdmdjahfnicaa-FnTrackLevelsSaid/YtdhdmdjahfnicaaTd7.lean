/- Scores some ticks later. -/
import Derived.Test.YtdhdmdjahfnicaaLd
import Derived.Test.YtdhdmdjahfnicaaCr
namespace Go.Proofs.Ytdhdmdjahfnicaa.Td7
open Go.RowKit Go.ChangeShapes Go.WideShapes Go.WideElems Go.Deep Go.Proofs.Ytdhdmdjahfnicaa.Mem Go.Proofs.Ytdhdmdjahfnicaa.Rw Go.Proofs.Ytdhdmdjahfnicaa.P2 Go.Proofs.Ytdhdmdjahfnicaa.Cd Go.Proofs.Ytdhdmdjahfnicaa.Cv Go.Proofs.Ytdhdmdjahfnicaa.Cl Go.Proofs.Ytdhdmdjahfnicaa.Cs
set_option linter.unusedVariables false
set_option linter.unusedSimpArgs false
open Go.Proofs.Ytdhdmdjahfnicaa.Sd Go.Proofs.Ytdhdmdjahfnicaa.Oc Go.Proofs.Ytdhdmdjahfnicaa.Cr Go.Proofs.Ytdhdmdjahfnicaa.Jt Go.Proofs.Ytdhdmdjahfnicaa.Ld

/-- A cue some ticks later. -/
def shC (n : Int) (d : C) : C := ⟨d.tk + n, d.nm, d.lv, d.rp⟩
def AllV (n : Int) (zs : List C) : Prop := ∀ (k : Nat) (d : C), zs[k]? = some d → cB (shC n d) = true
noncomputable def allB (n : Int) (zs : List C) : Bool := @decide (AllV n zs) (Classical.propDecidable _)
theorem all_yes {n : Int} {zs : List C} (h : AllV n zs) : allB n zs = true := by unfold allB; exact @decide_eq_true _ (Classical.propDecidable _) h
theorem all_no {n : Int} {zs : List C} (h : ¬ AllV n zs) : allB n zs = false := by unfold allB; exact @decide_eq_false _ (Classical.propDecidable _) h
noncomputable def ltG (zs : List C) (n : Int) : Bool := score zs && (iw n 0 64 && allB n zs)
noncomputable def ltL (zs : List C) (n : Int) : List C := if ltG zs n = true then zs.map (shC n) else []
theorem ltL_no {zs : List C} {n : Int} (h : ltG zs n = false) : ltL zs n = [] := by unfold ltL; rw [h]; rfl
theorem ltL_yes {zs : List C} {n : Int} (h : ltG zs n = true) : ltL zs n = zs.map (shC n) := by unfold ltL; rw [if_pos h]
theorem ltL_len (zs : List C) (n : Int) : (ltL zs n).length ≤ zs.length := by
  unfold ltL; split
  · simp
  · exact Nat.zero_le _
theorem cmp_sh (n : Int) (a d : C) : cmp2 (shC n a) (shC n d) = cmp2 a d := by
  unfold cmp2 cc shC
  simp only []
  by_cases h : a.tk < d.tk
  · rw [if_pos h, if_pos (by omega)]
  · rw [if_neg h, if_neg (by omega)]
    by_cases e : a.tk = d.tk
    · rw [if_pos e, if_pos (by omega)]
    · rw [if_neg e, if_neg (by omega)]
theorem ord_sh (n : Int) (zs : List C) : ∀ k, ordA (zs.map (shC n)) k = ordA zs k
  | 0 => rfl
  | p + 1 => by
    show (match (zs.map (shC n))[p]?, (zs.map (shC n))[p + 1]? with | some a, some d => neg (cmp2 a d) | _, _ => true) = (match zs[p]?, zs[p + 1]? with | some a, some d => neg (cmp2 a d) | _, _ => true)
    rw [List.getElem?_map, List.getElem?_map]
    cases zs[p]? with
    | none => rfl
    | some a =>
      cases zs[p + 1]? with
      | none => rfl
      | some d => show neg (cmp2 (shC n a) (shC n d)) = _; rw [cmp_sh]
/-- A score is one later as well just if each cue is valid then. -/
theorem score_sh {zs : List C} (h : score zs = true) (n : Int) : score (zs.map (shC n)) = allB n zs := by
  have H := score_of h
  by_cases c : AllV n zs
  · rw [all_yes c]
    refine score_yes ⟨by rw [List.length_map]; exact H.1, fun k d hd => ?_⟩
    rw [List.getElem?_map] at hd
    cases hz : zs[k]? with
    | none => rw [hz] at hd; cases hd
    | some z => rw [hz] at hd; cases hd; exact ⟨c k z hz, by rw [ord_sh]; exact (H.2 k z hz).2⟩
  · rw [all_no c]
    refine score_no fun S => c fun k d hd => ?_
    exact (S.2 k (shC n d) (by rw [List.getElem?_map, hd]; rfl)).1
theorem dls_cons (z : C) (r : List C) : dls (z :: r) = dc z ++ dls r := rfl
/-- The first cues later, the others as they were. -/
def prt (zs : List C) (n : Int) (k : Nat) : List C := (zs.take k).map (shC n) ++ zs.drop k
theorem part_zero (zs : List C) (n : Int) : prt zs n 0 = zs := by simp [prt]
theorem part_all (zs : List C) (n : Int) : prt zs n zs.length = zs.map (shC n) := by simp [prt]
theorem part_len (zs : List C) (n : Int) (k : Nat) : (prt zs n k).length = zs.length := by simp [prt]; omega
theorem part_get {zs : List C} {n : Int} {k : Nat} {z : C} (h : zs[k]? = some z) : (prt zs n k)[k]? = some z := by
  obtain ⟨hk, e⟩ := List.getElem?_eq_some_iff.1 h
  have l1 : ((zs.take k).map (shC n)).length = k := by rw [List.length_map, List.length_take]; omega
  unfold prt
  rw [List.getElem?_append_right (by omega), l1, Nat.sub_self, List.getElem?_drop, Nat.add_zero, h]
theorem part_put {zs : List C} {n : Int} {k : Nat} {z : C} (h : zs[k]? = some z) : (dls (prt zs n k)).set (k * 4) (.int .i64 (z.tk + n)) = dls (prt zs n (k + 1)) := by
  obtain ⟨hk, e⟩ := List.getElem?_eq_some_iff.1 h
  have l1 : (dls ((zs.take k).map (shC n))).length = k * 4 := by rw [dls_len, List.length_map, List.length_take]; omega
  unfold prt
  rw [List.drop_eq_getElem_cons hk, e, dls_app, List.set_append_right _ _ (by omega), l1, Nat.sub_self, dls_cons, List.take_succ_eq_append_getElem hk, e, List.map_append, List.append_assoc, dls_app]
  rfl
end Go.Proofs.Ytdhdmdjahfnicaa.Td7
