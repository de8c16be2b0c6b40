/- Scores: lists of at most twelve valid cues, each behind the one before. -/
import Derived.Test.YtgcheplneolonacCl
import Derived.Test.YtgcheplneolonacCs
namespace Go.Proofs.Ytgcheplneolonac.Sd
open Go.RowKit Go.ChangeShapes Go.WideShapes Go.WideElems Go.Deep Go.Proofs.Ytgcheplneolonac.Mem Go.Proofs.Ytgcheplneolonac.Rw Go.Proofs.Ytgcheplneolonac.P2 Go.Proofs.Ytgcheplneolonac.Cd Go.Proofs.Ytgcheplneolonac.Cv Go.Proofs.Ytgcheplneolonac.Cl Go.Proofs.Ytgcheplneolonac.Cs
set_option linter.unusedVariables false
set_option linter.unusedSimpArgs false

noncomputable def cB (d : C) : Bool := cueB d.tk d.nm d.lv d.rp
/-- How two cues compare. -/
def cmp2 (a d : C) : Int := cc a.tk a.nm d.tk d.nm
def neg (v : Int) : Bool := decide (v < 0)
/-- Whether the cue at a place is behind the one before it. -/
def ordA (zs : List C) : Nat → Bool
  | 0 => true
  | p + 1 => match zs[p]?, zs[p + 1]? with | some a, some d => neg (cmp2 a d) | _, _ => true
theorem ordA_zero (zs : List C) : ordA zs 0 = true := rfl
theorem ordA_succ {zs : List C} {p : Nat} {a d : C} (ha : zs[p]? = some a) (hd : zs[p + 1]? = some d) : ordA zs (p + 1) = neg (cmp2 a d) := by
  show (match zs[p]?, zs[p + 1]? with | some a, some d => neg (cmp2 a d) | _, _ => true) = _
  rw [ha, hd]
def Score (zs : List C) : Prop := zs.length ≤ 12 ∧ ∀ (k : Nat) (d : C), zs[k]? = some d → cB d = true ∧ ordA zs k = true
/-- Whether these cues are a score. -/
noncomputable def score (zs : List C) : Bool := @decide (Score zs) (Classical.propDecidable _)
theorem score_yes {zs : List C} (h : Score zs) : score zs = true := by unfold score; exact @decide_eq_true _ (Classical.propDecidable _) h
theorem score_no {zs : List C} (h : ¬ Score zs) : score zs = false := by unfold score; exact @decide_eq_false _ (Classical.propDecidable _) h
theorem score_of {zs : List C} (h : score zs = true) : Score zs := by
  by_cases c : Score zs
  · exact c
  · rw [score_no c] at h; cases h
theorem score_iff {zs : List C} : score zs = true ↔ Score zs := ⟨score_of, score_yes⟩
end Go.Proofs.Ytgcheplneolonac.Sd
