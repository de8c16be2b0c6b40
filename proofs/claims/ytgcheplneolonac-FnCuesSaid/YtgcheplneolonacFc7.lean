/- A cue that was added: where it stands, and the score without it; in lists. -/
import Derived.Test.YtgcheplneolonacVd7
import Derived.Test.YtgcheplneolonacAc
namespace Go.Proofs.Ytgcheplneolonac.Fc7
open Go.RowKit Go.ChangeShapes Go.WideShapes Go.WideElems Go.Deep Go.Proofs.Ytgcheplneolonac.Mem Go.Proofs.Ytgcheplneolonac.Rw Go.Proofs.Ytgcheplneolonac.P2 Go.Proofs.Ytgcheplneolonac.Cd Go.Proofs.Ytgcheplneolonac.Cv Go.Proofs.Ytgcheplneolonac.Cl Go.Proofs.Ytgcheplneolonac.Cs
set_option linter.unusedVariables false
set_option linter.unusedSimpArgs false
open Go.Proofs.Ytgcheplneolonac.Sd Go.Proofs.Ytgcheplneolonac.Oc Go.Proofs.Ytgcheplneolonac.Cr Go.Proofs.Ytgcheplneolonac.Ld Go.Proofs.Ytgcheplneolonac.Cq Go.Proofs.Ytgcheplneolonac.Ac Go.Proofs.Ytgcheplneolonac.Vd7

/-- Whether two cues are the same. -/
def eqB (t : Int) (s : ByteArray) (l r t' : Int) (s' : ByteArray) (l' r' : Int) : Bool := (t == t') && (sb s s' && ((l == l') && (r == r')))
theorem ite_ok (c : Prop) [Decidable c] (b : Bool) (w : World) : (if c then (Result.ok b w : Result Bool) else Result.ok false w) = Result.ok (decide c && b) w := by
  by_cases h : c <;> simp [h]
theorem be_int (a b : Int) : (a == b) = decide (a = b) := by by_cases h : a = b <;> simp [h]
theorem be_list (a b : List UInt8) : (a == b) = decide (a = b) := by by_cases h : a = b <;> simp [h]
theorem eqv (t : Int) (s : ByteArray) (l r t' : Int) (s' : ByteArray) (l' r' : Int) (w : World) :
    (binOp .eql 26 (va t s l r) (va t' s' l' r')).run Try.prog w = .ok (.bool (eqB t s l r t' s' l' r')) w := by
  rw [run_eql_struct]
  have e : (Op.equalIn 10000 26 (va t s l r) (va t' s' l' r')).run Try.prog w = .ok (eqB t s l r t' s' l' r') w := by
    unfold eqB sb
    go_simp
    simp only [ite_ok, be_int, be_list, Bool.and_true]
  rw [e]; rfl
theorem eq_same {d x : C} (h : eqB d.tk d.nm d.lv d.rp x.tk x.nm x.lv x.rp = true) : cmp2 d x = 0 := by
  unfold eqB at h
  rw [Bool.and_eq_true, Bool.and_eq_true] at h
  exact same_iff.2 ⟨by simpa using h.1, sb_iff.1 h.2.1⟩
theorem eq_refl (x : C) : eqB x.tk x.nm x.lv x.rp x.tk x.nm x.lv x.rp = true := by
  unfold eqB; rw [sb_self]; simp
/-- The added cue stands at one place only. -/
theorem stands {zs : List C} {x d : C} (ho : Ord zs) (hf : freeB zs x = true) {j : Nat} (hd : (insC zs x)[j]? = some d) : eqB d.tk d.nm d.lv d.rp x.tk x.nm x.lv x.rp = decide (j = front zs x) := by
  have un := (free_iff ho x).1 hf
  have no : d ∈ zs → eqB d.tk d.nm d.lv d.rp x.tk x.nm x.lv x.rp = false := fun hm => by
    cases c : eqB d.tk d.nm d.lv d.rp x.tk x.nm x.lv x.rp
    · rfl
    · exact absurd (eq_same c) (un d hm)
  have hl : (zs.take (front zs x)).length = front zs x := by rw [List.length_take]; exact Nat.min_eq_left (front_le zs x)
  unfold insC at hd
  by_cases c1 : j < front zs x
  · rw [List.getElem?_append_left (by rw [hl]; exact c1)] at hd
    rw [no (List.mem_of_mem_take (List.mem_of_getElem? hd)), decide_eq_false (by omega)]
  · rw [List.getElem?_append_right (by rw [hl]; omega), hl] at hd
    by_cases c2 : j = front zs x
    · rw [c2, Nat.sub_self] at hd
      have e : x = d := Option.some.inj hd
      subst e
      rw [decide_eq_true c2]; exact eq_refl x
    · rw [show j - front zs x = (j - front zs x - 1) + 1 by omega, List.getElem?_cons_succ] at hd
      rw [no (List.mem_of_mem_drop (List.mem_of_getElem? hd)), decide_eq_false c2]
/-- What adding a cue makes. -/
theorem added {zs : List C} {x : C} (h : addG zs x = true) : score zs = true ∧ freeB zs x = true ∧ score (insC zs x) = true ∧ rmG (insC zs x) x.tk x.nm = true ∧ rmL (insC zs x) x.tk x.nm = zs := by
  have h2 := h
  unfold addG at h2
  rw [Bool.and_eq_true, Bool.and_eq_true, Bool.and_eq_true] at h2
  obtain ⟨hs, _, hf, _⟩ := h2
  have ho := (score_set.1 (score_of hs)).2.1
  have un := (free_iff ho x).1 hf
  have sc : score (insC zs x) = true := by have := add_score (x := x) hs; rw [addL_yes h] at this; exact this
  have ht : isT x.tk x.nm x = true := isT_iff.2 ⟨rfl, rfl⟩
  have hg : rmG (insC zs x) x.tk x.nm = true := by unfold rmG; rw [sc, hasT_yes (mem_ins.2 (Or.inl rfl)) ht]; rfl
  have no : ∀ d ∈ zs, (!isT x.tk x.nm d) = true := fun d hd => by
    cases c : isT x.tk x.nm d
    · rfl
    · exact absurd (same_iff.2 (isT_iff.1 c)) (un d hd)
  refine ⟨hs, hf, sc, hg, ?_⟩
  rw [rmL_yes hg]
  unfold rmP insC
  rw [List.filter_append, List.filter_cons_of_neg (by rw [ht]; decide), List.filter_eq_self.2 (fun d hd => no d (List.mem_of_mem_take hd)), List.filter_eq_self.2 (fun d hd => no d (List.mem_of_mem_drop hd)), List.take_append_drop]
end Go.Proofs.Ytgcheplneolonac.Fc7
