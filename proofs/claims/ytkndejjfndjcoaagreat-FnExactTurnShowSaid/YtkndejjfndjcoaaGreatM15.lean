/- Whether a number is within two others. -/
import Derived.Test.YtkndejjfndjcoaaGreatM10
import Derived.Test.YtkndejjfndjcoaaGreatM6
import Derived.Test.YtkndejjfndjcoaaGreatM2
import Derived.Deep.RegionHeld3
import Derived.Test.YtkndejjfndjcoaaGreatM7

namespace Go.Proofs.YtkndejjfndjcoaaGreat.Cs
open Go.RowKit Go.Deep Go.Proofs.YtkndejjfndjcoaaGreat.P2 Go.Proofs.YtkndejjfndjcoaaGreat.Jt Go.Proofs.YtkndejjfndjcoaaGreat.Cd Go.Proofs.YtkndejjfndjcoaaGreat.IsName
set_option linter.unusedVariables false
set_option linter.unusedSimpArgs false

/-- Whether a cue is valid. -/
noncomputable def cueB (t : Int) (n : ByteArray) (l r : Int) : Bool := iw t 0 64 && (nameB n && (iw l 0 32 && iw r 0 16))
/-- Whether two texts are one. -/
def sb (a b : ByteArray) : Bool := a.toList == b.toList
/-- Whether a name is before another one. -/
def lt (a b : ByteArray) : Bool := Op.bytesLess a.toList b.toList
/-- How two names compare. -/
def cn (a b : ByteArray) : Int := if lt a b then -1 else if sb a b then 0 else 1
/-- How two numbers compare. -/
def ci (a b : Int) : Int := if a < b then -1 else if a = b then 0 else 1
/-- How two cues compare. -/
def cc (t : Int) (n : ByteArray) (t' : Int) (n' : ByteArray) : Int := if t < t' then -1 else if t = t' then cn n n' else 1
theorem cc_or (t : Int) (n : ByteArray) (t' : Int) (n' : ByteArray) : (if ci t t' = 0 then cn n n' else ci t t') = cc t n t' n' := by
  unfold cc ci
  by_cases h : t < t'
  · rw [if_pos h, if_pos h, if_neg (by omega)]
  · rw [if_neg h, if_neg h]
    by_cases e : t = t'
    · rw [if_pos e, if_pos e, if_pos rfl]
    · rw [if_neg e, if_neg e, if_neg (by omega)]

set_option maxHeartbeats 1000000 in
theorem isCueS (t : Int) (n : ByteArray) (l r : Int) (hn : n.size ≤ 1048576) (w : World) :
    Calls Tryz.prog 97 #[va t n l r] w fun e w' => e = .returned (.bool (cueB t n l r)) ∧ w' = w.alloc (.cells (ca t n l r) 76) := by
  have cn := IsName.spec n hn
  unfold cueB
  generalize nameB n = bn at *
  have HN := Lib.hid cn
  clear cn
  obtain ⟨b1, h1⟩ : ∃ b, iw t 0 64 = b := ⟨_, rfl⟩
  obtain ⟨b3, h3⟩ : ∃ b, iw l 0 32 = b := ⟨_, rfl⟩
  obtain ⟨b4, h4⟩ : ∃ b, iw r 0 16 = b := ⟨_, rfl⟩
  rw [h1, h3, h4]
  have C1 := Lib.hid (l1In_of h1)
  have C3 := Lib.hid (l1In_of h3)
  have C4 := Lib.hid (l1In_of h4)
  clear h1 h3 h4
  cases b1
  · go_enter Tryz.func97, Tryz.ntmps97
    go_wp2_with fail
    refine (C1.out _).mono ?_
    rintro e w' ⟨rfl, rfl⟩
    go_wp2_with fail
    go_returns
    exact ⟨rfl, rfl⟩
  cases bn
  · go_enter Tryz.func97, Tryz.ntmps97
    go_wp2_with fail
    refine (C1.out _).mono ?_
    rintro e w' ⟨rfl, rfl⟩
    go_wp2_with fail
    refine (HN.out _).mono ?_
    rintro e w' ⟨rfl, rfl⟩
    go_wp2_with fail
    go_returns
    exact ⟨rfl, rfl⟩
  cases b3
  · go_enter Tryz.func97, Tryz.ntmps97
    go_wp2_with fail
    refine (C1.out _).mono ?_
    rintro e w' ⟨rfl, rfl⟩
    go_wp2_with fail
    refine (HN.out _).mono ?_
    rintro e w' ⟨rfl, rfl⟩
    go_wp2_with fail
    refine (C3.out _).mono ?_
    rintro e w' ⟨rfl, rfl⟩
    go_wp2_with fail
    go_returns
    exact ⟨rfl, rfl⟩
  · go_enter Tryz.func97, Tryz.ntmps97
    go_wp2_with fail
    refine (C1.out _).mono ?_
    rintro e w' ⟨rfl, rfl⟩
    go_wp2_with fail
    refine (HN.out _).mono ?_
    rintro e w' ⟨rfl, rfl⟩
    go_wp2_with fail
    refine (C3.out _).mono ?_
    rintro e w' ⟨rfl, rfl⟩
    go_wp2_with fail
    refine (C4.out _).mono ?_
    rintro e w' ⟨rfl, rfl⟩
    go_wp2_with fail
    go_returns
    exact ⟨rfl, rfl⟩

set_option maxHeartbeats 1000000 in
theorem isCueI (t : Int) (n : ByteArray) (l r : Int) (w : World) :
    Calls Tryz.prog 109 #[va t n l r] w fun e w' => e = .returned (.bool (cueB t n l r)) ∧ w' = w.alloc (.cells (ca t n l r) 76) := by
  have cn := IsName.impl n
  unfold cueB
  generalize nameB n = bn at *
  have HN := Lib.hid cn
  clear cn
  obtain ⟨b1, h1⟩ : ∃ b, iw t 0 64 = b := ⟨_, rfl⟩
  obtain ⟨b3, h3⟩ : ∃ b, iw l 0 32 = b := ⟨_, rfl⟩
  obtain ⟨b4, h4⟩ : ∃ b, iw r 0 16 = b := ⟨_, rfl⟩
  rw [h1, h3, h4]
  have C1 := Lib.hid (isWithin_of h1)
  have C3 := Lib.hid (isWithin_of h3)
  have C4 := Lib.hid (isWithin_of h4)
  clear h1 h3 h4
  cases b1
  · go_enter Tryz.func109, Tryz.ntmps109
    go_wp2_with fail
    refine (C1.out _).mono ?_
    rintro e w' ⟨rfl, rfl⟩
    go_wp2_with fail
    go_returns
    exact ⟨rfl, rfl⟩
  cases bn
  · go_enter Tryz.func109, Tryz.ntmps109
    go_wp2_with fail
    refine (C1.out _).mono ?_
    rintro e w' ⟨rfl, rfl⟩
    go_wp2_with fail
    refine (HN.out _).mono ?_
    rintro e w' ⟨rfl, rfl⟩
    go_wp2_with fail
    go_returns
    exact ⟨rfl, rfl⟩
  cases b3
  · go_enter Tryz.func109, Tryz.ntmps109
    go_wp2_with fail
    refine (C1.out _).mono ?_
    rintro e w' ⟨rfl, rfl⟩
    go_wp2_with fail
    refine (HN.out _).mono ?_
    rintro e w' ⟨rfl, rfl⟩
    go_wp2_with fail
    refine (C3.out _).mono ?_
    rintro e w' ⟨rfl, rfl⟩
    go_wp2_with fail
    go_returns
    exact ⟨rfl, rfl⟩
  · go_enter Tryz.func109, Tryz.ntmps109
    go_wp2_with fail
    refine (C1.out _).mono ?_
    rintro e w' ⟨rfl, rfl⟩
    go_wp2_with fail
    refine (HN.out _).mono ?_
    rintro e w' ⟨rfl, rfl⟩
    go_wp2_with fail
    refine (C3.out _).mono ?_
    rintro e w' ⟨rfl, rfl⟩
    go_wp2_with fail
    refine (C4.out _).mono ?_
    rintro e w' ⟨rfl, rfl⟩
    go_wp2_with fail
    go_returns
    exact ⟨rfl, rfl⟩

set_option maxHeartbeats 2000000 in
theorem compareS (t : Int) (n : ByteArray) (l r : Int) (t' : Int) (n' : ByteArray) (l' r' : Int) (w : World) :
    Calls Tryz.prog 98 #[va t n l r, va t' n' l' r'] w fun e w' => e = .returned (.int .i64 (cc t n t' n')) ∧ w' = (w.alloc (.cells (ca t n l r) 76)).alloc (.cells (ca t' n' l' r') 76) := by
  unfold cc cn
  by_cases h : t < t'
  · rw [if_pos h]
    go_enter Tryz.func98, Tryz.ntmps98
    go_wp2_with fail
    go_returns
    exact ⟨rfl, rfl⟩
  rw [if_neg h]
  by_cases e : t = t'
  · rw [if_pos e]
    subst e
    cases h1 : lt n n'
    · cases h2 : sb n n'
      all_goals
        have s1 : Op.bytesLess n.toList n'.toList = false := h1
        have s2 : (n.toList == n'.toList) = _ := h2
        clear h1 h2
        go_enter Tryz.func98, Tryz.ntmps98
        go_wp2_with fail
        go_returns
        exact ⟨rfl, rfl⟩
    · have s1 : Op.bytesLess n.toList n'.toList = true := h1
      clear h1
      go_enter Tryz.func98, Tryz.ntmps98
      go_wp2_with fail
      go_returns
      exact ⟨rfl, rfl⟩
  · rw [if_neg e]
    have e1 : (t == t') = false := by simpa using e
    have e2 : decide (t = t') = false := decide_eq_false e
    go_enter Tryz.func98, Tryz.ntmps98
    go_wp2_with fail
    go_returns
    exact ⟨rfl, rfl⟩

theorem run_gtr (a b : ByteArray) (w : World) : (binOp .gtr 9 (.string a) (.string b)).run Tryz.prog w = .ok (.bool (!(lt a b || a.toList == b.toList))) w := by simp [binOp, Op.stringOp, lt]
theorem isNaNS (a : ByteArray) (w : World) : Calls Tryz.prog 148 #[.string a] w fun e w' => e = .returned (.bool false) ∧ w = w' := by
  have h : (a.toList == a.toList) = true := by simp
  go_enter Tryz.func148, Tryz.ntmps148
  go_wp2
  go_returns
  exact ⟨rfl, rfl⟩
theorem cmpS (a b : ByteArray) (w : World) : Calls Tryz.prog 131 #[.string a, .string b] w fun e w' => e = .returned (.int .i64 (cn a b)) ∧ w = w' := by
  have hg := run_gtr a b
  unfold cn
  cases h1 : lt a b
  · cases h2 : sb a b
    all_goals
      have s1 : Op.bytesLess a.toList b.toList = false := h1
      have s2 : (a.toList == b.toList) = _ := h2
      rw [h1, s2] at hg
      clear h1 h2
      go_enter Tryz.func131, Tryz.ntmps131
      go_wp2_with (go_at_call 148; ((with_reducible refine (isNaNS _ _).mono ?_); rintro e w' ⟨rfl, rfl⟩))
      go_returns
      exact ⟨rfl, rfl⟩
  · have s1 : Op.bytesLess a.toList b.toList = true := h1
    clear h1 hg
    go_enter Tryz.func131, Tryz.ntmps131
    go_wp2_with (go_at_call 148; ((with_reducible refine (isNaNS _ _).mono ?_); rintro e w' ⟨rfl, rfl⟩))
    go_returns
    exact ⟨rfl, rfl⟩
theorem isNaNI (a : Int) (w : World) : Calls Tryz.prog 151 #[.int .i64 a] w fun e w' => e = .returned (.bool false) ∧ w = w' := by
  have h : (a == a) = true := by simp
  go_enter Tryz.func151, Tryz.ntmps151
  go_wp2
  all_goals go_returns
  all_goals exact ⟨rfl, rfl⟩
theorem cmpI (a b : Int) (w : World) : Calls Tryz.prog 134 #[.int .i64 a, .int .i64 b] w fun e w' => e = .returned (.int .i64 (ci a b)) ∧ w = w' := by
  unfold ci
  by_cases h : a < b
  · rw [if_pos h]
    go_enter Tryz.func134, Tryz.ntmps134
    go_wp2_with (go_at_call 151; ((with_reducible refine (isNaNI _ _).mono ?_); rintro e w' ⟨rfl, rfl⟩))
    go_returns
    exact ⟨rfl, rfl⟩
  rw [if_neg h]
  by_cases e : a = b
  · rw [if_pos e]
    subst e
    go_enter Tryz.func134, Tryz.ntmps134
    go_wp2_with (go_at_call 151; ((with_reducible refine (isNaNI _ _).mono ?_); rintro e w' ⟨rfl, rfl⟩))
    go_returns
    exact ⟨rfl, rfl⟩
  · rw [if_neg e]
    have g : b < a := by omega
    go_enter Tryz.func134, Tryz.ntmps134
    go_wp2_with (go_at_call 151; ((with_reducible refine (isNaNI _ _).mono ?_); rintro e w' ⟨rfl, rfl⟩))
    go_returns
    exact ⟨rfl, rfl⟩

set_option maxHeartbeats 1000000 in
theorem orI (b : Nat) (x y : Int) (w : World) (c0 : w.cell? ⟨b, 0, none⟩ = some (.int .i64 x)) (c1 : w.cell? ⟨b, 1, none⟩ = some (.int .i64 y)) :
    Calls Tryz.prog 133 #[.slice (some ⟨b, 0, none⟩) 2 2] w fun e w' => e = .returned (.int .i64 (if x = 0 then y else x)) ∧ w = w' := by
  by_cases hx : x = 0
  · subst hx
    rw [if_pos rfl]
    by_cases hy : y = 0
    · subst hy
      go_enter Tryz.func133, Tryz.ntmps133
      go_wp2_with fail
      refine wp_loop_rounds 3 ?_
      repeat any_goals (rw [rounds_succ]; go_wp2_with fail)
      all_goals go_returns
      all_goals exact ⟨rfl, rfl⟩
    · have hb : (y == 0) = false := by simpa using hy
      go_enter Tryz.func133, Tryz.ntmps133
      go_wp2_with fail
      refine wp_loop_rounds 2 ?_
      repeat any_goals (rw [rounds_succ]; go_wp2_with fail)
      all_goals go_returns
      all_goals exact ⟨rfl, rfl⟩
  · rw [if_neg hx]
    have hb : (x == 0) = false := by simpa using hx
    go_enter Tryz.func133, Tryz.ntmps133
    go_wp2_with fail
    refine wp_loop_rounds 1 ?_
    repeat any_goals (rw [rounds_succ]; go_wp2_with fail)
    all_goals go_returns
    all_goals exact ⟨rfl, rfl⟩

set_option maxHeartbeats 4000000 in
theorem compareI (t : Int) (n : ByteArray) (l r : Int) (t' : Int) (n' : ByteArray) (l' r' : Int) (w : World) :
    Calls Tryz.prog 110 #[va t n l r, va t' n' l' r'] w fun e w' => e = .returned (.int .i64 (cc t n t' n')) ∧ Below w.heap.size w w' := by
  rw [← cc_or]
  have C1 := Lib.hid (cmpI t t')
  have C2 := Lib.hid (cmpS n n')
  generalize ci t t' = x at *
  generalize cn n n' = y at *
  obtain ⟨v, hv⟩ : ∃ v, (if x = 0 then y else x) = v := ⟨_, rfl⟩
  rw [hv]
  have C3 := Lib.hid (fun b W h0 h1 => hv ▸ orI b x y W h0 h1)
  clear hv
  go_enter Tryz.func110, Tryz.ntmps110
  go_wp2_with fail
  go_region_held3 (fun w' => w'.cell? ⟨w.heap.size, 0, none⟩ = some (.int .i64 t) ∧ w'.cell? ⟨w.heap.size, 1, none⟩ = some (.string n) ∧ w'.cell? ⟨w.heap.size + 1, 0, none⟩ = some (.int .i64 t') ∧ w'.cell? ⟨w.heap.size + 1, 1, none⟩ = some (.string n')) (simp [go_sem, *])
    (first | (go_at_call 134; ((with_reducible refine (C1.out _).mono ?_); rintro e w' ⟨rfl, rfl⟩)) | (go_at_call 131; ((with_reducible refine (C2.out _).mono ?_); rintro e w' ⟨rfl, rfl⟩)) | (go_at_call 133; ((with_reducible refine (C3.out _ _ (by simp [go_sem]) (by simp [go_sem])).mono ?_); rintro e w' ⟨rfl, rfl⟩)))
  all_goals go_wp2_with fail
  all_goals go_returns
  all_goals exact ⟨rfl, by go_grown⟩

end Go.Proofs.YtkndejjfndjcoaaGreat.Cs
namespace Go.Proofs.YtkndejjfndjcoaaGreat.Sd
open Go.RowKit Go.ChangeShapes Go.WideShapes Go.WideElems Go.Deep Go.Proofs.YtkndejjfndjcoaaGreat.Mem Go.Proofs.YtkndejjfndjcoaaGreat.Rw Go.Proofs.YtkndejjfndjcoaaGreat.P2 Go.Proofs.YtkndejjfndjcoaaGreat.Cd Go.Proofs.YtkndejjfndjcoaaGreat.Cv Go.Proofs.YtkndejjfndjcoaaGreat.Cl Go.Proofs.YtkndejjfndjcoaaGreat.Cs
set_option linter.unusedVariables false
set_option linter.unusedSimpArgs false

noncomputable def cB (d : C) : Bool := cueB d.tk d.nm d.lv d.rp
/-- How two cues compare. -/
def cmp2 (a d : C) : Int := cc a.tk a.nm d.tk d.nm
def neg (v : Int) : Bool := decide (v < 0)
/-- Whether the cue at a place is behind the one before it. -/
def ordA (zs : List C) : Nat → Bool
  | 0 => true
  | p + 1 => match zs[p]?, zs[p + 1]? with | some a, some d => neg (cmp2 a d) | _, _ => true
theorem ordA_zero (zs : List C) : ordA zs 0 = true := rfl
theorem ordA_succ {zs : List C} {p : Nat} {a d : C} (ha : zs[p]? = some a) (hd : zs[p + 1]? = some d) : ordA zs (p + 1) = neg (cmp2 a d) := by
  show (match zs[p]?, zs[p + 1]? with | some a, some d => neg (cmp2 a d) | _, _ => true) = _
  rw [ha, hd]
def Score (zs : List C) : Prop := zs.length ≤ 12 ∧ ∀ (k : Nat) (d : C), zs[k]? = some d → cB d = true ∧ ordA zs k = true
/-- Whether these cues are a score. -/
noncomputable def score (zs : List C) : Bool := @decide (Score zs) (Classical.propDecidable _)
theorem score_yes {zs : List C} (h : Score zs) : score zs = true := by unfold score; exact @decide_eq_true _ (Classical.propDecidable _) h
theorem score_no {zs : List C} (h : ¬ Score zs) : score zs = false := by unfold score; exact @decide_eq_false _ (Classical.propDecidable _) h
theorem score_of {zs : List C} (h : score zs = true) : Score zs := by
  by_cases c : Score zs
  · exact c
  · rw [score_no c] at h; cases h
theorem score_iff {zs : List C} : score zs = true ↔ Score zs := ⟨score_of, score_yes⟩
end Go.Proofs.YtkndejjfndjcoaaGreat.Sd
