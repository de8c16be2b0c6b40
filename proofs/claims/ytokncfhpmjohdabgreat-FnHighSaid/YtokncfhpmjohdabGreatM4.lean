/- Whether a cue is valid, and how two cues compare, of the program and of the model. -/
import Derived.Test.YtokncfhpmjohdabGreatM1
import Derived.Test.YtokncfhpmjohdabGreatM3
import Derived.Deep.RegionHeld3
import Derived.Laws.AppendOwn
import Derived.Laws.OwnMore
import Derived.OwnWalk
import Derived.Test.YtokncfhpmjohdabGreatM2
import Derived.Lib.Hide
import Derived.Laws.Externs
set_option linter.unusedVariables false
set_option linter.unusedSimpArgs false
namespace Go.Proofs.YtokncfhpmjohdabGreat.Cs
open Go.RowKit Go.Deep Go.Proofs.YtokncfhpmjohdabGreat.P2 Go.Proofs.YtokncfhpmjohdabGreat.Jt Go.Proofs.YtokncfhpmjohdabGreat.Cd Go.Proofs.YtokncfhpmjohdabGreat.IsName
set_option linter.unusedVariables false
set_option linter.unusedSimpArgs false

/-- Whether a cue is valid. -/
noncomputable def cueB (t : Int) (n : ByteArray) (l r : Int) : Bool := iw t 0 64 && (nameB n && (iw l 0 32 && iw r 0 16))
/-- Whether two texts are one. -/
def sb (a b : ByteArray) : Bool := a.toList == b.toList
/-- Whether a name is before another one. -/
def lt (a b : ByteArray) : Bool := Op.bytesLess a.toList b.toList
/-- How two names compare. -/
def cn (a b : ByteArray) : Int := if lt a b then -1 else if sb a b then 0 else 1
/-- How two numbers compare. -/
def ci (a b : Int) : Int := if a < b then -1 else if a = b then 0 else 1
/-- How two cues compare. -/
def cc (t : Int) (n : ByteArray) (t' : Int) (n' : ByteArray) : Int := if t < t' then -1 else if t = t' then cn n n' else 1
theorem cc_or (t : Int) (n : ByteArray) (t' : Int) (n' : ByteArray) : (if ci t t' = 0 then cn n n' else ci t t') = cc t n t' n' := by
  unfold cc ci
  by_cases h : t < t'
  · rw [if_pos h, if_pos h, if_neg (by omega)]
  · rw [if_neg h, if_neg h]
    by_cases e : t = t'
    · rw [if_pos e, if_pos e, if_pos rfl]
    · rw [if_neg e, if_neg e, if_neg (by omega)]

set_option maxHeartbeats 1000000 in
theorem isCueS (t : Int) (n : ByteArray) (l r : Int) (hn : n.size ≤ 1048576) (w : World) :
    Calls Tryz.prog 99 #[va t n l r] w fun e w' => e = .returned (.bool (cueB t n l r)) ∧ w' = w.alloc (.cells (ca t n l r) 63) := by
  have cn := IsName.spec n hn
  unfold cueB
  generalize nameB n = bn at *
  have HN := Lib.hid cn
  clear cn
  obtain ⟨b1, h1⟩ : ∃ b, iw t 0 64 = b := ⟨_, rfl⟩
  obtain ⟨b3, h3⟩ : ∃ b, iw l 0 32 = b := ⟨_, rfl⟩
  obtain ⟨b4, h4⟩ : ∃ b, iw r 0 16 = b := ⟨_, rfl⟩
  rw [h1, h3, h4]
  have C1 := Lib.hid (l1In_of h1)
  have C3 := Lib.hid (l1In_of h3)
  have C4 := Lib.hid (l1In_of h4)
  clear h1 h3 h4
  cases b1
  · go_enter Tryz.func99, Tryz.ntmps99
    go_wp2_with fail
    refine (C1.out _).mono ?_
    rintro e w' ⟨rfl, rfl⟩
    go_wp2_with fail
    go_returns
    exact ⟨rfl, rfl⟩
  cases bn
  · go_enter Tryz.func99, Tryz.ntmps99
    go_wp2_with fail
    refine (C1.out _).mono ?_
    rintro e w' ⟨rfl, rfl⟩
    go_wp2_with fail
    refine (HN.out _).mono ?_
    rintro e w' ⟨rfl, rfl⟩
    go_wp2_with fail
    go_returns
    exact ⟨rfl, rfl⟩
  cases b3
  · go_enter Tryz.func99, Tryz.ntmps99
    go_wp2_with fail
    refine (C1.out _).mono ?_
    rintro e w' ⟨rfl, rfl⟩
    go_wp2_with fail
    refine (HN.out _).mono ?_
    rintro e w' ⟨rfl, rfl⟩
    go_wp2_with fail
    refine (C3.out _).mono ?_
    rintro e w' ⟨rfl, rfl⟩
    go_wp2_with fail
    go_returns
    exact ⟨rfl, rfl⟩
  · go_enter Tryz.func99, Tryz.ntmps99
    go_wp2_with fail
    refine (C1.out _).mono ?_
    rintro e w' ⟨rfl, rfl⟩
    go_wp2_with fail
    refine (HN.out _).mono ?_
    rintro e w' ⟨rfl, rfl⟩
    go_wp2_with fail
    refine (C3.out _).mono ?_
    rintro e w' ⟨rfl, rfl⟩
    go_wp2_with fail
    refine (C4.out _).mono ?_
    rintro e w' ⟨rfl, rfl⟩
    go_wp2_with fail
    go_returns
    exact ⟨rfl, rfl⟩

set_option maxHeartbeats 1000000 in
theorem isCueI (t : Int) (n : ByteArray) (l r : Int) (w : World) :
    Calls Tryz.prog 104 #[va t n l r] w fun e w' => e = .returned (.bool (cueB t n l r)) ∧ w' = w.alloc (.cells (ca t n l r) 63) := by
  have cn := IsName.impl n
  unfold cueB
  generalize nameB n = bn at *
  have HN := Lib.hid cn
  clear cn
  obtain ⟨b1, h1⟩ : ∃ b, iw t 0 64 = b := ⟨_, rfl⟩
  obtain ⟨b3, h3⟩ : ∃ b, iw l 0 32 = b := ⟨_, rfl⟩
  obtain ⟨b4, h4⟩ : ∃ b, iw r 0 16 = b := ⟨_, rfl⟩
  rw [h1, h3, h4]
  have C1 := Lib.hid (isWithin_of h1)
  have C3 := Lib.hid (isWithin_of h3)
  have C4 := Lib.hid (isWithin_of h4)
  clear h1 h3 h4
  cases b1
  · go_enter Tryz.func104, Tryz.ntmps104
    go_wp2_with fail
    refine (C1.out _).mono ?_
    rintro e w' ⟨rfl, rfl⟩
    go_wp2_with fail
    go_returns
    exact ⟨rfl, rfl⟩
  cases bn
  · go_enter Tryz.func104, Tryz.ntmps104
    go_wp2_with fail
    refine (C1.out _).mono ?_
    rintro e w' ⟨rfl, rfl⟩
    go_wp2_with fail
    refine (HN.out _).mono ?_
    rintro e w' ⟨rfl, rfl⟩
    go_wp2_with fail
    go_returns
    exact ⟨rfl, rfl⟩
  cases b3
  · go_enter Tryz.func104, Tryz.ntmps104
    go_wp2_with fail
    refine (C1.out _).mono ?_
    rintro e w' ⟨rfl, rfl⟩
    go_wp2_with fail
    refine (HN.out _).mono ?_
    rintro e w' ⟨rfl, rfl⟩
    go_wp2_with fail
    refine (C3.out _).mono ?_
    rintro e w' ⟨rfl, rfl⟩
    go_wp2_with fail
    go_returns
    exact ⟨rfl, rfl⟩
  · go_enter Tryz.func104, Tryz.ntmps104
    go_wp2_with fail
    refine (C1.out _).mono ?_
    rintro e w' ⟨rfl, rfl⟩
    go_wp2_with fail
    refine (HN.out _).mono ?_
    rintro e w' ⟨rfl, rfl⟩
    go_wp2_with fail
    refine (C3.out _).mono ?_
    rintro e w' ⟨rfl, rfl⟩
    go_wp2_with fail
    refine (C4.out _).mono ?_
    rintro e w' ⟨rfl, rfl⟩
    go_wp2_with fail
    go_returns
    exact ⟨rfl, rfl⟩

set_option maxHeartbeats 2000000 in
theorem compareS (t : Int) (n : ByteArray) (l r : Int) (t' : Int) (n' : ByteArray) (l' r' : Int) (w : World) :
    Calls Tryz.prog 116 #[va t n l r, va t' n' l' r'] w fun e w' => e = .returned (.int .i64 (cc t n t' n')) ∧ w' = (w.alloc (.cells (ca t n l r) 63)).alloc (.cells (ca t' n' l' r') 63) := by
  unfold cc cn
  by_cases h : t < t'
  · rw [if_pos h]
    go_enter Tryz.func116, Tryz.ntmps116
    go_wp2_with fail
    go_returns
    exact ⟨rfl, rfl⟩
  rw [if_neg h]
  by_cases e : t = t'
  · rw [if_pos e]
    subst e
    cases h1 : lt n n'
    · cases h2 : sb n n'
      all_goals
        have s1 : Op.bytesLess n.toList n'.toList = false := h1
        have s2 : (n.toList == n'.toList) = _ := h2
        clear h1 h2
        go_enter Tryz.func116, Tryz.ntmps116
        go_wp2_with fail
        go_returns
        exact ⟨rfl, rfl⟩
    · have s1 : Op.bytesLess n.toList n'.toList = true := h1
      clear h1
      go_enter Tryz.func116, Tryz.ntmps116
      go_wp2_with fail
      go_returns
      exact ⟨rfl, rfl⟩
  · rw [if_neg e]
    have e1 : (t == t') = false := by simpa using e
    have e2 : decide (t = t') = false := decide_eq_false e
    go_enter Tryz.func116, Tryz.ntmps116
    go_wp2_with fail
    go_returns
    exact ⟨rfl, rfl⟩

theorem run_gtr (a b : ByteArray) (w : World) : (binOp .gtr 9 (.string a) (.string b)).run Tryz.prog w = .ok (.bool (!(lt a b || a.toList == b.toList))) w := by simp [binOp, Op.stringOp, lt]
theorem isNaNS (a : ByteArray) (w : World) : Calls Tryz.prog 157 #[.string a] w fun e w' => e = .returned (.bool false) ∧ w = w' := by
  have h : (a.toList == a.toList) = true := by simp
  go_enter Tryz.func157, Tryz.ntmps157
  go_wp2
  go_returns
  exact ⟨rfl, rfl⟩
theorem cmpS (a b : ByteArray) (w : World) : Calls Tryz.prog 135 #[.string a, .string b] w fun e w' => e = .returned (.int .i64 (cn a b)) ∧ w = w' := by
  have hg := run_gtr a b
  unfold cn
  cases h1 : lt a b
  · cases h2 : sb a b
    all_goals
      have s1 : Op.bytesLess a.toList b.toList = false := h1
      have s2 : (a.toList == b.toList) = _ := h2
      rw [h1, s2] at hg
      clear h1 h2
      go_enter Tryz.func135, Tryz.ntmps135
      go_wp2_with (go_at_call 157; ((with_reducible refine (isNaNS _ _).mono ?_); rintro e w' ⟨rfl, rfl⟩))
      go_returns
      exact ⟨rfl, rfl⟩
  · have s1 : Op.bytesLess a.toList b.toList = true := h1
    clear h1 hg
    go_enter Tryz.func135, Tryz.ntmps135
    go_wp2_with (go_at_call 157; ((with_reducible refine (isNaNS _ _).mono ?_); rintro e w' ⟨rfl, rfl⟩))
    go_returns
    exact ⟨rfl, rfl⟩
theorem isNaNI (a : Int) (w : World) : Calls Tryz.prog 160 #[.int .i64 a] w fun e w' => e = .returned (.bool false) ∧ w = w' := by
  have h : (a == a) = true := by simp
  go_enter Tryz.func160, Tryz.ntmps160
  go_wp2
  all_goals go_returns
  all_goals exact ⟨rfl, rfl⟩
theorem cmpI (a b : Int) (w : World) : Calls Tryz.prog 139 #[.int .i64 a, .int .i64 b] w fun e w' => e = .returned (.int .i64 (ci a b)) ∧ w = w' := by
  unfold ci
  by_cases h : a < b
  · rw [if_pos h]
    go_enter Tryz.func139, Tryz.ntmps139
    go_wp2_with (go_at_call 160; ((with_reducible refine (isNaNI _ _).mono ?_); rintro e w' ⟨rfl, rfl⟩))
    go_returns
    exact ⟨rfl, rfl⟩
  rw [if_neg h]
  by_cases e : a = b
  · rw [if_pos e]
    subst e
    go_enter Tryz.func139, Tryz.ntmps139
    go_wp2_with (go_at_call 160; ((with_reducible refine (isNaNI _ _).mono ?_); rintro e w' ⟨rfl, rfl⟩))
    go_returns
    exact ⟨rfl, rfl⟩
  · rw [if_neg e]
    have g : b < a := by omega
    go_enter Tryz.func139, Tryz.ntmps139
    go_wp2_with (go_at_call 160; ((with_reducible refine (isNaNI _ _).mono ?_); rintro e w' ⟨rfl, rfl⟩))
    go_returns
    exact ⟨rfl, rfl⟩

set_option maxHeartbeats 1000000 in
theorem orI (b : Nat) (x y : Int) (w : World) (c0 : w.cell? ⟨b, 0, none⟩ = some (.int .i64 x)) (c1 : w.cell? ⟨b, 1, none⟩ = some (.int .i64 y)) :
    Calls Tryz.prog 138 #[.slice (some ⟨b, 0, none⟩) 2 2] w fun e w' => e = .returned (.int .i64 (if x = 0 then y else x)) ∧ w = w' := by
  by_cases hx : x = 0
  · subst hx
    rw [if_pos rfl]
    by_cases hy : y = 0
    · subst hy
      go_enter Tryz.func138, Tryz.ntmps138
      go_wp2_with fail
      refine wp_loop_rounds 3 ?_
      repeat any_goals (rw [rounds_succ]; go_wp2_with fail)
      all_goals go_returns
      all_goals exact ⟨rfl, rfl⟩
    · have hb : (y == 0) = false := by simpa using hy
      go_enter Tryz.func138, Tryz.ntmps138
      go_wp2_with fail
      refine wp_loop_rounds 2 ?_
      repeat any_goals (rw [rounds_succ]; go_wp2_with fail)
      all_goals go_returns
      all_goals exact ⟨rfl, rfl⟩
  · rw [if_neg hx]
    have hb : (x == 0) = false := by simpa using hx
    go_enter Tryz.func138, Tryz.ntmps138
    go_wp2_with fail
    refine wp_loop_rounds 1 ?_
    repeat any_goals (rw [rounds_succ]; go_wp2_with fail)
    all_goals go_returns
    all_goals exact ⟨rfl, rfl⟩

set_option maxHeartbeats 4000000 in
theorem compareI (t : Int) (n : ByteArray) (l r : Int) (t' : Int) (n' : ByteArray) (l' r' : Int) (w : World) :
    Calls Tryz.prog 105 #[va t n l r, va t' n' l' r'] w fun e w' => e = .returned (.int .i64 (cc t n t' n')) ∧ Below w.heap.size w w' := by
  rw [← cc_or]
  have C1 := Lib.hid (cmpI t t')
  have C2 := Lib.hid (cmpS n n')
  generalize ci t t' = x at *
  generalize cn n n' = y at *
  obtain ⟨v, hv⟩ : ∃ v, (if x = 0 then y else x) = v := ⟨_, rfl⟩
  rw [hv]
  have C3 := Lib.hid (fun b W h0 h1 => hv ▸ orI b x y W h0 h1)
  clear hv
  go_enter Tryz.func105, Tryz.ntmps105
  go_wp2_with fail
  go_region_held3 (fun w' => w'.cell? ⟨w.heap.size, 0, none⟩ = some (.int .i64 t) ∧ w'.cell? ⟨w.heap.size, 1, none⟩ = some (.string n) ∧ w'.cell? ⟨w.heap.size + 1, 0, none⟩ = some (.int .i64 t') ∧ w'.cell? ⟨w.heap.size + 1, 1, none⟩ = some (.string n')) (simp [go_sem, *])
    (first | (go_at_call 139; ((with_reducible refine (C1.out _).mono ?_); rintro e w' ⟨rfl, rfl⟩)) | (go_at_call 135; ((with_reducible refine (C2.out _).mono ?_); rintro e w' ⟨rfl, rfl⟩)) | (go_at_call 138; ((with_reducible refine (C3.out _ _ (by simp [go_sem]) (by simp [go_sem])).mono ?_); rintro e w' ⟨rfl, rfl⟩)))
  all_goals go_wp2_with fail
  all_goals go_returns
  all_goals exact ⟨rfl, by go_grown⟩

end Go.Proofs.YtokncfhpmjohdabGreat.Cs
namespace Go.Proofs.YtokncfhpmjohdabGreat.Sd
open Go.RowKit Go.ChangeShapes Go.WideShapes Go.WideElems Go.Deep Go.Proofs.YtokncfhpmjohdabGreat.Mem Go.Proofs.YtokncfhpmjohdabGreat.Rw Go.Proofs.YtokncfhpmjohdabGreat.P2 Go.Proofs.YtokncfhpmjohdabGreat.Cd Go.Proofs.YtokncfhpmjohdabGreat.Cv Go.Proofs.YtokncfhpmjohdabGreat.Cl Go.Proofs.YtokncfhpmjohdabGreat.Cs
set_option linter.unusedVariables false
set_option linter.unusedSimpArgs false

noncomputable def cB (d : C) : Bool := cueB d.tk d.nm d.lv d.rp
/-- How two cues compare. -/
def cmp2 (a d : C) : Int := cc a.tk a.nm d.tk d.nm
def neg (v : Int) : Bool := decide (v < 0)
/-- Whether the cue at a place is behind the one before it. -/
def ordA (zs : List C) : Nat → Bool
  | 0 => true
  | p + 1 => match zs[p]?, zs[p + 1]? with | some a, some d => neg (cmp2 a d) | _, _ => true
theorem ordA_zero (zs : List C) : ordA zs 0 = true := rfl
theorem ordA_succ {zs : List C} {p : Nat} {a d : C} (ha : zs[p]? = some a) (hd : zs[p + 1]? = some d) : ordA zs (p + 1) = neg (cmp2 a d) := by
  show (match zs[p]?, zs[p + 1]? with | some a, some d => neg (cmp2 a d) | _, _ => true) = _
  rw [ha, hd]
def Score (zs : List C) : Prop := zs.length ≤ 12 ∧ ∀ (k : Nat) (d : C), zs[k]? = some d → cB d = true ∧ ordA zs k = true
/-- Whether these cues are a score. -/
noncomputable def score (zs : List C) : Bool := @decide (Score zs) (Classical.propDecidable _)
theorem score_yes {zs : List C} (h : Score zs) : score zs = true := by unfold score; exact @decide_eq_true _ (Classical.propDecidable _) h
theorem score_no {zs : List C} (h : ¬ Score zs) : score zs = false := by unfold score; exact @decide_eq_false _ (Classical.propDecidable _) h
theorem score_of {zs : List C} (h : score zs = true) : Score zs := by
  by_cases c : Score zs
  · exact c
  · rw [score_no c] at h; cases h
end Go.Proofs.YtokncfhpmjohdabGreat.Sd
namespace Go.Proofs.YtokncfhpmjohdabGreat.Strs
open Go.RowKit Go.Proofs.YtokncfhpmjohdabGreat.Mem

def strs (ss : List ByteArray) : List Value := ss.map Value.string
theorem strs_len (ss : List ByteArray) : (strs ss).length = ss.length := List.length_map ..
theorem strs_get {ss : List ByteArray} {k : Nat} {s : ByteArray} (h : ss[k]? = some s) : (strs ss)[k]? = some (.string s) := by
  unfold strs; rw [List.getElem?_map, h]; rfl

/-- What the copy leaves: a row of its own with these strings; what was there is as it was. -/
def Copied (w : World) (n : Nat) (ss : List ByteArray) (e : Ending) (w' : World) : Prop :=
  ∃ g, e = .returned (.slice (some ⟨g, 0, none⟩) n n) ∧ w.heap.size ≤ g ∧ w'.ownsRow w.heap.size 9 1 (.slice (some ⟨g, 0, none⟩) n n) n (strs ss) ∧ Below w.heap.size w w'

/-- Found equal: only draws were made. -/
def Same (b : Bool) (w : World) (e : Ending) (w' : World) : Prop := e = .returned (.bool b) ∧ ∃ m, w' = w.drewN m

/-- All lengths together. -/
def byteSum : List ByteArray → Nat
  | [] => 0
  | s :: ss => s.size + byteSum ss
def left (ss : List ByteArray) : Int := if ss.length + byteSum ss ≤ 1048576 then 1048576 - (ss.length : Int) - byteSum ss else -1
theorem ret_int {a b : Int} (h : a = b) : Ending.returned (.int .i64 a) = .returned (.int .i64 b) := by rw [h]

end Go.Proofs.YtokncfhpmjohdabGreat.Strs
namespace Go.Proofs.YtokncfhpmjohdabGreat.Tn
open Go.RowKit Go.Proofs.YtokncfhpmjohdabGreat.Mem Go.Proofs.YtokncfhpmjohdabGreat.Strs
set_option linter.unusedVariables false
set_option linter.unusedSimpArgs false

theorem toList_inj {a b : ByteArray} (h : a.toList = b.toList) : a = b := by
  rw [ByteArray.toList_eq, ByteArray.toList_eq] at h
  obtain ⟨⟨x⟩⟩ := a
  obtain ⟨⟨y⟩⟩ := b
  simp at h
  rw [h]
theorem bl_eq {a b : ByteArray} : (a.toList == b.toList) = true ↔ a = b := ⟨fun h => toList_inj (by simpa using h), fun h => by simp [h]⟩
theorem bl_ne {a b : ByteArray} (h : a ≠ b) : (a.toList == b.toList) = false := by
  cases c : a.toList == b.toList
  · rfl
  · exact absurd (bl_eq.1 c) h
/-- Whether a text is among these. -/
noncomputable def hasN (ss : List ByteArray) (s : ByteArray) : Bool := @decide (s ∈ ss) (Classical.propDecidable _)
theorem hasN_yes {ss : List ByteArray} {s : ByteArray} (h : s ∈ ss) : hasN ss s = true := by unfold hasN; exact @decide_eq_true _ (Classical.propDecidable _) h
theorem hasN_no {ss : List ByteArray} {s : ByteArray} (h : ¬ s ∈ ss) : hasN ss s = false := by unfold hasN; exact @decide_eq_false _ (Classical.propDecidable _) h
/-- None of the first k is this text. -/
def Not (ss : List ByteArray) (s : ByteArray) (k : Nat) : Prop := ∀ j, j < k → ss[j]? ≠ some s
theorem Not.zero (ss : List ByteArray) (s : ByteArray) : Not ss s 0 := fun j h => by omega
theorem Not.next {ss : List ByteArray} {s x : ByteArray} {k : Nat} (h : Not ss s k) (hp : ss[k]? = some x) (hx : x ≠ s) : Not ss s (k + 1) := fun j hj e => by
  by_cases c : j = k
  · subst c; rw [hp] at e; cases e; exact hx rfl
  · exact h j (by omega) e
theorem Not.all {ss : List ByteArray} {s : ByteArray} {k : Nat} (h : Not ss s k) (hk : ss.length = k) : ¬ s ∈ ss := fun hp => by
  obtain ⟨j, hj, e⟩ := List.mem_iff_getElem.1 hp
  exact h j (by omega) (by rw [List.getElem?_eq_getElem hj, e])

set_option maxHeartbeats 2000000 in
theorem index (A : Option Addr) (n c : Nat) (ss : List ByteArray) (s : ByteArray) (H : Nat) (w : World) (hn : ss.length = n) (hb : n ≤ 1048576) (hr : Rd w H A (strs ss)) :
    Calls Tryz.prog 109 #[.slice A n c, .string s] w fun e w' => (∃ R : Int, e = .returned (.int .i64 R) ∧ (0 ≤ R ↔ s ∈ ss)) ∧ ∃ m, w' = w.drewN m := by
  have HR := Lib.hid hr
  have HN := Lib.hid hn
  clear hr hn
  go_enter Tryz.func109, Tryz.ntmps109
  go_wp2_with fail
  go_loop [8] (fun i => ∃ k : Nat, k ≤ n ∧ i = .int .i64 k ∧ Hid (Not ss s k)) (fun i => n - (intOf i).toNat)
  case atStart => exact ⟨0, Nat.zero_le _, rfl, Lib.hid (Not.zero _ _)⟩
  case round =>
    obtain ⟨k, hk, rfl, NK⟩ := hrel
    by_cases hlt : k < n
    · have hkz : k < ss.length := by rw [HN.out]; exact hlt
      obtain ⟨p, hp⟩ : ∃ p, ss[k]? = some p := ⟨_, List.getElem?_eq_getElem hkz⟩
      obtain ⟨b, o, eA, hbl, hcell⟩ := HR.out.get (k := k) (by rw [strs_len]; exact hkz)
      have c1 : w.cell? ⟨b, o + k, none⟩ = some (.string p) := hcell _ _ (strs_get hp)
      by_cases he : p = s
      · have EQ : (s.toList == p.toList) = true := bl_eq.2 he.symm
        have F := Lib.hid (show ((0 : Int) ≤ (k : Int) ↔ s ∈ ss) from ⟨fun _ => he ▸ List.mem_of_getElem? hp, fun _ => by omega⟩)
        clear hcell hp hkz hbl he
        subst eA
        go_wp2_with fail
        go_ret
        exact ⟨⟨_, rfl, F.out⟩, ⟨0, rfl⟩⟩
      · have EQ : (s.toList == p.toList) = false := bl_ne fun h => he h.symm
        have NN := Lib.hid (NK.out.next hp he)
        clear hcell hp hkz hbl he
        subst eA
        go_wp2_with fail
        go_round
        case rel => exact ⟨k + 1, by omega, by go_num, NN⟩
        case measure => simp [intOf]; omega
    · obtain rfl : k = n := by omega
      have F := Lib.hid (show ((0 : Int) ≤ -1 ↔ s ∈ ss) from ⟨fun h => by omega, fun h => absurd h (NK.out.all HN.out)⟩)
      go_wp2_with fail
      go_ret
      exact ⟨⟨_, rfl, F.out⟩, ⟨0, rfl⟩⟩

set_option maxHeartbeats 1000000 in
theorem contains (A : Option Addr) (n c : Nat) (ss : List ByteArray) (s : ByteArray) (H : Nat) (w : World) (hn : ss.length = n) (hb : n ≤ 1048576) (hr : Rd w H A (strs ss)) :
    Calls Tryz.prog 68 #[.slice A n c, .string s] w fun e w' => e = .returned (.bool (hasN ss s)) ∧ ∃ m, w' = w.drewN m := by
  have I := Lib.hid (index A n c ss s H w hn hb hr)
  clear hn hr
  go_enter Tryz.func68, Tryz.ntmps68
  go_wp2_with fail
  refine I.out.mono ?_
  rintro e w' ⟨⟨R, rfl, F⟩, m, rfl⟩
  have F := Lib.hid (show decide (0 ≤ R) = hasN ss s by
    by_cases h : s ∈ ss
    · rw [hasN_yes h, decide_eq_true (F.2 h)]
    · rw [hasN_no h, decide_eq_false fun c => h (F.1 c)])
  go_wp2_with fail
  go_ret
  exact ⟨by rw [← F.out]; rfl, m, rfl⟩

end Go.Proofs.YtokncfhpmjohdabGreat.Tn
namespace Go.Proofs.YtokncfhpmjohdabGreat.Oc
open Go.RowKit Go.ChangeShapes Go.WideShapes Go.WideElems Go.Deep Go.Proofs.YtokncfhpmjohdabGreat.Mem Go.Proofs.YtokncfhpmjohdabGreat.Rw Go.Proofs.YtokncfhpmjohdabGreat.P2 Go.Proofs.YtokncfhpmjohdabGreat.Cd Go.Proofs.YtokncfhpmjohdabGreat.Cv Go.Proofs.YtokncfhpmjohdabGreat.Cl Go.Proofs.YtokncfhpmjohdabGreat.Cs
set_option linter.unusedVariables false
set_option linter.unusedSimpArgs false
open Go.Proofs.YtokncfhpmjohdabGreat.Sd Go.Proofs.YtokncfhpmjohdabGreat.Tn
open Go.Proofs.YtokncfhpmjohdabGreat.Rw (owns_below owns_grown)

/-- A list of the call's own that holds these cues. -/
def RowC (w : World) (ds : List C) (e : Ending) (w' : World) : Prop :=
  ∃ g c, e = .returned (.slice (some ⟨g, 0, none⟩) ds.length c) ∧ w'.ownsRow w.heap.size 63 4 (.slice (some ⟨g, 0, none⟩) ds.length c) ds.length (dls ds) ∧ Below w.heap.size w w'
/-- .. and whether it has all of them. -/
def RowB (w : World) (ds : List C) (r : Bool) (e : Ending) (w' : World) : Prop :=
  ∃ g c, e = .returned (.tuple #[.slice (some ⟨g, 0, none⟩) ds.length c, .bool r]) ∧ w'.ownsRow w.heap.size 63 4 (.slice (some ⟨g, 0, none⟩) ds.length c) ds.length (dls ds) ∧ Below w.heap.size w w'
theorem own_mk {w : World} {base n : Nat} {v : Value} {xs : List Value} (h : w.ownsRow base 63 4 v (n + 1) xs) : ∃ g c, v = .slice (some ⟨g, 0, none⟩) (n + 1) c := by
  rcases h.2 with ⟨_, e⟩ | ⟨g, cap, cur, e, _⟩
  · omega
  · exact ⟨g, cap, e⟩
theorem own_drew {w : World} {base n : Nat} {v : Value} {xs : List Value} (h : w.ownsRow base 63 4 v n xs) : w.drew.ownsRow base 63 4 v n xs := ⟨h.1, h.2⟩
theorem own_drewN {w : World} {base n : Nat} {v : Value} {xs : List Value} (m : Nat) (h : w.ownsRow base 63 4 v n xs) : (w.drewN m).ownsRow base 63 4 v n xs := ⟨h.1, h.2⟩
theorem own_base {w : World} {base n : Nat} {v : Value} {xs : List Value} (h : w.ownsRow base 63 4 v n xs) : ∀ k, v.ownBlock = some k → base ≤ k := fun k e => (h.lt k e).1

/-- The cues of these names. -/
noncomputable def pick (zs : List C) (ss : List ByteArray) : List C := zs.filter fun d => hasN ss d.nm
noncomputable def only (zs : List C) (ss : List ByteArray) : List C := if score zs = true then pick zs ss else []
theorem only_no {zs : List C} (h : score zs = false) (ss : List ByteArray) : only zs ss = [] := by unfold only; rw [h]; rfl
theorem only_yes {zs : List C} (h : score zs = true) (ss : List ByteArray) : only zs ss = pick zs ss := by unfold only; rw [if_pos h]
theorem pick_len (zs : List C) (ss : List ByteArray) : (pick zs ss).length ≤ zs.length := List.length_filter_le _ _
theorem only_len (zs : List C) (ss : List ByteArray) : (only zs ss).length ≤ zs.length := by
  unfold only; split
  · exact pick_len _ _
  · exact Nat.zero_le _
theorem pick_yes {zs : List C} {ss : List ByteArray} {k : Nat} {d : C} (h : zs[k]? = some d) (hn : hasN ss d.nm = true) : pick (zs.take (k + 1)) ss = pick (zs.take k) ss ++ [d] := by
  obtain ⟨hk, rfl⟩ := List.getElem?_eq_some_iff.1 h
  unfold pick
  rw [List.take_succ_eq_append_getElem hk, List.filter_append]
  simp [hn]
theorem pick_no {zs : List C} {ss : List ByteArray} {k : Nat} {d : C} (h : zs[k]? = some d) (hn : hasN ss d.nm = false) : pick (zs.take (k + 1)) ss = pick (zs.take k) ss := by
  obtain ⟨hk, rfl⟩ := List.getElem?_eq_some_iff.1 h
  unfold pick
  rw [List.take_succ_eq_append_getElem hk, List.filter_append]
  simp [hn]
end Go.Proofs.YtokncfhpmjohdabGreat.Oc
namespace Go.Proofs.YtokncfhpmjohdabGreat.Times
open Go.RowKit Go.Proofs.YtokncfhpmjohdabGreat.Flt Go.Proofs.YtokncfhpmjohdabGreat.Meas

def good (x n : Int) : Bool := decide (-4096 ≤ x ∧ x ≤ 4096 ∧ (x = 0 ∨ -4096 ≤ n ∧ n ≤ 4096 ∧ -4096 ≤ x * n ∧ x * n ≤ 4096))
def val (x n : Int) : Int := if good x n = true then x * n else 0

/-- What a way of the walk ends in. -/
theorem fin {x n v : Int} {b : Bool} (h : good x n = b ∧ val x n = v) : Ending.returned (.tuple #[.int .i64 v, .bool b]) = .returned (.tuple #[.int .i64 (val x n), .bool (good x n)]) := by rw [h.1, h.2]

theorem isMeasure_impl (x : Int) (w : World) (h1 : -4096 ≤ x) (h2 : x ≤ 4096) : Calls Tryz.prog 110 #[.int .i64 x] w fun e w' => e = .returned (.bool true) ∧ w = w' := by
  go_enter Tryz.func110, Tryz.ntmps110
  go_wp2
  go_ret
  exact ⟨rfl, rfl⟩
theorem isMeasure_impl_no (x : Int) (w : World) (h : x < -4096 ∨ 4096 < x) : Calls Tryz.prog 110 #[.int .i64 x] w fun e w' => e = .returned (.bool false) ∧ w = w' := by
  rcases h with h | h
  · go_enter Tryz.func110, Tryz.ntmps110
    go_wp2
    go_ret
    exact ⟨rfl, rfl⟩
  · have hd : decide (x ≤ 4096) = false := decide_eq_false (by omega)
    go_enter Tryz.func110, Tryz.ntmps110
    go_wp2
    go_ret
    exact ⟨rfl, rfl⟩
theorem isMeasure_spec (x : Int) (w : World) (h1 : -4096 ≤ x) (h2 : x ≤ 4096) : Calls Tryz.prog 165 #[.int .i64 x] w fun e w' => e = .returned (.bool true) ∧ w = w' := by
  go_enter Tryz.func165, Tryz.ntmps165
  go_wp2
  go_ret
  exact ⟨rfl, rfl⟩
theorem isMeasure_spec_no (x : Int) (w : World) (h : x < -4096 ∨ 4096 < x) : Calls Tryz.prog 165 #[.int .i64 x] w fun e w' => e = .returned (.bool false) ∧ w = w' := by
  rcases h with h | h
  · go_enter Tryz.func165, Tryz.ntmps165
    go_wp2
    go_ret
    exact ⟨rfl, rfl⟩
  · have hd : decide (x ≤ 4096) = false := decide_eq_false (by omega)
    go_enter Tryz.func165, Tryz.ntmps165
    go_wp2
    go_ret
    exact ⟨rfl, rfl⟩

theorem mulN (x n : Int) (hx : x.natAbs < 16777216) (hn : n.natAbs < 16777216) (h : x * n ≠ 0 ∨ (0 ≤ x ∧ 0 ≤ n)) (w : World) :
    (binOp .mul 119 (.float .f32 (f32 x)) (.float .f32 (floatOfInt .f32 n))).run Tryz.prog w = .ok (.float .f32 (f32 (x * n))) w :=
  run_float_arith w .mul _ .f32 _ _ _ (mul_fl Ieee.single x n (-3) 0 (fits32 x hx) (fits0 n hn) h)

theorem eM : f32 16777216 = 1241513984 := by decide
end Go.Proofs.YtokncfhpmjohdabGreat.Times
namespace Go.Proofs.YtokncfhpmjohdabGreat.Ramp
open Go.RowKit Go.Proofs.YtokncfhpmjohdabGreat.Flt Go.Proofs.YtokncfhpmjohdabGreat.Meas Go.Proofs.YtokncfhpmjohdabGreat.Times

theorem widen (K p : Int) (hK : K.natAbs < 16777216) (hp : -149 ≤ p) (hq : p ≤ 100) : floatToFloatBits .f32 (fl Ieee.single K p) .f64 = some (fl Ieee.double K p) := by
  have h1 := fits_single K p hK hp hq
  have h2 := fits_double K p (by omega) (by omega) (by omega)
  have e : FloatKind.f64.encode (FloatKind.f32.decode (fl Ieee.single K p)) = fl Ieee.double K p := rewrite_fl Ieee.single Ieee.double K p h1
  obtain ⟨s, m, x, hr⟩ := read_number Ieee.single K p h1
  obtain ⟨s2, m2, x2, hr2⟩ := read_number Ieee.double K p h2
  have hr' : FloatKind.f32.decode (fl Ieee.single K p) = .number s m x := hr
  have hr2' : FloatKind.f64.decode (fl Ieee.double K p) = .number s2 m2 x2 := hr2
  unfold floatToFloatBits
  rw [if_neg (by decide), hr']
  rw [hr'] at e
  simp only [e, hr2', Ieee.Datum.isInfinity]
  rfl

/-- What the model's entry gives at a number. -/
theorem integral_run (name : String) (way : Ieee.Toward) (x : Nat) (s : Bool) (m : Nat) (p : Int) (h : FloatKind.f64.decode x = .number s m p) (w : World) :
    (Extern.MathFloor.toIntegral name way #[.float .f64 x]).run Tryz.prog w = .ok (.float .f64 (FloatKind.f64.encode ((Ieee.Datum.number s m p).integral way))) w := by
  conv in (Extern.MathFloor.toIntegral _ _ _) => whnf
  rw [h]
  rfl

theorem archFloor (K : Int) (T : Nat) (hK : K.natAbs < 16777216) (hT : T ≤ 100) (w : World) :
    (callFunc 163 #[.float .f64 (fl Ieee.double K (-(T : Int)))]).run Tryz.prog w = .ok (.value (.float .f64 (fl Ieee.double (K / 2 ^ T) 0))) w := by
  have h2 := fits_double K (-(T : Int)) (by omega) (by omega) (by omega)
  rw [run_callFunc_extern (e := Extern.MathFloor.toIntegral "math.archFloor" .down) Tryz.func163 (by kernel_rfl) (by kernel_rfl) (by kernel_rfl) (by kernel_rfl)]
  obtain ⟨s2, m2, x2, hr2⟩ := read_number Ieee.double K _ h2
  have hr2' : FloatKind.f64.decode (fl Ieee.double K (-(T : Int))) = .number s2 m2 x2 := hr2
  have e : FloatKind.f64.encode ((FloatKind.f64.decode (fl Ieee.double K (-(T : Int)))).integral .down) = fl Ieee.double (K / 2 ^ T) 0 := floor_fl Ieee.double K T h2
  rw [hr2'] at e
  rw [integral_run _ _ _ _ _ _ hr2']
  rw [e]
  rfl

theorem narrow (n : Int) (h : n.natAbs < 16777216) (w : World) : (convert 173 3 (.float .f64 (fl Ieee.double n 0))).run Tryz.prog w = .ok (.int .i64 n) w :=
  run_convert_float_int w _ _ .f64 .i64 _ n (by kernel_rfl) (by kernel_rfl) (by
    unfold floatToIntVal
    rw [show (FloatKind.f64.decode (fl Ieee.double n 0)).toInt .zero = some n from toInt_fl Ieee.double n (fits_double n 0 (by omega) (by decide) (by decide))]
    simp only
    rw [if_pos]
    have h1 : IntKind.i64.min = -9223372036854775808 := rfl
    have h2 : IntKind.i64.max = 9223372036854775807 := rfl
    rw [h1, h2]; omega)

theorem prod_abs (r i n : Int) (hr1 : -8192 ≤ r) (hr2 : r ≤ 8192) (hi : 1 ≤ i) (hin : i < n) (hn : n ≤ 999) : (r * i).natAbs < 8388608 ∧ (r * i).natAbs < 8192 * n.toNat := by
  have h : (r * i).natAbs ≤ 8192 * i.natAbs := by rw [Int.natAbs_mul]; exact Nat.mul_le_mul_right _ (by omega)
  omega

/-- The floor keeps within the quotient's bounds. -/
theorem quo_abs (A : Int) (n : Nat) (hn : 0 < n) (h : A.natAbs < 8192 * n) : -8192 ≤ A / n ∧ A / n < 8192 := by
  have h1 : -8192 * (n : Int) ≤ A := by omega
  have h2 : A < 8192 * (n : Int) := by omega
  have hn' : (0 : Int) < n := by omega
  exact ⟨(Int.le_ediv_iff_mul_le hn').2 h1, (Int.ediv_lt_iff_lt_mul hn').2 h2⟩

theorem rampRise (r i n : Int) (hr1 : -8192 ≤ r) (hr2 : r ≤ 8192) (hi : 1 ≤ i) (hin : i < n) (hn : n ≤ 999) (w : World) :
    Calls Tryz.prog 111 #[.float .f32 (f32 r), .float .f32 (floatOfInt .f32 i), .float .f32 (floatOfInt .f32 n)] w fun e w' => e = .returned (.int .i64 (r * i / n)) ∧ w = w' := by
  obtain ⟨N, rfl⟩ : ∃ N : Nat, n = N := ⟨n.toNat, by omega⟩
  obtain ⟨b1, b2⟩ := prod_abs r i N hr1 hr2 hi hin hn
  rw [Int.toNat_natCast] at b2
  have m1 := mulN r i (by omega) (by omega) (by
    by_cases c : r = 0
    · right; omega
    · left; exact Int.mul_ne_zero c (by omega))
  obtain ⟨q1, q2⟩ := quo_abs (r * i) N (by omega) b2
  generalize r * i = A at *
  obtain ⟨K, T, hdiv, hK, hT, hfl⟩ := div_fl A N (by omega) (by omega) b1 b2
  have d1 : ∀ w, (binOp .quo 119 (.float .f32 (f32 A)) (.float .f32 (floatOfInt .f32 (N : Int)))).run Tryz.prog w = .ok (.float .f32 (fl Ieee.single K (-3 - (T : Int)))) w := fun w => run_float_arith w .quo _ .f32 _ _ _ hdiv
  have m2 : ∀ w, (binOp .mul 119 (.float .f32 (fl Ieee.single K (-3 - (T : Int)))) (.float .f32 1090519040)).run Tryz.prog w = .ok (.float .f32 (fl Ieee.single K (-(T : Int)))) w := fun w => run_float_arith w .mul _ .f32 _ _ _ (by
    have := mul8_fl K (-3 - (T : Int)) (fits_single _ _ hK (by omega) (by omega))
    rw [c8, show -3 - (T : Int) + 3 = -(T : Int) by omega] at this
    exact this)
  have cw : ∀ w, (convert 119 173 (.float .f32 (fl Ieee.single K (-(T : Int))))).run Tryz.prog w = .ok (.float .f64 (fl Ieee.double K (-(T : Int)))) w := fun w => run_convert_float_float w _ _ .f32 .f64 _ _ (by kernel_rfl) (by kernel_rfl) (widen K _ hK (by omega) (by omega))
  have fr := archFloor K T hK hT
  rw [hfl] at fr
  have cn := narrow (A / N) (by omega)
  clear hdiv hfl b1 b2 q1 q2 hr1 hr2 hi hin hn hK hT
  go_enter Tryz.func111, Tryz.ntmps111
  go_wp2
  go_ret
  exact ⟨rfl, rfl⟩

end Go.Proofs.YtokncfhpmjohdabGreat.Ramp
namespace Go.Proofs.YtokncfhpmjohdabGreat.RampAt
open Go.RowKit Go.Proofs.YtokncfhpmjohdabGreat.Flt Go.Proofs.YtokncfhpmjohdabGreat.Meas Go.Proofs.YtokncfhpmjohdabGreat.Times Go.Proofs.YtokncfhpmjohdabGreat.Ramp

def isM (x : Int) : Bool := decide (-4096 ≤ x ∧ x ≤ 4096)
def level (a b i n : Int) : Int := if isM a = true ∧ isM b = true then if n ≤ i then b else if i ≤ 0 ∨ 999 < n then a else a + (b - a) * i / n else 0

theorem ret_int {a b : Int} (h : a = b) : Ending.returned (.int .i64 a) = .returned (.int .i64 b) := by rw [h]

theorem level_no {a b : Int} (i n : Int) (h : (a < -4096 ∨ 4096 < a) ∨ (b < -4096 ∨ 4096 < b)) : 0 = level a b i n := by
  unfold level isM
  rw [if_neg]
  simp only [decide_eq_true_eq]
  omega
theorem level_yes {a b : Int} (i n : Int) (ha1 : -4096 ≤ a) (ha2 : a ≤ 4096) (hb1 : -4096 ≤ b) (hb2 : b ≤ 4096) : level a b i n = if n ≤ i then b else if i ≤ 0 ∨ 999 < n then a else a + (b - a) * i / n := by
  unfold level isM
  rw [if_pos]
  simp only [decide_eq_true_eq]
  omega

theorem subM (b a : Int) (ha : a.natAbs < 16777216) (hb : b.natAbs < 16777216) (w : World) :
    (binOp .sub 119 (.float .f32 (f32 b)) (.float .f32 (f32 a))).run Tryz.prog w = .ok (.float .f32 (f32 (b - a))) w :=
  run_float_arith w .sub _ .f32 _ _ _ (sub_fl Ieee.single b a (-3) (fits32 b hb) (fits32 a ha))

theorem tdiv_floor (A n : Int) (hn : 0 < n) : (A.tmod n < 0 → A.tdiv n - 1 = A / n) ∧ (¬ A.tmod n < 0 → A.tdiv n = A / n) := by
  have h1 := @Int.tdiv_eq_ediv A n
  have h2 := @Int.tmod_eq_emod A n
  have h3 := Int.emod_nonneg A (Int.ne_of_gt hn)
  have h4 := Int.emod_lt_of_pos A hn
  have hs : n.sign = 1 := Int.sign_eq_one_of_pos hn
  rw [hs] at h1
  by_cases c : 0 ≤ A ∨ n ∣ A
  · rw [if_pos c] at h1 h2
    exact ⟨fun h => by omega, fun _ => by omega⟩
  · rw [if_neg c] at h1 h2
    exact ⟨fun h => by omega, fun h => by omega⟩

theorem floor_spec (A n : Int) (hA1 : -8388608 < A) (hA2 : A < 8388608) (hn : 1 ≤ n) (hn2 : n ≤ 999) (hq1 : -8192 ≤ A / n) (hq2 : A / n < 8192) (w : World) :
    Calls Tryz.prog 166 #[.int .i64 A, .int .i64 n] w fun e w' => e = .returned (.int .i64 (A / n)) ∧ w = w' := by
  obtain ⟨t1, t2⟩ := tdiv_floor A n (by omega)
  by_cases c : A.tmod n < 0
  · have e := t1 c
    have hlo : -8192 ≤ A.tdiv n := by omega
    have hhi : A.tdiv n ≤ 8193 := by omega
    have E := Lib.hid e
    clear t1 t2 e hq1 hq2
    by_cases hpos : 0 ≤ A
    · exact absurd (Int.tmod_nonneg n hpos) (by omega)
    · have hdec : decide (A.tmod n < 0) = true := decide_eq_true c
      go_enter Tryz.func166, Tryz.ntmps166
      go_wp2
      go_ret
      exact ⟨ret_int E.out, rfl⟩
  · have e := t2 c
    by_cases hpos : 0 ≤ A
    · have E := Lib.hid e
      clear t1 t2 e
      have c' : ¬ A % n < 0 := by have := Int.emod_nonneg A (show n ≠ 0 by omega); omega
      clear c
      go_enter Tryz.func166, Tryz.ntmps166
      go_wp2
      go_ret
      exact ⟨rfl, rfl⟩
    · have E := Lib.hid e
      clear t1 t2 e
      have hdec : decide (A.tmod n < 0) = false := decide_eq_false c
      go_enter Tryz.func166, Tryz.ntmps166
      go_wp2
      go_ret
      exact ⟨ret_int E.out, rfl⟩

set_option maxHeartbeats 1000000 in
theorem impl (a b i n : Int) (wi : (Lit.int .i64 i).wf = true) (wn : (Lit.int .i64 n).wf = true) (w : World) :
    Calls Tryz.prog 69 #[.int .i64 a, .int .i64 b, .int .i64 i, .int .i64 n] w fun e w' => e = .returned (.int .i64 (level a b i n)) ∧ w = w' := by
  by_cases ha : a < -4096 ∨ 4096 < a
  · have L := Lib.hid (level_no i n (Or.inl ha) (b := b))
    go_enter Tryz.func69, Tryz.ntmps69
    go_wp2_with (go_at_call 110; refine (isMeasure_impl_no _ _ ha).mono ?_; rintro e w' ⟨rfl, rfl⟩)
    go_ret
    exact ⟨ret_int L.out, rfl⟩
  · have ha1 : -4096 ≤ a := by omega
    have ha2 : a ≤ 4096 := by omega
    clear ha
    by_cases hb : b < -4096 ∨ 4096 < b
    · have L := Lib.hid (level_no i n (Or.inr hb) (a := a))
      go_enter Tryz.func69, Tryz.ntmps69
      go_wp2_with fail
      refine (isMeasure_impl _ _ ha1 ha2).mono ?_
      rintro e w' ⟨rfl, rfl⟩
      go_wp2_with fail
      refine (isMeasure_impl_no _ _ hb).mono ?_
      rintro e w' ⟨rfl, rfl⟩
      go_wp2_with fail
      go_ret
      exact ⟨ret_int L.out, rfl⟩
    · have hb1 : -4096 ≤ b := by omega
      have hb2 : b ≤ 4096 := by omega
      clear hb
      have L := level_yes i n ha1 ha2 hb1 hb2
      by_cases h1 : n ≤ i
      · rw [if_pos h1] at L
        have LL := Lib.hid L
        clear L
        go_enter Tryz.func69, Tryz.ntmps69
        go_wp2_with (go_at_call 110; refine (isMeasure_impl _ _ (by omega) (by omega)).mono ?_; rintro e w' ⟨rfl, rfl⟩)
        go_ret
        exact ⟨ret_int LL.out.symm, rfl⟩
      · rw [if_neg h1] at L
        by_cases h2 : i ≤ 0 ∨ 999 < n
        · rw [if_pos h2] at L
          have LL := Lib.hid L
          clear L
          by_cases h3 : i ≤ 0
          · go_enter Tryz.func69, Tryz.ntmps69
            go_wp2_with (go_at_call 110; refine (isMeasure_impl _ _ (by omega) (by omega)).mono ?_; rintro e w' ⟨rfl, rfl⟩)
            go_ret
            exact ⟨ret_int LL.out.symm, rfl⟩
          · have h4 : 999 < n := by omega
            go_enter Tryz.func69, Tryz.ntmps69
            go_wp2_with (go_at_call 110; refine (isMeasure_impl _ _ (by omega) (by omega)).mono ?_; rintro e w' ⟨rfl, rfl⟩)
            go_ret
            exact ⟨ret_int LL.out.symm, rfl⟩
        · rw [if_neg h2] at L
          have h3 : 1 ≤ i := by omega
          have h4 : n ≤ 999 := by omega
          have h5 : i < n := by omega
          have LL := Lib.hid L
          have s := subM b a (by omega) (by omega)
          obtain ⟨N, hN⟩ : ∃ N : Nat, n = N := ⟨n.toNat, by omega⟩
          obtain ⟨b1, b2⟩ := prod_abs (b - a) i n (by omega) (by omega) h3 h5 h4
          obtain ⟨q1, q2⟩ := quo_abs ((b - a) * i) N (by omega) (by omega)
          rw [← hN] at q1 q2
          clear L h1 h2 hN b1 b2
          have d1 : decide (i ≤ 0) = false := decide_eq_false (by omega)
          have d2 : decide (999 < n) = false := decide_eq_false (by omega)
          go_enter Tryz.func69, Tryz.ntmps69
          go_wp2_with (first
            | (go_at_call 110; refine (isMeasure_impl _ _ (by omega) (by omega)).mono ?_; rintro e w' ⟨rfl, rfl⟩)
            | (go_at_call 88; refine (wholesOf _ (by omega) _).mono ?_; rintro e w' ⟨rfl, rfl⟩)
            | (go_at_call 111; refine (rampRise _ _ _ (by omega) (by omega) h3 h5 h4 _).mono ?_; rintro e w' ⟨rfl, rfl⟩))
          go_ret
          exact ⟨ret_int LL.out.symm, rfl⟩

set_option maxHeartbeats 1000000 in
theorem spec (a b i n : Int) (wi : (Lit.int .i64 i).wf = true) (wn : (Lit.int .i64 n).wf = true) (w : World) :
    Calls Tryz.prog 146 #[.int .i64 a, .int .i64 b, .int .i64 i, .int .i64 n] w fun e w' => e = .returned (.int .i64 (level a b i n)) ∧ w = w' := by
  by_cases ha : a < -4096 ∨ 4096 < a
  · have L := Lib.hid (level_no i n (Or.inl ha) (b := b))
    go_enter Tryz.func146, Tryz.ntmps146
    go_wp2_with (go_at_call 165; refine (isMeasure_spec_no _ _ ha).mono ?_; rintro e w' ⟨rfl, rfl⟩)
    go_ret
    exact ⟨ret_int L.out, rfl⟩
  · have ha1 : -4096 ≤ a := by omega
    have ha2 : a ≤ 4096 := by omega
    clear ha
    by_cases hb : b < -4096 ∨ 4096 < b
    · have L := Lib.hid (level_no i n (Or.inr hb) (a := a))
      go_enter Tryz.func146, Tryz.ntmps146
      go_wp2_with fail
      refine (isMeasure_spec _ _ ha1 ha2).mono ?_
      rintro e w' ⟨rfl, rfl⟩
      go_wp2_with fail
      refine (isMeasure_spec_no _ _ hb).mono ?_
      rintro e w' ⟨rfl, rfl⟩
      go_wp2_with fail
      go_ret
      exact ⟨ret_int L.out, rfl⟩
    · have hb1 : -4096 ≤ b := by omega
      have hb2 : b ≤ 4096 := by omega
      clear hb
      have L := level_yes i n ha1 ha2 hb1 hb2
      by_cases h1 : n ≤ i
      · rw [if_pos h1] at L
        have LL := Lib.hid L
        clear L
        go_enter Tryz.func146, Tryz.ntmps146
        go_wp2_with (go_at_call 165; refine (isMeasure_spec _ _ (by omega) (by omega)).mono ?_; rintro e w' ⟨rfl, rfl⟩)
        go_ret
        exact ⟨ret_int LL.out.symm, rfl⟩
      · rw [if_neg h1] at L
        by_cases h2 : i ≤ 0 ∨ 999 < n
        · rw [if_pos h2] at L
          have LL := Lib.hid L
          clear L
          by_cases h3 : i ≤ 0
          · go_enter Tryz.func146, Tryz.ntmps146
            go_wp2_with (go_at_call 165; refine (isMeasure_spec _ _ (by omega) (by omega)).mono ?_; rintro e w' ⟨rfl, rfl⟩)
            go_ret
            exact ⟨ret_int LL.out.symm, rfl⟩
          · have h4 : 999 < n := by omega
            go_enter Tryz.func146, Tryz.ntmps146
            go_wp2_with (go_at_call 165; refine (isMeasure_spec _ _ (by omega) (by omega)).mono ?_; rintro e w' ⟨rfl, rfl⟩)
            go_ret
            exact ⟨ret_int LL.out.symm, rfl⟩
        · rw [if_neg h2] at L
          have h3 : 1 ≤ i := by omega
          have h4 : n ≤ 999 := by omega
          have h5 : i < n := by omega
          have LL := Lib.hid L
          obtain ⟨N, hN⟩ : ∃ N : Nat, n = N := ⟨n.toNat, by omega⟩
          obtain ⟨b1, b2⟩ := prod_abs (b - a) i n (by omega) (by omega) h3 h5 h4
          obtain ⟨q1, q2⟩ := quo_abs ((b - a) * i) N (by omega) (by omega)
          rw [← hN] at q1 q2
          have b3 : -8388608 < (b - a) * i := by omega
          have b4 : (b - a) * i < 8388608 := by omega
          clear L h1 h2 hN b1 b2
          have d1 : decide (i ≤ 0) = false := decide_eq_false (by omega)
          have d2 : decide (999 < n) = false := decide_eq_false (by omega)
          go_enter Tryz.func146, Tryz.ntmps146
          go_wp2_with (first
            | (go_at_call 165; refine (isMeasure_spec _ _ (by omega) (by omega)).mono ?_; rintro e w' ⟨rfl, rfl⟩)
            | (go_at_call 166; refine (floor_spec _ _ b3 b4 (by omega) h4 q1 q2 _).mono ?_; rintro e w' ⟨rfl, rfl⟩))
          go_ret
          exact ⟨ret_int LL.out.symm, rfl⟩

end Go.Proofs.YtokncfhpmjohdabGreat.RampAt
