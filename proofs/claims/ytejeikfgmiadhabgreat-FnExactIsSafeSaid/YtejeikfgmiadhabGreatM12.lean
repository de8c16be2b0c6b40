/- Whether a number is within two others. -/
import Derived.Test.YtejeikfgmiadhabGreatM8
import Derived.Test.YtejeikfgmiadhabGreatM6
import Derived.Test.YtejeikfgmiadhabGreatM2
import Derived.Deep.RegionHeld3
import Derived.Test.YtejeikfgmiadhabGreatM7
import Derived.Test.YtejeikfgmiadhabGreatM1
namespace Go.Proofs.YtejeikfgmiadhabGreat.Cs
open Go.RowKit Go.Deep Go.Proofs.YtejeikfgmiadhabGreat.P2 Go.Proofs.YtejeikfgmiadhabGreat.Jt Go.Proofs.YtejeikfgmiadhabGreat.Cd Go.Proofs.YtejeikfgmiadhabGreat.IsName
set_option linter.unusedVariables false
set_option linter.unusedSimpArgs false

/-- Whether a cue is valid. -/
noncomputable def cueB (t : Int) (n : ByteArray) (l r : Int) : Bool := iw t 0 64 && (nameB n && (iw l 0 32 && iw r 0 16))
/-- Whether two texts are one. -/
def sb (a b : ByteArray) : Bool := a.toList == b.toList
/-- Whether a name is before another one. -/
def lt (a b : ByteArray) : Bool := Op.bytesLess a.toList b.toList
/-- How two names compare. -/
def cn (a b : ByteArray) : Int := if lt a b then -1 else if sb a b then 0 else 1
/-- How two numbers compare. -/
def ci (a b : Int) : Int := if a < b then -1 else if a = b then 0 else 1
/-- How two cues compare. -/
def cc (t : Int) (n : ByteArray) (t' : Int) (n' : ByteArray) : Int := if t < t' then -1 else if t = t' then cn n n' else 1
theorem cc_or (t : Int) (n : ByteArray) (t' : Int) (n' : ByteArray) : (if ci t t' = 0 then cn n n' else ci t t') = cc t n t' n' := by
  unfold cc ci
  by_cases h : t < t'
  · rw [if_pos h, if_pos h, if_neg (by omega)]
  · rw [if_neg h, if_neg h]
    by_cases e : t = t'
    · rw [if_pos e, if_pos e, if_pos rfl]
    · rw [if_neg e, if_neg e, if_neg (by omega)]

set_option maxHeartbeats 1000000 in
theorem isCueS (t : Int) (n : ByteArray) (l r : Int) (hn : n.size ≤ 1048576) (w : World) :
    Calls Tryz.prog 119 #[va t n l r] w fun e w' => e = .returned (.bool (cueB t n l r)) ∧ w' = w.alloc (.cells (ca t n l r) 127) := by
  have cn := IsName.spec n hn
  unfold cueB
  generalize nameB n = bn at *
  have HN := Lib.hid cn
  clear cn
  obtain ⟨b1, h1⟩ : ∃ b, iw t 0 64 = b := ⟨_, rfl⟩
  obtain ⟨b3, h3⟩ : ∃ b, iw l 0 32 = b := ⟨_, rfl⟩
  obtain ⟨b4, h4⟩ : ∃ b, iw r 0 16 = b := ⟨_, rfl⟩
  rw [h1, h3, h4]
  have C1 := Lib.hid (l1In_of h1)
  have C3 := Lib.hid (l1In_of h3)
  have C4 := Lib.hid (l1In_of h4)
  clear h1 h3 h4
  cases b1
  · go_enter Tryz.func119, Tryz.ntmps119
    go_wp2_with fail
    refine (C1.out _).mono ?_
    rintro e w' ⟨rfl, rfl⟩
    go_wp2_with fail
    go_returns
    exact ⟨rfl, rfl⟩
  cases bn
  · go_enter Tryz.func119, Tryz.ntmps119
    go_wp2_with fail
    refine (C1.out _).mono ?_
    rintro e w' ⟨rfl, rfl⟩
    go_wp2_with fail
    refine (HN.out _).mono ?_
    rintro e w' ⟨rfl, rfl⟩
    go_wp2_with fail
    go_returns
    exact ⟨rfl, rfl⟩
  cases b3
  · go_enter Tryz.func119, Tryz.ntmps119
    go_wp2_with fail
    refine (C1.out _).mono ?_
    rintro e w' ⟨rfl, rfl⟩
    go_wp2_with fail
    refine (HN.out _).mono ?_
    rintro e w' ⟨rfl, rfl⟩
    go_wp2_with fail
    refine (C3.out _).mono ?_
    rintro e w' ⟨rfl, rfl⟩
    go_wp2_with fail
    go_returns
    exact ⟨rfl, rfl⟩
  · go_enter Tryz.func119, Tryz.ntmps119
    go_wp2_with fail
    refine (C1.out _).mono ?_
    rintro e w' ⟨rfl, rfl⟩
    go_wp2_with fail
    refine (HN.out _).mono ?_
    rintro e w' ⟨rfl, rfl⟩
    go_wp2_with fail
    refine (C3.out _).mono ?_
    rintro e w' ⟨rfl, rfl⟩
    go_wp2_with fail
    refine (C4.out _).mono ?_
    rintro e w' ⟨rfl, rfl⟩
    go_wp2_with fail
    go_returns
    exact ⟨rfl, rfl⟩

set_option maxHeartbeats 1000000 in
theorem isCueI (t : Int) (n : ByteArray) (l r : Int) (w : World) :
    Calls Tryz.prog 162 #[va t n l r] w fun e w' => e = .returned (.bool (cueB t n l r)) ∧ w' = w.alloc (.cells (ca t n l r) 127) := by
  have cn := IsName.impl n
  unfold cueB
  generalize nameB n = bn at *
  have HN := Lib.hid cn
  clear cn
  obtain ⟨b1, h1⟩ : ∃ b, iw t 0 64 = b := ⟨_, rfl⟩
  obtain ⟨b3, h3⟩ : ∃ b, iw l 0 32 = b := ⟨_, rfl⟩
  obtain ⟨b4, h4⟩ : ∃ b, iw r 0 16 = b := ⟨_, rfl⟩
  rw [h1, h3, h4]
  have C1 := Lib.hid (isWithin_of h1)
  have C3 := Lib.hid (isWithin_of h3)
  have C4 := Lib.hid (isWithin_of h4)
  clear h1 h3 h4
  cases b1
  · go_enter Tryz.func162, Tryz.ntmps162
    go_wp2_with fail
    refine (C1.out _).mono ?_
    rintro e w' ⟨rfl, rfl⟩
    go_wp2_with fail
    go_returns
    exact ⟨rfl, rfl⟩
  cases bn
  · go_enter Tryz.func162, Tryz.ntmps162
    go_wp2_with fail
    refine (C1.out _).mono ?_
    rintro e w' ⟨rfl, rfl⟩
    go_wp2_with fail
    refine (HN.out _).mono ?_
    rintro e w' ⟨rfl, rfl⟩
    go_wp2_with fail
    go_returns
    exact ⟨rfl, rfl⟩
  cases b3
  · go_enter Tryz.func162, Tryz.ntmps162
    go_wp2_with fail
    refine (C1.out _).mono ?_
    rintro e w' ⟨rfl, rfl⟩
    go_wp2_with fail
    refine (HN.out _).mono ?_
    rintro e w' ⟨rfl, rfl⟩
    go_wp2_with fail
    refine (C3.out _).mono ?_
    rintro e w' ⟨rfl, rfl⟩
    go_wp2_with fail
    go_returns
    exact ⟨rfl, rfl⟩
  · go_enter Tryz.func162, Tryz.ntmps162
    go_wp2_with fail
    refine (C1.out _).mono ?_
    rintro e w' ⟨rfl, rfl⟩
    go_wp2_with fail
    refine (HN.out _).mono ?_
    rintro e w' ⟨rfl, rfl⟩
    go_wp2_with fail
    refine (C3.out _).mono ?_
    rintro e w' ⟨rfl, rfl⟩
    go_wp2_with fail
    refine (C4.out _).mono ?_
    rintro e w' ⟨rfl, rfl⟩
    go_wp2_with fail
    go_returns
    exact ⟨rfl, rfl⟩

set_option maxHeartbeats 2000000 in
theorem compareS (t : Int) (n : ByteArray) (l r : Int) (t' : Int) (n' : ByteArray) (l' r' : Int) (w : World) :
    Calls Tryz.prog 120 #[va t n l r, va t' n' l' r'] w fun e w' => e = .returned (.int .i64 (cc t n t' n')) ∧ w' = (w.alloc (.cells (ca t n l r) 127)).alloc (.cells (ca t' n' l' r') 127) := by
  unfold cc cn
  by_cases h : t < t'
  · rw [if_pos h]
    go_enter Tryz.func120, Tryz.ntmps120
    go_wp2_with fail
    go_returns
    exact ⟨rfl, rfl⟩
  rw [if_neg h]
  by_cases e : t = t'
  · rw [if_pos e]
    subst e
    cases h1 : lt n n'
    · cases h2 : sb n n'
      all_goals
        have s1 : Op.bytesLess n.toList n'.toList = false := h1
        have s2 : (n.toList == n'.toList) = _ := h2
        clear h1 h2
        go_enter Tryz.func120, Tryz.ntmps120
        go_wp2_with fail
        go_returns
        exact ⟨rfl, rfl⟩
    · have s1 : Op.bytesLess n.toList n'.toList = true := h1
      clear h1
      go_enter Tryz.func120, Tryz.ntmps120
      go_wp2_with fail
      go_returns
      exact ⟨rfl, rfl⟩
  · rw [if_neg e]
    have e1 : (t == t') = false := by simpa using e
    have e2 : decide (t = t') = false := decide_eq_false e
    go_enter Tryz.func120, Tryz.ntmps120
    go_wp2_with fail
    go_returns
    exact ⟨rfl, rfl⟩

theorem run_gtr (a b : ByteArray) (w : World) : (binOp .gtr 9 (.string a) (.string b)).run Tryz.prog w = .ok (.bool (!(lt a b || a.toList == b.toList))) w := by simp [binOp, Op.stringOp, lt]
theorem isNaNS (a : ByteArray) (w : World) : Calls Tryz.prog 192 #[.string a] w fun e w' => e = .returned (.bool false) ∧ w = w' := by
  have h : (a.toList == a.toList) = true := by simp
  go_enter Tryz.func192, Tryz.ntmps192
  go_wp2
  go_returns
  exact ⟨rfl, rfl⟩
theorem cmpS (a b : ByteArray) (w : World) : Calls Tryz.prog 182 #[.string a, .string b] w fun e w' => e = .returned (.int .i64 (cn a b)) ∧ w = w' := by
  have hg := run_gtr a b
  unfold cn
  cases h1 : lt a b
  · cases h2 : sb a b
    all_goals
      have s1 : Op.bytesLess a.toList b.toList = false := h1
      have s2 : (a.toList == b.toList) = _ := h2
      rw [h1, s2] at hg
      clear h1 h2
      go_enter Tryz.func182, Tryz.ntmps182
      go_wp2_with (go_at_call 192; ((with_reducible refine (isNaNS _ _).mono ?_); rintro e w' ⟨rfl, rfl⟩))
      go_returns
      exact ⟨rfl, rfl⟩
  · have s1 : Op.bytesLess a.toList b.toList = true := h1
    clear h1 hg
    go_enter Tryz.func182, Tryz.ntmps182
    go_wp2_with (go_at_call 192; ((with_reducible refine (isNaNS _ _).mono ?_); rintro e w' ⟨rfl, rfl⟩))
    go_returns
    exact ⟨rfl, rfl⟩
theorem isNaNI (a : Int) (w : World) : Calls Tryz.prog 159 #[.int .i64 a] w fun e w' => e = .returned (.bool false) ∧ w = w' := by
  have h : (a == a) = true := by simp
  go_enter Tryz.func159, Tryz.ntmps159
  go_wp2
  all_goals go_returns
  all_goals exact ⟨rfl, rfl⟩
theorem cmpI (a b : Int) (w : World) : Calls Tryz.prog 127 #[.int .i64 a, .int .i64 b] w fun e w' => e = .returned (.int .i64 (ci a b)) ∧ w = w' := by
  unfold ci
  by_cases h : a < b
  · rw [if_pos h]
    go_enter Tryz.func127, Tryz.ntmps127
    go_wp2_with (go_at_call 159; ((with_reducible refine (isNaNI _ _).mono ?_); rintro e w' ⟨rfl, rfl⟩))
    go_returns
    exact ⟨rfl, rfl⟩
  rw [if_neg h]
  by_cases e : a = b
  · rw [if_pos e]
    subst e
    go_enter Tryz.func127, Tryz.ntmps127
    go_wp2_with (go_at_call 159; ((with_reducible refine (isNaNI _ _).mono ?_); rintro e w' ⟨rfl, rfl⟩))
    go_returns
    exact ⟨rfl, rfl⟩
  · rw [if_neg e]
    have g : b < a := by omega
    go_enter Tryz.func127, Tryz.ntmps127
    go_wp2_with (go_at_call 159; ((with_reducible refine (isNaNI _ _).mono ?_); rintro e w' ⟨rfl, rfl⟩))
    go_returns
    exact ⟨rfl, rfl⟩

set_option maxHeartbeats 1000000 in
theorem orI (b : Nat) (x y : Int) (w : World) (c0 : w.cell? ⟨b, 0, none⟩ = some (.int .i64 x)) (c1 : w.cell? ⟨b, 1, none⟩ = some (.int .i64 y)) :
    Calls Tryz.prog 126 #[.slice (some ⟨b, 0, none⟩) 2 2] w fun e w' => e = .returned (.int .i64 (if x = 0 then y else x)) ∧ w = w' := by
  by_cases hx : x = 0
  · subst hx
    rw [if_pos rfl]
    by_cases hy : y = 0
    · subst hy
      go_enter Tryz.func126, Tryz.ntmps126
      go_wp2_with fail
      refine wp_loop_rounds 3 ?_
      repeat any_goals (rw [rounds_succ]; go_wp2_with fail)
      all_goals go_returns
      all_goals exact ⟨rfl, rfl⟩
    · have hb : (y == 0) = false := by simpa using hy
      go_enter Tryz.func126, Tryz.ntmps126
      go_wp2_with fail
      refine wp_loop_rounds 2 ?_
      repeat any_goals (rw [rounds_succ]; go_wp2_with fail)
      all_goals go_returns
      all_goals exact ⟨rfl, rfl⟩
  · rw [if_neg hx]
    have hb : (x == 0) = false := by simpa using hx
    go_enter Tryz.func126, Tryz.ntmps126
    go_wp2_with fail
    refine wp_loop_rounds 1 ?_
    repeat any_goals (rw [rounds_succ]; go_wp2_with fail)
    all_goals go_returns
    all_goals exact ⟨rfl, rfl⟩

set_option maxHeartbeats 4000000 in
theorem compareI (t : Int) (n : ByteArray) (l r : Int) (t' : Int) (n' : ByteArray) (l' r' : Int) (w : World) :
    Calls Tryz.prog 163 #[va t n l r, va t' n' l' r'] w fun e w' => e = .returned (.int .i64 (cc t n t' n')) ∧ Below w.heap.size w w' := by
  rw [← cc_or]
  have C1 := Lib.hid (cmpI t t')
  have C2 := Lib.hid (cmpS n n')
  generalize ci t t' = x at *
  generalize cn n n' = y at *
  obtain ⟨v, hv⟩ : ∃ v, (if x = 0 then y else x) = v := ⟨_, rfl⟩
  rw [hv]
  have C3 := Lib.hid (fun b W h0 h1 => hv ▸ orI b x y W h0 h1)
  clear hv
  go_enter Tryz.func163, Tryz.ntmps163
  go_wp2_with fail
  go_region_held3 (fun w' => w'.cell? ⟨w.heap.size, 0, none⟩ = some (.int .i64 t) ∧ w'.cell? ⟨w.heap.size, 1, none⟩ = some (.string n) ∧ w'.cell? ⟨w.heap.size + 1, 0, none⟩ = some (.int .i64 t') ∧ w'.cell? ⟨w.heap.size + 1, 1, none⟩ = some (.string n')) (simp [go_sem, *])
    (first | (go_at_call 127; ((with_reducible refine (C1.out _).mono ?_); rintro e w' ⟨rfl, rfl⟩)) | (go_at_call 182; ((with_reducible refine (C2.out _).mono ?_); rintro e w' ⟨rfl, rfl⟩)) | (go_at_call 126; ((with_reducible refine (C3.out _ _ (by simp [go_sem]) (by simp [go_sem])).mono ?_); rintro e w' ⟨rfl, rfl⟩)))
  all_goals go_wp2_with fail
  all_goals go_returns
  all_goals exact ⟨rfl, by go_grown⟩

end Go.Proofs.YtejeikfgmiadhabGreat.Cs
namespace Go.Proofs.YtejeikfgmiadhabGreat.Sd
open Go.RowKit Go.ChangeShapes Go.WideShapes Go.WideElems Go.Deep Go.Proofs.YtejeikfgmiadhabGreat.Mem Go.Proofs.YtejeikfgmiadhabGreat.Rw Go.Proofs.YtejeikfgmiadhabGreat.P2 Go.Proofs.YtejeikfgmiadhabGreat.Cd Go.Proofs.YtejeikfgmiadhabGreat.Cv Go.Proofs.YtejeikfgmiadhabGreat.Cl Go.Proofs.YtejeikfgmiadhabGreat.Cs
set_option linter.unusedVariables false
set_option linter.unusedSimpArgs false

noncomputable def cB (d : C) : Bool := cueB d.tk d.nm d.lv d.rp
/-- How two cues compare. -/
def cmp2 (a d : C) : Int := cc a.tk a.nm d.tk d.nm
def neg (v : Int) : Bool := decide (v < 0)
/-- Whether the cue at a place is behind the one before it. -/
def ordA (zs : List C) : Nat → Bool
  | 0 => true
  | p + 1 => match zs[p]?, zs[p + 1]? with | some a, some d => neg (cmp2 a d) | _, _ => true
theorem ordA_zero (zs : List C) : ordA zs 0 = true := rfl
theorem ordA_succ {zs : List C} {p : Nat} {a d : C} (ha : zs[p]? = some a) (hd : zs[p + 1]? = some d) : ordA zs (p + 1) = neg (cmp2 a d) := by
  show (match zs[p]?, zs[p + 1]? with | some a, some d => neg (cmp2 a d) | _, _ => true) = _
  rw [ha, hd]
def Score (zs : List C) : Prop := zs.length ≤ 12 ∧ ∀ (k : Nat) (d : C), zs[k]? = some d → cB d = true ∧ ordA zs k = true
/-- Whether these cues are a score. -/
noncomputable def score (zs : List C) : Bool := @decide (Score zs) (Classical.propDecidable _)
theorem score_yes {zs : List C} (h : Score zs) : score zs = true := by unfold score; exact @decide_eq_true _ (Classical.propDecidable _) h
theorem score_no {zs : List C} (h : ¬ Score zs) : score zs = false := by unfold score; exact @decide_eq_false _ (Classical.propDecidable _) h
theorem score_of {zs : List C} (h : score zs = true) : Score zs := by
  by_cases c : Score zs
  · exact c
  · rw [score_no c] at h; cases h
theorem score_iff {zs : List C} : score zs = true ↔ Score zs := ⟨score_of, score_yes⟩
end Go.Proofs.YtejeikfgmiadhabGreat.Sd
namespace Go.Proofs.YtejeikfgmiadhabGreat.Strs
open Go.RowKit Go.Proofs.YtejeikfgmiadhabGreat.Mem

theorem infoStr : (Tryz.prog.info? 9).map (fun i => (i.zero, i.size, i.bytes)) = some (some (.string ByteArray.empty), 1, 16) := by kernel_rfl
def strs (ss : List ByteArray) : List Value := ss.map Value.string
theorem strs_len (ss : List ByteArray) : (strs ss).length = ss.length := List.length_map ..
theorem strs_get {ss : List ByteArray} {k : Nat} {s : ByteArray} (h : ss[k]? = some s) : (strs ss)[k]? = some (.string s) := by
  unfold strs; rw [List.getElem?_map, h]; rfl

theorem made_strs (n : Nat) : (madeCells (Value.string ByteArray.empty).cells (n * 1)).toList = List.replicate n (.string ByteArray.empty) := by
  rw [Nat.mul_one]; exact toList_madeCells_one _ _

/-- What the copy leaves: a row of its own with these strings; what was there is as it was. -/
def Copied (w : World) (n : Nat) (ss : List ByteArray) (e : Ending) (w' : World) : Prop :=
  ∃ g, e = .returned (.slice (some ⟨g, 0, none⟩) n n) ∧ w.heap.size ≤ g ∧ w'.ownsRow w.heap.size 9 1 (.slice (some ⟨g, 0, none⟩) n n) n (strs ss) ∧ Below w.heap.size w w'

/-- Found equal: only draws were made. -/
def Same (b : Bool) (w : World) (e : Ending) (w' : World) : Prop := e = .returned (.bool b) ∧ ∃ m, w' = w.drewN m

/-- All lengths together. -/
def byteSum : List ByteArray → Nat
  | [] => 0
  | s :: ss => s.size + byteSum ss
theorem byteSum_append (a b : List ByteArray) : byteSum (a ++ b) = byteSum a + byteSum b := by
  induction a with
  | nil => simp [byteSum]
  | cons z a ih => simp only [List.cons_append, byteSum, ih]; omega
theorem byteSum_take {ss : List ByteArray} {k : Nat} {s : ByteArray} (h : ss[k]? = some s) : byteSum (ss.take (k + 1)) = byteSum (ss.take k) + s.size := by
  obtain ⟨hk, rfl⟩ := List.getElem?_eq_some_iff.1 h
  rw [List.take_succ_eq_append_getElem hk, byteSum_append]; simp [byteSum]
theorem byteSum_take_le (ss : List ByteArray) (k : Nat) : byteSum (ss.take k) ≤ byteSum ss := by
  have := byteSum_append (ss.take k) (ss.drop k)
  rw [List.take_append_drop] at this
  omega
def left (ss : List ByteArray) : Int := if ss.length + byteSum ss ≤ 1048576 then 1048576 - (ss.length : Int) - byteSum ss else -1
theorem left_no {ss : List ByteArray} (h : 1048576 < ss.length + byteSum ss) : left ss = -1 := if_neg (by omega)
theorem left_yes {ss : List ByteArray} (h : ss.length + byteSum ss ≤ 1048576) : left ss = 1048576 - (ss.length : Int) - byteSum ss := if_pos h
theorem ret_int {a b : Int} (h : a = b) : Ending.returned (.int .i64 a) = .returned (.int .i64 b) := by rw [h]

end Go.Proofs.YtejeikfgmiadhabGreat.Strs
namespace Go.Proofs.YtejeikfgmiadhabGreat.Tn
open Go.RowKit Go.Proofs.YtejeikfgmiadhabGreat.Mem Go.Proofs.YtejeikfgmiadhabGreat.Strs
set_option linter.unusedVariables false
set_option linter.unusedSimpArgs false

theorem toList_inj {a b : ByteArray} (h : a.toList = b.toList) : a = b := by
  rw [ByteArray.toList_eq, ByteArray.toList_eq] at h
  obtain ⟨⟨x⟩⟩ := a
  obtain ⟨⟨y⟩⟩ := b
  simp at h
  rw [h]
theorem bl_eq {a b : ByteArray} : (a.toList == b.toList) = true ↔ a = b := ⟨fun h => toList_inj (by simpa using h), fun h => by simp [h]⟩
theorem bl_ne {a b : ByteArray} (h : a ≠ b) : (a.toList == b.toList) = false := by
  cases c : a.toList == b.toList
  · rfl
  · exact absurd (bl_eq.1 c) h
/-- Whether a text is among these. -/
noncomputable def hasN (ss : List ByteArray) (s : ByteArray) : Bool := @decide (s ∈ ss) (Classical.propDecidable _)
theorem hasN_yes {ss : List ByteArray} {s : ByteArray} (h : s ∈ ss) : hasN ss s = true := by unfold hasN; exact @decide_eq_true _ (Classical.propDecidable _) h
theorem hasN_no {ss : List ByteArray} {s : ByteArray} (h : ¬ s ∈ ss) : hasN ss s = false := by unfold hasN; exact @decide_eq_false _ (Classical.propDecidable _) h
/-- None of the first k is this text. -/
def Not (ss : List ByteArray) (s : ByteArray) (k : Nat) : Prop := ∀ j, j < k → ss[j]? ≠ some s
theorem Not.zero (ss : List ByteArray) (s : ByteArray) : Not ss s 0 := fun j h => by omega
theorem Not.next {ss : List ByteArray} {s x : ByteArray} {k : Nat} (h : Not ss s k) (hp : ss[k]? = some x) (hx : x ≠ s) : Not ss s (k + 1) := fun j hj e => by
  by_cases c : j = k
  · subst c; rw [hp] at e; cases e; exact hx rfl
  · exact h j (by omega) e
theorem Not.all {ss : List ByteArray} {s : ByteArray} {k : Nat} (h : Not ss s k) (hk : ss.length = k) : ¬ s ∈ ss := fun hp => by
  obtain ⟨j, hj, e⟩ := List.mem_iff_getElem.1 hp
  exact h j (by omega) (by rw [List.getElem?_eq_getElem hj, e])

set_option maxHeartbeats 2000000 in
theorem index (A : Option Addr) (n c : Nat) (ss : List ByteArray) (s : ByteArray) (H : Nat) (w : World) (hn : ss.length = n) (hb : n ≤ 1048576) (hr : Rd w H A (strs ss)) :
    Calls Tryz.prog 201 #[.slice A n c, .string s] w fun e w' => (∃ R : Int, e = .returned (.int .i64 R) ∧ (0 ≤ R ↔ s ∈ ss)) ∧ ∃ m, w' = w.drewN m := by
  have HR := Lib.hid hr
  have HN := Lib.hid hn
  clear hr hn
  go_enter Tryz.func201, Tryz.ntmps201
  go_wp2_with fail
  go_loop [8] (fun i => ∃ k : Nat, k ≤ n ∧ i = .int .i64 k ∧ Hid (Not ss s k)) (fun i => n - (intOf i).toNat)
  case atStart => exact ⟨0, Nat.zero_le _, rfl, Lib.hid (Not.zero _ _)⟩
  case round =>
    obtain ⟨k, hk, rfl, NK⟩ := hrel
    by_cases hlt : k < n
    · have hkz : k < ss.length := by rw [HN.out]; exact hlt
      obtain ⟨p, hp⟩ : ∃ p, ss[k]? = some p := ⟨_, List.getElem?_eq_getElem hkz⟩
      obtain ⟨b, o, eA, hbl, hcell⟩ := HR.out.get (k := k) (by rw [strs_len]; exact hkz)
      have c1 : w.cell? ⟨b, o + k, none⟩ = some (.string p) := hcell _ _ (strs_get hp)
      by_cases he : p = s
      · have EQ : (s.toList == p.toList) = true := bl_eq.2 he.symm
        have F := Lib.hid (show ((0 : Int) ≤ (k : Int) ↔ s ∈ ss) from ⟨fun _ => he ▸ List.mem_of_getElem? hp, fun _ => by omega⟩)
        clear hcell hp hkz hbl he
        subst eA
        go_wp2_with fail
        go_ret
        exact ⟨⟨_, rfl, F.out⟩, ⟨0, rfl⟩⟩
      · have EQ : (s.toList == p.toList) = false := bl_ne fun h => he h.symm
        have NN := Lib.hid (NK.out.next hp he)
        clear hcell hp hkz hbl he
        subst eA
        go_wp2_with fail
        go_round
        case rel => exact ⟨k + 1, by omega, by go_num, NN⟩
        case measure => simp [intOf]; omega
    · obtain rfl : k = n := by omega
      have F := Lib.hid (show ((0 : Int) ≤ -1 ↔ s ∈ ss) from ⟨fun h => by omega, fun h => absurd h (NK.out.all HN.out)⟩)
      go_wp2_with fail
      go_ret
      exact ⟨⟨_, rfl, F.out⟩, ⟨0, rfl⟩⟩

set_option maxHeartbeats 1000000 in
theorem contains (A : Option Addr) (n c : Nat) (ss : List ByteArray) (s : ByteArray) (H : Nat) (w : World) (hn : ss.length = n) (hb : n ≤ 1048576) (hr : Rd w H A (strs ss)) :
    Calls Tryz.prog 198 #[.slice A n c, .string s] w fun e w' => e = .returned (.bool (hasN ss s)) ∧ ∃ m, w' = w.drewN m := by
  have I := Lib.hid (index A n c ss s H w hn hb hr)
  clear hn hr
  go_enter Tryz.func198, Tryz.ntmps198
  go_wp2_with fail
  refine I.out.mono ?_
  rintro e w' ⟨⟨R, rfl, F⟩, m, rfl⟩
  have F := Lib.hid (show decide (0 ≤ R) = hasN ss s by
    by_cases h : s ∈ ss
    · rw [hasN_yes h, decide_eq_true (F.2 h)]
    · rw [hasN_no h, decide_eq_false fun c => h (F.1 c)])
  go_wp2_with fail
  go_ret
  exact ⟨by rw [← F.out]; rfl, m, rfl⟩

end Go.Proofs.YtejeikfgmiadhabGreat.Tn
