/- Whether a cue is valid, and how two cues compare, of the program and of the model. -/
import Derived.Test.YtgcheplneolonacCd
import Derived.Test.YtgcheplneolonacIsName
import Derived.Test.YtgcheplneolonacIv
import Derived.Deep.RegionHeld3
namespace Go.Proofs.Ytgcheplneolonac.Cs
open Go.RowKit Go.Deep Go.Proofs.Ytgcheplneolonac.P2 Go.Proofs.Ytgcheplneolonac.Jt Go.Proofs.Ytgcheplneolonac.Cd Go.Proofs.Ytgcheplneolonac.IsName
set_option linter.unusedVariables false
set_option linter.unusedSimpArgs false

/-- Whether a cue is valid. -/
noncomputable def cueB (t : Int) (n : ByteArray) (l r : Int) : Bool := iw t 0 64 && (nameB n && (iw l 0 32 && iw r 0 16))
/-- Whether two texts are one. -/
def sb (a b : ByteArray) : Bool := a.toList == b.toList
/-- Whether a name is before another one. -/
def lt (a b : ByteArray) : Bool := Op.bytesLess a.toList b.toList
/-- How two names compare. -/
def cn (a b : ByteArray) : Int := if lt a b then -1 else if sb a b then 0 else 1
/-- How two numbers compare. -/
def ci (a b : Int) : Int := if a < b then -1 else if a = b then 0 else 1
/-- How two cues compare. -/
def cc (t : Int) (n : ByteArray) (t' : Int) (n' : ByteArray) : Int := if t < t' then -1 else if t = t' then cn n n' else 1
theorem cc_or (t : Int) (n : ByteArray) (t' : Int) (n' : ByteArray) : (if ci t t' = 0 then cn n n' else ci t t') = cc t n t' n' := by
  unfold cc ci
  by_cases h : t < t'
  · rw [if_pos h, if_pos h, if_neg (by omega)]
  · rw [if_neg h, if_neg h]
    by_cases e : t = t'
    · rw [if_pos e, if_pos e, if_pos rfl]
    · rw [if_neg e, if_neg e, if_neg (by omega)]

set_option maxHeartbeats 1000000 in
theorem isCueS (t : Int) (n : ByteArray) (l r : Int) (hn : n.size ≤ 1048576) (w : World) :
    Calls Try.prog 55 #[va t n l r] w fun e w' => e = .returned (.bool (cueB t n l r)) ∧ w' = w.alloc (.cells (ca t n l r) 26) := by
  have cn := IsName.spec n hn
  unfold cueB
  generalize nameB n = bn at *
  have HN := Lib.hid cn
  clear cn
  obtain ⟨b1, h1⟩ : ∃ b, iw t 0 64 = b := ⟨_, rfl⟩
  obtain ⟨b3, h3⟩ : ∃ b, iw l 0 32 = b := ⟨_, rfl⟩
  obtain ⟨b4, h4⟩ : ∃ b, iw r 0 16 = b := ⟨_, rfl⟩
  rw [h1, h3, h4]
  have C1 := Lib.hid (l1In_of h1)
  have C3 := Lib.hid (l1In_of h3)
  have C4 := Lib.hid (l1In_of h4)
  clear h1 h3 h4
  cases b1
  · go_enter Try.func55, Try.ntmps55
    go_wp2_with fail
    refine (C1.out _).mono ?_
    rintro e w' ⟨rfl, rfl⟩
    go_wp2_with fail
    go_returns
    exact ⟨rfl, rfl⟩
  cases bn
  · go_enter Try.func55, Try.ntmps55
    go_wp2_with fail
    refine (C1.out _).mono ?_
    rintro e w' ⟨rfl, rfl⟩
    go_wp2_with fail
    refine (HN.out _).mono ?_
    rintro e w' ⟨rfl, rfl⟩
    go_wp2_with fail
    go_returns
    exact ⟨rfl, rfl⟩
  cases b3
  · go_enter Try.func55, Try.ntmps55
    go_wp2_with fail
    refine (C1.out _).mono ?_
    rintro e w' ⟨rfl, rfl⟩
    go_wp2_with fail
    refine (HN.out _).mono ?_
    rintro e w' ⟨rfl, rfl⟩
    go_wp2_with fail
    refine (C3.out _).mono ?_
    rintro e w' ⟨rfl, rfl⟩
    go_wp2_with fail
    go_returns
    exact ⟨rfl, rfl⟩
  · go_enter Try.func55, Try.ntmps55
    go_wp2_with fail
    refine (C1.out _).mono ?_
    rintro e w' ⟨rfl, rfl⟩
    go_wp2_with fail
    refine (HN.out _).mono ?_
    rintro e w' ⟨rfl, rfl⟩
    go_wp2_with fail
    refine (C3.out _).mono ?_
    rintro e w' ⟨rfl, rfl⟩
    go_wp2_with fail
    refine (C4.out _).mono ?_
    rintro e w' ⟨rfl, rfl⟩
    go_wp2_with fail
    go_returns
    exact ⟨rfl, rfl⟩

set_option maxHeartbeats 1000000 in
theorem isCueI (t : Int) (n : ByteArray) (l r : Int) (w : World) :
    Calls Try.prog 23 #[va t n l r] w fun e w' => e = .returned (.bool (cueB t n l r)) ∧ w' = w.alloc (.cells (ca t n l r) 26) := by
  have cn := IsName.impl n
  unfold cueB
  generalize nameB n = bn at *
  have HN := Lib.hid cn
  clear cn
  obtain ⟨b1, h1⟩ : ∃ b, iw t 0 64 = b := ⟨_, rfl⟩
  obtain ⟨b3, h3⟩ : ∃ b, iw l 0 32 = b := ⟨_, rfl⟩
  obtain ⟨b4, h4⟩ : ∃ b, iw r 0 16 = b := ⟨_, rfl⟩
  rw [h1, h3, h4]
  have C1 := Lib.hid (isWithin_of h1)
  have C3 := Lib.hid (isWithin_of h3)
  have C4 := Lib.hid (isWithin_of h4)
  clear h1 h3 h4
  cases b1
  · go_enter Try.func23, Try.ntmps23
    go_wp2_with fail
    refine (C1.out _).mono ?_
    rintro e w' ⟨rfl, rfl⟩
    go_wp2_with fail
    go_returns
    exact ⟨rfl, rfl⟩
  cases bn
  · go_enter Try.func23, Try.ntmps23
    go_wp2_with fail
    refine (C1.out _).mono ?_
    rintro e w' ⟨rfl, rfl⟩
    go_wp2_with fail
    refine (HN.out _).mono ?_
    rintro e w' ⟨rfl, rfl⟩
    go_wp2_with fail
    go_returns
    exact ⟨rfl, rfl⟩
  cases b3
  · go_enter Try.func23, Try.ntmps23
    go_wp2_with fail
    refine (C1.out _).mono ?_
    rintro e w' ⟨rfl, rfl⟩
    go_wp2_with fail
    refine (HN.out _).mono ?_
    rintro e w' ⟨rfl, rfl⟩
    go_wp2_with fail
    refine (C3.out _).mono ?_
    rintro e w' ⟨rfl, rfl⟩
    go_wp2_with fail
    go_returns
    exact ⟨rfl, rfl⟩
  · go_enter Try.func23, Try.ntmps23
    go_wp2_with fail
    refine (C1.out _).mono ?_
    rintro e w' ⟨rfl, rfl⟩
    go_wp2_with fail
    refine (HN.out _).mono ?_
    rintro e w' ⟨rfl, rfl⟩
    go_wp2_with fail
    refine (C3.out _).mono ?_
    rintro e w' ⟨rfl, rfl⟩
    go_wp2_with fail
    refine (C4.out _).mono ?_
    rintro e w' ⟨rfl, rfl⟩
    go_wp2_with fail
    go_returns
    exact ⟨rfl, rfl⟩

set_option maxHeartbeats 2000000 in
theorem compareS (t : Int) (n : ByteArray) (l r : Int) (t' : Int) (n' : ByteArray) (l' r' : Int) (w : World) :
    Calls Try.prog 70 #[va t n l r, va t' n' l' r'] w fun e w' => e = .returned (.int .i64 (cc t n t' n')) ∧ w' = (w.alloc (.cells (ca t n l r) 26)).alloc (.cells (ca t' n' l' r') 26) := by
  unfold cc cn
  by_cases h : t < t'
  · rw [if_pos h]
    go_enter Try.func70, Try.ntmps70
    go_wp2_with fail
    go_returns
    exact ⟨rfl, rfl⟩
  rw [if_neg h]
  by_cases e : t = t'
  · rw [if_pos e]
    subst e
    cases h1 : lt n n'
    · cases h2 : sb n n'
      all_goals
        have s1 : Op.bytesLess n.toList n'.toList = false := h1
        have s2 : (n.toList == n'.toList) = _ := h2
        clear h1 h2
        go_enter Try.func70, Try.ntmps70
        go_wp2_with fail
        go_returns
        exact ⟨rfl, rfl⟩
    · have s1 : Op.bytesLess n.toList n'.toList = true := h1
      clear h1
      go_enter Try.func70, Try.ntmps70
      go_wp2_with fail
      go_returns
      exact ⟨rfl, rfl⟩
  · rw [if_neg e]
    have e1 : (t == t') = false := by simpa using e
    have e2 : decide (t = t') = false := decide_eq_false e
    go_enter Try.func70, Try.ntmps70
    go_wp2_with fail
    go_returns
    exact ⟨rfl, rfl⟩

theorem run_gtr (a b : ByteArray) (w : World) : (binOp .gtr 9 (.string a) (.string b)).run Try.prog w = .ok (.bool (!(lt a b || a.toList == b.toList))) w := by simp [binOp, Op.stringOp, lt]
theorem isNaNS (a : ByteArray) (w : World) : Calls Try.prog 50 #[.string a] w fun e w' => e = .returned (.bool false) ∧ w = w' := by
  have h : (a.toList == a.toList) = true := by simp
  go_enter Try.func50, Try.ntmps50
  go_wp2
  go_returns
  exact ⟨rfl, rfl⟩
theorem cmpS (a b : ByteArray) (w : World) : Calls Try.prog 38 #[.string a, .string b] w fun e w' => e = .returned (.int .i64 (cn a b)) ∧ w = w' := by
  have hg := run_gtr a b
  unfold cn
  cases h1 : lt a b
  · cases h2 : sb a b
    all_goals
      have s1 : Op.bytesLess a.toList b.toList = false := h1
      have s2 : (a.toList == b.toList) = _ := h2
      rw [h1, s2] at hg
      clear h1 h2
      go_enter Try.func38, Try.ntmps38
      go_wp2_with (go_at_call 50; ((with_reducible refine (isNaNS _ _).mono ?_); rintro e w' ⟨rfl, rfl⟩))
      go_returns
      exact ⟨rfl, rfl⟩
  · have s1 : Op.bytesLess a.toList b.toList = true := h1
    clear h1 hg
    go_enter Try.func38, Try.ntmps38
    go_wp2_with (go_at_call 50; ((with_reducible refine (isNaNS _ _).mono ?_); rintro e w' ⟨rfl, rfl⟩))
    go_returns
    exact ⟨rfl, rfl⟩
theorem isNaNI (a : Int) (w : World) : Calls Try.prog 49 #[.int .i64 a] w fun e w' => e = .returned (.bool false) ∧ w = w' := by
  have h : (a == a) = true := by simp
  go_enter Try.func49, Try.ntmps49
  go_wp2
  all_goals go_returns
  all_goals exact ⟨rfl, rfl⟩
theorem cmpI (a b : Int) (w : World) : Calls Try.prog 37 #[.int .i64 a, .int .i64 b] w fun e w' => e = .returned (.int .i64 (ci a b)) ∧ w = w' := by
  unfold ci
  by_cases h : a < b
  · rw [if_pos h]
    go_enter Try.func37, Try.ntmps37
    go_wp2_with (go_at_call 49; ((with_reducible refine (isNaNI _ _).mono ?_); rintro e w' ⟨rfl, rfl⟩))
    go_returns
    exact ⟨rfl, rfl⟩
  rw [if_neg h]
  by_cases e : a = b
  · rw [if_pos e]
    subst e
    go_enter Try.func37, Try.ntmps37
    go_wp2_with (go_at_call 49; ((with_reducible refine (isNaNI _ _).mono ?_); rintro e w' ⟨rfl, rfl⟩))
    go_returns
    exact ⟨rfl, rfl⟩
  · rw [if_neg e]
    have g : b < a := by omega
    go_enter Try.func37, Try.ntmps37
    go_wp2_with (go_at_call 49; ((with_reducible refine (isNaNI _ _).mono ?_); rintro e w' ⟨rfl, rfl⟩))
    go_returns
    exact ⟨rfl, rfl⟩

set_option maxHeartbeats 1000000 in
theorem orI (b : Nat) (x y : Int) (w : World) (c0 : w.cell? ⟨b, 0, none⟩ = some (.int .i64 x)) (c1 : w.cell? ⟨b, 1, none⟩ = some (.int .i64 y)) :
    Calls Try.prog 36 #[.slice (some ⟨b, 0, none⟩) 2 2] w fun e w' => e = .returned (.int .i64 (if x = 0 then y else x)) ∧ w = w' := by
  by_cases hx : x = 0
  · subst hx
    rw [if_pos rfl]
    by_cases hy : y = 0
    · subst hy
      go_enter Try.func36, Try.ntmps36
      go_wp2_with fail
      refine wp_loop_rounds 3 ?_
      repeat any_goals (rw [rounds_succ]; go_wp2_with fail)
      all_goals go_returns
      all_goals exact ⟨rfl, rfl⟩
    · have hb : (y == 0) = false := by simpa using hy
      go_enter Try.func36, Try.ntmps36
      go_wp2_with fail
      refine wp_loop_rounds 2 ?_
      repeat any_goals (rw [rounds_succ]; go_wp2_with fail)
      all_goals go_returns
      all_goals exact ⟨rfl, rfl⟩
  · rw [if_neg hx]
    have hb : (x == 0) = false := by simpa using hx
    go_enter Try.func36, Try.ntmps36
    go_wp2_with fail
    refine wp_loop_rounds 1 ?_
    repeat any_goals (rw [rounds_succ]; go_wp2_with fail)
    all_goals go_returns
    all_goals exact ⟨rfl, rfl⟩

set_option maxHeartbeats 4000000 in
theorem compareI (t : Int) (n : ByteArray) (l r : Int) (t' : Int) (n' : ByteArray) (l' r' : Int) (w : World) :
    Calls Try.prog 21 #[va t n l r, va t' n' l' r'] w fun e w' => e = .returned (.int .i64 (cc t n t' n')) ∧ Below w.heap.size w w' := by
  rw [← cc_or]
  have C1 := Lib.hid (cmpI t t')
  have C2 := Lib.hid (cmpS n n')
  generalize ci t t' = x at *
  generalize cn n n' = y at *
  obtain ⟨v, hv⟩ : ∃ v, (if x = 0 then y else x) = v := ⟨_, rfl⟩
  rw [hv]
  have C3 := Lib.hid (fun b W h0 h1 => hv ▸ orI b x y W h0 h1)
  clear hv
  go_enter Try.func21, Try.ntmps21
  go_wp2_with fail
  go_region_held3 (fun w' => w'.cell? ⟨w.heap.size, 0, none⟩ = some (.int .i64 t) ∧ w'.cell? ⟨w.heap.size, 1, none⟩ = some (.string n) ∧ w'.cell? ⟨w.heap.size + 1, 0, none⟩ = some (.int .i64 t') ∧ w'.cell? ⟨w.heap.size + 1, 1, none⟩ = some (.string n')) (simp [go_sem, *])
    (first | (go_at_call 37; ((with_reducible refine (C1.out _).mono ?_); rintro e w' ⟨rfl, rfl⟩)) | (go_at_call 38; ((with_reducible refine (C2.out _).mono ?_); rintro e w' ⟨rfl, rfl⟩)) | (go_at_call 36; ((with_reducible refine (C3.out _ _ (by simp [go_sem]) (by simp [go_sem])).mono ?_); rintro e w' ⟨rfl, rfl⟩)))
  all_goals go_wp2_with fail
  all_goals go_returns
  all_goals exact ⟨rfl, by go_grown⟩

end Go.Proofs.Ytgcheplneolonac.Cs
