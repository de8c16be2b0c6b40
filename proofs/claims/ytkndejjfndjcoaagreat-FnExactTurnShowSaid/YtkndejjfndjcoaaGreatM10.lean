/- The program and the model call the same texts names. -/
import Derived.Test.YtkndejjfndjcoaaGreatRows
import Derived.WalkKit
import Derived.WalkLawsBesides
import Derived.Lib.Hide
import Derived.Test.YtkndejjfndjcoaaGreatM4
namespace Go.Proofs.YtkndejjfndjcoaaGreat.IsName
open Go.RowKit

def letter (c : UInt8) : Bool := decide (97 ≤ c.toNat ∧ c.toNat ≤ 122)
def digit (c : UInt8) : Bool := decide (48 ≤ c.toNat ∧ c.toNat ≤ 57)
def okAt (s : ByteArray) (k : Nat) (h : k < s.size) : Prop := letter s[k] = true ∨ digit s[k] = true ∧ k ≠ 0
def allOk (s : ByteArray) (n : Nat) : Prop := ∀ (k : Nat) (h : k < s.size), k < n → okAt s k h
def Name (s : ByteArray) : Prop := 1 ≤ s.size ∧ s.size ≤ 8 ∧ allOk s s.size
noncomputable def nameB (s : ByteArray) : Bool := @decide (Name s) (Classical.propDecidable _)

theorem nameB_yes {s : ByteArray} (h1 : 1 ≤ s.size) (h2 : s.size ≤ 8) (h : allOk s s.size) : nameB s = true := by
  unfold nameB; exact @decide_eq_true _ (Classical.propDecidable _) ⟨h1, h2, h⟩
theorem nameB_len {s : ByteArray} (h : s.size < 1 ∨ 8 < s.size) : nameB s = false := by
  unfold nameB; exact @decide_eq_false _ (Classical.propDecidable _) fun c => by have := c.1; have := c.2.1; omega
theorem nameB_no {s : ByteArray} {k : Nat} (hk : k < s.size) (h : ¬ okAt s k hk) : nameB s = false := by
  unfold nameB; exact @decide_eq_false _ (Classical.propDecidable _) fun c => h (c.2.2 k hk hk)
theorem allOk_zero (s : ByteArray) : allOk s 0 := fun _ _ h => absurd h (Nat.not_lt_zero _)
theorem allOk_succ {s : ByteArray} {k : Nat} (hk : k < s.size) (h : allOk s k) (ho : okAt s k hk) : allOk s (k + 1) := fun j hj hl => by
  by_cases e : j = k
  · subst e; exact ho
  · exact h j hj (by omega)
theorem ret_bool {a b : Bool} (h : a = b) : Ending.returned (.bool a) = .returned (.bool b) := by rw [h]

theorem isLetter (c : UInt8) (w : World) : Calls Tryz.prog 146 #[.int .u8 c.toNat] w fun e w' => e = .returned (.bool (letter c)) ∧ w = w' := by
  by_cases h1 : 97 ≤ c.toNat
  · by_cases h2 : c.toNat ≤ 122
    · have e : letter c = true := decide_eq_true ⟨h1, h2⟩
      have d : decide ((c.toNat : Int) ≤ 122) = true := decide_eq_true (by omega)
      rw [e]; clear e
      go_enter Tryz.func146, Tryz.ntmps146
      go_wp2
      go_ret
      exact ⟨rfl, rfl⟩
    · have e : letter c = false := decide_eq_false (by omega)
      have d : decide ((c.toNat : Int) ≤ 122) = false := decide_eq_false (by omega)
      rw [e]; clear e
      go_enter Tryz.func146, Tryz.ntmps146
      go_wp2
      go_ret
      exact ⟨rfl, rfl⟩
  · have e : letter c = false := decide_eq_false (by omega)
    have d : decide (97 ≤ (c.toNat : Int)) = false := decide_eq_false (by omega)
    rw [e]; clear e
    go_enter Tryz.func146, Tryz.ntmps146
    go_wp2
    go_ret
    exact ⟨rfl, rfl⟩

theorem isDigit (c : UInt8) (w : World) : Calls Tryz.prog 147 #[.int .u8 c.toNat] w fun e w' => e = .returned (.bool (digit c)) ∧ w = w' := by
  by_cases h1 : 48 ≤ c.toNat
  · by_cases h2 : c.toNat ≤ 57
    · have e : digit c = true := decide_eq_true ⟨h1, h2⟩
      have d : decide ((c.toNat : Int) ≤ 57) = true := decide_eq_true (by omega)
      rw [e]; clear e
      go_enter Tryz.func147, Tryz.ntmps147
      go_wp2
      go_ret
      exact ⟨rfl, rfl⟩
    · have e : digit c = false := decide_eq_false (by omega)
      have d : decide ((c.toNat : Int) ≤ 57) = false := decide_eq_false (by omega)
      rw [e]; clear e
      go_enter Tryz.func147, Tryz.ntmps147
      go_wp2
      go_ret
      exact ⟨rfl, rfl⟩
  · have e : digit c = false := decide_eq_false (by omega)
    have d : decide (48 ≤ (c.toNat : Int)) = false := decide_eq_false (by omega)
    rw [e]; clear e
    go_enter Tryz.func147, Tryz.ntmps147
    go_wp2
    go_ret
    exact ⟨rfl, rfl⟩

set_option maxHeartbeats 1000000 in
theorem impl (s : ByteArray) (w : World) : Calls Tryz.prog 130 #[.string s] w fun e w' => e = .returned (.bool (nameB s)) ∧ w = w' := by
  by_cases h0 : s.size < 1
  · have F := Lib.hid (nameB_len (Or.inl h0))
    go_enter Tryz.func130, Tryz.ntmps130
    go_wp2
    go_ret
    exact ⟨ret_bool F.out.symm, rfl⟩
  · by_cases h8 : 8 < s.size
    · have F := Lib.hid (nameB_len (Or.inr h8))
      have d0 : decide ((s.size : Int) < 1) = false := decide_eq_false (by omega)
      go_enter Tryz.func130, Tryz.ntmps130
      go_wp2
      go_ret
      exact ⟨ret_bool F.out.symm, rfl⟩
    · have d0 : decide ((s.size : Int) < 1) = false := decide_eq_false (by omega)
      have d8 : decide (8 < (s.size : Int)) = false := decide_eq_false (by omega)
      have h1 : 1 ≤ s.size := by omega
      have h8' : s.size ≤ 8 := by omega
      have hp : 0 < s.size := by omega
      clear h0 h8
      by_cases hl : letter s[0] = true
      · go_enter Tryz.func130, Tryz.ntmps130
        go_wp2_with (go_at_call 146; refine (isLetter _ _).mono ?_; rintro e w' ⟨rfl, rfl⟩)
        go_loop [20] (fun i => ∃ k : Nat, k ≤ s.size ∧ allOk s k ∧ i = .int .i64 k) (fun i => s.size - (intOf i).toNat)
        case atStart => exact ⟨0, by omega, allOk_zero s, rfl⟩
        case round =>
          obtain ⟨k, hk, hall, rfl⟩ := hrel
          have HA := Lib.hid hall
          clear hall
          by_cases hlt : k < s.size
          · by_cases hlk : letter s[k] = true
            · go_wp2_with (go_at_call 146; refine (isLetter _ _).mono ?_; rintro e w' ⟨rfl, rfl⟩)
              go_round
              case rel => exact ⟨k + 1, by omega, allOk_succ hlt HA.out (Or.inl hlk), by go_num⟩
              case measure => simp [intOf]; omega
            · have hlk' : letter s[k] = false := by simpa using hlk
              by_cases hdk : digit s[k] = true
              · have hk0 : k ≠ 0 := fun c => by subst c; rw [hl] at hlk'; cases hlk'
                have HK0 := Lib.hid hk0
                clear hlk hk0
                go_wp2_with (first
                  | (go_at_call 146; refine (isLetter _ _).mono ?_; rintro e w' ⟨rfl, rfl⟩)
                  | (go_at_call 147; refine (isDigit _ _).mono ?_; rintro e w' ⟨rfl, rfl⟩))
                go_round
                case rel => exact ⟨k + 1, by omega, allOk_succ hlt HA.out (Or.inr ⟨hdk, HK0.out⟩), by go_num⟩
                case measure => simp [intOf]; omega
              · have hdk' : digit s[k] = false := by simpa using hdk
                have F := Lib.hid (nameB_no (s := s) (k := k) hlt (by unfold okAt; simp [hlk', hdk']))
                clear hlk hdk
                go_wp2_with (first
                  | (go_at_call 146; refine (isLetter _ _).mono ?_; rintro e w' ⟨rfl, rfl⟩)
                  | (go_at_call 147; refine (isDigit _ _).mono ?_; rintro e w' ⟨rfl, rfl⟩))
                go_ret
                exact ⟨ret_bool F.out.symm, rfl⟩
          · obtain rfl : k = s.size := by omega
            have F := Lib.hid (nameB_yes h1 h8' HA.out)
            go_wp2
            go_ret
            exact ⟨ret_bool F.out.symm, rfl⟩
      · have hl' : letter s[0] = false := by simpa using hl
        have F := Lib.hid (nameB_no (s := s) (k := 0) h1 (by unfold okAt; simp [hl']))
        clear hl
        go_enter Tryz.func130, Tryz.ntmps130
        go_wp2_with (go_at_call 146; refine (isLetter _ _).mono ?_; rintro e w' ⟨rfl, rfl⟩)
        go_ret
        exact ⟨ret_bool F.out.symm, rfl⟩

set_option maxHeartbeats 2000000 in
theorem spec (s : ByteArray) (hs : s.size ≤ 1048576) (w : World) : Calls Tryz.prog 127 #[.string s] w fun e w' => e = .returned (.bool (nameB s)) ∧ w = w' := by
  go_enter Tryz.func127, Tryz.ntmps127
  go_wp2
  go_loop [3] (fun i => ∃ k : Nat, k ≤ s.size ∧ allOk s k ∧ i = .int .i64 k) (fun i => s.size - (intOf i).toNat)
  case atStart => exact ⟨0, by omega, allOk_zero s, rfl⟩
  case round =>
    obtain ⟨k, hk, hall, rfl⟩ := hrel
    have HA := Lib.hid hall
    clear hall
    by_cases hlt : k < s.size
    · by_cases hlk : letter s[k] = true
      · have hc := of_decide_eq_true hlk
        have HR := Lib.hid (allOk_succ hlt HA.out (Or.inl hlk))
        have d1 : decide (97 ≤ (s[k].toNat : Int)) = true := decide_eq_true (by omega)
        have d2 : decide ((s[k].toNat : Int) ≤ 122) = true := decide_eq_true (by omega)
        have d3 : decide (48 ≤ (s[k].toNat : Int)) = true := decide_eq_true (by omega)
        have d4 : decide ((s[k].toNat : Int) ≤ 57) = false := decide_eq_false (by omega)
        clear hlk HA
        obtain ⟨hc1, hc2⟩ := hc
        go_wp2
        go_round
        case rel => exact ⟨k + 1, by omega, HR.out, by go_num⟩
        case measure => simp [intOf]; omega
      · have hlk' : letter s[k] = false := by simpa using hlk
        have hc := of_decide_eq_false hlk'
        by_cases hdk : digit s[k] = true
        · have hd := of_decide_eq_true hdk
          have d1 : decide (97 ≤ (s[k].toNat : Int)) = false := decide_eq_false (by omega)
          have d3 : decide (48 ≤ (s[k].toNat : Int)) = true := decide_eq_true (by omega)
          have d4 : decide ((s[k].toNat : Int) ≤ 57) = true := decide_eq_true (by omega)
          obtain ⟨hd1, hd2⟩ := hd
          by_cases hk0 : k = 0
          · have F := Lib.hid (nameB_no (s := s) (k := k) hlt (by
              rintro (c | ⟨_, c⟩)
              · rw [hlk'] at c; cases c
              · exact c hk0))
            have z : ((k : Int) == 0) = true := by simp [hk0]
            clear hlk hlk' hdk hc HA hk0
            go_wp2
            go_ret
            exact ⟨ret_bool F.out.symm, rfl⟩
          · have HR := Lib.hid (allOk_succ hlt HA.out (Or.inr ⟨hdk, hk0⟩))
            have z : ((k : Int) == 0) = false := by simp [hk0]
            clear hlk hlk' hdk hc HA hk0
            go_wp2
            go_round
            case rel => exact ⟨k + 1, by omega, HR.out, by go_num⟩
            case measure => simp [intOf]; omega
        · have hdk' : digit s[k] = false := by simpa using hdk
          have hd := of_decide_eq_false hdk'
          have F := Lib.hid (nameB_no (s := s) (k := k) hlt (by unfold okAt; simp [hlk', hdk']))
          clear hlk hlk' hdk hdk' HA
          by_cases c1 : 97 ≤ s[k].toNat
          · have d1 : decide (97 ≤ (s[k].toNat : Int)) = true := decide_eq_true (by omega)
            have d2 : decide ((s[k].toNat : Int) ≤ 122) = false := decide_eq_false (by omega)
            have d3 : decide (48 ≤ (s[k].toNat : Int)) = true := decide_eq_true (by omega)
            have d4 : decide ((s[k].toNat : Int) ≤ 57) = false := decide_eq_false (by omega)
            clear hc hd
            go_wp2
            go_ret
            exact ⟨ret_bool F.out.symm, rfl⟩
          · have d1 : decide (97 ≤ (s[k].toNat : Int)) = false := decide_eq_false (by omega)
            by_cases c2 : 48 ≤ s[k].toNat
            · have d3 : decide (48 ≤ (s[k].toNat : Int)) = true := decide_eq_true (by omega)
              have d4 : decide ((s[k].toNat : Int) ≤ 57) = false := decide_eq_false (by omega)
              clear hc hd
              go_wp2
              go_ret
              exact ⟨ret_bool F.out.symm, rfl⟩
            · have d3 : decide (48 ≤ (s[k].toNat : Int)) = false := decide_eq_false (by omega)
              clear hc hd
              go_wp2
              go_ret
              exact ⟨ret_bool F.out.symm, rfl⟩
    · obtain rfl : k = s.size := by omega
      by_cases h0 : s.size < 1
      · have F := Lib.hid (nameB_len (Or.inl h0))
        have d : decide (0 < (s.size : Int)) = false := decide_eq_false (by omega)
        go_wp2
        go_ret
        exact ⟨ret_bool F.out.symm, rfl⟩
      · have d : decide (0 < (s.size : Int)) = true := decide_eq_true (by omega)
        by_cases h8 : 8 < s.size
        · have F := Lib.hid (nameB_len (Or.inr h8))
          have d8 : decide ((s.size : Int) ≤ 8) = false := decide_eq_false (by omega)
          go_wp2
          go_ret
          exact ⟨ret_bool F.out.symm, rfl⟩
        · have F := Lib.hid (nameB_yes (by omega) (by omega) HA.out)
          have d8 : decide ((s.size : Int) ≤ 8) = true := decide_eq_true (by omega)
          go_wp2
          go_ret
          exact ⟨ret_bool F.out.symm, rfl⟩

end Go.Proofs.YtkndejjfndjcoaaGreat.IsName
namespace Go.Proofs.YtkndejjfndjcoaaGreat.P2
open Go.RowKit Go.Proofs.YtkndejjfndjcoaaGreat.Cm Go.Proofs.YtkndejjfndjcoaaGreat.Pl Go.Proofs.YtkndejjfndjcoaaGreat.Str Go.Proofs.YtkndejjfndjcoaaGreat.Pw
set_option linter.unusedVariables false

set_option maxHeartbeats 2000000 in
set_option maxRecDepth 100000 in
theorem addI (x y a b : Int) {b1 b2 b3 : Bool} (h1 : (ms x && ms y) = b1) (h2 : (ms a && ms b) = b2) (h3 : (ms (x + a) && ms (y + b)) = b3) (w : World) :
    Calls Tryz.prog 193 #[.agg #[.int .i64 x, .int .i64 y], .agg #[.int .i64 a, .int .i64 b]] w fun e w' => e = .returned (told2 (b1 && b2 && b3) (x + a) (y + b)) ∧ Below w.heap.size w w' := by
  have C1 := Lib.hid (isPlaceI_of h1)
  have C2 := Lib.hid (isPlaceI_of h2)
  cases b1
  · clear h1 h2 h3
    go_enter Tryz.func193, Tryz.ntmps193
    go_wp2_with fail
    refine (C1.out _).mono ?_
    rintro e w' ⟨rfl, rfl⟩
    go_wp2_with fail
    go_returns
    exact ⟨rfl, by go_grown⟩
  cases b2
  · clear h1 h2 h3
    go_enter Tryz.func193, Tryz.ntmps193
    go_wp2_with fail
    refine (C1.out _).mono ?_
    rintro e w' ⟨rfl, rfl⟩
    go_wp2_with fail
    refine (C2.out _).mono ?_
    rintro e w' ⟨rfl, rfl⟩
    go_wp2_with fail
    go_returns
    exact ⟨rfl, by go_grown⟩
  · have ⟨hx, hy⟩ := pl_yes h1
    have ⟨ha, hb⟩ := pl_yes h2
    obtain ⟨re, im, hs, i1, i2⟩ := csum (P := Tryz.prog) .add 1 (Or.inl ⟨rfl, rfl⟩) (by omega) (by omega) (by omega) (by omega) (i32_f32 x) (i32_f32 y) (i32_f32 a) (i32_f32 b)
    rw [Int.one_mul] at i1 i2
    have D := Lib.hid (toldOf (by omega) (by omega) h3 i1 i2)
    have CC := Lib.hid (show ∀ p q, (p = x ∧ q = y ∨ p = a ∧ q = b) → ∀ w, Calls Tryz.prog 124 #[.agg #[.int .i64 p, .int .i64 q]] w fun e w' => e = .returned (.complex .f32 (Meas.f32 p) (Meas.f32 q)) ∧ w' = (w.alloc (.cells #[.int .i64 p, .int .i64 q] 46)).drew from fun p q h => complexOf p q (by omega) (by omega))
    clear h1 h2 h3 hx hy ha hb i1 i2
    cases b3
    all_goals
      go_enter Tryz.func193, Tryz.ntmps193
      go_wp2_with fail
      refine (C1.out _).mono ?_
      rintro e w' ⟨rfl, rfl⟩
      go_wp2_with fail
      refine (C2.out _).mono ?_
      rintro e w' ⟨rfl, rfl⟩
      go_wp2_with fail
      go_region_held3 (fun w' => w'.cell? ⟨w.heap.size, 0, none⟩ = some (.int .i64 x) ∧ w'.cell? ⟨w.heap.size, 1, none⟩ = some (.int .i64 y) ∧ w'.cell? ⟨w.heap.size + 1, 0, none⟩ = some (.int .i64 a) ∧ w'.cell? ⟨w.heap.size + 1, 1, none⟩ = some (.int .i64 b)) (simp [go_sem, *])
        (first
          | (go_at_call 124; refine (CC.out _ _ ?_ _).mono ?_; (first | exact Or.inl ⟨rfl, rfl⟩ | exact Or.inr ⟨rfl, rfl⟩); rintro e w' ⟨rfl, rfl⟩)
          | (go_at_call 122; refine (D.out _).mono ?_; rintro e w' ⟨rfl, rfl⟩))
      all_goals go_wp2_with fail
      all_goals go_returns
      all_goals exact ⟨rfl, by go_grown⟩

end Go.Proofs.YtkndejjfndjcoaaGreat.P2
namespace Go.Proofs.YtkndejjfndjcoaaGreat.Jt
open Go.RowKit
set_option linter.unusedVariables false
set_option linter.unusedSimpArgs false

def iw (x a b : Int) : Bool := decide (a ≤ x) && decide (x ≤ b)
theorem iw_iff {x a b : Int} : iw x a b = true ↔ a ≤ x ∧ x ≤ b := by unfold iw; rw [Bool.and_eq_true, decide_eq_true_eq, decide_eq_true_eq]
theorem iw_yes {x a b : Int} (h : a ≤ x ∧ x ≤ b) : iw x a b = true := iw_iff.2 h
theorem iw_no {x a b : Int} (h : x < a ∨ b < x) : iw x a b = false := by
  rw [← Bool.not_eq_true, iw_iff]; omega

theorem isWithin (x a b : Int) (w : World) : Calls Tryz.prog 80 #[.int .i64 x, .int .i64 a, .int .i64 b] w fun e w' => e = .returned (.bool (iw x a b)) ∧ w = w' := by
  go_enter Tryz.func80, Tryz.ntmps80
  go_wp2
  all_goals go_returns
  · rename_i h
    refine ⟨?_, rfl⟩
    show Ending.returned (.bool (decide (x ≤ b))) = _
    unfold iw; rw [decide_eq_true h]; rfl
  · rename_i h
    refine ⟨?_, rfl⟩
    show Ending.returned (.bool false) = _
    rw [iw_no (by omega)]
theorem l1In (x a b : Int) (w : World) : Calls Tryz.prog 70 #[.int .i64 x, .int .i64 a, .int .i64 b] w fun e w' => e = .returned (.bool (iw x a b)) ∧ w = w' := by
  go_enter Tryz.func70, Tryz.ntmps70
  go_wp2
  all_goals go_returns
  · rename_i h
    refine ⟨?_, rfl⟩
    show Ending.returned (.bool (decide (x ≤ b))) = _
    unfold iw; rw [decide_eq_true h]; rfl
  · rename_i h
    refine ⟨?_, rfl⟩
    show Ending.returned (.bool false) = _
    rw [iw_no (by omega)]

theorem isWithin_of {x a b : Int} {r : Bool} (e : iw x a b = r) (w : World) : Calls Tryz.prog 80 #[.int .i64 x, .int .i64 a, .int .i64 b] w fun e w' => e = .returned (.bool r) ∧ w = w' := e ▸ isWithin x a b w
theorem l1In_of {x a b : Int} {r : Bool} (e : iw x a b = r) (w : World) : Calls Tryz.prog 70 #[.int .i64 x, .int .i64 a, .int .i64 b] w fun e w' => e = .returned (.bool r) ∧ w = w' := e ▸ l1In x a b w

end Go.Proofs.YtkndejjfndjcoaaGreat.Jt
