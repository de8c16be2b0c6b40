/- The program and the model call the same texts names. -/
import Derived.Test.YtokncfhpmjohdaaGreatRows
import Derived.WalkKit
import Derived.WalkLawsBesides
import Derived.Lib.Hide
import Derived.Test.YtokncfhpmjohdaaGreatM3
import Derived.Test.YtokncfhpmjohdaaGreatM1
import Derived.Test.YtokncfhpmjohdaaGreatM4
import Derived.Maps.OwnOps
import Derived.Conc.SmallLaws
import Derived.BigRegion
import Derived.Deep.DeepCutAuto
set_option linter.unusedVariables false
set_option linter.unusedSimpArgs false
namespace Go.Proofs.YtokncfhpmjohdaaGreat.IsName
open Go.RowKit

def letter (c : UInt8) : Bool := decide (97 ≤ c.toNat ∧ c.toNat ≤ 122)
def digit (c : UInt8) : Bool := decide (48 ≤ c.toNat ∧ c.toNat ≤ 57)
def okAt (s : ByteArray) (k : Nat) (h : k < s.size) : Prop := letter s[k] = true ∨ digit s[k] = true ∧ k ≠ 0
def allOk (s : ByteArray) (n : Nat) : Prop := ∀ (k : Nat) (h : k < s.size), k < n → okAt s k h
def Name (s : ByteArray) : Prop := 1 ≤ s.size ∧ s.size ≤ 8 ∧ allOk s s.size
noncomputable def nameB (s : ByteArray) : Bool := @decide (Name s) (Classical.propDecidable _)

theorem nameB_yes {s : ByteArray} (h1 : 1 ≤ s.size) (h2 : s.size ≤ 8) (h : allOk s s.size) : nameB s = true := by
  unfold nameB; exact @decide_eq_true _ (Classical.propDecidable _) ⟨h1, h2, h⟩
theorem nameB_len {s : ByteArray} (h : s.size < 1 ∨ 8 < s.size) : nameB s = false := by
  unfold nameB; exact @decide_eq_false _ (Classical.propDecidable _) fun c => by have := c.1; have := c.2.1; omega
theorem nameB_no {s : ByteArray} {k : Nat} (hk : k < s.size) (h : ¬ okAt s k hk) : nameB s = false := by
  unfold nameB; exact @decide_eq_false _ (Classical.propDecidable _) fun c => h (c.2.2 k hk hk)
theorem allOk_zero (s : ByteArray) : allOk s 0 := fun _ _ h => absurd h (Nat.not_lt_zero _)
theorem allOk_succ {s : ByteArray} {k : Nat} (hk : k < s.size) (h : allOk s k) (ho : okAt s k hk) : allOk s (k + 1) := fun j hj hl => by
  by_cases e : j = k
  · subst e; exact ho
  · exact h j hj (by omega)
theorem ret_bool {a b : Bool} (h : a = b) : Ending.returned (.bool a) = .returned (.bool b) := by rw [h]

theorem isLetter (c : UInt8) (w : World) : Calls Tryz.prog 172 #[.int .u8 c.toNat] w fun e w' => e = .returned (.bool (letter c)) ∧ w = w' := by
  by_cases h1 : 97 ≤ c.toNat
  · by_cases h2 : c.toNat ≤ 122
    · have e : letter c = true := decide_eq_true ⟨h1, h2⟩
      have d : decide ((c.toNat : Int) ≤ 122) = true := decide_eq_true (by omega)
      rw [e]; clear e
      go_enter Tryz.func172, Tryz.ntmps172
      go_wp2
      go_ret
      exact ⟨rfl, rfl⟩
    · have e : letter c = false := decide_eq_false (by omega)
      have d : decide ((c.toNat : Int) ≤ 122) = false := decide_eq_false (by omega)
      rw [e]; clear e
      go_enter Tryz.func172, Tryz.ntmps172
      go_wp2
      go_ret
      exact ⟨rfl, rfl⟩
  · have e : letter c = false := decide_eq_false (by omega)
    have d : decide (97 ≤ (c.toNat : Int)) = false := decide_eq_false (by omega)
    rw [e]; clear e
    go_enter Tryz.func172, Tryz.ntmps172
    go_wp2
    go_ret
    exact ⟨rfl, rfl⟩

theorem isDigit (c : UInt8) (w : World) : Calls Tryz.prog 173 #[.int .u8 c.toNat] w fun e w' => e = .returned (.bool (digit c)) ∧ w = w' := by
  by_cases h1 : 48 ≤ c.toNat
  · by_cases h2 : c.toNat ≤ 57
    · have e : digit c = true := decide_eq_true ⟨h1, h2⟩
      have d : decide ((c.toNat : Int) ≤ 57) = true := decide_eq_true (by omega)
      rw [e]; clear e
      go_enter Tryz.func173, Tryz.ntmps173
      go_wp2
      go_ret
      exact ⟨rfl, rfl⟩
    · have e : digit c = false := decide_eq_false (by omega)
      have d : decide ((c.toNat : Int) ≤ 57) = false := decide_eq_false (by omega)
      rw [e]; clear e
      go_enter Tryz.func173, Tryz.ntmps173
      go_wp2
      go_ret
      exact ⟨rfl, rfl⟩
  · have e : digit c = false := decide_eq_false (by omega)
    have d : decide (48 ≤ (c.toNat : Int)) = false := decide_eq_false (by omega)
    rw [e]; clear e
    go_enter Tryz.func173, Tryz.ntmps173
    go_wp2
    go_ret
    exact ⟨rfl, rfl⟩

set_option maxHeartbeats 1000000 in
theorem impl (s : ByteArray) (w : World) : Calls Tryz.prog 146 #[.string s] w fun e w' => e = .returned (.bool (nameB s)) ∧ w = w' := by
  by_cases h0 : s.size < 1
  · have F := Lib.hid (nameB_len (Or.inl h0))
    go_enter Tryz.func146, Tryz.ntmps146
    go_wp2
    go_ret
    exact ⟨ret_bool F.out.symm, rfl⟩
  · by_cases h8 : 8 < s.size
    · have F := Lib.hid (nameB_len (Or.inr h8))
      have d0 : decide ((s.size : Int) < 1) = false := decide_eq_false (by omega)
      go_enter Tryz.func146, Tryz.ntmps146
      go_wp2
      go_ret
      exact ⟨ret_bool F.out.symm, rfl⟩
    · have d0 : decide ((s.size : Int) < 1) = false := decide_eq_false (by omega)
      have d8 : decide (8 < (s.size : Int)) = false := decide_eq_false (by omega)
      have h1 : 1 ≤ s.size := by omega
      have h8' : s.size ≤ 8 := by omega
      have hp : 0 < s.size := by omega
      clear h0 h8
      by_cases hl : letter s[0] = true
      · go_enter Tryz.func146, Tryz.ntmps146
        go_wp2_with (go_at_call 172; refine (isLetter _ _).mono ?_; rintro e w' ⟨rfl, rfl⟩)
        go_loop [20] (fun i => ∃ k : Nat, k ≤ s.size ∧ allOk s k ∧ i = .int .i64 k) (fun i => s.size - (intOf i).toNat)
        case atStart => exact ⟨0, by omega, allOk_zero s, rfl⟩
        case round =>
          obtain ⟨k, hk, hall, rfl⟩ := hrel
          have HA := Lib.hid hall
          clear hall
          by_cases hlt : k < s.size
          · by_cases hlk : letter s[k] = true
            · go_wp2_with (go_at_call 172; refine (isLetter _ _).mono ?_; rintro e w' ⟨rfl, rfl⟩)
              go_round
              case rel => exact ⟨k + 1, by omega, allOk_succ hlt HA.out (Or.inl hlk), by go_num⟩
              case measure => simp [intOf]; omega
            · have hlk' : letter s[k] = false := by simpa using hlk
              by_cases hdk : digit s[k] = true
              · have hk0 : k ≠ 0 := fun c => by subst c; rw [hl] at hlk'; cases hlk'
                have HK0 := Lib.hid hk0
                clear hlk hk0
                go_wp2_with (first
                  | (go_at_call 172; refine (isLetter _ _).mono ?_; rintro e w' ⟨rfl, rfl⟩)
                  | (go_at_call 173; refine (isDigit _ _).mono ?_; rintro e w' ⟨rfl, rfl⟩))
                go_round
                case rel => exact ⟨k + 1, by omega, allOk_succ hlt HA.out (Or.inr ⟨hdk, HK0.out⟩), by go_num⟩
                case measure => simp [intOf]; omega
              · have hdk' : digit s[k] = false := by simpa using hdk
                have F := Lib.hid (nameB_no (s := s) (k := k) hlt (by unfold okAt; simp [hlk', hdk']))
                clear hlk hdk
                go_wp2_with (first
                  | (go_at_call 172; refine (isLetter _ _).mono ?_; rintro e w' ⟨rfl, rfl⟩)
                  | (go_at_call 173; refine (isDigit _ _).mono ?_; rintro e w' ⟨rfl, rfl⟩))
                go_ret
                exact ⟨ret_bool F.out.symm, rfl⟩
          · obtain rfl : k = s.size := by omega
            have F := Lib.hid (nameB_yes h1 h8' HA.out)
            go_wp2
            go_ret
            exact ⟨ret_bool F.out.symm, rfl⟩
      · have hl' : letter s[0] = false := by simpa using hl
        have F := Lib.hid (nameB_no (s := s) (k := 0) h1 (by unfold okAt; simp [hl']))
        clear hl
        go_enter Tryz.func146, Tryz.ntmps146
        go_wp2_with (go_at_call 172; refine (isLetter _ _).mono ?_; rintro e w' ⟨rfl, rfl⟩)
        go_ret
        exact ⟨ret_bool F.out.symm, rfl⟩

set_option maxHeartbeats 2000000 in
theorem spec (s : ByteArray) (hs : s.size ≤ 1048576) (w : World) : Calls Tryz.prog 139 #[.string s] w fun e w' => e = .returned (.bool (nameB s)) ∧ w = w' := by
  go_enter Tryz.func139, Tryz.ntmps139
  go_wp2
  go_loop [3] (fun i => ∃ k : Nat, k ≤ s.size ∧ allOk s k ∧ i = .int .i64 k) (fun i => s.size - (intOf i).toNat)
  case atStart => exact ⟨0, by omega, allOk_zero s, rfl⟩
  case round =>
    obtain ⟨k, hk, hall, rfl⟩ := hrel
    have HA := Lib.hid hall
    clear hall
    by_cases hlt : k < s.size
    · by_cases hlk : letter s[k] = true
      · have hc := of_decide_eq_true hlk
        have HR := Lib.hid (allOk_succ hlt HA.out (Or.inl hlk))
        have d1 : decide (97 ≤ (s[k].toNat : Int)) = true := decide_eq_true (by omega)
        have d2 : decide ((s[k].toNat : Int) ≤ 122) = true := decide_eq_true (by omega)
        have d3 : decide (48 ≤ (s[k].toNat : Int)) = true := decide_eq_true (by omega)
        have d4 : decide ((s[k].toNat : Int) ≤ 57) = false := decide_eq_false (by omega)
        clear hlk HA
        obtain ⟨hc1, hc2⟩ := hc
        go_wp2
        go_round
        case rel => exact ⟨k + 1, by omega, HR.out, by go_num⟩
        case measure => simp [intOf]; omega
      · have hlk' : letter s[k] = false := by simpa using hlk
        have hc := of_decide_eq_false hlk'
        by_cases hdk : digit s[k] = true
        · have hd := of_decide_eq_true hdk
          have d1 : decide (97 ≤ (s[k].toNat : Int)) = false := decide_eq_false (by omega)
          have d3 : decide (48 ≤ (s[k].toNat : Int)) = true := decide_eq_true (by omega)
          have d4 : decide ((s[k].toNat : Int) ≤ 57) = true := decide_eq_true (by omega)
          obtain ⟨hd1, hd2⟩ := hd
          by_cases hk0 : k = 0
          · have F := Lib.hid (nameB_no (s := s) (k := k) hlt (by
              rintro (c | ⟨_, c⟩)
              · rw [hlk'] at c; cases c
              · exact c hk0))
            have z : ((k : Int) == 0) = true := by simp [hk0]
            clear hlk hlk' hdk hc HA hk0
            go_wp2
            go_ret
            exact ⟨ret_bool F.out.symm, rfl⟩
          · have HR := Lib.hid (allOk_succ hlt HA.out (Or.inr ⟨hdk, hk0⟩))
            have z : ((k : Int) == 0) = false := by simp [hk0]
            clear hlk hlk' hdk hc HA hk0
            go_wp2
            go_round
            case rel => exact ⟨k + 1, by omega, HR.out, by go_num⟩
            case measure => simp [intOf]; omega
        · have hdk' : digit s[k] = false := by simpa using hdk
          have hd := of_decide_eq_false hdk'
          have F := Lib.hid (nameB_no (s := s) (k := k) hlt (by unfold okAt; simp [hlk', hdk']))
          clear hlk hlk' hdk hdk' HA
          by_cases c1 : 97 ≤ s[k].toNat
          · have d1 : decide (97 ≤ (s[k].toNat : Int)) = true := decide_eq_true (by omega)
            have d2 : decide ((s[k].toNat : Int) ≤ 122) = false := decide_eq_false (by omega)
            have d3 : decide (48 ≤ (s[k].toNat : Int)) = true := decide_eq_true (by omega)
            have d4 : decide ((s[k].toNat : Int) ≤ 57) = false := decide_eq_false (by omega)
            clear hc hd
            go_wp2
            go_ret
            exact ⟨ret_bool F.out.symm, rfl⟩
          · have d1 : decide (97 ≤ (s[k].toNat : Int)) = false := decide_eq_false (by omega)
            by_cases c2 : 48 ≤ s[k].toNat
            · have d3 : decide (48 ≤ (s[k].toNat : Int)) = true := decide_eq_true (by omega)
              have d4 : decide ((s[k].toNat : Int) ≤ 57) = false := decide_eq_false (by omega)
              clear hc hd
              go_wp2
              go_ret
              exact ⟨ret_bool F.out.symm, rfl⟩
            · have d3 : decide (48 ≤ (s[k].toNat : Int)) = false := decide_eq_false (by omega)
              clear hc hd
              go_wp2
              go_ret
              exact ⟨ret_bool F.out.symm, rfl⟩
    · obtain rfl : k = s.size := by omega
      by_cases h0 : s.size < 1
      · have F := Lib.hid (nameB_len (Or.inl h0))
        have d : decide (0 < (s.size : Int)) = false := decide_eq_false (by omega)
        go_wp2
        go_ret
        exact ⟨ret_bool F.out.symm, rfl⟩
      · have d : decide (0 < (s.size : Int)) = true := decide_eq_true (by omega)
        by_cases h8 : 8 < s.size
        · have F := Lib.hid (nameB_len (Or.inr h8))
          have d8 : decide ((s.size : Int) ≤ 8) = false := decide_eq_false (by omega)
          go_wp2
          go_ret
          exact ⟨ret_bool F.out.symm, rfl⟩
        · have F := Lib.hid (nameB_yes (by omega) (by omega) HA.out)
          have d8 : decide ((s.size : Int) ≤ 8) = true := decide_eq_true (by omega)
          go_wp2
          go_ret
          exact ⟨ret_bool F.out.symm, rfl⟩

end Go.Proofs.YtokncfhpmjohdaaGreat.IsName
namespace Go.Proofs.YtokncfhpmjohdaaGreat.P2
open Go.RowKit Go.Proofs.YtokncfhpmjohdaaGreat.Cm Go.Proofs.YtokncfhpmjohdaaGreat.Pl Go.Proofs.YtokncfhpmjohdaaGreat.Str Go.Proofs.YtokncfhpmjohdaaGreat.Pw
set_option linter.unusedVariables false

end Go.Proofs.YtokncfhpmjohdaaGreat.P2
namespace Go.Proofs.YtokncfhpmjohdaaGreat.Jt
open Go.RowKit
set_option linter.unusedVariables false
set_option linter.unusedSimpArgs false

def iw (x a b : Int) : Bool := decide (a ≤ x) && decide (x ≤ b)
theorem iw_iff {x a b : Int} : iw x a b = true ↔ a ≤ x ∧ x ≤ b := by unfold iw; rw [Bool.and_eq_true, decide_eq_true_eq, decide_eq_true_eq]
theorem iw_yes {x a b : Int} (h : a ≤ x ∧ x ≤ b) : iw x a b = true := iw_iff.2 h
theorem iw_no {x a b : Int} (h : x < a ∨ b < x) : iw x a b = false := by
  rw [← Bool.not_eq_true, iw_iff]; omega

theorem isWithin (x a b : Int) (w : World) : Calls Tryz.prog 111 #[.int .i64 x, .int .i64 a, .int .i64 b] w fun e w' => e = .returned (.bool (iw x a b)) ∧ w = w' := by
  go_enter Tryz.func111, Tryz.ntmps111
  go_wp2
  all_goals go_returns
  · rename_i h
    refine ⟨?_, rfl⟩
    show Ending.returned (.bool (decide (x ≤ b))) = _
    unfold iw; rw [decide_eq_true h]; rfl
  · rename_i h
    refine ⟨?_, rfl⟩
    show Ending.returned (.bool false) = _
    rw [iw_no (by omega)]
theorem l1In (x a b : Int) (w : World) : Calls Tryz.prog 71 #[.int .i64 x, .int .i64 a, .int .i64 b] w fun e w' => e = .returned (.bool (iw x a b)) ∧ w = w' := by
  go_enter Tryz.func71, Tryz.ntmps71
  go_wp2
  all_goals go_returns
  · rename_i h
    refine ⟨?_, rfl⟩
    show Ending.returned (.bool (decide (x ≤ b))) = _
    unfold iw; rw [decide_eq_true h]; rfl
  · rename_i h
    refine ⟨?_, rfl⟩
    show Ending.returned (.bool false) = _
    rw [iw_no (by omega)]

theorem isWithin_of {x a b : Int} {r : Bool} (e : iw x a b = r) (w : World) : Calls Tryz.prog 111 #[.int .i64 x, .int .i64 a, .int .i64 b] w fun e w' => e = .returned (.bool r) ∧ w = w' := e ▸ isWithin x a b w
theorem l1In_of {x a b : Int} {r : Bool} (e : iw x a b = r) (w : World) : Calls Tryz.prog 71 #[.int .i64 x, .int .i64 a, .int .i64 b] w fun e w' => e = .returned (.bool r) ∧ w = w' := e ▸ l1In x a b w

end Go.Proofs.YtokncfhpmjohdaaGreat.Jt
namespace Go.Proofs.YtokncfhpmjohdaaGreat.Hd
open Go.RowKit Go.Proofs.YtokncfhpmjohdaaGreat.Cm Go.Proofs.YtokncfhpmjohdaaGreat.Pl
set_option linter.unusedVariables false

def hd (h : Int) : Bool := decide (0 ≤ h) && decide (h ≤ 3)
theorem hd_yes {h : Int} (e : hd h = true) : 0 ≤ h ∧ h ≤ 3 := by
  unfold hd at e; rw [Bool.and_eq_true, decide_eq_true_eq, decide_eq_true_eq] at e; exact e
theorem isHeadingI (h : Int) (w : World) : Calls Tryz.prog 93 #[.int .i64 h] w fun e w' => e = .returned (.bool (hd h)) ∧ w = w' := by
  go_enter Tryz.func93, Tryz.ntmps93
  go_wp2
  all_goals go_returns
  · rename_i h1
    refine ⟨?_, rfl⟩
    show Ending.returned (.bool (decide (h < 4))) = _
    unfold hd
    rw [decide_eq_true h1, Bool.true_and]
    congr 2
    rw [decide_eq_decide]; omega
  · rename_i h1
    refine ⟨?_, rfl⟩
    show Ending.returned (.bool false) = _
    unfold hd
    rw [decide_eq_false (by omega)]; rfl
theorem isHeadingS (h : Int) (w : World) : Calls Tryz.prog 80 #[.int .i64 h] w fun e w' => e = .returned (.bool (hd h)) ∧ w = w' := by
  go_enter Tryz.func80, Tryz.ntmps80
  go_wp2
  all_goals go_returns
  · rename_i h1
    refine ⟨?_, rfl⟩
    show Ending.returned (.bool (decide (h ≤ 3))) = _
    unfold hd
    rw [decide_eq_true h1, Bool.true_and]
  · rename_i h1
    refine ⟨?_, rfl⟩
    show Ending.returned (.bool false) = _
    unfold hd
    rw [decide_eq_false (by omega)]; rfl

theorem isHeadingI_of {h : Int} {b : Bool} (e : hd h = b) (w : World) : Calls Tryz.prog 93 #[.int .i64 h] w fun e w' => e = .returned (.bool b) ∧ w = w' := e ▸ isHeadingI h w
theorem isHeadingS_of {h : Int} {b : Bool} (e : hd h = b) (w : World) : Calls Tryz.prog 80 #[.int .i64 h] w fun e w' => e = .returned (.bool b) ∧ w = w' := e ▸ isHeadingS h w

/-- The heading behind n quarter turns. -/
def th (h n : Int) : Int := if hd h then (h + n) % 4 else 0

theorem turnHeadingI (h n : Int) (w : World) : Calls Tryz.prog 242 #[.int .i64 h, .int .i64 n] w fun e w' => e = .returned (.int .i64 (th h n)) ∧ w = w' := by
  cases c : hd h
  · have C := Lib.hid (isHeadingI_of c)
    go_enter Tryz.func242, Tryz.ntmps242
    go_wp2_with fail
    refine (C.out _).mono ?_
    rintro e w' ⟨rfl, rfl⟩
    go_wp2_with fail
    go_returns
    refine ⟨?_, rfl⟩
    unfold th; rw [c]; rfl
  · have C := Lib.hid (isHeadingI_of c)
    have ⟨h1, h2⟩ := hd_yes c
    have s : wrap64 (h + n % 4) = h + n % 4 := IntWalk.wrap64_in _ (by omega)
    have f : (h + n % 4) % 4 = th h n := by unfold th; rw [c]; simp
    generalize th h n = r at *
    have Q := Lib.hid (fun w => f ▸ quartersOf (h + n % 4) w)
    clear f c h1 h2
    go_enter Tryz.func242, Tryz.ntmps242
    go_wp2_with fail
    refine (C.out _).mono ?_
    rintro e w' ⟨rfl, rfl⟩
    go_wp2_with fail
    refine (quartersOf n _).mono ?_
    rintro e w' ⟨rfl, rfl⟩
    go_wp2_with fail
    refine (Q.out _).mono ?_
    rintro e w' ⟨rfl, rfl⟩
    go_wp2_with fail
    go_returns
    exact ⟨rfl, rfl⟩
end Go.Proofs.YtokncfhpmjohdaaGreat.Hd
namespace Go.Proofs.YtokncfhpmjohdaaGreat.Jt
open Go.RowKit Go.Proofs.YtokncfhpmjohdaaGreat.Cm Go.Proofs.YtokncfhpmjohdaaGreat.Pl Go.Proofs.YtokncfhpmjohdaaGreat.Str Go.Proofs.YtokncfhpmjohdaaGreat.Pw Go.Proofs.YtokncfhpmjohdaaGreat.P2 Go.Proofs.YtokncfhpmjohdaaGreat.Hd
set_option linter.unusedVariables false
set_option linter.unusedSimpArgs false

/-- A jet's value. -/
abbrev jv (x y h t l : Int) : Value := .agg #[.int .i64 x, .int .i64 y, .int .i64 h, .int .i64 t, .int .i64 l]
/-- The memory of a jet. -/
abbrev jc (x y h t l : Int) : Array Value := #[.int .i64 x, .int .i64 y, .int .i64 h, .int .i64 t, .int .i64 l]

/-- Whether a jet is valid. -/
def jt (x y h t l : Int) : Bool := iw x (-1024) 1024 && iw y (-1024) 1024 && hd h && iw t 0 16 && iw l 1 32
theorem jt_iff {x y h t l : Int} : jt x y h t l = true ↔ (-1024 ≤ x ∧ x ≤ 1024) ∧ (-1024 ≤ y ∧ y ≤ 1024) ∧ (0 ≤ h ∧ h ≤ 3) ∧ (0 ≤ t ∧ t ≤ 16) ∧ (1 ≤ l ∧ l ≤ 32) := by
  unfold jt hd
  simp only [Bool.and_eq_true, iw_iff, decide_eq_true_eq]
  omega

set_option maxHeartbeats 1000000 in
theorem isJetI (x y h t l : Int) (w : World) : Calls Tryz.prog 114 #[jv x y h t l] w fun e w' => e = .returned (.bool (jt x y h t l)) ∧ w' = w.alloc (.cells (jc x y h t l) 69) := by
  unfold jt
  have H := isHeadingI h
  generalize hd h = b3 at *
  generalize e1 : iw x (-1024) 1024 = b1
  generalize e2 : iw y (-1024) 1024 = b2
  generalize e4 : iw t 0 16 = b4
  generalize e5 : iw l 1 32 = b5
  have C1 := Lib.hid (fun w => e1 ▸ isWithin x (-1024) 1024 w)
  have C2 := Lib.hid (fun w => e2 ▸ isWithin y (-1024) 1024 w)
  have C3 := Lib.hid H
  have C4 := Lib.hid (fun w => e4 ▸ isWithin t 0 16 w)
  have C5 := Lib.hid (fun w => e5 ▸ isWithin l 1 32 w)
  clear e1 e2 e4 e5 H
  cases b1 <;> cases b2 <;> cases b3 <;> cases b4
  all_goals
    go_enter Tryz.func114, Tryz.ntmps114
    go_wp2_with fail
    refine (C1.out _).mono ?_
    rintro e w' ⟨rfl, rfl⟩
    go_wp2_with fail
    try (refine (C2.out _).mono ?_; rintro e w' ⟨rfl, rfl⟩; go_wp2_with fail)
    try (refine (C3.out _).mono ?_; rintro e w' ⟨rfl, rfl⟩; go_wp2_with fail)
    try (refine (C4.out _).mono ?_; rintro e w' ⟨rfl, rfl⟩; go_wp2_with fail)
    try (refine (C5.out _).mono ?_; rintro e w' ⟨rfl, rfl⟩; go_wp2_with fail)
    go_returns
    exact ⟨rfl, rfl⟩

set_option maxHeartbeats 1000000 in
theorem isJetS (x y h t l : Int) (w : World) : Calls Tryz.prog 123 #[jv x y h t l] w fun e w' => e = .returned (.bool (jt x y h t l)) ∧ w' = w.alloc (.cells (jc x y h t l) 69) := by
  unfold jt
  have H := isHeadingS h
  generalize hd h = b3 at *
  generalize e1 : iw x (-1024) 1024 = b1
  generalize e2 : iw y (-1024) 1024 = b2
  generalize e4 : iw t 0 16 = b4
  generalize e5 : iw l 1 32 = b5
  have C1 := Lib.hid (fun w => e1 ▸ l1In x (-1024) 1024 w)
  have C2 := Lib.hid (fun w => e2 ▸ l1In y (-1024) 1024 w)
  have C3 := Lib.hid H
  have C4 := Lib.hid (fun w => e4 ▸ l1In t 0 16 w)
  have C5 := Lib.hid (fun w => e5 ▸ l1In l 1 32 w)
  clear e1 e2 e4 e5 H
  cases b1 <;> cases b2 <;> cases b3 <;> cases b4
  all_goals
    go_enter Tryz.func123, Tryz.ntmps123
    go_wp2_with fail
    refine (C1.out _).mono ?_
    rintro e w' ⟨rfl, rfl⟩
    go_wp2_with fail
    try (refine (C2.out _).mono ?_; rintro e w' ⟨rfl, rfl⟩; go_wp2_with fail)
    try (refine (C3.out _).mono ?_; rintro e w' ⟨rfl, rfl⟩; go_wp2_with fail)
    try (refine (C4.out _).mono ?_; rintro e w' ⟨rfl, rfl⟩; go_wp2_with fail)
    try (refine (C5.out _).mono ?_; rintro e w' ⟨rfl, rfl⟩; go_wp2_with fail)
    go_returns
    exact ⟨rfl, rfl⟩

theorem isJetI_of {x y h t l : Int} {b : Bool} (e : jt x y h t l = b) (w : World) : Calls Tryz.prog 114 #[jv x y h t l] w fun e w' => e = .returned (.bool b) ∧ w' = w.alloc (.cells (jc x y h t l) 69) := e ▸ isJetI x y h t l w
theorem isJetS_of {x y h t l : Int} {b : Bool} (e : jt x y h t l = b) (w : World) : Calls Tryz.prog 123 #[jv x y h t l] w fun e w' => e = .returned (.bool b) ∧ w' = w.alloc (.cells (jc x y h t l) 69) := e ▸ isJetS x y h t l w

end Go.Proofs.YtokncfhpmjohdaaGreat.Jt
namespace Go.Proofs.YtokncfhpmjohdaaGreat.Ds
open Go.RowKit Go.Proofs.YtokncfhpmjohdaaGreat.Cm Go.Proofs.YtokncfhpmjohdaaGreat.Pl Go.Proofs.YtokncfhpmjohdaaGreat.Str Go.Proofs.YtokncfhpmjohdaaGreat.Pw Go.Proofs.YtokncfhpmjohdaaGreat.P2 Go.Proofs.YtokncfhpmjohdaaGreat.Hd Go.Proofs.YtokncfhpmjohdaaGreat.Jt Go.Proofs.YtokncfhpmjohdaaGreat.Dd Go.Proofs.YtokncfhpmjohdaaGreat.IsName
set_option linter.unusedVariables false
set_option linter.unusedSimpArgs false

/-- Whether two texts are one. -/
def sb (a b : ByteArray) : Bool := a.toList == b.toList
/-- Whether a line may be that of a device of this name. -/
noncomputable def lineB (n l : ByteArray) : Bool := nameB l && !sb l n
/-- Whether these are all zero. -/
def zb : List Int → Bool
  | [] => true
  | a :: r => (a == 0) && zb r
noncomputable def pumpB (l : ByteArray) (x y h t m : Int) : Bool := iw m 0 512 && (sb l ⟨#[]⟩ && zb [x, y, h, t])
noncomputable def nozB (n l : ByteArray) (x y h t m : Int) : Bool := lineB n l && (jt x y h t 1 && iw m 0 32)
noncomputable def lampB (n l : ByteArray) (x y h t m : Int) : Bool := lineB n l && ((ms x && ms y) && zb [h, t, m])
/-- Whether a device is valid. -/
noncomputable def devB (n : ByteArray) (k : Int) (l : ByteArray) (x y h t m : Int) : Bool :=
  nameB n && (if k = 1 then pumpB l x y h t m else if k = 2 then nozB n l x y h t m else if k = 3 then lampB n l x y h t m else false)

theorem l5Supply_of {m : Int} {b : Bool} (e : iw m 0 512 = b) (w : World) : Calls Tryz.prog 140 #[.int .i64 m] w fun e w' => e = .returned (.bool b) ∧ w = w' := by
  go_enter Tryz.func140, Tryz.ntmps140
  go_wp2_with fail
  refine (l1In_of e _).mono ?_
  rintro e w' ⟨rfl, rfl⟩
  go_wp2_with fail
  go_returns
  exact ⟨rfl, rfl⟩

theorem l6Jet_of {n : ByteArray} {k : Int} {l : ByteArray} {x y h t m : Int} {b : Bool} (e : jt x y h t 1 = b) (w : World) : Calls Tryz.prog 141 #[va n k l x y h t m] w fun e w' => e = .returned (.bool b) ∧ Below w.heap.size w w' := by
  have C := Lib.hid (isJetS_of e)
  clear e
  go_enter Tryz.func141, Tryz.ntmps141
  go_wp2_with fail
  refine (C.out _).mono ?_
  rintro e w' ⟨rfl, rfl⟩
  go_wp2_with fail
  go_returns
  exact ⟨rfl, by go_grown⟩

theorem ite_ok (c : Prop) [Decidable c] (b : Bool) (w : World) : (if c then (Result.ok b w : Result Bool) else Result.ok false w) = Result.ok (decide c && b) w := by
  by_cases h : c <;> simp [h]
theorem be_int (a b : Int) : (a == b) = decide (a = b) := by by_cases h : a = b <;> simp [h]
theorem be_list (a b : List UInt8) : (a == b) = decide (a = b) := by by_cases h : a = b <;> simp [h]
theorem sb_self (a : ByteArray) : sb a a = true := by simp [sb]

theorem eqv (n : ByteArray) (k : Int) (l : ByteArray) (x y h t m : Int) (n' : ByteArray) (k' : Int) (l' : ByteArray) (x' y' h' t' m' : Int) (w : World) :
    (binOp .eql 98 (va n k l x y h t m) (va n' k' l' x' y' h' t' m')).run Tryz.prog w = .ok (.bool (sb n n' && ((k == k') && (sb l l' && ((x == x') && ((y == y') && ((h == h') && ((t == t') && (m == m'))))))))) w := by
  rw [run_eql_struct]
  have e : (Op.equalIn 10000 98 (va n k l x y h t m) (va n' k' l' x' y' h' t' m')).run Tryz.prog w = .ok (sb n n' && ((k == k') && (sb l l' && ((x == x') && ((y == y') && ((h == h') && ((t == t') && (m == m')))))))) w := by
    unfold sb
    go_simp
    simp only [ite_ok, be_int, be_list, Bool.and_true]
  rw [e]; rfl

theorem eq_pump {n l : ByteArray} {x y h t m : Int} {q : Bool} (hq : (sb l ⟨#[]⟩ && zb [x, y, h, t]) = q) (w : World) : (binOp .eql 98 (va n 1 l x y h t m) (va n 1 ⟨#[]⟩ 0 0 0 0 m)).run Tryz.prog w = .ok (.bool q) w := by
  rw [eqv, ← hq]; simp [zb, sb_self]
theorem eq_lamp {n l : ByteArray} {x y h t m : Int} {q : Bool} (hq : zb [h, t, m] = q) (w : World) : (binOp .eql 98 (va n 3 l x y h t m) (va n 3 l x y 0 0 0)).run Tryz.prog w = .ok (.bool q) w := by
  rw [eqv, ← hq]; simp [zb, sb_self]

set_option maxHeartbeats 2000000 in
theorem isDeviceS (n : ByteArray) (k : Int) (l : ByteArray) (x y h t m : Int) (hn : n.size ≤ 1048576) (hl : l.size ≤ 1048576) (w : World) :
    Calls Tryz.prog 100 #[va n k l x y h t m] w fun e w' => e = .returned (.bool (devB n k l x y h t m)) ∧ Below w.heap.size w w' := by
  have cn := IsName.spec n hn
  have cl := IsName.spec l hl
  unfold devB nozB lampB pumpB lineB
  generalize nameB n = bn at *
  generalize nameB l = bl at *
  have HN := Lib.hid cn
  have HL := Lib.hid cl
  clear cn cl hn hl
  obtain ⟨c, hs⟩ : ∃ c, sb l n = c := ⟨_, rfl⟩
  rw [hs]
  have s1 : (l.toList == n.toList) = c := hs
  have s2 : (l.toList != n.toList) = !c := by rw [← hs]; rfl
  clear hs
  obtain ⟨b5, h5⟩ : ∃ b, iw m 0 512 = b := ⟨_, rfl⟩
  obtain ⟨q1, hq1⟩ : ∃ b, (sb l ⟨#[]⟩ && zb [x, y, h, t]) = b := ⟨_, rfl⟩
  obtain ⟨bj, hj⟩ : ∃ b, jt x y h t 1 = b := ⟨_, rfl⟩
  obtain ⟨b6, h6⟩ : ∃ b, iw m 0 32 = b := ⟨_, rfl⟩
  obtain ⟨bp, hp⟩ : ∃ b, (ms x && ms y) = b := ⟨_, rfl⟩
  obtain ⟨q3, hq3⟩ : ∃ b, zb [h, t, m] = b := ⟨_, rfl⟩
  rw [h5, hq1, hj, h6, hp, hq3]
  have C5 := Lib.hid (l5Supply_of h5)
  have CJ := Lib.hid (fun n k l w => l6Jet_of (n := n) (k := k) (l := l) (m := m) hj w)
  have C6 := Lib.hid (l1In_of h6)
  have CP := Lib.hid (isPlaceS_of hp)
  have E1 := eq_pump (n := n) (m := m) hq1
  have E3 := eq_lamp (n := n) (l := l) (x := x) (y := y) hq3
  clear h5 hq1 hj h6 hp hq3
  cases bn
  · clear E1 E3 C5 CJ C6 CP
    cases bl <;> cases c
    all_goals
      simp only [Bool.true_and, Bool.false_and, Bool.not_true, Bool.not_false] at s2 ⊢
      go_enter Tryz.func100, Tryz.ntmps100
      go_wp2_with fail
      refine (HL.out _).mono ?_
      rintro e w' ⟨rfl, rfl⟩
      go_wp2_with fail
      refine (HN.out _).mono ?_
      rintro e w' ⟨rfl, rfl⟩
      go_wp2_with fail
      go_returns
      exact ⟨rfl, by go_grown⟩
  rw [Bool.true_and]
  by_cases k1 : k = 1
  · subst k1
    rw [if_pos rfl]
    clear E3 CJ C6 CP
    cases bl <;> cases c <;> cases b5
    all_goals
      simp only [Bool.true_and, Bool.false_and, Bool.not_true, Bool.not_false] at s2 ⊢
      go_enter Tryz.func100, Tryz.ntmps100
      go_wp2_with fail
      refine (HL.out _).mono ?_
      rintro e w' ⟨rfl, rfl⟩
      go_wp2_with fail
      refine (HN.out _).mono ?_
      rintro e w' ⟨rfl, rfl⟩
      go_wp2_with fail
      refine (C5.out _).mono ?_
      rintro e w' ⟨rfl, rfl⟩
      go_wp2_with fail
      go_returns
      exact ⟨rfl, by go_grown⟩
  rw [if_neg k1]
  by_cases k2 : k = 2
  · subst k2
    rw [if_pos rfl]
    clear E1 E3 CP C5 k1
    cases bl <;> cases c <;> cases bj
    all_goals
      simp only [Bool.true_and, Bool.false_and, Bool.not_true, Bool.not_false] at s2 ⊢
      go_enter Tryz.func100, Tryz.ntmps100
      go_wp2_with fail
      refine (HL.out _).mono ?_
      rintro e w' ⟨rfl, rfl⟩
      go_wp2_with fail
      refine (HN.out _).mono ?_
      rintro e w' ⟨rfl, rfl⟩
      go_wp2_with fail
      try (refine (CJ.out _ _ _ _).mono ?_; rintro e w1 ⟨rfl, hb⟩; obtain ⟨hc, hf⟩ := open_below hb; have H := Lib.hid hb; clear hb; go_wp2_with fail)
      try (refine (C6.out _).mono ?_; rintro e w' ⟨rfl, rfl⟩; go_wp2_with fail)
      go_returns
      first | exact ⟨rfl, Below.trans (by go_grown) (H.out.mono (by simp))⟩ | exact ⟨rfl, by go_grown⟩
  rw [if_neg k2]
  by_cases k3 : k = 3
  · subst k3
    rw [if_pos rfl]
    clear E1 C5 C6 CJ k1 k2
    cases bl <;> cases c <;> cases bp
    all_goals
      simp only [Bool.true_and, Bool.false_and, Bool.not_true, Bool.not_false] at s2 ⊢
      go_enter Tryz.func100, Tryz.ntmps100
      go_wp2_with fail
      refine (HL.out _).mono ?_
      rintro e w' ⟨rfl, rfl⟩
      go_wp2_with fail
      refine (HN.out _).mono ?_
      rintro e w' ⟨rfl, rfl⟩
      go_wp2_with fail
      try (refine (CP.out _).mono ?_; rintro e w' ⟨rfl, rfl⟩; go_wp2_with fail)
      go_returns
      exact ⟨rfl, by go_grown⟩
  rw [if_neg k3]
  clear E1 E3 C5 C6 CJ CP
  cases bl <;> cases c
  all_goals
    simp only [Bool.true_and, Bool.false_and, Bool.not_true, Bool.not_false] at s2 ⊢
    go_enter Tryz.func100, Tryz.ntmps100
    go_wp2_with fail
    refine (HL.out _).mono ?_
    rintro e w' ⟨rfl, rfl⟩
    go_wp2_with fail
    refine (HN.out _).mono ?_
    rintro e w' ⟨rfl, rfl⟩
    go_wp2_with fail
    go_returns
    exact ⟨rfl, by go_grown⟩
end Go.Proofs.YtokncfhpmjohdaaGreat.Ds
namespace Go.Proofs.YtokncfhpmjohdaaGreat.Fd
open Go.RowKit Go.ChangeShapes Go.WideShapes Go.WideElems Go.Deep Go.Proofs.YtokncfhpmjohdaaGreat.Mem Go.Proofs.YtokncfhpmjohdaaGreat.Rw Go.Proofs.YtokncfhpmjohdaaGreat.Pw Go.Proofs.YtokncfhpmjohdaaGreat.P2 Go.Proofs.YtokncfhpmjohdaaGreat.Dd Go.Proofs.YtokncfhpmjohdaaGreat.Dv Go.Proofs.YtokncfhpmjohdaaGreat.Dl Go.Proofs.YtokncfhpmjohdaaGreat.Ds
set_option linter.unusedVariables false
set_option linter.unusedSimpArgs false

/-- Where the first device of a name is, from place i on. -/
def fdN : List D → ByteArray → Nat → Int
  | [], _, _ => -1
  | d :: r, s, i => if sb d.nm s then (i : Int) else fdN r s (i + 1)
/-- Where the first device of a name is. -/
def fd (zs : List D) (s : ByteArray) : Int := fdN zs s 0
theorem fdN_at {zs : List D} {s : ByteArray} {k : Nat} {d : D} (h : zs[k]? = some d) : fdN (zs.drop k) s k = if sb d.nm s then (k : Int) else fdN (zs.drop (k + 1)) s (k + 1) := by
  obtain ⟨hk, rfl⟩ := List.getElem?_eq_some_iff.1 h
  rw [List.drop_eq_getElem_cons hk, fdN]
theorem fdN_end {zs : List D} {s : ByteArray} {k : Nat} (h : zs.length ≤ k) : fdN (zs.drop k) s k = -1 := by rw [List.drop_of_length_le h]; rfl
theorem fdN_le : ∀ (zs : List D) (s : ByteArray) (i : Nat), fdN zs s i = -1 ∨ ∃ j : Nat, fdN zs s i = ((i + j : Nat) : Int) ∧ j < zs.length ∧ ∃ d, zs[j]? = some d ∧ sb d.nm s = true
  | [], _, _ => Or.inl rfl
  | d :: r, s, i => by
    unfold fdN
    by_cases h : sb d.nm s = true
    · rw [if_pos h]; exact Or.inr ⟨0, by simp, by simp, d, rfl, h⟩
    · rw [if_neg h]
      rcases fdN_le r s (i + 1) with e | ⟨j, e, hj, d', hd, hs⟩
      · exact Or.inl e
      · exact Or.inr ⟨j + 1, by rw [e]; congr 1; omega, by simp; omega, d', by simpa using hd, hs⟩
theorem fd_cases (zs : List D) (s : ByteArray) : fd zs s = -1 ∨ ∃ j : Nat, fd zs s = (j : Int) ∧ j < zs.length ∧ ∃ d, zs[j]? = some d ∧ sb d.nm s = true := by
  rcases fdN_le zs s 0 with h | ⟨j, e, h⟩
  · exact Or.inl h
  · exact Or.inr ⟨j, by unfold fd; rw [e]; congr 1; omega, h⟩

set_option maxHeartbeats 2000000 in
theorem findS (A : Option Addr) (n0 c0 : Nat) (zs : List D) (s : ByteArray) (w : World) (hn : zs.length = n0) (hb : n0 ≤ 1048576) (hr : Rd w w.heap.size A (dls zs)) :
    Calls Tryz.prog 152 #[.slice A n0 c0, .string s] w fun e w' => e = .returned (.int .i64 (fd zs s)) ∧ Below w.heap.size w w' := by
  have HR := Lib.hid hr
  have HN := Lib.hid hn
  have H0 := Lib.hid (show fd zs s = fdN (zs.drop 0) s 0 by simp [fd])
  clear hr hn
  go_enter Tryz.func152, Tryz.ntmps152
  go_wp2
  go_loopw [9] (fun i wr => ∃ k : Nat, k ≤ n0 ∧ i = .int .i64 k ∧ Hid (fd zs s = fdN (zs.drop k) s k) ∧ Hid (Below w.heap.size w wr)) (fun i _ => n0 - (intOf i).toNat)
  case atStart => exact ⟨0, Nat.zero_le _, rfl, H0, Lib.hid (Below.refl _ _)⟩
  case round =>
    obtain ⟨k, hk, rfl, FK, BK⟩ := hrel
    by_cases hlt : k < n0
    · obtain ⟨z, hz⟩ : ∃ z, zs[k]? = some z := ⟨_, List.getElem?_eq_getElem (by rw [HN.out]; exact hlt)⟩
      have ha := FK.out.trans (fdN_at hz)
      obtain ⟨n, q, l, x, y, h, t, m⟩ := z
      obtain ⟨b, o, eA, hbl, hcell⟩ := (HR.out.below BK.out).get (k := k * 8) (by rw [dls_len, HN.out]; omega)
      obtain ⟨z0, z1, z2, z3, z4, z5, z6, z7⟩ := dls_get hz
      have c0 := hcell (k * 8) _ z0
      have c1 := hcell (k * 8 + 1) _ z1
      rw [← Nat.add_assoc] at c1
      have c2 := hcell (k * 8 + 2) _ z2
      rw [← Nat.add_assoc] at c2
      have c3 := hcell (k * 8 + 3) _ z3
      rw [← Nat.add_assoc] at c3
      have c4 := hcell (k * 8 + 4) _ z4
      rw [← Nat.add_assoc] at c4
      have c5 := hcell (k * 8 + 5) _ z5
      rw [← Nat.add_assoc] at c5
      have c6 := hcell (k * 8 + 6) _ z6
      rw [← Nat.add_assoc] at c6
      have c7 := hcell (k * 8 + 7) _ z7
      rw [← Nat.add_assoc] at c7
      clear hcell z0 z1 z2 z3 z4 z5 z6 z7 hz
      subst eA
      have B2 := Lib.hid (BK.out.alloc BK.out.size (.cells (ca n q l x y h t m) 98))
      clear BK FK H0 hbl
      simp only [] at ha
      cases hs : sb n s
      · rw [hs, if_neg (by decide)] at ha
        have HA := Lib.hid ha
        have s1 : (n.toList == s.toList) = false := hs
        clear ha hs
        go_wp2
        go_roundw
        case rel => exact ⟨k + 1, by omega, by go_num, HA, B2⟩
        case measure => simp [intOf]; omega
      · rw [hs, if_pos rfl] at ha
        have HA := Lib.hid ha
        have s1 : (n.toList == s.toList) = true := hs
        clear ha hs
        go_wp2
        go_ret
        exact ⟨by rw [HA.out]; rfl, B2.out⟩
    · obtain rfl : k = n0 := by omega
      have HA := Lib.hid (FK.out.trans (fdN_end (by rw [HN.out]; exact Nat.le_refl _)))
      go_wp2
      go_ret
      exact ⟨by rw [HA.out]; rfl, BK.out⟩

/-- The test that FindDevice hands to the library. -/
theorem isNamed (n : ByteArray) (q : Int) (l : ByteArray) (x y h t m : Int) (g : Nat) (s : ByteArray) (w : World) (hg : w.cell? ⟨g, 0, none⟩ = some (.string s)) :
    Calls Tryz.prog 194 #[va n q l x y h t m, .pointer (some ⟨g, 0, none⟩)] w fun e w' => e = .returned (.bool (sb n s)) ∧ Below w.heap.size w w' := by
  have hl := World.block_lt_of_cell? w _ hg
  simp only [] at hl
  go_enter Tryz.func194, Tryz.ntmps194
  go_wp2_with fail
  go_returns
  exact ⟨by first | rfl | (unfold sb; simp), by go_grown⟩

set_option maxHeartbeats 2000000 in
theorem indexOf (A : Option Addr) (n0 c0 g : Nat) (zs : List D) (s : ByteArray) (H : Nat) (w : World) (hH : H ≤ w.heap.size) (hn : zs.length = n0) (hb : n0 ≤ 1048576) (hr : Rd w H A (dls zs)) (hg : w.cell? ⟨g, 0, none⟩ = some (.string s)) :
    Calls Tryz.prog 193 #[.slice A n0 c0, .func (.func 194) #[] #[.pointer (some ⟨g, 0, none⟩)]] w fun e w' => e = .returned (.int .i64 (fd zs s)) ∧ Below w.heap.size w w' := by
  have HR := Lib.hid (hr.more hH)
  have HN := Lib.hid hn
  have HG := Lib.hid hg
  have H0 := Lib.hid (show fd zs s = fdN (zs.drop 0) s 0 by simp [fd])
  clear hr hn hg hH
  go_enter Tryz.func193, Tryz.ntmps193
  go_wp2
  go_loopw [8] (fun i wr => ∃ k : Nat, k ≤ n0 ∧ i = .int .i64 k ∧ Hid (fd zs s = fdN (zs.drop k) s k) ∧ Hid (Below w.heap.size w wr)) (fun i _ => n0 - (intOf i).toNat)
  case atStart => exact ⟨0, Nat.zero_le _, rfl, H0, Lib.hid (Below.refl _ _)⟩
  case round =>
    obtain ⟨k, hk, rfl, FK, BK⟩ := hrel
    by_cases hlt : k < n0
    · obtain ⟨z, hz⟩ : ∃ z, zs[k]? = some z := ⟨_, List.getElem?_eq_getElem (by rw [HN.out]; exact hlt)⟩
      have ha := FK.out.trans (fdN_at hz)
      have CN := Lib.hid (isNamed z.nm z.kd z.ln z.x z.y z.hd z.tl z.ms g s wr ((BK.out.cell (World.block_lt_of_cell? w _ HG.out)).trans HG.out))
      obtain ⟨n, q, l, x, y, h, t, m⟩ := z
      obtain ⟨b, o, eA, hbl, hcell⟩ := (HR.out.below BK.out).get (k := k * 8) (by rw [dls_len, HN.out]; omega)
      obtain ⟨z0, z1, z2, z3, z4, z5, z6, z7⟩ := dls_get hz
      have c0 := hcell (k * 8) _ z0
      have c1 := hcell (k * 8 + 1) _ z1
      rw [← Nat.add_assoc] at c1
      have c2 := hcell (k * 8 + 2) _ z2
      rw [← Nat.add_assoc] at c2
      have c3 := hcell (k * 8 + 3) _ z3
      rw [← Nat.add_assoc] at c3
      have c4 := hcell (k * 8 + 4) _ z4
      rw [← Nat.add_assoc] at c4
      have c5 := hcell (k * 8 + 5) _ z5
      rw [← Nat.add_assoc] at c5
      have c6 := hcell (k * 8 + 6) _ z6
      rw [← Nat.add_assoc] at c6
      have c7 := hcell (k * 8 + 7) _ z7
      rw [← Nat.add_assoc] at c7
      clear hcell z0 z1 z2 z3 z4 z5 z6 z7 hz
      subst eA
      clear FK H0 hbl
      simp only [] at ha
      cases hs : sb n s
      · rw [hs, if_neg (by decide)] at ha
        simp only [hs] at CN
        have HA := Lib.hid ha
        clear ha hs
        go_wp2_with fail
        refine CN.out.mono ?_
        rintro e w1 ⟨rfl, hb⟩
        have B2 := Lib.hid (BK.out.trans (hb.mono BK.out.size))
        clear hb BK c0 c1 c2 c3 c4 c5 c6 c7 CN
        go_wp2_with fail
        go_roundw
        case rel => exact ⟨k + 1, by omega, by go_num, HA, B2⟩
        case measure => simp [intOf]; omega
      · rw [hs, if_pos rfl] at ha
        simp only [hs] at CN
        have HA := Lib.hid ha
        clear ha hs
        go_wp2_with fail
        refine CN.out.mono ?_
        rintro e w1 ⟨rfl, hb⟩
        have B2 := Lib.hid (BK.out.trans (hb.mono BK.out.size))
        clear hb BK c0 c1 c2 c3 c4 c5 c6 c7 CN
        go_wp2_with fail
        go_ret
        exact ⟨by rw [HA.out]; rfl, B2.out⟩
    · obtain rfl : k = n0 := by omega
      have HA := Lib.hid (FK.out.trans (fdN_end (by rw [HN.out]; exact Nat.le_refl _)))
      go_wp2
      go_ret
      exact ⟨by rw [HA.out]; rfl, BK.out⟩

theorem findI (A : Option Addr) (n0 c0 : Nat) (zs : List D) (s : ByteArray) (w : World) (hn : zs.length = n0) (hb : n0 ≤ 1048576) (hr : Rd w w.heap.size A (dls zs)) :
    Calls Tryz.prog 182 #[.slice A n0 c0, .string s] w fun e w' => e = .returned (.int .i64 (fd zs s)) ∧ Below w.heap.size w w' := by
  have CI := Lib.hid (indexOf A n0 c0 w.heap.size zs s w.heap.size (w.alloc (.cells #[.string s] 9)) (by simp) hn hb (hr.below (by go_grown)) (by simp [go_sem]))
  clear hr hn hb
  go_enter Tryz.func182, Tryz.ntmps182
  go_wp2_with fail
  refine CI.out.mono ?_
  rintro e w1 ⟨rfl, hb⟩
  have H1 := Lib.hid (show Below w.heap.size w w1 from Below.trans (by go_grown) (hb.mono (by simp)))
  clear hb CI
  go_wp2_with fail
  go_returns
  exact ⟨rfl, H1.out⟩

end Go.Proofs.YtokncfhpmjohdaaGreat.Fd
namespace Go.Proofs.YtokncfhpmjohdaaGreat.Ch
open Go.RowKit
set_option linter.unusedVariables false
set_option linter.unusedSimpArgs false

/-- Which channel a line has. -/
def lk : List (ByteArray × Nat) → ByteArray → Option Nat
  | [], _ => none
  | (k, c) :: r, s => if k = s then some c else lk r s
/-- The entries of a map of lines. -/
def enF : List (ByteArray × Nat) → Nat → List MapEntry
  | [], _ => []
  | (k, c) :: r, i => { key := .string k, val := .chan (some c), born := i } :: enF r (i + 1)
theorem enF_snoc (k : ByteArray) (c : Nat) : ∀ (M : List (ByteArray × Nat)) (i : Nat), enF (M ++ [(k, c)]) i = enF M i ++ [{ key := .string k, val := .chan (some c), born := i + M.length }]
  | [], i => rfl
  | (k', c') :: r, i => by
    have := enF_snoc k c r (i + 1)
    simp only [List.cons_append, enF, this, List.length_cons]
    rw [show i + 1 + r.length = i + (r.length + 1) by omega]
theorem beq_no {a b : ByteArray} (h : ¬ a = b) : (a == b) = false := by
  obtain ⟨⟨x⟩⟩ := a
  obtain ⟨⟨y⟩⟩ := b
  show ((⟨x⟩ : Array UInt8) == ⟨y⟩) = false
  simp
  intro e
  exact h (by rw [e])
theorem beq_yes (a : ByteArray) : (a == a) = true := by
  obtain ⟨⟨x⟩⟩ := a
  show ((⟨x⟩ : Array UInt8) == ⟨x⟩) = true
  simp
theorem find_none {s : ByteArray} : ∀ {M : List (ByteArray × Nat)} {i j : Nat}, lk M s = none → Instr.findNow .string (.string s) (enF M i) j = some none
  | [], _, _, _ => rfl
  | (k, c) :: r, i, j, h => by
    unfold lk at h
    by_cases e : k = s
    · rw [if_pos e] at h; cases h
    · rw [if_neg e] at h
      have := find_none (i := i + 1) (j := j + 1) h
      have e' : ¬ s = k := fun c => e c.symm
      simp [enF, Instr.findNow, Instr.sameNow, beq_no e', this]
theorem find_some {s : ByteArray} {c : Nat} : ∀ {M : List (ByteArray × Nat)} {i j : Nat}, lk M s = some c → ∃ q, Instr.findNow .string (.string s) (enF M i) j = some (some (q, .chan (some c)))
  | [], _, _, h => by cases h
  | (k, c') :: r, i, j, h => by
    unfold lk at h
    by_cases e : k = s
    · rw [if_pos e] at h; cases h
      subst e
      exact ⟨j, by simp [enF, Instr.findNow, Instr.sameNow, beq_yes]⟩
    · rw [if_neg e] at h
      obtain ⟨q, hq⟩ := find_some (i := i + 1) (j := j + 1) h
      have e' : ¬ s = k := fun c => e c.symm
      exact ⟨q, by simp [enF, Instr.findNow, Instr.sameNow, beq_no e', hq]⟩
theorem lk_snoc {k : ByteArray} {c : Nat} {s : ByteArray} : ∀ {M : List (ByteArray × Nat)}, lk (M ++ [(k, c)]) s = match lk M s with | some v => some v | none => if k = s then some c else none
  | [] => by simp [lk]
  | (k', c') :: r => by
    simp only [List.cons_append, lk]
    by_cases e : k' = s
    · simp [e]
    · simp only [if_neg e]; exact lk_snoc

/-- Block b is the map of these lines. -/
def Ls (w : World) (b : Nat) (M : List (ByteArray × Nat)) : Prop := w.heap[b]? = some (.map ⟨enF M 0⟩ M.length)
theorem Ls.lt {w : World} {b : Nat} {M : List (ByteArray × Nat)} (h : Ls w b M) : b < w.heap.size := (Array.getElem?_eq_some_iff.1 h).1
theorem Ls.made (w : World) : Ls (w.alloc (.map #[] 0)) w.heap.size [] := (MapKept.heap_alloc w _).1
theorem Ls.alloc {w : World} {b : Nat} {M : List (ByteArray × Nat)} (h : Ls w b M) (o : Obj) : Ls (w.alloc o) b M := ((MapKept.heap_alloc w o).2 b h.lt).trans h
theorem Ls.drew {w : World} {b : Nat} {M : List (ByteArray × Nat)} (h : Ls w b M) : Ls w.drew b M := h
theorem Ls.below {w w' : World} {b B : Nat} {M : List (ByteArray × Nat)} (h : Ls w b M) (hb : Below B w w') (hB : b < B) : Ls w' b M := (hb.block b hB).trans h
theorem Ls.set {w : World} {b : Nat} {M : List (ByteArray × Nat)} (h : Ls w b M) {a : Addr} (ha : a.block ≠ b) (v : Value) : Ls (w.setCell a v) b M := (RowKit.Below.heap_setCell w a v b (fun e => ha e.symm)).trans h
theorem Ls.grown {w w' : World} {b : Nat} {M : List (ByteArray × Nat)} {r : Option Nat} (h : Ls w b M) (hg : w.grownBy w' r) (hr : some b ≠ r) : Ls w' b M := (hg.block b h.lt hr).trans h

theorem run_look {w : World} {b : Nat} {M : List (ByteArray × Nat)} (h : Ls w b M) (s : ByteArray) : (Instr.lookup 177 (.map (some b)) (.string s) false).run Tryz.prog w = .ok (.chan (lk M s)) w := by
  have hz : ∀ w, (zeroValue 199).run Tryz.prog w = .ok (.chan none) w := fun w => by kernel_rfl
  cases hl : lk M s with
  | none =>
    have hf := find_none (i := 0) (j := 0) hl
    simp [Instr.lookup, run_underlying Tryz.underlying177, MapKept.run_getObj_map h, MapKept.run_checkKey Tryz.underlying9 (k := .string s) trivial, MapKept.run_findKey Tryz.underlying9 hf, hz, Result.andThen]
  | some c =>
    obtain ⟨q, hf⟩ := find_some (i := 0) (j := 0) hl
    simp [Instr.lookup, run_underlying Tryz.underlying177, MapKept.run_getObj_map h, MapKept.run_checkKey Tryz.underlying9 (k := .string s) trivial, MapKept.run_findKey Tryz.underlying9 hf, Result.andThen]

theorem run_put {w : World} {b : Nat} {M : List (ByteArray × Nat)} (h : Ls w b M) {s : ByteArray} (hn : lk M s = none) (c : Nat) :
    ∃ w', (Instr.mapUpdate 177 (.map (some b)) (.string s) (.chan (some c))).run Tryz.prog w = .ok () w' ∧ Ls w' b (M ++ [(s, c)]) ∧ w.grownBy w' (some b) := by
  have hf := find_none (i := 0) (j := 0) hn
  have hs := MapKept.heap_set (o' := .map ⟨enF (M ++ [(s, c)]) 0⟩ (M ++ [(s, c)]).length) h
  refine ⟨{ w with heap := w.heap.setIfInBounds b (.map ⟨enF (M ++ [(s, c)]) 0⟩ (M ++ [(s, c)]).length) }, ?_, hs.1, ⟨rfl, rfl, rfl, by simp, fun j hj hr => hs.2 j (fun e => hr (by rw [e]))⟩⟩
  have ep : (⟨enF M 0⟩ : Array MapEntry).push { key := .string s, val := .chan (some c), born := M.length } = ⟨enF (M ++ [(s, c)]) 0⟩ := by
    rw [enF_snoc]; simp
  simp [Instr.mapUpdate, run_underlying Tryz.underlying177, MapKept.run_getObj_map h, MapKept.run_checkKey Tryz.underlying9 (k := .string s) trivial, MapKept.run_findKey Tryz.underlying9 hf, MapKept.run_setObj_map _ h, Result.andThen, ep]

theorem run_mkChan (w : World) : (Instr.makeChan 199 (.int .i64 0)).run Tryz.prog w = .ok (.chan (some w.heap.size)) (w.alloc (.chan 0 #[] false 0 0 false)) := by
  kernel_rfl
theorem run_chanNil (w : World) : (binOp .eql 199 (.chan none) (.chan none)).run Tryz.prog w = .ok (.bool true) w := by kernel_rfl
theorem run_chanSome (c : Nat) (w : World) : (binOp .eql 199 (.chan (some c)) (.chan none)).run Tryz.prog w = .ok (.bool false) w := by kernel_rfl

/-- 'made[name]' at the operation. -/
theorem wpList_look (w : World) {ops : Array Oper} {rest : List Oper} {o : Oper} {a : Act} {Q : Exit → Act → World → Prop}
    (hg : o.guard = none) (m x : Operand) (hop : o.op = Op.lookup 177 m x false) (b : Nat) (M : List (ByteArray × Nat)) (hm : a.eval m = .map (some b)) (hL : Ls w b M) (s : ByteArray) (hx : a.eval x = .string s)
    (hK : wpList Tryz.prog ops Q rest (a.put o.dst (.chan (lk M s))) w) : wpList Tryz.prog ops Q (o :: rest) a w := by
  refine wpList_plain hg fun K' hK' => ?_
  unfold Oper.wp
  simp [execOp, hop, hm, hx, run_look hL, Result.andThen]
  exact hK' _ _ hK
end Go.Proofs.YtokncfhpmjohdaaGreat.Ch
namespace Go.Proofs.YtokncfhpmjohdaaGreat.Hn
open Go.RowKit Go.Proofs.YtokncfhpmjohdaaGreat.Dd Go.Proofs.YtokncfhpmjohdaaGreat.Ch Go.Proofs.YtokncfhpmjohdaaGreat.P2
set_option linter.unusedVariables false
set_option linter.unusedSimpArgs false

/-- The value of what hangs. -/
abbrev hv (n : ByteArray) (k : Int) (l : ByteArray) (x y h t m : Int) (c : Nat) : Value := .agg #[.string n, .int .i64 k, .string l, .int .i64 x, .int .i64 y, .int .i64 h, .int .i64 t, .int .i64 m, .chan (some c)]

theorem gset {w w' : World} {r : Option Nat} (h : w.grownBy w' r) {a : Addr} (ha : w.heap.size ≤ a.block) (v : Value) : w.grownBy (w'.setCell a v) r :=
  ⟨h.os, h.tape, h.output, by simpa [World.setCell] using h.size, fun k hk hr => (RowKit.Below.heap_setCell _ _ _ _ (by omega)).trans (h.block k hk hr)⟩
theorem gdrew {w w' : World} {r : Option Nat} (h : w.grownBy w' r) : w.grownBy w'.drew r := ⟨h.os, h.tape, h.output, h.size, h.block⟩
/-- No two lines have one channel, and each channel is there. -/
def Gd (w : World) (M : List (ByteArray × Nat)) : Prop := (∀ s c, lk M s = some c → c < w.heap.size) ∧ ∀ s s' c, lk M s = some c → lk M s' = some c → s = s'
theorem Gd.nil (w : World) : Gd w [] := ⟨fun _ _ h => (by cases h), fun _ _ _ h => (by cases h)⟩
theorem Gd.more {w w' : World} {M : List (ByteArray × Nat)} (h : Gd w M) (hs : w.heap.size ≤ w'.heap.size) : Gd w' M := ⟨fun s c e => Nat.lt_of_lt_of_le (h.1 s c e) hs, h.2⟩
theorem Gd.snoc {w w' : World} {M : List (ByteArray × Nat)} {s : ByteArray} {c : Nat} (h : Gd w M) (hn : lk M s = none) (h1 : w.heap.size ≤ c) (h2 : c < w'.heap.size) : Gd w' (M ++ [(s, c)]) := by
  have e : ∀ q v, lk (M ++ [(s, c)]) q = some v → lk M q = some v ∨ (s = q ∧ c = v) := by
    intro q v hq
    rw [lk_snoc] at hq
    cases hm : lk M q with
    | some u => rw [hm] at hq; exact Or.inl hq
    | none =>
      rw [hm] at hq
      by_cases g : s = q
      · simp [g] at hq; exact Or.inr ⟨g, hq⟩
      · simp [g] at hq
  refine ⟨fun q v hq => ?_, fun q q' v hq hq' => ?_⟩
  · rcases e q v hq with a | ⟨_, rfl⟩
    · have := h.1 q v a; omega
    · exact h2
  · rcases e q v hq with a | ⟨a, a'⟩ <;> rcases e q' v hq' with b | ⟨b, b'⟩
    · exact h.2 _ _ _ a b
    · have := h.1 q v a; omega
    · have := h.1 q' v b; omega
    · exact a.symm.trans b

/-- What is known behind hang: the map's lines, the channel of this line. -/
structure Hung (w : World) (b : Nat) (M : List (ByteArray × Nat)) (s : ByteArray) (M' : List (ByteArray × Nat)) (c : Nat) (w' : World) : Prop where
  ls : Ls w' b M'
  gd : Gd w' M'
  here : lk M' s = some c
  old : ∀ q v, lk M q = some v → lk M' q = some v
  new : ∀ q, q ≠ s → lk M' q = lk M q
  grown : w.grownBy w' (some b)

set_option maxHeartbeats 2000000 in
theorem hang (n : ByteArray) (k : Int) (l : ByteArray) (x y h t m : Int) (b : Nat) (M : List (ByteArray × Nat)) (w : World) (hL : Ls w b M) (hG : Gd w M) :
    Calls Tryz.prog 171 #[.map (some b), va n k l x y h t m] w fun e w' => ∃ M' c, e = .returned (hv n k l x y h t m c) ∧ Hung w b M l M' c w' := by
  have hb := hL.lt
  have mk := run_mkChan
  have e1 := run_chanNil
  have e2 := run_chanSome
  cases hl : lk M l with
  | some c =>
    have HK := Lib.hid hl
    clear hl
    go_enter Tryz.func171, Tryz.ntmps171
    go_wp2_with (at_lookup; refine wpList_look _ rfl _ _ rfl b M rfl ((hL.alloc _).alloc _) l rfl ?_; rw [HK.out])
    go_returns
    exact ⟨M, c, rfl, (hL.alloc _).alloc _ , (hG.more (by simp; omega)), HK.out, fun _ _ h => h, fun _ _ => rfl, Rw.grown_trans (World.grownBy_alloc _ _ _) (World.grownBy_alloc _ _ _)⟩
  | none =>
    have HK := Lib.hid hl
    clear hl
    have L2 : Ls (((w.alloc (.cells (ca n k l x y h t m) 98)).alloc (.cells #[.string ⟨#[]⟩, .int .i64 0, .string ⟨#[]⟩, .int .i64 0, .int .i64 0, .int .i64 0, .int .i64 0, .int .i64 0, .chan none] 201)).alloc (.chan 0 #[] false 0 0 false)).drew b M := ((hL.alloc _).alloc _).alloc _
    obtain ⟨w3, hput, hL3, hg3⟩ := run_put L2 HK.out (w.heap.size + 1 + 1)
    have z3 : w.heap.size + 1 + 1 < w3.heap.size := by have := hg3.size; simp at this; omega
    have nb1 : w.heap.size ≠ b := by omega
    have nb2 : w.heap.size + 1 ≠ b := by omega
    have hcell : ∀ p v, p.block ≠ b → (((w.alloc (.cells (ca n k l x y h t m) 98)).alloc (.cells #[.string ⟨#[]⟩, .int .i64 0, .string ⟨#[]⟩, .int .i64 0, .int .i64 0, .int .i64 0, .int .i64 0, .int .i64 0, .chan none] 201)).alloc (.chan 0 #[] false 0 0 false)).drew.cell? p = some v → w3.cell? p = some v :=
      fun p v hp hv => hg3.cell hv (fun e => hp (by injection e))
    have hfroz : ∀ p : Addr, p.block < w.heap.size + 3 → p.block ≠ b → w3.frozen? p = (((w.alloc (.cells (ca n k l x y h t m) 98)).alloc (.cells #[.string ⟨#[]⟩, .int .i64 0, .string ⟨#[]⟩, .int .i64 0, .int .i64 0, .int .i64 0, .int .i64 0, .int .i64 0, .chan none] 201)).alloc (.chan 0 #[] false 0 0 false)).drew.frozen? p :=
      fun p hlt hp => World.frozen?_of_block (hg3.block p.block (by simp; omega) (fun e => hp (by injection e)))
    have c0 : w3.cell? ⟨w.heap.size, 0, none⟩ = some (.string n) := hcell _ _ nb1 (by simp [go_sem])
    have c1 : w3.cell? ⟨w.heap.size, 1, none⟩ = some (.int .i64 k) := hcell _ _ nb1 (by simp [go_sem])
    have c2 : w3.cell? ⟨w.heap.size, 2, none⟩ = some (.string l) := hcell _ _ nb1 (by simp [go_sem])
    have c3 : w3.cell? ⟨w.heap.size, 3, none⟩ = some (.int .i64 x) := hcell _ _ nb1 (by simp [go_sem])
    have c4 : w3.cell? ⟨w.heap.size, 4, none⟩ = some (.int .i64 y) := hcell _ _ nb1 (by simp [go_sem])
    have c5 : w3.cell? ⟨w.heap.size, 5, none⟩ = some (.int .i64 h) := hcell _ _ nb1 (by simp [go_sem])
    have c6 : w3.cell? ⟨w.heap.size, 6, none⟩ = some (.int .i64 t) := hcell _ _ nb1 (by simp [go_sem])
    have c7 : w3.cell? ⟨w.heap.size, 7, none⟩ = some (.int .i64 m) := hcell _ _ nb1 (by simp [go_sem])
    have d0 : w3.cell? ⟨w.heap.size + 1, 0, none⟩ = some (.string ⟨#[]⟩) := hcell _ _ nb2 (by simp [go_sem])
    have f0 : w3.frozen? ⟨w.heap.size + 1, 0, none⟩ = false := (hfroz _ (by show w.heap.size + 1 < _; omega) nb2).trans (by simp [go_sem])
    have d1 : w3.cell? ⟨w.heap.size + 1, 1, none⟩ = some (.int .i64 0) := hcell _ _ nb2 (by simp [go_sem])
    have f1 : w3.frozen? ⟨w.heap.size + 1, 1, none⟩ = false := (hfroz _ (by show w.heap.size + 1 < _; omega) nb2).trans (by simp [go_sem])
    have d2 : w3.cell? ⟨w.heap.size + 1, 2, none⟩ = some (.string ⟨#[]⟩) := hcell _ _ nb2 (by simp [go_sem])
    have f2 : w3.frozen? ⟨w.heap.size + 1, 2, none⟩ = false := (hfroz _ (by show w.heap.size + 1 < _; omega) nb2).trans (by simp [go_sem])
    have d3 : w3.cell? ⟨w.heap.size + 1, 3, none⟩ = some (.int .i64 0) := hcell _ _ nb2 (by simp [go_sem])
    have f3 : w3.frozen? ⟨w.heap.size + 1, 3, none⟩ = false := (hfroz _ (by show w.heap.size + 1 < _; omega) nb2).trans (by simp [go_sem])
    have d4 : w3.cell? ⟨w.heap.size + 1, 4, none⟩ = some (.int .i64 0) := hcell _ _ nb2 (by simp [go_sem])
    have f4 : w3.frozen? ⟨w.heap.size + 1, 4, none⟩ = false := (hfroz _ (by show w.heap.size + 1 < _; omega) nb2).trans (by simp [go_sem])
    have d5 : w3.cell? ⟨w.heap.size + 1, 5, none⟩ = some (.int .i64 0) := hcell _ _ nb2 (by simp [go_sem])
    have f5 : w3.frozen? ⟨w.heap.size + 1, 5, none⟩ = false := (hfroz _ (by show w.heap.size + 1 < _; omega) nb2).trans (by simp [go_sem])
    have d6 : w3.cell? ⟨w.heap.size + 1, 6, none⟩ = some (.int .i64 0) := hcell _ _ nb2 (by simp [go_sem])
    have f6 : w3.frozen? ⟨w.heap.size + 1, 6, none⟩ = false := (hfroz _ (by show w.heap.size + 1 < _; omega) nb2).trans (by simp [go_sem])
    have d7 : w3.cell? ⟨w.heap.size + 1, 7, none⟩ = some (.int .i64 0) := hcell _ _ nb2 (by simp [go_sem])
    have f7 : w3.frozen? ⟨w.heap.size + 1, 7, none⟩ = false := (hfroz _ (by show w.heap.size + 1 < _; omega) nb2).trans (by simp [go_sem])
    have d8 : w3.cell? ⟨w.heap.size + 1, 8, none⟩ = some (.chan none) := hcell _ _ nb2 (by simp [go_sem])
    have f8 : w3.frozen? ⟨w.heap.size + 1, 8, none⟩ = false := (hfroz _ (by show w.heap.size + 1 < _; omega) nb2).trans (by simp [go_sem])
    have HQ := Lib.hid (show lk (M ++ [(l, w.heap.size + 1 + 1)]) l = some (w.heap.size + 1 + 1) by rw [lk_snoc, HK.out]; simp)
    clear hcell hfroz
    have G3 := Lib.hid (show w.grownBy w3 (some b) from Rw.grown_trans (gdrew (Rw.grown_trans (Rw.grown_trans (World.grownBy_alloc _ _ _) (World.grownBy_alloc _ _ _)) (World.grownBy_alloc _ _ _))) hg3)
    have HG := Lib.hid (show Gd w3 (M ++ [(l, w.heap.size + 1 + 1)]) from Gd.snoc hG HK.out (by omega) z3)
    have Z3 := Lib.hid z3
    have HL3 := Lib.hid hL3
    have HNB := Lib.hid nb2
    clear hg3 z3 hL3 L2 nb1 hG
    go_enter Tryz.func171, Tryz.ntmps171
    go_wp2_with (at_lookup; refine wpList_look _ rfl _ _ rfl b M rfl ((hL.alloc _).alloc _) l rfl ?_; rw [HK.out])
    go_region
    have HL9 := Lib.hid hL
    clear mk e1 e2 hput hL HK
    go_wp2_with (at_lookup; refine wpList_look _ rfl _ _ rfl b (M ++ [(l, w.heap.size + 1 + 1)]) rfl HL3.out l rfl ?_; rw [HQ.out])
    refine bodyPost_ret (v := hv n k l x y h t m (w.heap.size + 1 + 1)) (by simp [results, Tryz.results171, go_sem, d0, d1, d2, d3, d4, d5, d6, d7, d8]) rfl ⟨M ++ [(l, w.heap.size + 1 + 1)], w.heap.size + 1 + 1, rfl, ?_, HG.out.more (by simp), HQ.out, ?_, ?_, ?_⟩
    · repeat refine Ls.set ?_ (by exact HNB.out) _
      exact HL3.out
    · intro q v hq
      rw [lk_snoc, hq]
    · intro q hq
      rw [lk_snoc]
      cases lk M q with
      | some v => rfl
      | none => simp [Ne.symm hq]
    · repeat refine gset ?_ (by show w.heap.size ≤ w.heap.size + 1; omega) _
      exact G3.out
end Go.Proofs.YtokncfhpmjohdaaGreat.Hn
