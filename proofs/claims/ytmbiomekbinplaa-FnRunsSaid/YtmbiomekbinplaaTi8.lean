/- Whether a list is a track, of the program and of the model. -/
import Derived.Test.YtmbiomekbinplaaMem
import Derived.Test.YtmbiomekbinplaaTk
import Derived.Handy
namespace Go.Proofs.Ytmbiomekbinplaa.Ti8
open Go.RowKit Go.Proofs.Ytmbiomekbinplaa.Mem Go.Proofs.Ytmbiomekbinplaa.Tk
set_option linter.unusedVariables false
set_option linter.unusedSimpArgs false

def iw (x a b : Int) : Bool := decide (a ≤ x) && decide (x ≤ b)
theorem iw_iff {x a b : Int} : iw x a b = true ↔ a ≤ x ∧ x ≤ b := by unfold iw; rw [Bool.and_eq_true, decide_eq_true_eq, decide_eq_true_eq]
theorem iw_yes {x a b : Int} (h : a ≤ x ∧ x ≤ b) : iw x a b = true := iw_iff.2 h
theorem iw_no {x a b : Int} (h : x < a ∨ b < x) : iw x a b = false := by
  rw [← Bool.not_eq_true, iw_iff]; omega

theorem isWithin (x a b : Int) (w : World) : Calls Try.prog 35 #[.int .i64 x, .int .i64 a, .int .i64 b] w fun e w' => e = .returned (.bool (iw x a b)) ∧ w = w' := by
  go_enter Try.func35, Try.ntmps35
  go_wp2
  all_goals go_returns
  · rename_i h
    refine ⟨?_, rfl⟩
    show Ending.returned (.bool (decide (x ≤ b))) = _
    unfold iw; rw [decide_eq_true h]; rfl
  · rename_i h
    refine ⟨?_, rfl⟩
    show Ending.returned (.bool false) = _
    rw [iw_no (by omega)]
theorem l1In (x a b : Int) (w : World) : Calls Try.prog 49 #[.int .i64 x, .int .i64 a, .int .i64 b] w fun e w' => e = .returned (.bool (iw x a b)) ∧ w = w' := by
  go_enter Try.func49, Try.ntmps49
  go_wp2
  all_goals go_returns
  · rename_i h
    refine ⟨?_, rfl⟩
    show Ending.returned (.bool (decide (x ≤ b))) = _
    unfold iw; rw [decide_eq_true h]; rfl
  · rename_i h
    refine ⟨?_, rfl⟩
    show Ending.returned (.bool false) = _
    rw [iw_no (by omega)]
theorem isWithin_of {x a b : Int} {r : Bool} (e : iw x a b = r) (w : World) : Calls Try.prog 35 #[.int .i64 x, .int .i64 a, .int .i64 b] w fun e w' => e = .returned (.bool r) ∧ w = w' := e ▸ isWithin x a b w
theorem l1In_of {x a b : Int} {r : Bool} (e : iw x a b = r) (w : World) : Calls Try.prog 49 #[.int .i64 x, .int .i64 a, .int .i64 b] w fun e w' => e = .returned (.bool r) ∧ w = w' := e ▸ l1In x a b w

theorem ret_int {a b : Int} (h : a = b) : Ending.returned (.int .i64 a) = .returned (.int .i64 b) := by rw [h]
theorem ret_bool {a b : Bool} (h : a = b) : Ending.returned (.bool a) = .returned (.bool b) := by rw [h]

theorem l1Max (x y : Int) (w : World) : Calls Try.prog 47 #[.int .i64 x, .int .i64 y] w fun e w' => e = .returned (.int .i64 (max x y)) ∧ w = w' := by
  obtain ⟨m, hm⟩ : ∃ m, max x y = m := ⟨_, rfl⟩
  rw [hm]
  have HM := Lib.hid hm
  clear hm
  go_enter Try.func47, Try.ntmps47
  go_wp2
  all_goals go_returns
  all_goals (have h9 := HM.out; exact ⟨ret_int (by omega), rfl⟩)

set_option maxHeartbeats 1000000 in
theorem trkI2 (A : Option Addr) (n c : Nat) (zs : List Int) (B : Nat) (w : World) (hn : zs.length = n) (hb : n ≤ 8388608) (hr : Rd w B A (ints zs)) :
    Calls Try.prog 19 #[.slice A n c] w fun e w' => e = .returned (.bool (tk zs)) ∧ w = w' := by
  have HR := Lib.hid hr
  have HN := Lib.hid hn
  by_cases h8 : 64 < n
  · have F := Lib.hid (tk_long (zs := zs) (by omega))
    clear hr hn
    go_enter Try.func19, Try.ntmps19
    go_wp2_with fail
    go_ret
    exact ⟨ret_bool F.out.symm, rfl⟩
  · clear hr hn
    go_enter Try.func19, Try.ntmps19
    go_wp2_with fail
    go_loop [10] (fun i => ∃ k : Nat, k ≤ n ∧ i = .int .i64 k ∧ Hid (okT (zs.take k))) (fun i => n - (intOf i).toNat)
    case atStart => exact ⟨0, Nat.zero_le _, rfl, Lib.hid okT_nil⟩
    case round =>
      obtain ⟨k, hk, rfl, HK⟩ := hrel
      by_cases hlt : k < n
      · have hkz : k < zs.length := by rw [HN.out]; exact hlt
        have hl : k < (ints zs).length := by rw [ints_len]; exact hkz
        obtain ⟨z, hz⟩ : ∃ z, zs[k]? = some z := ⟨_, List.getElem?_eq_getElem hkz⟩
        have hz2 : (ints zs)[k]? = some (.int .i64 z) := by unfold ints; rw [List.getElem?_map, hz]; rfl
        obtain ⟨b1, o1, eA, hb1, g1⟩ := HR.out.get hl
        have c1 : w.cell? ⟨b1, o1 + k, none⟩ = some (.int .i64 z) := g1 k _ hz2
        have HZ := Lib.hid hz
        clear g1 hz hz2 hl hkz hb1
        subst eA
        by_cases hm : 0 ≤ z ∧ z ≤ 32
        · have C := Lib.hid (fun v => isWithin_of (iw_yes hm) v)
          have K := Lib.hid (okT_take_succ HZ.out hm HK.out)
          clear hm
          go_wp2_with fail
          refine (C.out _).mono ?_
          rintro e w' ⟨rfl, rfl⟩
          go_wp2_with fail
          go_round
          case rel => exact ⟨k + 1, by omega, by go_num, K⟩
          case measure => simp [intOf]; omega
        · have C := Lib.hid (fun v => isWithin_of (iw_no (x := z) (a := 0) (b := 32) (by omega)) v)
          have F := Lib.hid (tk_bad HZ.out (by omega))
          clear hm
          go_wp2_with fail
          refine (C.out _).mono ?_
          rintro e w' ⟨rfl, rfl⟩
          go_wp2_with fail
          go_ret
          exact ⟨ret_bool F.out.symm, rfl⟩
      · obtain rfl : k = n := by omega
        have F := Lib.hid (tk_yes (zs := zs) (by rw [HN.out]; omega) (by have := HK.out; rwa [← HN.out, List.take_length] at this))
        go_wp2_with fail
        go_ret
        exact ⟨ret_bool F.out.symm, rfl⟩

theorem trkI (A : Option Addr) (n c : Nat) (zs : List Int) (B : Nat) (w : World) (hn : zs.length = n) (hb : n ≤ 1048576) (hr : Rd w B A (ints zs)) :
    Calls Try.prog 19 #[.slice A n c] w fun e w' => e = .returned (.bool (tk zs)) ∧ w = w' := trkI2 A n c zs B w hn (by omega) hr

set_option maxHeartbeats 1000000 in
theorem trkS2 (A : Option Addr) (n c : Nat) (zs : List Int) (B : Nat) (w : World) (hn : zs.length = n) (hb : n ≤ 8388608) (hr : Rd w B A (ints zs)) :
    Calls Try.prog 27 #[.slice A n c] w fun e w' => e = .returned (.bool (tk zs)) ∧ w = w' := by
  have HR := Lib.hid hr
  have HN := Lib.hid hn
  clear hr hn
  go_enter Try.func27, Try.ntmps27
  go_wp2_with fail
  go_loop [7] (fun i => ∃ k : Nat, k ≤ n ∧ i = .int .i64 k ∧ Hid (okT (zs.take k))) (fun i => n - (intOf i).toNat)
  case atStart => exact ⟨0, Nat.zero_le _, rfl, Lib.hid okT_nil⟩
  case round =>
    obtain ⟨k, hk, rfl, HK⟩ := hrel
    by_cases hlt : k < n
    · have hkz : k < zs.length := by rw [HN.out]; exact hlt
      have hl : k < (ints zs).length := by rw [ints_len]; exact hkz
      obtain ⟨z, hz⟩ : ∃ z, zs[k]? = some z := ⟨_, List.getElem?_eq_getElem hkz⟩
      have hz2 : (ints zs)[k]? = some (.int .i64 z) := by unfold ints; rw [List.getElem?_map, hz]; rfl
      obtain ⟨b1, o1, eA, hb1, g1⟩ := HR.out.get hl
      have c1 : w.cell? ⟨b1, o1 + k, none⟩ = some (.int .i64 z) := g1 k _ hz2
      have HZ := Lib.hid hz
      clear g1 hz hz2 hl hkz hb1
      subst eA
      by_cases hm : 0 ≤ z ∧ z ≤ 32
      · have C := Lib.hid (fun v => l1In_of (iw_yes hm) v)
        have K := Lib.hid (okT_take_succ HZ.out hm HK.out)
        clear hm
        go_wp2_with fail
        refine (C.out _).mono ?_
        rintro e w' ⟨rfl, rfl⟩
        go_wp2_with fail
        go_round
        case rel => exact ⟨k + 1, by omega, by go_num, K⟩
        case measure => simp [intOf]; omega
      · have C := Lib.hid (fun v => l1In_of (iw_no (x := z) (a := 0) (b := 32) (by omega)) v)
        have F := Lib.hid (tk_bad HZ.out (by omega))
        clear hm
        go_wp2_with fail
        refine (C.out _).mono ?_
        rintro e w' ⟨rfl, rfl⟩
        go_wp2_with fail
        go_ret
        exact ⟨ret_bool F.out.symm, rfl⟩
    · obtain rfl : k = n := by omega
      by_cases h8 : k ≤ 64
      · have F := Lib.hid (tk_yes (zs := zs) (by rw [HN.out]; omega) (by have := HK.out; rwa [← HN.out, List.take_length] at this))
        have d : decide ((k : Int) ≤ 64) = true := decide_eq_true (by omega)
        clear h8 hlt
        go_wp2_with fail
        go_ret
        exact ⟨ret_bool F.out.symm, rfl⟩
      · have F := Lib.hid (tk_long (zs := zs) (by rw [HN.out]; omega))
        have d : decide ((k : Int) ≤ 64) = false := decide_eq_false (by omega)
        clear h8 hlt
        go_wp2_with fail
        go_ret
        exact ⟨ret_bool F.out.symm, rfl⟩

theorem trkS (A : Option Addr) (n c : Nat) (zs : List Int) (B : Nat) (w : World) (hn : zs.length = n) (hb : n ≤ 1048576) (hr : Rd w B A (ints zs)) :
    Calls Try.prog 27 #[.slice A n c] w fun e w' => e = .returned (.bool (tk zs)) ∧ w = w' := trkS2 A n c zs B w hn (by omega) hr
theorem trkI_of {zs : List Int} {r : Bool} (e : tk zs = r) (A : Option Addr) (n c B : Nat) (w : World) (hn : zs.length = n) (hb : n ≤ 1048576) (hr : Rd w B A (ints zs)) :
    Calls Try.prog 19 #[.slice A n c] w fun e w' => e = .returned (.bool r) ∧ w = w' := e ▸ trkI A n c zs B w hn hb hr
theorem trkS_of {zs : List Int} {r : Bool} (e : tk zs = r) (A : Option Addr) (n c B : Nat) (w : World) (hn : zs.length = n) (hb : n ≤ 1048576) (hr : Rd w B A (ints zs)) :
    Calls Try.prog 27 #[.slice A n c] w fun e w' => e = .returned (.bool r) ∧ w = w' := e ▸ trkS A n c zs B w hn hb hr

end Go.Proofs.Ytmbiomekbinplaa.Ti8
