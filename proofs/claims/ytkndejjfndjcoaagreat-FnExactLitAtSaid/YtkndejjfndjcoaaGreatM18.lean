/- Whether a list is demands, and its sum, of the program and of the model. -/
import Derived.Test.YtkndejjfndjcoaaGreatM1
import Derived.Test.YtkndejjfndjcoaaGreatDm
import Derived.Handy
namespace Go.Proofs.YtkndejjfndjcoaaGreat.Ws
open Go.RowKit Go.Proofs.YtkndejjfndjcoaaGreat.Mem Go.Proofs.YtkndejjfndjcoaaGreat.Dm
set_option linter.unusedVariables false
set_option linter.unusedSimpArgs false

def iw (x a b : Int) : Bool := decide (a ≤ x) && decide (x ≤ b)
theorem iw_iff {x a b : Int} : iw x a b = true ↔ a ≤ x ∧ x ≤ b := by unfold iw; rw [Bool.and_eq_true, decide_eq_true_eq, decide_eq_true_eq]
theorem iw_yes {x a b : Int} (h : a ≤ x ∧ x ≤ b) : iw x a b = true := iw_iff.2 h
theorem iw_no {x a b : Int} (h : x < a ∨ b < x) : iw x a b = false := by
  rw [← Bool.not_eq_true, iw_iff]; omega

theorem isWithin (x a b : Int) (w : World) : Calls Tryz.prog 80 #[.int .i64 x, .int .i64 a, .int .i64 b] w fun e w' => e = .returned (.bool (iw x a b)) ∧ w = w' := by
  go_enter Tryz.func80, Tryz.ntmps80
  go_wp2
  all_goals go_returns
  · rename_i h
    refine ⟨?_, rfl⟩
    show Ending.returned (.bool (decide (x ≤ b))) = _
    unfold iw; rw [decide_eq_true h]; rfl
  · rename_i h
    refine ⟨?_, rfl⟩
    show Ending.returned (.bool false) = _
    rw [iw_no (by omega)]
theorem l1In (x a b : Int) (w : World) : Calls Tryz.prog 70 #[.int .i64 x, .int .i64 a, .int .i64 b] w fun e w' => e = .returned (.bool (iw x a b)) ∧ w = w' := by
  go_enter Tryz.func70, Tryz.ntmps70
  go_wp2
  all_goals go_returns
  · rename_i h
    refine ⟨?_, rfl⟩
    show Ending.returned (.bool (decide (x ≤ b))) = _
    unfold iw; rw [decide_eq_true h]; rfl
  · rename_i h
    refine ⟨?_, rfl⟩
    show Ending.returned (.bool false) = _
    rw [iw_no (by omega)]
theorem isWithin_of {x a b : Int} {r : Bool} (e : iw x a b = r) (w : World) : Calls Tryz.prog 80 #[.int .i64 x, .int .i64 a, .int .i64 b] w fun e w' => e = .returned (.bool r) ∧ w = w' := e ▸ isWithin x a b w
theorem l1In_of {x a b : Int} {r : Bool} (e : iw x a b = r) (w : World) : Calls Tryz.prog 70 #[.int .i64 x, .int .i64 a, .int .i64 b] w fun e w' => e = .returned (.bool r) ∧ w = w' := e ▸ l1In x a b w

theorem isSupply (n : Int) (w : World) : Calls Tryz.prog 113 #[.int .i64 n] w fun e w' => e = .returned (.bool (iw n 0 512)) ∧ w = w' := by
  obtain ⟨b, hb⟩ : ∃ b, iw n 0 512 = b := ⟨_, rfl⟩
  have C := Lib.hid (fun v => isWithin_of hb v)
  rw [hb]
  clear hb
  go_enter Tryz.func113, Tryz.ntmps113
  go_wp2_with fail
  refine (C.out _).mono ?_
  rintro e w' ⟨rfl, rfl⟩
  go_wp2_with fail
  go_ret
  exact ⟨rfl, rfl⟩
theorem l5Supply (n : Int) (w : World) : Calls Tryz.prog 102 #[.int .i64 n] w fun e w' => e = .returned (.bool (iw n 0 512)) ∧ w = w' := by
  obtain ⟨b, hb⟩ : ∃ b, iw n 0 512 = b := ⟨_, rfl⟩
  have C := Lib.hid (fun v => l1In_of hb v)
  rw [hb]
  clear hb
  go_enter Tryz.func102, Tryz.ntmps102
  go_wp2_with fail
  refine (C.out _).mono ?_
  rintro e w' ⟨rfl, rfl⟩
  go_wp2_with fail
  go_ret
  exact ⟨rfl, rfl⟩
theorem isSupply_of {n : Int} {r : Bool} (e : iw n 0 512 = r) (w : World) : Calls Tryz.prog 113 #[.int .i64 n] w fun e w' => e = .returned (.bool r) ∧ w = w' := e ▸ isSupply n w
theorem l5Supply_of {n : Int} {r : Bool} (e : iw n 0 512 = r) (w : World) : Calls Tryz.prog 102 #[.int .i64 n] w fun e w' => e = .returned (.bool r) ∧ w = w' := e ▸ l5Supply n w

theorem ret_int {a b : Int} (h : a = b) : Ending.returned (.int .i64 a) = .returned (.int .i64 b) := by rw [h]

theorem l1Min (x y : Int) (w : World) : Calls Tryz.prog 71 #[.int .i64 x, .int .i64 y] w fun e w' => e = .returned (.int .i64 (min x y)) ∧ w = w' := by
  obtain ⟨m, hm⟩ : ∃ m, min x y = m := ⟨_, rfl⟩
  rw [hm]
  have HM := Lib.hid hm
  clear hm
  go_enter Tryz.func71, Tryz.ntmps71
  go_wp2
  all_goals go_returns
  all_goals (have h9 := HM.out; exact ⟨ret_int (by omega), rfl⟩)

theorem ret_bool {a b : Bool} (h : a = b) : Ending.returned (.bool a) = .returned (.bool b) := by rw [h]

set_option maxHeartbeats 1000000 in
theorem demI (A : Option Addr) (n c : Nat) (zs : List Int) (B : Nat) (w : World) (hn : zs.length = n) (hb : n ≤ 1048576) (hr : Rd w B A (ints zs)) :
    Calls Tryz.prog 112 #[.slice A n c] w fun e w' => e = .returned (.bool (dm zs)) ∧ w = w' := by
  have HR := Lib.hid hr
  have HN := Lib.hid hn
  by_cases h8 : 8 < n
  · have F := Lib.hid (dm_long (zs := zs) (by omega))
    clear hr hn
    go_enter Tryz.func112, Tryz.ntmps112
    go_wp2_with fail
    go_ret
    exact ⟨ret_bool F.out.symm, rfl⟩
  · clear hr hn
    go_enter Tryz.func112, Tryz.ntmps112
    go_wp2_with fail
    go_loop [10] (fun i => ∃ k : Nat, k ≤ n ∧ i = .int .i64 k ∧ Hid (okD (zs.take k))) (fun i => n - (intOf i).toNat)
    case atStart => exact ⟨0, Nat.zero_le _, rfl, Lib.hid okD_nil⟩
    case round =>
      obtain ⟨k, hk, rfl, HK⟩ := hrel
      by_cases hlt : k < n
      · have hkz : k < zs.length := by rw [HN.out]; exact hlt
        have hl : k < (ints zs).length := by rw [ints_len]; exact hkz
        obtain ⟨z, hz⟩ : ∃ z, zs[k]? = some z := ⟨_, List.getElem?_eq_getElem hkz⟩
        have hz2 : (ints zs)[k]? = some (.int .i64 z) := by unfold ints; rw [List.getElem?_map, hz]; rfl
        obtain ⟨b1, o1, eA, hb1, g1⟩ := HR.out.get hl
        have c1 : w.cell? ⟨b1, o1 + k, none⟩ = some (.int .i64 z) := g1 k _ hz2
        have HZ := Lib.hid hz
        clear g1 hz hz2 hl hkz hb1
        subst eA
        by_cases hm : 0 ≤ z ∧ z ≤ 64
        · have C := Lib.hid (fun v => isWithin_of (iw_yes hm) v)
          have K := Lib.hid (okD_take_succ HZ.out hm HK.out)
          clear hm
          go_wp2_with fail
          refine (C.out _).mono ?_
          rintro e w' ⟨rfl, rfl⟩
          go_wp2_with fail
          go_round
          case rel => exact ⟨k + 1, by omega, by go_num, K⟩
          case measure => simp [intOf]; omega
        · have C := Lib.hid (fun v => isWithin_of (iw_no (x := z) (a := 0) (b := 64) (by omega)) v)
          have F := Lib.hid (dm_bad HZ.out (by omega))
          clear hm
          go_wp2_with fail
          refine (C.out _).mono ?_
          rintro e w' ⟨rfl, rfl⟩
          go_wp2_with fail
          go_ret
          exact ⟨ret_bool F.out.symm, rfl⟩
      · obtain rfl : k = n := by omega
        have F := Lib.hid (dm_yes (zs := zs) (by rw [HN.out]; omega) (by have := HK.out; rwa [← HN.out, List.take_length] at this))
        go_wp2_with fail
        go_ret
        exact ⟨ret_bool F.out.symm, rfl⟩

set_option maxHeartbeats 1000000 in
theorem demS (A : Option Addr) (n c : Nat) (zs : List Int) (B : Nat) (w : World) (hn : zs.length = n) (hb : n ≤ 1048576) (hr : Rd w B A (ints zs)) :
    Calls Tryz.prog 101 #[.slice A n c] w fun e w' => e = .returned (.bool (dm zs)) ∧ w = w' := by
  have HR := Lib.hid hr
  have HN := Lib.hid hn
  clear hr hn
  go_enter Tryz.func101, Tryz.ntmps101
  go_wp2_with fail
  go_loop [7] (fun i => ∃ k : Nat, k ≤ n ∧ i = .int .i64 k ∧ Hid (okD (zs.take k))) (fun i => n - (intOf i).toNat)
  case atStart => exact ⟨0, Nat.zero_le _, rfl, Lib.hid okD_nil⟩
  case round =>
    obtain ⟨k, hk, rfl, HK⟩ := hrel
    by_cases hlt : k < n
    · have hkz : k < zs.length := by rw [HN.out]; exact hlt
      have hl : k < (ints zs).length := by rw [ints_len]; exact hkz
      obtain ⟨z, hz⟩ : ∃ z, zs[k]? = some z := ⟨_, List.getElem?_eq_getElem hkz⟩
      have hz2 : (ints zs)[k]? = some (.int .i64 z) := by unfold ints; rw [List.getElem?_map, hz]; rfl
      obtain ⟨b1, o1, eA, hb1, g1⟩ := HR.out.get hl
      have c1 : w.cell? ⟨b1, o1 + k, none⟩ = some (.int .i64 z) := g1 k _ hz2
      have HZ := Lib.hid hz
      clear g1 hz hz2 hl hkz hb1
      subst eA
      by_cases hm : 0 ≤ z ∧ z ≤ 64
      · have C := Lib.hid (fun v => l1In_of (iw_yes hm) v)
        have K := Lib.hid (okD_take_succ HZ.out hm HK.out)
        clear hm
        go_wp2_with fail
        refine (C.out _).mono ?_
        rintro e w' ⟨rfl, rfl⟩
        go_wp2_with fail
        go_round
        case rel => exact ⟨k + 1, by omega, by go_num, K⟩
        case measure => simp [intOf]; omega
      · have C := Lib.hid (fun v => l1In_of (iw_no (x := z) (a := 0) (b := 64) (by omega)) v)
        have F := Lib.hid (dm_bad HZ.out (by omega))
        clear hm
        go_wp2_with fail
        refine (C.out _).mono ?_
        rintro e w' ⟨rfl, rfl⟩
        go_wp2_with fail
        go_ret
        exact ⟨ret_bool F.out.symm, rfl⟩
    · obtain rfl : k = n := by omega
      by_cases h8 : k ≤ 8
      · have F := Lib.hid (dm_yes (zs := zs) (by rw [HN.out]; omega) (by have := HK.out; rwa [← HN.out, List.take_length] at this))
        have d : decide ((k : Int) ≤ 8) = true := decide_eq_true (by omega)
        clear h8 hlt
        go_wp2_with fail
        go_ret
        exact ⟨ret_bool F.out.symm, rfl⟩
      · have F := Lib.hid (dm_long (zs := zs) (by rw [HN.out]; omega))
        have d : decide ((k : Int) ≤ 8) = false := decide_eq_false (by omega)
        clear h8 hlt
        go_wp2_with fail
        go_ret
        exact ⟨ret_bool F.out.symm, rfl⟩

theorem demI_of {zs : List Int} {r : Bool} (e : dm zs = r) (A : Option Addr) (n c B : Nat) (w : World) (hn : zs.length = n) (hb : n ≤ 1048576) (hr : Rd w B A (ints zs)) :
    Calls Tryz.prog 112 #[.slice A n c] w fun e w' => e = .returned (.bool r) ∧ w = w' := e ▸ demI A n c zs B w hn hb hr
theorem demS_of {zs : List Int} {r : Bool} (e : dm zs = r) (A : Option Addr) (n c B : Nat) (w : World) (hn : zs.length = n) (hb : n ≤ 1048576) (hr : Rd w B A (ints zs)) :
    Calls Tryz.prog 101 #[.slice A n c] w fun e w' => e = .returned (.bool r) ∧ w = w' := e ▸ demS A n c zs B w hn hb hr

set_option maxHeartbeats 1000000 in
/-- The model's sum of a few eighths. -/
theorem sumS (A : Option Addr) (n c : Nat) (zs : List Int) (B : Nat) (w : World) (hn : zs.length = n) (hb : zs.length ≤ 8) (hd : okD zs) (hr : Rd w B A (ints zs)) :
    Calls Tryz.prog 105 #[.slice A n c] w fun e w' => e = .returned (.int .i64 (tot zs)) ∧ w = w' := by
  have HR := Lib.hid hr
  have HN := Lib.hid hn
  have HD := Lib.hid hd
  have HT := Lib.hid (tot_take_small hb hd)
  have hb8 : n ≤ 8 := by omega
  clear hr hn hd hb
  go_enter Tryz.func105, Tryz.ntmps105
  go_wp2_with fail
  go_loop [3, 8] (fun t i => ∃ k : Nat, k ≤ n ∧ i = .int .i64 k ∧ ∃ x : Int, t = .int .i64 x ∧ Hid (x = tot (zs.take k))) (fun _ i => n - (intOf i).toNat)
  case atStart => exact ⟨0, Nat.zero_le _, rfl, 0, rfl, Lib.hid rfl⟩
  case round =>
    obtain ⟨k, hk, rfl, x, rfl, HX⟩ := hrel
    have hx : 0 ≤ x ∧ x ≤ 512 := by have := HT.out k; rw [← HX.out] at this; exact this
    by_cases hlt : k < n
    · have hkz : k < zs.length := by rw [HN.out]; exact hlt
      have hl : k < (ints zs).length := by rw [ints_len]; exact hkz
      obtain ⟨z, hz⟩ : ∃ z, zs[k]? = some z := ⟨_, List.getElem?_eq_getElem hkz⟩
      have hz2 : (ints zs)[k]? = some (.int .i64 z) := by unfold ints; rw [List.getElem?_map, hz]; rfl
      obtain ⟨b1, o1, eA, hb1, g1⟩ := HR.out.get hl
      have c1 : w.cell? ⟨b1, o1 + k, none⟩ = some (.int .i64 z) := g1 k _ hz2
      have hz3 := HD.out z (List.mem_of_getElem? hz)
      obtain ⟨hx1, hx2⟩ := hx
      obtain ⟨hz4, hz5⟩ := hz3
      have K := Lib.hid (show x + z = tot (zs.take (k + 1)) by rw [tot_take hz, ← HX.out])
      clear g1 hz hz2 hl hkz hb1
      subst eA
      go_wp2_with fail
      go_round
      case rel => exact ⟨k + 1, by omega, by go_num, x + z, rfl, K⟩
      case measure => simp [intOf]; omega
    · obtain rfl : k = n := by omega
      have F := Lib.hid (show x = tot zs by rw [HX.out, ← HN.out, List.take_length])
      clear hx
      go_wp2_with fail
      go_ret
      exact ⟨ret_int F.out, rfl⟩

end Go.Proofs.YtkndejjfndjcoaaGreat.Ws
namespace Go.Proofs.YtkndejjfndjcoaaGreat.Ints
open Go.RowKit Go.Proofs.YtkndejjfndjcoaaGreat.Mem

theorem infoInt : (Tryz.prog.info? 3).map (fun i => (i.zero, i.size, i.bytes)) = some (some (.int .i64 0), 1, 8) := by kernel_rfl

theorem made_ints (n : Nat) : (madeCells (Value.int .i64 0).cells (n * 1)).toList = List.replicate n (.int .i64 0) := by
  apply List.ext_getElem?
  intro j
  rw [Nat.mul_one, Array.getElem?_toList, List.getElem?_replicate]
  simp only [madeCells, Value.cells]
  by_cases h : j < n <;> simp [h, Nat.mod_one]

/-- What the copy leaves: a row of its own with these integers; what was there is as it was. -/
def Copied (w : World) (n : Nat) (zs : List Int) (e : Ending) (w' : World) : Prop :=
  ∃ g, e = .returned (.slice (some ⟨g, 0, none⟩) n n) ∧ w.heap.size ≤ g ∧ w'.ownsRow w.heap.size 3 1 (.slice (some ⟨g, 0, none⟩) n n) n (ints zs) ∧ Below w.heap.size w w'

/-- Found equal: only draws were made. -/
def Same (b : Bool) (w : World) (e : Ending) (w' : World) : Prop := e = .returned (.bool b) ∧ ∃ m, w' = w.drewN m

set_option maxHeartbeats 1000000 in
theorem eqIntS (A B : Option Addr) (n c d : Nat) (zs : List Int) (H : Nat) (w : World) (hn : zs.length = n) (hb : n ≤ 1048576) (hr : Rd w H A (ints zs)) (hs : Rd w H B (ints zs)) :
    Calls Tryz.prog 12 #[.slice A n c, .slice B n d] w (Same true w) := by
  have HR := Lib.hid hr
  have HS := Lib.hid hs
  have HN := Lib.hid hn
  clear hr hs hn
  go_enter Tryz.func12, Tryz.ntmps12
  go_wp2
  go_loopw [5] (fun i wr => ∃ k m : Nat, k ≤ n ∧ i = .int .i64 k ∧ wr = w.drewN m) (fun i _ => n - (intOf i).toNat)
  case atStart => exact ⟨0, 0, Nat.zero_le _, rfl, rfl⟩
  case round =>
    obtain ⟨k, m, hk, rfl, rfl⟩ := hrel
    by_cases hlt : k < n
    · have hkz : k < zs.length := by rw [HN.out]; exact hlt
      have hl : k < (ints zs).length := by rw [ints_len]; exact hkz
      obtain ⟨z, hz⟩ : ∃ z, (ints zs)[k]? = some (.int .i64 z) := ⟨_, ints_get hkz⟩
      obtain ⟨b1, o1, eA, _, g1⟩ := HR.out.get hl
      obtain ⟨b2, o2, eB, _, g2⟩ := HS.out.get hl
      have c1 : (w.drewN m).cell? ⟨b1, o1 + k, none⟩ = some (.int .i64 z) := g1 k _ hz
      have c2 : (w.drewN m).cell? ⟨b2, o2 + k, none⟩ = some (.int .i64 z) := g2 k _ hz
      clear g1 g2 hz hl hkz
      subst eA eB
      have hlt' : (k : Int) < (n : Int) := by omega
      have hk0 : (0 : Int) ≤ (k : Int) := by omega
      obtain ⟨W, hW⟩ : ∃ W, W = w.drewN m := ⟨_, rfl⟩
      rw [← hW] at c1 c2 ⊢
      have HW := Lib.hid hW
      clear hW
      go_wp2
      go_quiet (fail)
      go_wp2
      go_roundw
      case rel => exact ⟨k + 1, m + nq, by omega, by go_num, by rw [HW.out, World.drewN_drewN]⟩
      case measure => simp [intOf]; omega
    · obtain rfl : k = n := by omega
      go_wp2
      go_ret
      exact ⟨rfl, m, rfl⟩

end Go.Proofs.YtkndejjfndjcoaaGreat.Ints
