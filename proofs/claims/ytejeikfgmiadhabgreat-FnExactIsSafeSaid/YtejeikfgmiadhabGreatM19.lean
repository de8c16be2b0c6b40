/- Whether a list is demands, and its sum, of the program and of the model. -/
import Derived.Test.YtejeikfgmiadhabGreatM1
import Derived.Test.YtejeikfgmiadhabGreatDm
import Derived.Handy
import Derived.Laws.AppendOwn
namespace Go.Proofs.YtejeikfgmiadhabGreat.Ws
open Go.RowKit Go.Proofs.YtejeikfgmiadhabGreat.Mem Go.Proofs.YtejeikfgmiadhabGreat.Dm
set_option linter.unusedVariables false
set_option linter.unusedSimpArgs false

def iw (x a b : Int) : Bool := decide (a ≤ x) && decide (x ≤ b)
theorem iw_iff {x a b : Int} : iw x a b = true ↔ a ≤ x ∧ x ≤ b := by unfold iw; rw [Bool.and_eq_true, decide_eq_true_eq, decide_eq_true_eq]
theorem iw_yes {x a b : Int} (h : a ≤ x ∧ x ≤ b) : iw x a b = true := iw_iff.2 h
theorem iw_no {x a b : Int} (h : x < a ∨ b < x) : iw x a b = false := by
  rw [← Bool.not_eq_true, iw_iff]; omega

theorem isWithin (x a b : Int) (w : World) : Calls Tryz.prog 86 #[.int .i64 x, .int .i64 a, .int .i64 b] w fun e w' => e = .returned (.bool (iw x a b)) ∧ w = w' := by
  go_enter Tryz.func86, Tryz.ntmps86
  go_wp2
  all_goals go_returns
  · rename_i h
    refine ⟨?_, rfl⟩
    show Ending.returned (.bool (decide (x ≤ b))) = _
    unfold iw; rw [decide_eq_true h]; rfl
  · rename_i h
    refine ⟨?_, rfl⟩
    show Ending.returned (.bool false) = _
    rw [iw_no (by omega)]
theorem l1In (x a b : Int) (w : World) : Calls Tryz.prog 71 #[.int .i64 x, .int .i64 a, .int .i64 b] w fun e w' => e = .returned (.bool (iw x a b)) ∧ w = w' := by
  go_enter Tryz.func71, Tryz.ntmps71
  go_wp2
  all_goals go_returns
  · rename_i h
    refine ⟨?_, rfl⟩
    show Ending.returned (.bool (decide (x ≤ b))) = _
    unfold iw; rw [decide_eq_true h]; rfl
  · rename_i h
    refine ⟨?_, rfl⟩
    show Ending.returned (.bool false) = _
    rw [iw_no (by omega)]
theorem isWithin_of {x a b : Int} {r : Bool} (e : iw x a b = r) (w : World) : Calls Tryz.prog 86 #[.int .i64 x, .int .i64 a, .int .i64 b] w fun e w' => e = .returned (.bool r) ∧ w = w' := e ▸ isWithin x a b w
theorem l1In_of {x a b : Int} {r : Bool} (e : iw x a b = r) (w : World) : Calls Tryz.prog 71 #[.int .i64 x, .int .i64 a, .int .i64 b] w fun e w' => e = .returned (.bool r) ∧ w = w' := e ▸ l1In x a b w

theorem isSupply (n : Int) (w : World) : Calls Tryz.prog 165 #[.int .i64 n] w fun e w' => e = .returned (.bool (iw n 0 512)) ∧ w = w' := by
  obtain ⟨b, hb⟩ : ∃ b, iw n 0 512 = b := ⟨_, rfl⟩
  have C := Lib.hid (fun v => isWithin_of hb v)
  rw [hb]
  clear hb
  go_enter Tryz.func165, Tryz.ntmps165
  go_wp2_with fail
  refine (C.out _).mono ?_
  rintro e w' ⟨rfl, rfl⟩
  go_wp2_with fail
  go_ret
  exact ⟨rfl, rfl⟩
theorem l5Supply (n : Int) (w : World) : Calls Tryz.prog 145 #[.int .i64 n] w fun e w' => e = .returned (.bool (iw n 0 512)) ∧ w = w' := by
  obtain ⟨b, hb⟩ : ∃ b, iw n 0 512 = b := ⟨_, rfl⟩
  have C := Lib.hid (fun v => l1In_of hb v)
  rw [hb]
  clear hb
  go_enter Tryz.func145, Tryz.ntmps145
  go_wp2_with fail
  refine (C.out _).mono ?_
  rintro e w' ⟨rfl, rfl⟩
  go_wp2_with fail
  go_ret
  exact ⟨rfl, rfl⟩
theorem isSupply_of {n : Int} {r : Bool} (e : iw n 0 512 = r) (w : World) : Calls Tryz.prog 165 #[.int .i64 n] w fun e w' => e = .returned (.bool r) ∧ w = w' := e ▸ isSupply n w
theorem l5Supply_of {n : Int} {r : Bool} (e : iw n 0 512 = r) (w : World) : Calls Tryz.prog 145 #[.int .i64 n] w fun e w' => e = .returned (.bool r) ∧ w = w' := e ▸ l5Supply n w

theorem ret_int {a b : Int} (h : a = b) : Ending.returned (.int .i64 a) = .returned (.int .i64 b) := by rw [h]

theorem l1Min (x y : Int) (w : World) : Calls Tryz.prog 81 #[.int .i64 x, .int .i64 y] w fun e w' => e = .returned (.int .i64 (min x y)) ∧ w = w' := by
  obtain ⟨m, hm⟩ : ∃ m, min x y = m := ⟨_, rfl⟩
  rw [hm]
  have HM := Lib.hid hm
  clear hm
  go_enter Tryz.func81, Tryz.ntmps81
  go_wp2
  all_goals go_returns
  all_goals (have h9 := HM.out; exact ⟨ret_int (by omega), rfl⟩)

theorem ret_bool {a b : Bool} (h : a = b) : Ending.returned (.bool a) = .returned (.bool b) := by rw [h]

set_option maxHeartbeats 1000000 in
theorem demI (A : Option Addr) (n c : Nat) (zs : List Int) (B : Nat) (w : World) (hn : zs.length = n) (hb : n ≤ 1048576) (hr : Rd w B A (ints zs)) :
    Calls Tryz.prog 164 #[.slice A n c] w fun e w' => e = .returned (.bool (dm zs)) ∧ w = w' := by
  have HR := Lib.hid hr
  have HN := Lib.hid hn
  by_cases h8 : 8 < n
  · have F := Lib.hid (dm_long (zs := zs) (by omega))
    clear hr hn
    go_enter Tryz.func164, Tryz.ntmps164
    go_wp2_with fail
    go_ret
    exact ⟨ret_bool F.out.symm, rfl⟩
  · clear hr hn
    go_enter Tryz.func164, Tryz.ntmps164
    go_wp2_with fail
    go_loop [10] (fun i => ∃ k : Nat, k ≤ n ∧ i = .int .i64 k ∧ Hid (okD (zs.take k))) (fun i => n - (intOf i).toNat)
    case atStart => exact ⟨0, Nat.zero_le _, rfl, Lib.hid okD_nil⟩
    case round =>
      obtain ⟨k, hk, rfl, HK⟩ := hrel
      by_cases hlt : k < n
      · have hkz : k < zs.length := by rw [HN.out]; exact hlt
        have hl : k < (ints zs).length := by rw [ints_len]; exact hkz
        obtain ⟨z, hz⟩ : ∃ z, zs[k]? = some z := ⟨_, List.getElem?_eq_getElem hkz⟩
        have hz2 : (ints zs)[k]? = some (.int .i64 z) := by unfold ints; rw [List.getElem?_map, hz]; rfl
        obtain ⟨b1, o1, eA, hb1, g1⟩ := HR.out.get hl
        have c1 : w.cell? ⟨b1, o1 + k, none⟩ = some (.int .i64 z) := g1 k _ hz2
        have HZ := Lib.hid hz
        clear g1 hz hz2 hl hkz hb1
        subst eA
        by_cases hm : 0 ≤ z ∧ z ≤ 64
        · have C := Lib.hid (fun v => isWithin_of (iw_yes hm) v)
          have K := Lib.hid (okD_take_succ HZ.out hm HK.out)
          clear hm
          go_wp2_with fail
          refine (C.out _).mono ?_
          rintro e w' ⟨rfl, rfl⟩
          go_wp2_with fail
          go_round
          case rel => exact ⟨k + 1, by omega, by go_num, K⟩
          case measure => simp [intOf]; omega
        · have C := Lib.hid (fun v => isWithin_of (iw_no (x := z) (a := 0) (b := 64) (by omega)) v)
          have F := Lib.hid (dm_bad HZ.out (by omega))
          clear hm
          go_wp2_with fail
          refine (C.out _).mono ?_
          rintro e w' ⟨rfl, rfl⟩
          go_wp2_with fail
          go_ret
          exact ⟨ret_bool F.out.symm, rfl⟩
      · obtain rfl : k = n := by omega
        have F := Lib.hid (dm_yes (zs := zs) (by rw [HN.out]; omega) (by have := HK.out; rwa [← HN.out, List.take_length] at this))
        go_wp2_with fail
        go_ret
        exact ⟨ret_bool F.out.symm, rfl⟩

set_option maxHeartbeats 1000000 in
theorem demS (A : Option Addr) (n c : Nat) (zs : List Int) (B : Nat) (w : World) (hn : zs.length = n) (hb : n ≤ 1048576) (hr : Rd w B A (ints zs)) :
    Calls Tryz.prog 154 #[.slice A n c] w fun e w' => e = .returned (.bool (dm zs)) ∧ w = w' := by
  have HR := Lib.hid hr
  have HN := Lib.hid hn
  clear hr hn
  go_enter Tryz.func154, Tryz.ntmps154
  go_wp2_with fail
  go_loop [7] (fun i => ∃ k : Nat, k ≤ n ∧ i = .int .i64 k ∧ Hid (okD (zs.take k))) (fun i => n - (intOf i).toNat)
  case atStart => exact ⟨0, Nat.zero_le _, rfl, Lib.hid okD_nil⟩
  case round =>
    obtain ⟨k, hk, rfl, HK⟩ := hrel
    by_cases hlt : k < n
    · have hkz : k < zs.length := by rw [HN.out]; exact hlt
      have hl : k < (ints zs).length := by rw [ints_len]; exact hkz
      obtain ⟨z, hz⟩ : ∃ z, zs[k]? = some z := ⟨_, List.getElem?_eq_getElem hkz⟩
      have hz2 : (ints zs)[k]? = some (.int .i64 z) := by unfold ints; rw [List.getElem?_map, hz]; rfl
      obtain ⟨b1, o1, eA, hb1, g1⟩ := HR.out.get hl
      have c1 : w.cell? ⟨b1, o1 + k, none⟩ = some (.int .i64 z) := g1 k _ hz2
      have HZ := Lib.hid hz
      clear g1 hz hz2 hl hkz hb1
      subst eA
      by_cases hm : 0 ≤ z ∧ z ≤ 64
      · have C := Lib.hid (fun v => l1In_of (iw_yes hm) v)
        have K := Lib.hid (okD_take_succ HZ.out hm HK.out)
        clear hm
        go_wp2_with fail
        refine (C.out _).mono ?_
        rintro e w' ⟨rfl, rfl⟩
        go_wp2_with fail
        go_round
        case rel => exact ⟨k + 1, by omega, by go_num, K⟩
        case measure => simp [intOf]; omega
      · have C := Lib.hid (fun v => l1In_of (iw_no (x := z) (a := 0) (b := 64) (by omega)) v)
        have F := Lib.hid (dm_bad HZ.out (by omega))
        clear hm
        go_wp2_with fail
        refine (C.out _).mono ?_
        rintro e w' ⟨rfl, rfl⟩
        go_wp2_with fail
        go_ret
        exact ⟨ret_bool F.out.symm, rfl⟩
    · obtain rfl : k = n := by omega
      by_cases h8 : k ≤ 8
      · have F := Lib.hid (dm_yes (zs := zs) (by rw [HN.out]; omega) (by have := HK.out; rwa [← HN.out, List.take_length] at this))
        have d : decide ((k : Int) ≤ 8) = true := decide_eq_true (by omega)
        clear h8 hlt
        go_wp2_with fail
        go_ret
        exact ⟨ret_bool F.out.symm, rfl⟩
      · have F := Lib.hid (dm_long (zs := zs) (by rw [HN.out]; omega))
        have d : decide ((k : Int) ≤ 8) = false := decide_eq_false (by omega)
        clear h8 hlt
        go_wp2_with fail
        go_ret
        exact ⟨ret_bool F.out.symm, rfl⟩

theorem demI_of {zs : List Int} {r : Bool} (e : dm zs = r) (A : Option Addr) (n c B : Nat) (w : World) (hn : zs.length = n) (hb : n ≤ 1048576) (hr : Rd w B A (ints zs)) :
    Calls Tryz.prog 164 #[.slice A n c] w fun e w' => e = .returned (.bool r) ∧ w = w' := e ▸ demI A n c zs B w hn hb hr
theorem demS_of {zs : List Int} {r : Bool} (e : dm zs = r) (A : Option Addr) (n c B : Nat) (w : World) (hn : zs.length = n) (hb : n ≤ 1048576) (hr : Rd w B A (ints zs)) :
    Calls Tryz.prog 154 #[.slice A n c] w fun e w' => e = .returned (.bool r) ∧ w = w' := e ▸ demS A n c zs B w hn hb hr

set_option maxHeartbeats 1000000 in
/-- The model's sum of a few eighths. -/
theorem sumS (A : Option Addr) (n c : Nat) (zs : List Int) (B : Nat) (w : World) (hn : zs.length = n) (hb : zs.length ≤ 8) (hd : okD zs) (hr : Rd w B A (ints zs)) :
    Calls Tryz.prog 157 #[.slice A n c] w fun e w' => e = .returned (.int .i64 (tot zs)) ∧ w = w' := by
  have HR := Lib.hid hr
  have HN := Lib.hid hn
  have HD := Lib.hid hd
  have HT := Lib.hid (tot_take_small hb hd)
  have hb8 : n ≤ 8 := by omega
  clear hr hn hd hb
  go_enter Tryz.func157, Tryz.ntmps157
  go_wp2_with fail
  go_loop [3, 8] (fun t i => ∃ k : Nat, k ≤ n ∧ i = .int .i64 k ∧ ∃ x : Int, t = .int .i64 x ∧ Hid (x = tot (zs.take k))) (fun _ i => n - (intOf i).toNat)
  case atStart => exact ⟨0, Nat.zero_le _, rfl, 0, rfl, Lib.hid rfl⟩
  case round =>
    obtain ⟨k, hk, rfl, x, rfl, HX⟩ := hrel
    have hx : 0 ≤ x ∧ x ≤ 512 := by have := HT.out k; rw [← HX.out] at this; exact this
    by_cases hlt : k < n
    · have hkz : k < zs.length := by rw [HN.out]; exact hlt
      have hl : k < (ints zs).length := by rw [ints_len]; exact hkz
      obtain ⟨z, hz⟩ : ∃ z, zs[k]? = some z := ⟨_, List.getElem?_eq_getElem hkz⟩
      have hz2 : (ints zs)[k]? = some (.int .i64 z) := by unfold ints; rw [List.getElem?_map, hz]; rfl
      obtain ⟨b1, o1, eA, hb1, g1⟩ := HR.out.get hl
      have c1 : w.cell? ⟨b1, o1 + k, none⟩ = some (.int .i64 z) := g1 k _ hz2
      have hz3 := HD.out z (List.mem_of_getElem? hz)
      obtain ⟨hx1, hx2⟩ := hx
      obtain ⟨hz4, hz5⟩ := hz3
      have K := Lib.hid (show x + z = tot (zs.take (k + 1)) by rw [tot_take hz, ← HX.out])
      clear g1 hz hz2 hl hkz hb1
      subst eA
      go_wp2_with fail
      go_round
      case rel => exact ⟨k + 1, by omega, by go_num, x + z, rfl, K⟩
      case measure => simp [intOf]; omega
    · obtain rfl : k = n := by omega
      have F := Lib.hid (show x = tot zs by rw [HX.out, ← HN.out, List.take_length])
      clear hx
      go_wp2_with fail
      go_ret
      exact ⟨ret_int F.out, rfl⟩

end Go.Proofs.YtejeikfgmiadhabGreat.Ws
namespace Go.Proofs.YtejeikfgmiadhabGreat.Ints
open Go.RowKit Go.Proofs.YtejeikfgmiadhabGreat.Mem

theorem infoInt : (Tryz.prog.info? 3).map (fun i => (i.zero, i.size, i.bytes)) = some (some (.int .i64 0), 1, 8) := by kernel_rfl

theorem made_ints (n : Nat) : (madeCells (Value.int .i64 0).cells (n * 1)).toList = List.replicate n (.int .i64 0) := by
  apply List.ext_getElem?
  intro j
  rw [Nat.mul_one, Array.getElem?_toList, List.getElem?_replicate]
  simp only [madeCells, Value.cells]
  by_cases h : j < n <;> simp [h, Nat.mod_one]

/-- What the copy leaves: a row of its own with these integers; what was there is as it was. -/
def Copied (w : World) (n : Nat) (zs : List Int) (e : Ending) (w' : World) : Prop :=
  ∃ g, e = .returned (.slice (some ⟨g, 0, none⟩) n n) ∧ w.heap.size ≤ g ∧ w'.ownsRow w.heap.size 3 1 (.slice (some ⟨g, 0, none⟩) n n) n (ints zs) ∧ Below w.heap.size w w'

/-- Found equal: only draws were made. -/
def Same (b : Bool) (w : World) (e : Ending) (w' : World) : Prop := e = .returned (.bool b) ∧ ∃ m, w' = w.drewN m

end Go.Proofs.YtejeikfgmiadhabGreat.Ints
namespace Go.Proofs.YtejeikfgmiadhabGreat.Wp
open Go.RowKit Go.Proofs.YtejeikfgmiadhabGreat.Mem Go.Proofs.YtejeikfgmiadhabGreat.Dm Go.Proofs.YtejeikfgmiadhabGreat.Ws Go.Proofs.YtejeikfgmiadhabGreat.Rw
open Go.Proofs.YtejeikfgmiadhabGreat.Ints (infoInt)
set_option linter.unusedVariables false
set_option linter.unusedSimpArgs false

/-- A list of the call's own that holds these numbers. -/
def RowI (w : World) (zs : List Int) (e : Ending) (w' : World) : Prop :=
  ∃ g c, e = .returned (.slice (some ⟨g, 0, none⟩) zs.length c) ∧ w'.ownsRow w.heap.size 3 1 (.slice (some ⟨g, 0, none⟩) zs.length c) zs.length (ints zs) ∧ Below w.heap.size w w'

theorem infoI : (Tryz.prog.info? 3).map (fun i => (i.zero, i.size, i.bytes)) = some (some (.int .i64 0), 1, 8) := by kernel_rfl
theorem ints_snoc (zs : List Int) (z : Int) : ints zs ++ [.int .i64 z] = ints (zs ++ [z]) := by simp [ints]
theorem own_mk {w : World} {base n : Nat} {v : Value} {xs : List Value} (h : w.ownsRow base 3 1 v (n + 1) xs) : ∃ g c, v = .slice (some ⟨g, 0, none⟩) (n + 1) c := by
  rcases h.2 with ⟨_, e⟩ | ⟨g, cap, cur, e, _⟩
  · omega
  · exact ⟨g, cap, e⟩
theorem own_base {w : World} {base n : Nat} {v : Value} {xs : List Value} (h : w.ownsRow base 3 1 v n xs) : ∀ k, v.ownBlock = some k → base ≤ k := fun k e => (h.lt k e).1
theorem rd_cell {w : World} {B : Nat} {A : Option Addr} {zs : List Int} {z : Int} {k : Nat} (h : Rd w B A (ints zs)) (hz : zs[k]? = some z) : ∃ b o, A = some ⟨b, o, none⟩ ∧ b < B ∧ w.cell? ⟨b, o + k, none⟩ = some (.int .i64 z) := by
  obtain ⟨b, o, e, hb, g⟩ := h.get (k := k) (by rw [ints_len]; exact (List.getElem?_eq_some_iff.1 hz).1)
  exact ⟨b, o, e, hb, g k _ (by unfold ints; rw [List.getElem?_map, hz]; rfl)⟩
/-- The empty list. -/
theorem row_nil (w : World) : RowI w [] (.returned (.slice (some ⟨w.heap.size, 0, none⟩) 0 0)) (w.alloc (.cells #[] 3)) :=
  ⟨_, _, rfl, World.ownsRow_lit (base := w.heap.size) (e := 3) (size := 1) w #[] 0 (Nat.le_refl _) (Nat.zero_le _) rfl, (Below.refl _ _).alloc (Nat.le_refl _) _⟩

set_option maxHeartbeats 1000000 in
theorem l5Cut (A : Option Addr) (n c : Nat) (zs : List Int) (l : Int) (w : World) (hn : zs.length = n) (hb : n ≤ 1048576) (hr : Rd w w.heap.size A (ints zs)) :
    Calls Tryz.prog 156 #[.slice A n c, .int .i64 l] w (RowI w (cut zs l)) := by
  obtain ⟨i0, hi, hz0, hz1, hz2⟩ := info_parts infoI
  have HR := Lib.hid hr
  have HN := Lib.hid hn
  have O1 := Lib.hid (World.ownsRow_lit (base := w.heap.size) (e := 3) (size := 1) w #[] 0 (Nat.le_refl _) (Nat.zero_le _) rfl)
  have B1 := Lib.hid (show Below w.heap.size w (w.alloc (.cells #[] 3)) from (Below.refl _ _).alloc (Nat.le_refl _) _)
  clear hr hn
  go_enter Tryz.func156, Tryz.ntmps156
  go_wp2_with fail
  go_loopw [5, 11] (fun v i wr => ∃ k : Nat, k ≤ n ∧ i = .int .i64 k ∧ (∃ b d, v = .slice (some ⟨b, 0, none⟩) k d) ∧ Hid (wr.ownsRow w.heap.size 3 1 v k (ints ((cut zs l).take k))) ∧ Hid (Below w.heap.size w wr)) (fun _ i _ => n - (intOf i).toNat)
  case atStart => exact ⟨0, Nat.zero_le _, rfl, ⟨_, _, rfl⟩, O1, B1⟩
  case round =>
    obtain ⟨k, hk, rfl, ⟨bb, dd, rfl⟩, OK, BK⟩ := hrel
    by_cases hlt : k < n
    · obtain ⟨z, hz⟩ : ∃ z, zs[k]? = some z := ⟨_, List.getElem?_eq_getElem (by rw [HN.out]; exact hlt)⟩
      obtain ⟨b1, o1, eA, hb1, c0⟩ := rd_cell HR.out hz
      have c1 : wr.cell? ⟨b1, o1 + k, none⟩ = some (.int .i64 z) := (BK.out.cell (p := ⟨b1, o1 + k, none⟩) hb1).trans c0
      obtain ⟨x, hx⟩ : ∃ x, min z l = x := ⟨_, rfl⟩
      have E := Lib.hid (show (cut zs l).take k ++ [x] = (cut zs l).take (k + 1) by rw [← hx]; exact cut_take_succ hz)
      have C := Lib.hid (fun v => hx ▸ l1Min z l v)
      have hown := OK.out.alloc
      have HS := Lib.hid (own_base OK.out)
      have HW := Lib.hid BK.out.size
      clear c0 hb1 hz hx O1 B1
      subst eA
      go_wp2_with fail
      refine (C.out _).mono ?_
      rintro e w' ⟨rfl, rfl⟩
      go_wp2_with (at_builtin; refine wpList_append_own _ rfl _ _ 117 rfl w.heap.size 3 i0 (.int .i64 0) 1 8 Tryz.underlying117 hi hz0 hz1 hz2 rfl (by decide) _ _ _ rfl (hown _) ⟨wr.heap.size, 0, none⟩ 1 1 [.int .i64 x] rfl rfl (by intro j u hj; match j, hj with | 0, hj => simp at hj; subst hj; simp [Addr.add]) (by intro u hu; simp at hu; subst hu; rfl) (by unfold maxLen; omega) (by omega) (by have := HW.out; simp; omega) ?_; intro v' w5 hown' hgrow hnil)
      rw [ints_snoc, E.out] at hown'
      have hsh := own_mk hown'
      have OO := Lib.hid hown'
      have BB := Lib.hid ((BK.out.alloc BK.out.size _).grown hgrow (by have := HW.out; simp; omega) (fun j hj => HS.out j hj))
      clear hown' hgrow hnil OK BK HS HW hown E C
      go_wp2_with fail
      go_roundw
      case rel => exact ⟨k + 1, by omega, by go_num, hsh, OO, BB⟩
      case measure => simp [intOf]; omega
    · obtain rfl : k = n := by omega
      have hl : (cut zs l).length = k := by rw [cut_len, HN.out]
      have OF := Lib.hid (show wr.ownsRow w.heap.size 3 1 (.slice (some ⟨bb, 0, none⟩) k dd) k (ints (cut zs l)) by have := OK.out; rwa [← hl, List.take_length, hl] at this)
      have HL := Lib.hid hl
      clear hl OK O1 B1
      go_wp2_with fail
      go_ret
      refine ⟨bb, dd, ?_, ?_, BK.out⟩
      · rw [HL.out]; rfl
      · rw [HL.out]; exact OF.out

set_option maxHeartbeats 1000000 in
theorem cutI (A : Option Addr) (n c : Nat) (zs : List Int) (l : Int) (w : World) (hn : zs.length = n) (hb : n ≤ 1048576) (hr : Rd w w.heap.size A (ints zs)) :
    Calls Tryz.prog 167 #[.slice A n c, .int .i64 l] w (RowI w (cutB zs l)) := by
  have R := Lib.hid hr
  have N := Lib.hid hn
  by_cases hd : dm zs = true
  · have C := Lib.hid (demI_of hd A n c w.heap.size w N.out hb R.out)
    by_cases hl : l < 0
    · have F := Lib.hid (cutB_no (zs := zs) (l := l) (fun c => by omega))
      have d : decide (l < 0) = true := decide_eq_true hl
      clear hr hn hl hd
      go_enter Tryz.func167, Tryz.ntmps167
      go_wp2_with fail
      refine C.out.mono ?_
      rintro e w' ⟨rfl, rfl⟩
      go_wp2_with fail
      go_ret
      rw [F.out]; exact row_nil w
    · have F := Lib.hid (cutB_yes (zs := zs) (l := l) hd (by omega))
      have d : decide (l < 0) = false := decide_eq_false hl
      obtain ⟨i0, hi, hz0, hz1, hz2⟩ := info_parts infoI
      clear hr hn hl hd
      go_enter Tryz.func167, Tryz.ntmps167
      go_wp2_with fail
      refine C.out.mono ?_
      rintro e w' ⟨rfl, rfl⟩
      go_wp2_with (at_make; refine wpList_make_full _ rfl _ _ 117 rfl w.heap.size 3 i0 (.int .i64 0) 1 Tryz.underlying117 hi hz0 hz1 .i64 .i64 n n n rfl rfl rfl rfl (by rw [hz2]; omega) (by unfold maxLen; omega) (Nat.le_refl _) ?_; intro w1 hown hgrow; clear hi hz0 hz1 hz2)
      have R0 := Lib.hid (show w1.ownsRow w.heap.size 3 1 (.slice (some ⟨w.heap.size, 0, none⟩) n n) n (filled (ints (cut zs l)) (.int .i64 0) 0) by
        rw [filled_zero, ints_len, cut_len, N.out]; rw [Ints.made_ints] at hown; exact hown)
      have B0 := Lib.hid (show Below w.heap.size w w1 from (Below.refl _ _).grown hgrow (Nat.le_refl _) (fun k hk => by cases hk))
      clear hown hgrow C d
      go_loopw [21] (fun i wr => ∃ k : Nat, k ≤ n ∧ i = .int .i64 k ∧ Hid (wr.ownsRow w.heap.size 3 1 (.slice (some ⟨w.heap.size, 0, none⟩) n n) n (filled (ints (cut zs l)) (.int .i64 0) k)) ∧ Hid (Below w.heap.size w wr)) (fun i _ => n - (intOf i).toNat)
      case atStart => exact ⟨0, Nat.zero_le _, rfl, R0, B0⟩
      case round =>
        obtain ⟨k, hk, rfl, RK, BK⟩ := hrel
        by_cases hlt : k < n
        · obtain ⟨z, hz⟩ : ∃ z, zs[k]? = some z := ⟨_, List.getElem?_eq_getElem (by rw [N.out]; exact hlt)⟩
          obtain ⟨b1, o1, eA, hb1, c0⟩ := rd_cell R.out hz
          have c1 : wr.cell? ⟨b1, o1 + k, none⟩ = some (.int .i64 z) := (BK.out.cell (p := ⟨b1, o1 + k, none⟩) hb1).trans c0
          have hy : (ints (cut zs l))[k]? = some (.int .i64 (if l < z then l else z)) := by rw [← min_if]; unfold ints; rw [List.getElem?_map, cut_get hz]; rfl
          have c2 := (RK.out.cellAt k (by omega)).trans (filled_get (z := .int .i64 0) (List.getElem?_eq_some_iff.1 hy).1)
          have f2 := RK.out.frozenAt k
          obtain ⟨r1, r2⟩ := RK.out.stored k (.int .i64 (if l < z then l else z))
          rw [filled_put hy] at r1
          have R1 := Lib.hid r1
          have B1 := Lib.hid (BK.out.grown r2 (by exact BK.out.size) (fun g hg => by cases hg; exact Nat.le_refl _))
          clear r1 r2 hy RK BK c0 hb1 hz R0 B0
          subst eA
          go_wp2_with fail
          go_roundw
          case rel => exact ⟨k + 1, by omega, by go_num, R1, B1⟩
          case measure => simp [intOf]; omega
        · obtain rfl : k = n := by omega
          have hl : (cut zs l).length = k := by rw [cut_len, N.out]
          have OF := Lib.hid (show wr.ownsRow w.heap.size 3 1 (.slice (some ⟨w.heap.size, 0, none⟩) k k) k (ints (cut zs l)) by
            have := RK.out
            rw [show k = (ints (cut zs l)).length by rw [ints_len, hl], filled_all, ints_len, hl] at this; exact this)
          have HL := Lib.hid hl
          clear hl RK R0 B0
          go_wp2_with fail
          go_ret
          rw [F.out]
          refine ⟨w.heap.size, k, ?_, ?_, BK.out⟩
          · rw [HL.out]; rfl
          · rw [HL.out]; exact OF.out
  · have hd2 : dm zs = false := by simpa using hd
    have C := Lib.hid (demI_of hd2 A n c w.heap.size w N.out hb R.out)
    have F := Lib.hid (cutB_no (zs := zs) (l := l) (fun c => hd c.1))
    clear hr hn hd hd2
    go_enter Tryz.func167, Tryz.ntmps167
    go_wp2_with fail
    refine C.out.mono ?_
    rintro e w' ⟨rfl, rfl⟩
    go_wp2_with fail
    go_ret
    rw [F.out]; exact row_nil w

end Go.Proofs.YtejeikfgmiadhabGreat.Wp
namespace Go.Proofs.YtejeikfgmiadhabGreat.Im
open Go.RowKit Go.Proofs.YtejeikfgmiadhabGreat.Mem Go.Proofs.YtejeikfgmiadhabGreat.Rw
set_option linter.unusedVariables false
set_option linter.unusedSimpArgs false

/-- The marks are laid; what lies in other blocks is as it was. -/
def Laid (w : World) (base g n c k : Nat) (e : Ending) (w' : World) : Prop :=
  e = .returned (.int .i64 ((k : Int) + (n : Int))) ∧ w'.ownsRow base 3 1 (.slice (some ⟨g, 0, none⟩) n c) n (mk k n) ∧ w.grownBy w' (some g)

end Go.Proofs.YtejeikfgmiadhabGreat.Im
