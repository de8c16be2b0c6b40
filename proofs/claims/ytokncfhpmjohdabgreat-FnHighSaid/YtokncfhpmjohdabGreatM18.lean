/- Whether a list is demands, and its sum, of the program and of the model. -/
import Derived.Test.YtokncfhpmjohdabGreatM1
import Derived.Test.YtokncfhpmjohdabGreatM16
import Derived.Handy
import Derived.Laws.AppendOwn
import Derived.IntWalk
set_option linter.unusedVariables false
set_option linter.unusedSimpArgs false
namespace Go.Proofs.YtokncfhpmjohdabGreat.Ws
open Go.RowKit Go.Proofs.YtokncfhpmjohdabGreat.Mem Go.Proofs.YtokncfhpmjohdabGreat.Dm
set_option linter.unusedVariables false
set_option linter.unusedSimpArgs false

def iw (x a b : Int) : Bool := decide (a ≤ x) && decide (x ≤ b)
theorem iw_iff {x a b : Int} : iw x a b = true ↔ a ≤ x ∧ x ≤ b := by unfold iw; rw [Bool.and_eq_true, decide_eq_true_eq, decide_eq_true_eq]
theorem iw_yes {x a b : Int} (h : a ≤ x ∧ x ≤ b) : iw x a b = true := iw_iff.2 h
theorem iw_no {x a b : Int} (h : x < a ∨ b < x) : iw x a b = false := by
  rw [← Bool.not_eq_true, iw_iff]; omega

theorem isWithin (x a b : Int) (w : World) : Calls Tryz.prog 64 #[.int .i64 x, .int .i64 a, .int .i64 b] w fun e w' => e = .returned (.bool (iw x a b)) ∧ w = w' := by
  go_enter Tryz.func64, Tryz.ntmps64
  go_wp2
  all_goals go_returns
  · rename_i h
    refine ⟨?_, rfl⟩
    show Ending.returned (.bool (decide (x ≤ b))) = _
    unfold iw; rw [decide_eq_true h]; rfl
  · rename_i h
    refine ⟨?_, rfl⟩
    show Ending.returned (.bool false) = _
    rw [iw_no (by omega)]
theorem l1In (x a b : Int) (w : World) : Calls Tryz.prog 76 #[.int .i64 x, .int .i64 a, .int .i64 b] w fun e w' => e = .returned (.bool (iw x a b)) ∧ w = w' := by
  go_enter Tryz.func76, Tryz.ntmps76
  go_wp2
  all_goals go_returns
  · rename_i h
    refine ⟨?_, rfl⟩
    show Ending.returned (.bool (decide (x ≤ b))) = _
    unfold iw; rw [decide_eq_true h]; rfl
  · rename_i h
    refine ⟨?_, rfl⟩
    show Ending.returned (.bool false) = _
    rw [iw_no (by omega)]
theorem isWithin_of {x a b : Int} {r : Bool} (e : iw x a b = r) (w : World) : Calls Tryz.prog 64 #[.int .i64 x, .int .i64 a, .int .i64 b] w fun e w' => e = .returned (.bool r) ∧ w = w' := e ▸ isWithin x a b w
theorem l1In_of {x a b : Int} {r : Bool} (e : iw x a b = r) (w : World) : Calls Tryz.prog 76 #[.int .i64 x, .int .i64 a, .int .i64 b] w fun e w' => e = .returned (.bool r) ∧ w = w' := e ▸ l1In x a b w

theorem isSupply (n : Int) (w : World) : Calls Tryz.prog 32 #[.int .i64 n] w fun e w' => e = .returned (.bool (iw n 0 512)) ∧ w = w' := by
  obtain ⟨b, hb⟩ : ∃ b, iw n 0 512 = b := ⟨_, rfl⟩
  have C := Lib.hid (fun v => isWithin_of hb v)
  rw [hb]
  clear hb
  go_enter Tryz.func32, Tryz.ntmps32
  go_wp2_with fail
  refine (C.out _).mono ?_
  rintro e w' ⟨rfl, rfl⟩
  go_wp2_with fail
  go_ret
  exact ⟨rfl, rfl⟩
theorem l5Supply (n : Int) (w : World) : Calls Tryz.prog 143 #[.int .i64 n] w fun e w' => e = .returned (.bool (iw n 0 512)) ∧ w = w' := by
  obtain ⟨b, hb⟩ : ∃ b, iw n 0 512 = b := ⟨_, rfl⟩
  have C := Lib.hid (fun v => l1In_of hb v)
  rw [hb]
  clear hb
  go_enter Tryz.func143, Tryz.ntmps143
  go_wp2_with fail
  refine (C.out _).mono ?_
  rintro e w' ⟨rfl, rfl⟩
  go_wp2_with fail
  go_ret
  exact ⟨rfl, rfl⟩
theorem isSupply_of {n : Int} {r : Bool} (e : iw n 0 512 = r) (w : World) : Calls Tryz.prog 32 #[.int .i64 n] w fun e w' => e = .returned (.bool r) ∧ w = w' := e ▸ isSupply n w
theorem l5Supply_of {n : Int} {r : Bool} (e : iw n 0 512 = r) (w : World) : Calls Tryz.prog 143 #[.int .i64 n] w fun e w' => e = .returned (.bool r) ∧ w = w' := e ▸ l5Supply n w

theorem ret_int {a b : Int} (h : a = b) : Ending.returned (.int .i64 a) = .returned (.int .i64 b) := by rw [h]

theorem l1Min (x y : Int) (w : World) : Calls Tryz.prog 118 #[.int .i64 x, .int .i64 y] w fun e w' => e = .returned (.int .i64 (min x y)) ∧ w = w' := by
  obtain ⟨m, hm⟩ : ∃ m, min x y = m := ⟨_, rfl⟩
  rw [hm]
  have HM := Lib.hid hm
  clear hm
  go_enter Tryz.func118, Tryz.ntmps118
  go_wp2
  all_goals go_returns
  all_goals (have h9 := HM.out; exact ⟨ret_int (by omega), rfl⟩)

theorem ret_bool {a b : Bool} (h : a = b) : Ending.returned (.bool a) = .returned (.bool b) := by rw [h]

set_option maxHeartbeats 1000000 in
theorem demI (A : Option Addr) (n c : Nat) (zs : List Int) (B : Nat) (w : World) (hn : zs.length = n) (hb : n ≤ 1048576) (hr : Rd w B A (ints zs)) :
    Calls Tryz.prog 33 #[.slice A n c] w fun e w' => e = .returned (.bool (dm zs)) ∧ w = w' := by
  have HR := Lib.hid hr
  have HN := Lib.hid hn
  by_cases h8 : 8 < n
  · have F := Lib.hid (dm_long (zs := zs) (by omega))
    clear hr hn
    go_enter Tryz.func33, Tryz.ntmps33
    go_wp2_with fail
    go_ret
    exact ⟨ret_bool F.out.symm, rfl⟩
  · clear hr hn
    go_enter Tryz.func33, Tryz.ntmps33
    go_wp2_with fail
    go_loop [10] (fun i => ∃ k : Nat, k ≤ n ∧ i = .int .i64 k ∧ Hid (okD (zs.take k))) (fun i => n - (intOf i).toNat)
    case atStart => exact ⟨0, Nat.zero_le _, rfl, Lib.hid okD_nil⟩
    case round =>
      obtain ⟨k, hk, rfl, HK⟩ := hrel
      by_cases hlt : k < n
      · have hkz : k < zs.length := by rw [HN.out]; exact hlt
        have hl : k < (ints zs).length := by rw [ints_len]; exact hkz
        obtain ⟨z, hz⟩ : ∃ z, zs[k]? = some z := ⟨_, List.getElem?_eq_getElem hkz⟩
        have hz2 : (ints zs)[k]? = some (.int .i64 z) := by unfold ints; rw [List.getElem?_map, hz]; rfl
        obtain ⟨b1, o1, eA, hb1, g1⟩ := HR.out.get hl
        have c1 : w.cell? ⟨b1, o1 + k, none⟩ = some (.int .i64 z) := g1 k _ hz2
        have HZ := Lib.hid hz
        clear g1 hz hz2 hl hkz hb1
        subst eA
        by_cases hm : 0 ≤ z ∧ z ≤ 64
        · have C := Lib.hid (fun v => isWithin_of (iw_yes hm) v)
          have K := Lib.hid (okD_take_succ HZ.out hm HK.out)
          clear hm
          go_wp2_with fail
          refine (C.out _).mono ?_
          rintro e w' ⟨rfl, rfl⟩
          go_wp2_with fail
          go_round
          case rel => exact ⟨k + 1, by omega, by go_num, K⟩
          case measure => simp [intOf]; omega
        · have C := Lib.hid (fun v => isWithin_of (iw_no (x := z) (a := 0) (b := 64) (by omega)) v)
          have F := Lib.hid (dm_bad HZ.out (by omega))
          clear hm
          go_wp2_with fail
          refine (C.out _).mono ?_
          rintro e w' ⟨rfl, rfl⟩
          go_wp2_with fail
          go_ret
          exact ⟨ret_bool F.out.symm, rfl⟩
      · obtain rfl : k = n := by omega
        have F := Lib.hid (dm_yes (zs := zs) (by rw [HN.out]; omega) (by have := HK.out; rwa [← HN.out, List.take_length] at this))
        go_wp2_with fail
        go_ret
        exact ⟨ret_bool F.out.symm, rfl⟩

set_option maxHeartbeats 1000000 in
theorem demS (A : Option Addr) (n c : Nat) (zs : List Int) (B : Nat) (w : World) (hn : zs.length = n) (hb : n ≤ 1048576) (hr : Rd w B A (ints zs)) :
    Calls Tryz.prog 147 #[.slice A n c] w fun e w' => e = .returned (.bool (dm zs)) ∧ w = w' := by
  have HR := Lib.hid hr
  have HN := Lib.hid hn
  clear hr hn
  go_enter Tryz.func147, Tryz.ntmps147
  go_wp2_with fail
  go_loop [7] (fun i => ∃ k : Nat, k ≤ n ∧ i = .int .i64 k ∧ Hid (okD (zs.take k))) (fun i => n - (intOf i).toNat)
  case atStart => exact ⟨0, Nat.zero_le _, rfl, Lib.hid okD_nil⟩
  case round =>
    obtain ⟨k, hk, rfl, HK⟩ := hrel
    by_cases hlt : k < n
    · have hkz : k < zs.length := by rw [HN.out]; exact hlt
      have hl : k < (ints zs).length := by rw [ints_len]; exact hkz
      obtain ⟨z, hz⟩ : ∃ z, zs[k]? = some z := ⟨_, List.getElem?_eq_getElem hkz⟩
      have hz2 : (ints zs)[k]? = some (.int .i64 z) := by unfold ints; rw [List.getElem?_map, hz]; rfl
      obtain ⟨b1, o1, eA, hb1, g1⟩ := HR.out.get hl
      have c1 : w.cell? ⟨b1, o1 + k, none⟩ = some (.int .i64 z) := g1 k _ hz2
      have HZ := Lib.hid hz
      clear g1 hz hz2 hl hkz hb1
      subst eA
      by_cases hm : 0 ≤ z ∧ z ≤ 64
      · have C := Lib.hid (fun v => l1In_of (iw_yes hm) v)
        have K := Lib.hid (okD_take_succ HZ.out hm HK.out)
        clear hm
        go_wp2_with fail
        refine (C.out _).mono ?_
        rintro e w' ⟨rfl, rfl⟩
        go_wp2_with fail
        go_round
        case rel => exact ⟨k + 1, by omega, by go_num, K⟩
        case measure => simp [intOf]; omega
      · have C := Lib.hid (fun v => l1In_of (iw_no (x := z) (a := 0) (b := 64) (by omega)) v)
        have F := Lib.hid (dm_bad HZ.out (by omega))
        clear hm
        go_wp2_with fail
        refine (C.out _).mono ?_
        rintro e w' ⟨rfl, rfl⟩
        go_wp2_with fail
        go_ret
        exact ⟨ret_bool F.out.symm, rfl⟩
    · obtain rfl : k = n := by omega
      by_cases h8 : k ≤ 8
      · have F := Lib.hid (dm_yes (zs := zs) (by rw [HN.out]; omega) (by have := HK.out; rwa [← HN.out, List.take_length] at this))
        have d : decide ((k : Int) ≤ 8) = true := decide_eq_true (by omega)
        clear h8 hlt
        go_wp2_with fail
        go_ret
        exact ⟨ret_bool F.out.symm, rfl⟩
      · have F := Lib.hid (dm_long (zs := zs) (by rw [HN.out]; omega))
        have d : decide ((k : Int) ≤ 8) = false := decide_eq_false (by omega)
        clear h8 hlt
        go_wp2_with fail
        go_ret
        exact ⟨ret_bool F.out.symm, rfl⟩

theorem demI_of {zs : List Int} {r : Bool} (e : dm zs = r) (A : Option Addr) (n c B : Nat) (w : World) (hn : zs.length = n) (hb : n ≤ 1048576) (hr : Rd w B A (ints zs)) :
    Calls Tryz.prog 33 #[.slice A n c] w fun e w' => e = .returned (.bool r) ∧ w = w' := e ▸ demI A n c zs B w hn hb hr
theorem demS_of {zs : List Int} {r : Bool} (e : dm zs = r) (A : Option Addr) (n c B : Nat) (w : World) (hn : zs.length = n) (hb : n ≤ 1048576) (hr : Rd w B A (ints zs)) :
    Calls Tryz.prog 147 #[.slice A n c] w fun e w' => e = .returned (.bool r) ∧ w = w' := e ▸ demS A n c zs B w hn hb hr

set_option maxHeartbeats 1000000 in
/-- The model's sum of a few eighths. -/
theorem sumS (A : Option Addr) (n c : Nat) (zs : List Int) (B : Nat) (w : World) (hn : zs.length = n) (hb : zs.length ≤ 8) (hd : okD zs) (hr : Rd w B A (ints zs)) :
    Calls Tryz.prog 150 #[.slice A n c] w fun e w' => e = .returned (.int .i64 (tot zs)) ∧ w = w' := by
  have HR := Lib.hid hr
  have HN := Lib.hid hn
  have HD := Lib.hid hd
  have HT := Lib.hid (tot_take_small hb hd)
  have hb8 : n ≤ 8 := by omega
  clear hr hn hd hb
  go_enter Tryz.func150, Tryz.ntmps150
  go_wp2_with fail
  go_loop [3, 8] (fun t i => ∃ k : Nat, k ≤ n ∧ i = .int .i64 k ∧ ∃ x : Int, t = .int .i64 x ∧ Hid (x = tot (zs.take k))) (fun _ i => n - (intOf i).toNat)
  case atStart => exact ⟨0, Nat.zero_le _, rfl, 0, rfl, Lib.hid rfl⟩
  case round =>
    obtain ⟨k, hk, rfl, x, rfl, HX⟩ := hrel
    have hx : 0 ≤ x ∧ x ≤ 512 := by have := HT.out k; rw [← HX.out] at this; exact this
    by_cases hlt : k < n
    · have hkz : k < zs.length := by rw [HN.out]; exact hlt
      have hl : k < (ints zs).length := by rw [ints_len]; exact hkz
      obtain ⟨z, hz⟩ : ∃ z, zs[k]? = some z := ⟨_, List.getElem?_eq_getElem hkz⟩
      have hz2 : (ints zs)[k]? = some (.int .i64 z) := by unfold ints; rw [List.getElem?_map, hz]; rfl
      obtain ⟨b1, o1, eA, hb1, g1⟩ := HR.out.get hl
      have c1 : w.cell? ⟨b1, o1 + k, none⟩ = some (.int .i64 z) := g1 k _ hz2
      have hz3 := HD.out z (List.mem_of_getElem? hz)
      obtain ⟨hx1, hx2⟩ := hx
      obtain ⟨hz4, hz5⟩ := hz3
      have K := Lib.hid (show x + z = tot (zs.take (k + 1)) by rw [tot_take hz, ← HX.out])
      clear g1 hz hz2 hl hkz hb1
      subst eA
      go_wp2_with fail
      go_round
      case rel => exact ⟨k + 1, by omega, by go_num, x + z, rfl, K⟩
      case measure => simp [intOf]; omega
    · obtain rfl : k = n := by omega
      have F := Lib.hid (show x = tot zs by rw [HX.out, ← HN.out, List.take_length])
      clear hx
      go_wp2_with fail
      go_ret
      exact ⟨ret_int F.out, rfl⟩

end Go.Proofs.YtokncfhpmjohdabGreat.Ws
namespace Go.Proofs.YtokncfhpmjohdabGreat.Ints
open Go.RowKit Go.Proofs.YtokncfhpmjohdabGreat.Mem

theorem made_ints (n : Nat) : (madeCells (Value.int .i64 0).cells (n * 1)).toList = List.replicate n (.int .i64 0) := by
  apply List.ext_getElem?
  intro j
  rw [Nat.mul_one, Array.getElem?_toList, List.getElem?_replicate]
  simp only [madeCells, Value.cells]
  by_cases h : j < n <;> simp [h, Nat.mod_one]

/-- What the copy leaves: a row of its own with these integers; what was there is as it was. -/
def Copied (w : World) (n : Nat) (zs : List Int) (e : Ending) (w' : World) : Prop :=
  ∃ g, e = .returned (.slice (some ⟨g, 0, none⟩) n n) ∧ w.heap.size ≤ g ∧ w'.ownsRow w.heap.size 3 1 (.slice (some ⟨g, 0, none⟩) n n) n (ints zs) ∧ Below w.heap.size w w'

/-- Found equal: only draws were made. -/
def Same (b : Bool) (w : World) (e : Ending) (w' : World) : Prop := e = .returned (.bool b) ∧ ∃ m, w' = w.drewN m

end Go.Proofs.YtokncfhpmjohdabGreat.Ints
namespace Go.Proofs.YtokncfhpmjohdabGreat.Wp
open Go.RowKit Go.Proofs.YtokncfhpmjohdabGreat.Mem Go.Proofs.YtokncfhpmjohdabGreat.Dm Go.Proofs.YtokncfhpmjohdabGreat.Ws Go.Proofs.YtokncfhpmjohdabGreat.Rw

set_option linter.unusedVariables false
set_option linter.unusedSimpArgs false

/-- A list of the call's own that holds these numbers. -/
def RowI (w : World) (zs : List Int) (e : Ending) (w' : World) : Prop :=
  ∃ g c, e = .returned (.slice (some ⟨g, 0, none⟩) zs.length c) ∧ w'.ownsRow w.heap.size 3 1 (.slice (some ⟨g, 0, none⟩) zs.length c) zs.length (ints zs) ∧ Below w.heap.size w w'

theorem infoI : (Tryz.prog.info? 3).map (fun i => (i.zero, i.size, i.bytes)) = some (some (.int .i64 0), 1, 8) := by kernel_rfl
theorem ints_snoc (zs : List Int) (z : Int) : ints zs ++ [.int .i64 z] = ints (zs ++ [z]) := by simp [ints]
theorem own_mk {w : World} {base n : Nat} {v : Value} {xs : List Value} (h : w.ownsRow base 3 1 v (n + 1) xs) : ∃ g c, v = .slice (some ⟨g, 0, none⟩) (n + 1) c := by
  rcases h.2 with ⟨_, e⟩ | ⟨g, cap, cur, e, _⟩
  · omega
  · exact ⟨g, cap, e⟩
theorem own_base {w : World} {base n : Nat} {v : Value} {xs : List Value} (h : w.ownsRow base 3 1 v n xs) : ∀ k, v.ownBlock = some k → base ≤ k := fun k e => (h.lt k e).1
theorem rd_cell {w : World} {B : Nat} {A : Option Addr} {zs : List Int} {z : Int} {k : Nat} (h : Rd w B A (ints zs)) (hz : zs[k]? = some z) : ∃ b o, A = some ⟨b, o, none⟩ ∧ b < B ∧ w.cell? ⟨b, o + k, none⟩ = some (.int .i64 z) := by
  obtain ⟨b, o, e, hb, g⟩ := h.get (k := k) (by rw [ints_len]; exact (List.getElem?_eq_some_iff.1 hz).1)
  exact ⟨b, o, e, hb, g k _ (by unfold ints; rw [List.getElem?_map, hz]; rfl)⟩
/-- The empty list. -/
theorem row_nil (w : World) : RowI w [] (.returned (.slice (some ⟨w.heap.size, 0, none⟩) 0 0)) (w.alloc (.cells #[] 3)) :=
  ⟨_, _, rfl, World.ownsRow_lit (base := w.heap.size) (e := 3) (size := 1) w #[] 0 (Nat.le_refl _) (Nat.zero_le _) rfl, (Below.refl _ _).alloc (Nat.le_refl _) _⟩

set_option maxHeartbeats 1000000 in
theorem l5Cut (A : Option Addr) (n c : Nat) (zs : List Int) (l : Int) (w : World) (hn : zs.length = n) (hb : n ≤ 1048576) (hr : Rd w w.heap.size A (ints zs)) :
    Calls Tryz.prog 149 #[.slice A n c, .int .i64 l] w (RowI w (cut zs l)) := by
  obtain ⟨i0, hi, hz0, hz1, hz2⟩ := info_parts infoI
  have HR := Lib.hid hr
  have HN := Lib.hid hn
  have O1 := Lib.hid (World.ownsRow_lit (base := w.heap.size) (e := 3) (size := 1) w #[] 0 (Nat.le_refl _) (Nat.zero_le _) rfl)
  have B1 := Lib.hid (show Below w.heap.size w (w.alloc (.cells #[] 3)) from (Below.refl _ _).alloc (Nat.le_refl _) _)
  clear hr hn
  go_enter Tryz.func149, Tryz.ntmps149
  go_wp2_with fail
  go_loopw [5, 11] (fun v i wr => ∃ k : Nat, k ≤ n ∧ i = .int .i64 k ∧ (∃ b d, v = .slice (some ⟨b, 0, none⟩) k d) ∧ Hid (wr.ownsRow w.heap.size 3 1 v k (ints ((cut zs l).take k))) ∧ Hid (Below w.heap.size w wr)) (fun _ i _ => n - (intOf i).toNat)
  case atStart => exact ⟨0, Nat.zero_le _, rfl, ⟨_, _, rfl⟩, O1, B1⟩
  case round =>
    obtain ⟨k, hk, rfl, ⟨bb, dd, rfl⟩, OK, BK⟩ := hrel
    by_cases hlt : k < n
    · obtain ⟨z, hz⟩ : ∃ z, zs[k]? = some z := ⟨_, List.getElem?_eq_getElem (by rw [HN.out]; exact hlt)⟩
      obtain ⟨b1, o1, eA, hb1, c0⟩ := rd_cell HR.out hz
      have c1 : wr.cell? ⟨b1, o1 + k, none⟩ = some (.int .i64 z) := (BK.out.cell (p := ⟨b1, o1 + k, none⟩) hb1).trans c0
      obtain ⟨x, hx⟩ : ∃ x, min z l = x := ⟨_, rfl⟩
      have E := Lib.hid (show (cut zs l).take k ++ [x] = (cut zs l).take (k + 1) by rw [← hx]; exact cut_take_succ hz)
      have C := Lib.hid (fun v => hx ▸ l1Min z l v)
      have hown := OK.out.alloc
      have HS := Lib.hid (own_base OK.out)
      have HW := Lib.hid BK.out.size
      clear c0 hb1 hz hx O1 B1
      subst eA
      go_wp2_with fail
      refine (C.out _).mono ?_
      rintro e w' ⟨rfl, rfl⟩
      go_wp2_with (at_builtin; refine wpList_append_own _ rfl _ _ 31 rfl w.heap.size 3 i0 (.int .i64 0) 1 8 Tryz.underlying31 hi hz0 hz1 hz2 rfl (by decide) _ _ _ rfl (hown _) ⟨wr.heap.size, 0, none⟩ 1 1 [.int .i64 x] rfl rfl (by intro j u hj; match j, hj with | 0, hj => simp at hj; subst hj; simp [Addr.add]) (by intro u hu; simp at hu; subst hu; rfl) (by unfold maxLen; omega) (by omega) (by have := HW.out; simp; omega) ?_; intro v' w5 hown' hgrow hnil)
      rw [ints_snoc, E.out] at hown'
      have hsh := own_mk hown'
      have OO := Lib.hid hown'
      have BB := Lib.hid ((BK.out.alloc BK.out.size _).grown hgrow (by have := HW.out; simp; omega) (fun j hj => HS.out j hj))
      clear hown' hgrow hnil OK BK HS HW hown E C
      go_wp2_with fail
      go_roundw
      case rel => exact ⟨k + 1, by omega, by go_num, hsh, OO, BB⟩
      case measure => simp [intOf]; omega
    · obtain rfl : k = n := by omega
      have hl : (cut zs l).length = k := by rw [cut_len, HN.out]
      have OF := Lib.hid (show wr.ownsRow w.heap.size 3 1 (.slice (some ⟨bb, 0, none⟩) k dd) k (ints (cut zs l)) by have := OK.out; rwa [← hl, List.take_length, hl] at this)
      have HL := Lib.hid hl
      clear hl OK O1 B1
      go_wp2_with fail
      go_ret
      refine ⟨bb, dd, ?_, ?_, BK.out⟩
      · rw [HL.out]; rfl
      · rw [HL.out]; exact OF.out

set_option maxHeartbeats 1000000 in
theorem cutI (A : Option Addr) (n c : Nat) (zs : List Int) (l : Int) (w : World) (hn : zs.length = n) (hb : n ≤ 1048576) (hr : Rd w w.heap.size A (ints zs)) :
    Calls Tryz.prog 108 #[.slice A n c, .int .i64 l] w (RowI w (cutB zs l)) := by
  have R := Lib.hid hr
  have N := Lib.hid hn
  by_cases hd : dm zs = true
  · have C := Lib.hid (demI_of hd A n c w.heap.size w N.out hb R.out)
    by_cases hl : l < 0
    · have F := Lib.hid (cutB_no (zs := zs) (l := l) (fun c => by omega))
      have d : decide (l < 0) = true := decide_eq_true hl
      clear hr hn hl hd
      go_enter Tryz.func108, Tryz.ntmps108
      go_wp2_with fail
      refine C.out.mono ?_
      rintro e w' ⟨rfl, rfl⟩
      go_wp2_with fail
      go_ret
      rw [F.out]; exact row_nil w
    · have F := Lib.hid (cutB_yes (zs := zs) (l := l) hd (by omega))
      have d : decide (l < 0) = false := decide_eq_false hl
      obtain ⟨i0, hi, hz0, hz1, hz2⟩ := info_parts infoI
      clear hr hn hl hd
      go_enter Tryz.func108, Tryz.ntmps108
      go_wp2_with fail
      refine C.out.mono ?_
      rintro e w' ⟨rfl, rfl⟩
      go_wp2_with (at_make; refine wpList_make_full _ rfl _ _ 31 rfl w.heap.size 3 i0 (.int .i64 0) 1 Tryz.underlying31 hi hz0 hz1 .i64 .i64 n n n rfl rfl rfl rfl (by rw [hz2]; omega) (by unfold maxLen; omega) (Nat.le_refl _) ?_; intro w1 hown hgrow; clear hi hz0 hz1 hz2)
      have R0 := Lib.hid (show w1.ownsRow w.heap.size 3 1 (.slice (some ⟨w.heap.size, 0, none⟩) n n) n (filled (ints (cut zs l)) (.int .i64 0) 0) by
        rw [filled_zero, ints_len, cut_len, N.out]; rw [Ints.made_ints] at hown; exact hown)
      have B0 := Lib.hid (show Below w.heap.size w w1 from (Below.refl _ _).grown hgrow (Nat.le_refl _) (fun k hk => by cases hk))
      clear hown hgrow C d
      go_loopw [21] (fun i wr => ∃ k : Nat, k ≤ n ∧ i = .int .i64 k ∧ Hid (wr.ownsRow w.heap.size 3 1 (.slice (some ⟨w.heap.size, 0, none⟩) n n) n (filled (ints (cut zs l)) (.int .i64 0) k)) ∧ Hid (Below w.heap.size w wr)) (fun i _ => n - (intOf i).toNat)
      case atStart => exact ⟨0, Nat.zero_le _, rfl, R0, B0⟩
      case round =>
        obtain ⟨k, hk, rfl, RK, BK⟩ := hrel
        by_cases hlt : k < n
        · obtain ⟨z, hz⟩ : ∃ z, zs[k]? = some z := ⟨_, List.getElem?_eq_getElem (by rw [N.out]; exact hlt)⟩
          obtain ⟨b1, o1, eA, hb1, c0⟩ := rd_cell R.out hz
          have c1 : wr.cell? ⟨b1, o1 + k, none⟩ = some (.int .i64 z) := (BK.out.cell (p := ⟨b1, o1 + k, none⟩) hb1).trans c0
          have hy : (ints (cut zs l))[k]? = some (.int .i64 (if l < z then l else z)) := by rw [← min_if]; unfold ints; rw [List.getElem?_map, cut_get hz]; rfl
          have c2 := (RK.out.cellAt k (by omega)).trans (filled_get (z := .int .i64 0) (List.getElem?_eq_some_iff.1 hy).1)
          have f2 := RK.out.frozenAt k
          obtain ⟨r1, r2⟩ := RK.out.stored k (.int .i64 (if l < z then l else z))
          rw [filled_put hy] at r1
          have R1 := Lib.hid r1
          have B1 := Lib.hid (BK.out.grown r2 (by exact BK.out.size) (fun g hg => by cases hg; exact Nat.le_refl _))
          clear r1 r2 hy RK BK c0 hb1 hz R0 B0
          subst eA
          go_wp2_with fail
          go_roundw
          case rel => exact ⟨k + 1, by omega, by go_num, R1, B1⟩
          case measure => simp [intOf]; omega
        · obtain rfl : k = n := by omega
          have hl : (cut zs l).length = k := by rw [cut_len, N.out]
          have OF := Lib.hid (show wr.ownsRow w.heap.size 3 1 (.slice (some ⟨w.heap.size, 0, none⟩) k k) k (ints (cut zs l)) by
            have := RK.out
            rw [show k = (ints (cut zs l)).length by rw [ints_len, hl], filled_all, ints_len, hl] at this; exact this)
          have HL := Lib.hid hl
          clear hl RK R0 B0
          go_wp2_with fail
          go_ret
          rw [F.out]
          refine ⟨w.heap.size, k, ?_, ?_, BK.out⟩
          · rw [HL.out]; rfl
          · rw [HL.out]; exact OF.out
  · have hd2 : dm zs = false := by simpa using hd
    have C := Lib.hid (demI_of hd2 A n c w.heap.size w N.out hb R.out)
    have F := Lib.hid (cutB_no (zs := zs) (l := l) (fun c => hd c.1))
    clear hr hn hd hd2
    go_enter Tryz.func108, Tryz.ntmps108
    go_wp2_with fail
    refine C.out.mono ?_
    rintro e w' ⟨rfl, rfl⟩
    go_wp2_with fail
    go_ret
    rw [F.out]; exact row_nil w

end Go.Proofs.YtokncfhpmjohdabGreat.Wp
namespace Go.Proofs.YtokncfhpmjohdabGreat.Im
open Go.RowKit Go.Proofs.YtokncfhpmjohdabGreat.Mem Go.Proofs.YtokncfhpmjohdabGreat.Rw
set_option linter.unusedVariables false
set_option linter.unusedSimpArgs false

/-- The marks are laid; what lies in other blocks is as it was. -/
def Laid (w : World) (base g n c k : Nat) (e : Ending) (w' : World) : Prop :=
  e = .returned (.int .i64 ((k : Int) + (n : Int))) ∧ w'.ownsRow base 3 1 (.slice (some ⟨g, 0, none⟩) n c) n (mk k n) ∧ w.grownBy w' (some g)

end Go.Proofs.YtokncfhpmjohdabGreat.Im
namespace Go.Proofs.YtokncfhpmjohdabGreat.Wq
open Go.RowKit Go.Proofs.YtokncfhpmjohdabGreat.Mem Go.Proofs.YtokncfhpmjohdabGreat.Dm Go.Proofs.YtokncfhpmjohdabGreat.Ws Go.Proofs.YtokncfhpmjohdabGreat.Wp
set_option linter.unusedVariables false
set_option linter.unusedSimpArgs false

/-- What the function that the program makes answers: the sum of what is cut at a level. -/
def Summed (x : Int) (w : World) (e : Ending) (w' : World) : Prop := e = .returned (.int .i64 x) ∧ w = w'

set_option maxHeartbeats 1000000 in
theorem closure (A : Option Addr) (n c : Nat) (zs : List Int) (l : Int) (B p : Nat) (w : World) (hn : zs.length = n) (hb : zs.length ≤ 8) (hd : okD zs) (hl : 0 ≤ l) (hr : Rd w B A (ints zs)) (hp : w.cell? ⟨p, 0, none⟩ = some (.slice A n c)) :
    Calls Tryz.prog 112 #[.int .i64 l, .pointer (some ⟨p, 0, none⟩)] w (Summed (tot (cut zs l)) w) := by
  have HR := Lib.hid hr
  have HN := Lib.hid hn
  have HT := Lib.hid (tot_take_small (zs := cut zs l) (by rw [cut_len]; exact hb) (cut_ok hd hl))
  have HD := Lib.hid hd
  have hb8 : n ≤ 8 := by omega
  clear hr hn hd hb
  go_enter Tryz.func112, Tryz.ntmps112
  go_wp2_with fail
  go_loop [4, 9] (fun t i => ∃ k : Nat, k ≤ n ∧ i = .int .i64 k ∧ ∃ x : Int, t = .int .i64 x ∧ Hid (x = tot ((cut zs l).take k))) (fun _ i => n - (intOf i).toNat)
  case atStart => exact ⟨0, Nat.zero_le _, rfl, 0, rfl, Lib.hid rfl⟩
  case round =>
    obtain ⟨k, hk, rfl, x, rfl, HX⟩ := hrel
    obtain ⟨hx1, hx2⟩ : 0 ≤ x ∧ x ≤ 512 := by have := HT.out k; rw [← HX.out] at this; exact this
    by_cases hlt : k < n
    · obtain ⟨z, hz⟩ : ∃ z, zs[k]? = some z := ⟨_, List.getElem?_eq_getElem (by rw [HN.out]; exact hlt)⟩
      obtain ⟨b1, o1, eA, hb1, c1⟩ := rd_cell HR.out hz
      have hz3 := HD.out z (List.mem_of_getElem? hz)
      obtain ⟨hz4, hz5⟩ := hz3
      have K := Lib.hid (show x + (if l < z then l else z) = tot ((cut zs l).take (k + 1)) by rw [cut_tot_take hz, ← HX.out, min_if])
      have b3 : 0 ≤ (if l < z then l else z) := by split <;> omega
      have b4 : (if l < z then l else z) ≤ 64 := by split <;> omega
      clear hz hb1
      subst eA
      go_wp2_with fail
      go_round
      case rel => exact ⟨k + 1, by omega, by go_num, _, rfl, K⟩
      case measure => simp [intOf]; omega
    · obtain rfl : k = n := by omega
      have F := Lib.hid (show x = tot (cut zs l) by rw [HX.out, show k = (cut zs l).length by rw [cut_len, HN.out], List.take_length])
      go_wp2_with fail
      go_ret
      exact ⟨ret_int F.out, rfl⟩


theorem alloc1 (w : World) (o : Obj) : Below w.heap.size w (w.alloc o) := (Below.refl _ _).alloc (Nat.le_refl _) _
theorem box_cell (w : World) (v : Value) (T : TypeId) : (w.alloc (.cells #[v] T)).cell? ⟨w.heap.size, 0, none⟩ = some v := by rw [cell_of_row (w.alloc (.cells #[v] T)) w.heap.size 0 _ _ _ (heap_alloc_new w _)]; rfl

/-- What the function that makes it leaves: a block with the list. -/
def Made (v : Value) (w : World) (e : Ending) (w' : World) : Prop := e = .returned (.func (.func 112) #[] #[.pointer (some ⟨w.heap.size, 0, none⟩)]) ∧ w' = w.alloc (.cells #[v] 31)
theorem totalsOf (A : Option Addr) (n c : Nat) (w : World) :
    Calls Tryz.prog 70 #[.slice A n c] w (Made (.slice A n c) w) := by
  have hmf : ∀ (fn : Fn) (first cap : Array Value) (w : World), (Instr.makeFunc fn first cap).run Tryz.prog w = .ok (.func fn first cap) w := fun _ _ _ _ => rfl
  go_enter Tryz.func70, Tryz.ntmps70
  go_wp2_with fail
  go_ret
  exact ⟨rfl, rfl⟩

/-- A number, and no old memory written. -/
def Num (x : Int) (w : World) (e : Ending) (w' : World) : Prop := e = .returned (.int .i64 x) ∧ Below w.heap.size w w'

set_option maxHeartbeats 1000000 in
theorem totI (A : Option Addr) (n c : Nat) (zs : List Int) (w : World) (hn : zs.length = n) (hb : n ≤ 1048576) (hr : Rd w w.heap.size A (ints zs)) :
    Calls Tryz.prog 35 #[.slice A n c] w (Num (totB zs) w) := by
  have R := Lib.hid hr
  have N := Lib.hid hn
  by_cases hd : dm zs = true
  · have C := Lib.hid (demI_of hd A n c w.heap.size w N.out hb R.out)
    have S := Lib.hid (closure A n c zs 64 w.heap.size w.heap.size (w.alloc (.cells #[.slice A n c] 31)) N.out (dm_iff.1 hd).1 (dm_iff.1 hd).2 (by decide) (R.out.below (alloc1 w _)) (box_cell w _ _))
    have F := Lib.hid (show tot (cut zs 64) = totB zs by rw [totB_yes hd, cut_all (fun z hz => ((dm_iff.1 hd).2 z hz).2)])
    clear hr hn hd
    go_enter Tryz.func35, Tryz.ntmps35
    go_wp2_with fail
    refine C.out.mono ?_
    rintro e w' ⟨rfl, rfl⟩
    go_wp2_with fail
    refine (totalsOf A n c _).mono ?_
    rintro e w' ⟨rfl, rfl⟩
    go_wp2_with fail
    refine S.out.mono ?_
    rintro e w' ⟨rfl, rfl⟩
    go_wp2_with fail
    go_ret
    exact ⟨ret_int F.out, alloc1 _ _⟩
  · have hd2 : dm zs = false := by simpa using hd
    have C := Lib.hid (demI_of hd2 A n c w.heap.size w N.out hb R.out)
    have F := Lib.hid (totB_no hd2)
    clear hr hn hd hd2
    go_enter Tryz.func35, Tryz.ntmps35
    go_wp2_with fail
    refine C.out.mono ?_
    rintro e w' ⟨rfl, rfl⟩
    go_wp2_with fail
    go_ret
    exact ⟨ret_int F.out.symm, Below.refl _ _⟩

end Go.Proofs.YtokncfhpmjohdabGreat.Wq
namespace Go.Proofs.YtokncfhpmjohdabGreat.Wl
open Go.RowKit Go.Proofs.YtokncfhpmjohdabGreat.Mem Go.Proofs.YtokncfhpmjohdabGreat.Dm Go.Proofs.YtokncfhpmjohdabGreat.Ws Go.Proofs.YtokncfhpmjohdabGreat.Wp Go.Proofs.YtokncfhpmjohdabGreat.Wq Go.Proofs.YtokncfhpmjohdabGreat.Rw
set_option linter.unusedVariables false
set_option linter.unusedSimpArgs false

/-- A truth, and only draws were made. -/
def Tells (b : Bool) (w : World) (e : Ending) (w' : World) : Prop := e = .returned (.bool b) ∧ ∃ m, w' = w.drewN m

/-- What stands in the two blocks of the test by halves. -/
structure Test (w : World) (A : Option Addr) (n c : Nat) (s : Int) (p q r : Nat) : Prop where
  list : w.cell? ⟨p, 0, none⟩ = some (.slice A n c)
  func : w.cell? ⟨q, 0, none⟩ = some (.func (.func 112) #[] #[.pointer (some ⟨p, 0, none⟩)])
  supply : w.cell? ⟨r, 0, none⟩ = some (.int .i64 s)

set_option maxHeartbeats 1000000 in
theorem test (A : Option Addr) (n c : Nat) (zs : List Int) (s : Int) (i : Nat) (B p q r : Nat) (w : World) (hn : zs.length = n) (hb : zs.length ≤ 8) (hd : okD zs) (hi : i ≤ 64) (hr : Rd w B A (ints zs)) (ht : Test w A n c s p q r) :
    Calls Tryz.prog 162 #[.int .i64 i, .pointer (some ⟨q, 0, none⟩), .pointer (some ⟨r, 0, none⟩)] w (Tells (decide (s < tot (cut zs ((i : Int) + 1)))) w) := by
  have C := Lib.hid (fun m => closure A n c zs ((i : Int) + 1) B p (w.drewN m) hn hb hd (by omega) (hr.drewN m) ht.list)
  generalize tot (cut zs ((i : Int) + 1)) = x at C
  have c1 := ht.func
  have c2 := ht.supply
  have e1 : IntKind.i64.wrap ((i : Int) + 1) = (i : Int) + 1 := IntWalk.i64_in _ (by omega)
  have e2 : 0 ≤ (i : Int) + 1 := by omega
  clear hn hb hd hr ht
  go_enter Tryz.func162, Tryz.ntmps162
  go_wp2_with fail
  go_quiet ((go_at_call 112; exact Calls.quiet_of_same ((C.out _).mono fun _ _ k => ⟨k.1, k.2.symm⟩)))
  clear e1 e2
  go_wp2_with fail
  go_ret
  exact ⟨rfl, _, rfl⟩

/-- A number, and only draws were made. -/
def Finds (x : Int) (w : World) (e : Ending) (w' : World) : Prop := e = .returned (.int .i64 x) ∧ ∃ m, w' = w.drewN m

theorem Test.drewN {w : World} {A : Option Addr} {n c : Nat} {s : Int} {p q r : Nat} (h : Test w A n c s p q r) (m : Nat) : Test (w.drewN m) A n c s p q r := ⟨h.list, h.func, h.supply⟩

set_option maxHeartbeats 1000000 in
theorem search (A : Option Addr) (n c : Nat) (zs : List Int) (s : Int) (B p q r : Nat) (w : World) (hn : zs.length = n) (hb : zs.length ≤ 8) (hd : okD zs) (hs : 0 ≤ s) (hr : Rd w B A (ints zs)) (ht : Test w A n c s p q r) :
    Calls Tryz.prog 161 #[.int .i64 64, .func (.func 162) #[] #[.pointer (some ⟨q, 0, none⟩), .pointer (some ⟨r, 0, none⟩)]] w (Finds (lv s zs 64 : Nat) w) := by
  have C := Lib.hid (fun (m i : Nat) (h : i ≤ 64) => test A n c zs s i B p q r (w.drewN m) hn hb hd h (hr.drewN m) (ht.drewN m))
  have HD := Lib.hid hd
  have HS := Lib.hid hs
  clear hn hb hd hr ht hs
  go_enter Tryz.func161, Tryz.ntmps161
  go_wp2_with fail
  go_loopw [5, 6] (fun i j wr => ∃ a b m : Nat, i = .int .i64 a ∧ j = .int .i64 b ∧ a ≤ b ∧ b ≤ 64 ∧ Hid (a = 0 ∨ tot (cut zs (a : Int)) ≤ s) ∧ Hid (b = 64 ∨ s < tot (cut zs ((b : Int) + 1))) ∧ wr = w.drewN m) (fun i j _ => (intOf j).toNat - (intOf i).toNat)
  case atStart => exact ⟨0, 64, 0, rfl, rfl, by omega, by omega, Lib.hid (Or.inl rfl), Lib.hid (Or.inl rfl), rfl⟩
  case round =>
    obtain ⟨a, b, m, rfl, rfl, hab, hb64, HA, HB, rfl⟩ := hrel
    by_cases hlt : a < b
    · obtain ⟨h, hh⟩ : ∃ h : Nat, h = (a + b) / 2 := ⟨_, rfl⟩
      have eh : ((a : Int) + (b : Int)) / 2 = (h : Int) := by omega
      have h1 : a ≤ h := by omega
      have h2 : h < b := by omega
      clear hh
      go_wp2_with fail
      refine (C.out _ h (by omega)).mono ?_
      rintro e w' ⟨rfl, m2, rfl⟩
      rw [World.drewN_drewN]
      by_cases ht : s < tot (cut zs ((h : Int) + 1))
      · rw [decide_eq_true ht]
        have HB2 := Lib.hid (Or.inr ht : h = 64 ∨ s < tot (cut zs ((h : Int) + 1)))
        clear ht HB C
        go_wp2_with fail
        go_roundw
        case rel => exact ⟨a, h, _, rfl, rfl, h1, by omega, HA, HB2, rfl⟩
        case measure => simp [intOf]; omega
      · rw [decide_eq_false ht]
        have HA2 := Lib.hid (show h + 1 = 0 ∨ tot (cut zs ((h + 1 : Nat) : Int)) ≤ s from Or.inr (by push_cast; omega))
        clear ht HA C
        go_wp2_with fail
        go_roundw
        case rel => exact ⟨h + 1, b, _, by go_num, rfl, h2, hb64, HA2, HB, rfl⟩
        case measure => simp [intOf]; omega
    · obtain rfl : a = b := by omega
      have F := Lib.hid (lv_is HD.out HS.out hb64 HA.out HB.out)
      go_wp2_with fail
      go_ret
      exact ⟨ret_int (by rw [F.out]), m, rfl⟩

theorem Test.mk3 (w : World) (A : Option Addr) (n c : Nat) (s : Int) (p : Nat) (hp : w.cell? ⟨p, 0, none⟩ = some (.slice A n c)) :
    Test ((w.alloc (.cells #[.int .i64 s] 3)).alloc (.cells #[.func (.func 112) #[] #[.pointer (some ⟨p, 0, none⟩)]] 65)) A n c s p (w.heap.size + 1) w.heap.size := by
  have k1 := alloc1 w (.cells #[.int .i64 s] 3)
  have hlt := World.block_lt_of_cell? w _ hp
  have z1 : (w.alloc (.cells #[.int .i64 s] 3)).heap.size = w.heap.size + 1 := by simp
  have k2 := alloc1 (w.alloc (.cells #[.int .i64 s] 3)) (.cells #[.func (.func 112) #[] #[.pointer (some ⟨p, 0, none⟩)]] 65)
  refine ⟨?_, ?_, ?_⟩
  · rw [k2.cell (p := ⟨p, 0, none⟩) (by show p < _; rw [z1]; exact Nat.lt_succ_of_lt hlt), k1.cell (p := ⟨p, 0, none⟩) hlt]; exact hp
  · have := box_cell (w.alloc (.cells #[.int .i64 s] 3)) (.func (.func 112) #[] #[.pointer (some ⟨p, 0, none⟩)]) 65
    rwa [z1] at this
  · rw [k2.cell (p := ⟨w.heap.size, 0, none⟩) (by show _ < _; rw [z1]; exact Nat.lt_succ_self _)]
    exact box_cell w _ _

set_option maxHeartbeats 1000000 in
theorem highest (A : Option Addr) (n c : Nat) (zs : List Int) (s : Int) (p : Nat) (w : World) (hn : zs.length = n) (hb : zs.length ≤ 8) (hd : okD zs) (hs : 0 ≤ s) (hr : Rd w w.heap.size A (ints zs)) (hp : w.cell? ⟨p, 0, none⟩ = some (.slice A n c)) :
    Calls Tryz.prog 140 #[.int .i64 s, .func (.func 112) #[] #[.pointer (some ⟨p, 0, none⟩)]] w (Num (lv s zs 64 : Nat) w) := by
  have hmf : ∀ (fn : Fn) (first cap : Array Value) (w : World), (Instr.makeFunc fn first cap).run Tryz.prog w = .ok (.func fn first cap) w := fun _ _ _ _ => rfl
  have T := Test.mk3 w A n c s p hp
  have BB := Lib.hid ((alloc1 w (.cells #[.int .i64 s] 3)).trans ((alloc1 (w.alloc (.cells #[.int .i64 s] 3)) (.cells #[.func (.func 112) #[] #[.pointer (some ⟨p, 0, none⟩)]] 65)).mono (by simp)))
  have C := Lib.hid (search A n c zs s w.heap.size p (w.heap.size + 1) w.heap.size _ hn hb hd hs (hr.below BB.out) T)
  clear hn hb hd hs hr hp T
  go_enter Tryz.func140, Tryz.ntmps140
  go_wp2_with fail
  refine C.out.mono ?_
  rintro e w' ⟨rfl, m, rfl⟩
  go_wp2_with fail
  go_ret
  exact ⟨rfl, below_drewN BB.out m⟩

set_option maxHeartbeats 1000000 in
theorem levelI (A : Option Addr) (n c : Nat) (zs : List Int) (s : Int) (w : World) (hn : zs.length = n) (hb : n ≤ 1048576) (hr : Rd w w.heap.size A (ints zs)) :
    Calls Tryz.prog 107 #[.int .i64 s, .slice A n c] w (Num (level s zs : Nat) w) := by
  have R := Lib.hid hr
  have N := Lib.hid hn
  by_cases hd : dm zs = true
  · have C := Lib.hid (demI_of hd A n c w.heap.size w N.out hb R.out)
    by_cases hs : 0 ≤ s ∧ s ≤ 512
    · have CS := Lib.hid (fun v => isSupply_of (iw_yes hs) v)
      have K := Lib.hid (alloc1 w (.cells #[.slice A n c] 31))
      have H := Lib.hid (highest A n c zs s w.heap.size (w.alloc (.cells #[.slice A n c] 31)) N.out (dm_iff.1 hd).1 (dm_iff.1 hd).2 hs.1 ((R.out.below K.out).more K.out.size) (box_cell w _ _))
      have F := Lib.hid (level_yes hd hs.1 hs.2)
      clear hr hn hd hs
      go_enter Tryz.func107, Tryz.ntmps107
      go_wp2_with fail
      refine C.out.mono ?_
      rintro e w' ⟨rfl, rfl⟩
      go_wp2_with fail
      refine (CS.out _).mono ?_
      rintro e w' ⟨rfl, rfl⟩
      go_wp2_with fail
      refine (totalsOf A n c _).mono ?_
      rintro e w' ⟨rfl, rfl⟩
      go_wp2_with fail
      refine H.out.mono ?_
      rintro e w2 ⟨rfl, hb2⟩
      have BB := Lib.hid (K.out.trans (hb2.mono K.out.size))
      clear hb2
      go_wp2_with fail
      go_ret
      exact ⟨ret_int (by rw [F.out]), BB.out⟩
    · have CS := Lib.hid (fun v => isSupply_of (iw_no (x := s) (a := 0) (b := 512) (by omega)) v)
      have F := Lib.hid (level_no (s := s) (zs := zs) (fun c => hs c.2))
      clear hr hn hd hs
      go_enter Tryz.func107, Tryz.ntmps107
      go_wp2_with fail
      refine C.out.mono ?_
      rintro e w' ⟨rfl, rfl⟩
      go_wp2_with fail
      refine (CS.out _).mono ?_
      rintro e w' ⟨rfl, rfl⟩
      go_wp2_with fail
      go_ret
      exact ⟨ret_int (by rw [F.out]; rfl), Below.refl _ _⟩
  · have hd2 : dm zs = false := by simpa using hd
    have C := Lib.hid (demI_of hd2 A n c w.heap.size w N.out hb R.out)
    have F := Lib.hid (level_no (s := s) (zs := zs) (fun c => hd c.1))
    clear hr hn hd hd2
    go_enter Tryz.func107, Tryz.ntmps107
    go_wp2_with fail
    refine C.out.mono ?_
    rintro e w' ⟨rfl, rfl⟩
    go_wp2_with fail
    go_ret
    exact ⟨ret_int (by rw [F.out]; rfl), Below.refl _ _⟩

set_option maxHeartbeats 1000000 in
theorem levelS (A : Option Addr) (n c : Nat) (zs : List Int) (s : Int) (w : World) (hn : zs.length = n) (hb : n ≤ 1048576) (hr : Rd w w.heap.size A (ints zs)) :
    Calls Tryz.prog 148 #[.int .i64 s, .slice A n c] w (Num (level s zs : Nat) w) := by
  have R := Lib.hid hr
  have N := Lib.hid hn
  by_cases hd : dm zs = true
  · have C := Lib.hid (fun B v (h : Rd v B A (ints zs)) => demS_of hd A n c B v N.out hb h)
    by_cases hs : 0 ≤ s ∧ s ≤ 512
    · have CS := Lib.hid (fun v => l5Supply_of (iw_yes hs) v)
      have F := Lib.hid (level_yes hd hs.1 hs.2)
      have D := Lib.hid (dm_iff.1 hd)
      clear hr hn hd hs
      go_enter Tryz.func148, Tryz.ntmps148
      go_wp2_with fail
      go_loopw [5, 6] (fun v i wr => ∃ k l : Nat, k ≤ 64 ∧ i = .int .i64 ((k : Int) + 1) ∧ v = .int .i64 l ∧ l ≤ 64 ∧ Hid (lv s zs k = l) ∧ Hid (Below w.heap.size w wr)) (fun _ i _ => 65 - (intOf i).toNat)
      case atStart => exact ⟨0, 0, by omega, rfl, rfl, by omega, Lib.hid rfl, Lib.hid (Below.refl _ _)⟩
      case round =>
        obtain ⟨k, l, hk, rfl, rfl, hl, HL, BK⟩ := hrel
        by_cases hlt : k < 64
        · have d1 : decide ((k : Int) + 1 ≤ 64) = true := decide_eq_true (by omega)
          have RD := Lib.hid ((R.out.below BK.out).more BK.out.size)
          go_wp2_with fail
          refine (C.out _ _ RD.out).mono ?_
          rintro e w' ⟨rfl, rfl⟩
          go_wp2_with fail
          refine (CS.out _).mono ?_
          rintro e w' ⟨rfl, rfl⟩
          go_wp2_with fail
          refine (l5Cut A n c zs ((k : Int) + 1) _ N.out hb RD.out).mono ?_
          rintro e w1 ⟨g, d, rfl, ho, hb1⟩
          have S := Lib.hid (sumS (some ⟨g, 0, none⟩) (cut zs ((k : Int) + 1)).length d (cut zs ((k : Int) + 1)) _ w1 rfl (by rw [cut_len]; exact D.out.1) (cut_ok D.out.2 (by omega)) (Rd.own ho))
          have BB := Lib.hid (BK.out.trans (hb1.mono BK.out.size))
          clear ho hb1 RD
          go_wp2_with fail
          refine S.out.mono ?_
          rintro e w' ⟨rfl, rfl⟩
          by_cases ht : tot (cut zs ((k : Int) + 1)) ≤ s
          · have HK := Lib.hid (lv_yes ht : lv s zs (k + 1) = k + 1)
            have d2 : decide (tot (cut zs ((k : Int) + 1)) ≤ s) = true := decide_eq_true ht
            clear ht S HL C CS d1
            go_wp2_with fail
            go_roundw
            case rel => exact ⟨k + 1, k + 1, by omega, by go_num, by go_num, by omega, HK, BB⟩
            case measure => simp [intOf]; omega
          · have HK := Lib.hid ((lv_no ht).trans HL.out)
            have d2 : decide (tot (cut zs ((k : Int) + 1)) ≤ s) = false := decide_eq_false ht
            clear ht S HL C CS d1
            go_wp2_with fail
            go_roundw
            case rel => exact ⟨k + 1, l, by omega, by go_num, rfl, hl, HK, BB⟩
            case measure => simp [intOf]; omega
        · obtain rfl : k = 64 := by omega
          have F2 := Lib.hid (show l = level s zs by rw [F.out, HL.out])
          clear HL hlt
          go_wp2_with fail
          go_ret
          exact ⟨ret_int (by rw [F2.out]), BK.out⟩
    · have CS := Lib.hid (fun v => l5Supply_of (iw_no (x := s) (a := 0) (b := 512) (by omega)) v)
      have F := Lib.hid (level_no (s := s) (zs := zs) (fun c => hs c.2))
      clear hr hn hd hs
      go_enter Tryz.func148, Tryz.ntmps148
      go_wp2_with fail
      refine wp_loop_rounds 1 ?_
      rw [rounds_succ]
      go_wp2_with fail
      refine (C.out _ _ R.out).mono ?_
      rintro e w' ⟨rfl, rfl⟩
      go_wp2_with fail
      refine (CS.out _).mono ?_
      rintro e w' ⟨rfl, rfl⟩
      go_wp2_with fail
      go_ret
      exact ⟨ret_int (by rw [F.out]; rfl), Below.refl _ _⟩
  · have hd2 : dm zs = false := by simpa using hd
    have C := Lib.hid (demS_of hd2 A n c w.heap.size w N.out hb R.out)
    have F := Lib.hid (level_no (s := s) (zs := zs) (fun c => hd c.1))
    clear hr hn hd hd2
    go_enter Tryz.func148, Tryz.ntmps148
    go_wp2_with fail
    refine wp_loop_rounds 1 ?_
    rw [rounds_succ]
    go_wp2_with fail
    refine C.out.mono ?_
    rintro e w' ⟨rfl, rfl⟩
    go_wp2_with fail
    go_ret
    exact ⟨ret_int (by rw [F.out]; rfl), Below.refl _ _⟩

end Go.Proofs.YtokncfhpmjohdabGreat.Wl
