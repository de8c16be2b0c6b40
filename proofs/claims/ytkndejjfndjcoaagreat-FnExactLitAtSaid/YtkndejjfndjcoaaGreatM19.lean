/- Demands that are cut, of the program and of the model. -/
import Derived.Test.YtkndejjfndjcoaaGreatM18
import Derived.Test.YtkndejjfndjcoaaGreatM1
import Derived.Laws.AppendOwn
import Derived.Handy
namespace Go.Proofs.YtkndejjfndjcoaaGreat.Wp
open Go.RowKit Go.Proofs.YtkndejjfndjcoaaGreat.Mem Go.Proofs.YtkndejjfndjcoaaGreat.Dm Go.Proofs.YtkndejjfndjcoaaGreat.Ws Go.Proofs.YtkndejjfndjcoaaGreat.Rw
open Go.Proofs.YtkndejjfndjcoaaGreat.Ints (infoInt)
set_option linter.unusedVariables false
set_option linter.unusedSimpArgs false

/-- A list of the call's own that holds these numbers. -/
def RowI (w : World) (zs : List Int) (e : Ending) (w' : World) : Prop :=
  ∃ g c, e = .returned (.slice (some ⟨g, 0, none⟩) zs.length c) ∧ w'.ownsRow w.heap.size 3 1 (.slice (some ⟨g, 0, none⟩) zs.length c) zs.length (ints zs) ∧ Below w.heap.size w w'

theorem infoI : (Tryz.prog.info? 3).map (fun i => (i.zero, i.size, i.bytes)) = some (some (.int .i64 0), 1, 8) := by kernel_rfl
theorem ints_snoc (zs : List Int) (z : Int) : ints zs ++ [.int .i64 z] = ints (zs ++ [z]) := by simp [ints]
theorem own_mk {w : World} {base n : Nat} {v : Value} {xs : List Value} (h : w.ownsRow base 3 1 v (n + 1) xs) : ∃ g c, v = .slice (some ⟨g, 0, none⟩) (n + 1) c := by
  rcases h.2 with ⟨_, e⟩ | ⟨g, cap, cur, e, _⟩
  · omega
  · exact ⟨g, cap, e⟩
theorem own_base {w : World} {base n : Nat} {v : Value} {xs : List Value} (h : w.ownsRow base 3 1 v n xs) : ∀ k, v.ownBlock = some k → base ≤ k := fun k e => (h.lt k e).1
theorem rd_cell {w : World} {B : Nat} {A : Option Addr} {zs : List Int} {z : Int} {k : Nat} (h : Rd w B A (ints zs)) (hz : zs[k]? = some z) : ∃ b o, A = some ⟨b, o, none⟩ ∧ b < B ∧ w.cell? ⟨b, o + k, none⟩ = some (.int .i64 z) := by
  obtain ⟨b, o, e, hb, g⟩ := h.get (k := k) (by rw [ints_len]; exact (List.getElem?_eq_some_iff.1 hz).1)
  exact ⟨b, o, e, hb, g k _ (by unfold ints; rw [List.getElem?_map, hz]; rfl)⟩
/-- The empty list. -/
theorem row_nil (w : World) : RowI w [] (.returned (.slice (some ⟨w.heap.size, 0, none⟩) 0 0)) (w.alloc (.cells #[] 3)) :=
  ⟨_, _, rfl, World.ownsRow_lit (base := w.heap.size) (e := 3) (size := 1) w #[] 0 (Nat.le_refl _) (Nat.zero_le _) rfl, (Below.refl _ _).alloc (Nat.le_refl _) _⟩

set_option maxHeartbeats 1000000 in
theorem l5Cut (A : Option Addr) (n c : Nat) (zs : List Int) (l : Int) (w : World) (hn : zs.length = n) (hb : n ≤ 1048576) (hr : Rd w w.heap.size A (ints zs)) :
    Calls Tryz.prog 104 #[.slice A n c, .int .i64 l] w (RowI w (cut zs l)) := by
  obtain ⟨i0, hi, hz0, hz1, hz2⟩ := info_parts infoI
  have HR := Lib.hid hr
  have HN := Lib.hid hn
  have O1 := Lib.hid (World.ownsRow_lit (base := w.heap.size) (e := 3) (size := 1) w #[] 0 (Nat.le_refl _) (Nat.zero_le _) rfl)
  have B1 := Lib.hid (show Below w.heap.size w (w.alloc (.cells #[] 3)) from (Below.refl _ _).alloc (Nat.le_refl _) _)
  clear hr hn
  go_enter Tryz.func104, Tryz.ntmps104
  go_wp2_with fail
  go_loopw [5, 11] (fun v i wr => ∃ k : Nat, k ≤ n ∧ i = .int .i64 k ∧ (∃ b d, v = .slice (some ⟨b, 0, none⟩) k d) ∧ Hid (wr.ownsRow w.heap.size 3 1 v k (ints ((cut zs l).take k))) ∧ Hid (Below w.heap.size w wr)) (fun _ i _ => n - (intOf i).toNat)
  case atStart => exact ⟨0, Nat.zero_le _, rfl, ⟨_, _, rfl⟩, O1, B1⟩
  case round =>
    obtain ⟨k, hk, rfl, ⟨bb, dd, rfl⟩, OK, BK⟩ := hrel
    by_cases hlt : k < n
    · obtain ⟨z, hz⟩ : ∃ z, zs[k]? = some z := ⟨_, List.getElem?_eq_getElem (by rw [HN.out]; exact hlt)⟩
      obtain ⟨b1, o1, eA, hb1, c0⟩ := rd_cell HR.out hz
      have c1 : wr.cell? ⟨b1, o1 + k, none⟩ = some (.int .i64 z) := (BK.out.cell (p := ⟨b1, o1 + k, none⟩) hb1).trans c0
      obtain ⟨x, hx⟩ : ∃ x, min z l = x := ⟨_, rfl⟩
      have E := Lib.hid (show (cut zs l).take k ++ [x] = (cut zs l).take (k + 1) by rw [← hx]; exact cut_take_succ hz)
      have C := Lib.hid (fun v => hx ▸ l1Min z l v)
      have hown := OK.out.alloc
      have HS := Lib.hid (own_base OK.out)
      have HW := Lib.hid BK.out.size
      clear c0 hb1 hz hx O1 B1
      subst eA
      go_wp2_with fail
      refine (C.out _).mono ?_
      rintro e w' ⟨rfl, rfl⟩
      go_wp2_with (at_builtin; refine wpList_append_own _ rfl _ _ 28 rfl w.heap.size 3 i0 (.int .i64 0) 1 8 Tryz.underlying28 hi hz0 hz1 hz2 rfl (by decide) _ _ _ rfl (hown _) ⟨wr.heap.size, 0, none⟩ 1 1 [.int .i64 x] rfl rfl (by intro j u hj; match j, hj with | 0, hj => simp at hj; subst hj; simp [Addr.add]) (by intro u hu; simp at hu; subst hu; rfl) (by unfold maxLen; omega) (by omega) (by have := HW.out; simp; omega) ?_; intro v' w5 hown' hgrow hnil)
      rw [ints_snoc, E.out] at hown'
      have hsh := own_mk hown'
      have OO := Lib.hid hown'
      have BB := Lib.hid ((BK.out.alloc BK.out.size _).grown hgrow (by have := HW.out; simp; omega) (fun j hj => HS.out j hj))
      clear hown' hgrow hnil OK BK HS HW hown E C
      go_wp2_with fail
      go_roundw
      case rel => exact ⟨k + 1, by omega, by go_num, hsh, OO, BB⟩
      case measure => simp [intOf]; omega
    · obtain rfl : k = n := by omega
      have hl : (cut zs l).length = k := by rw [cut_len, HN.out]
      have OF := Lib.hid (show wr.ownsRow w.heap.size 3 1 (.slice (some ⟨bb, 0, none⟩) k dd) k (ints (cut zs l)) by have := OK.out; rwa [← hl, List.take_length, hl] at this)
      have HL := Lib.hid hl
      clear hl OK O1 B1
      go_wp2_with fail
      go_ret
      refine ⟨bb, dd, ?_, ?_, BK.out⟩
      · rw [HL.out]; rfl
      · rw [HL.out]; exact OF.out

set_option maxHeartbeats 1000000 in
theorem cutI (A : Option Addr) (n c : Nat) (zs : List Int) (l : Int) (w : World) (hn : zs.length = n) (hb : n ≤ 1048576) (hr : Rd w w.heap.size A (ints zs)) :
    Calls Tryz.prog 115 #[.slice A n c, .int .i64 l] w (RowI w (cutB zs l)) := by
  have R := Lib.hid hr
  have N := Lib.hid hn
  by_cases hd : dm zs = true
  · have C := Lib.hid (demI_of hd A n c w.heap.size w N.out hb R.out)
    by_cases hl : l < 0
    · have F := Lib.hid (cutB_no (zs := zs) (l := l) (fun c => by omega))
      have d : decide (l < 0) = true := decide_eq_true hl
      clear hr hn hl hd
      go_enter Tryz.func115, Tryz.ntmps115
      go_wp2_with fail
      refine C.out.mono ?_
      rintro e w' ⟨rfl, rfl⟩
      go_wp2_with fail
      go_ret
      rw [F.out]; exact row_nil w
    · have F := Lib.hid (cutB_yes (zs := zs) (l := l) hd (by omega))
      have d : decide (l < 0) = false := decide_eq_false hl
      obtain ⟨i0, hi, hz0, hz1, hz2⟩ := info_parts infoI
      clear hr hn hl hd
      go_enter Tryz.func115, Tryz.ntmps115
      go_wp2_with fail
      refine C.out.mono ?_
      rintro e w' ⟨rfl, rfl⟩
      go_wp2_with (at_make; refine wpList_make_full _ rfl _ _ 28 rfl w.heap.size 3 i0 (.int .i64 0) 1 Tryz.underlying28 hi hz0 hz1 .i64 .i64 n n n rfl rfl rfl rfl (by rw [hz2]; omega) (by unfold maxLen; omega) (Nat.le_refl _) ?_; intro w1 hown hgrow; clear hi hz0 hz1 hz2)
      have R0 := Lib.hid (show w1.ownsRow w.heap.size 3 1 (.slice (some ⟨w.heap.size, 0, none⟩) n n) n (filled (ints (cut zs l)) (.int .i64 0) 0) by
        rw [filled_zero, ints_len, cut_len, N.out]; rw [Ints.made_ints] at hown; exact hown)
      have B0 := Lib.hid (show Below w.heap.size w w1 from (Below.refl _ _).grown hgrow (Nat.le_refl _) (fun k hk => by cases hk))
      clear hown hgrow C d
      go_loopw [21] (fun i wr => ∃ k : Nat, k ≤ n ∧ i = .int .i64 k ∧ Hid (wr.ownsRow w.heap.size 3 1 (.slice (some ⟨w.heap.size, 0, none⟩) n n) n (filled (ints (cut zs l)) (.int .i64 0) k)) ∧ Hid (Below w.heap.size w wr)) (fun i _ => n - (intOf i).toNat)
      case atStart => exact ⟨0, Nat.zero_le _, rfl, R0, B0⟩
      case round =>
        obtain ⟨k, hk, rfl, RK, BK⟩ := hrel
        by_cases hlt : k < n
        · obtain ⟨z, hz⟩ : ∃ z, zs[k]? = some z := ⟨_, List.getElem?_eq_getElem (by rw [N.out]; exact hlt)⟩
          obtain ⟨b1, o1, eA, hb1, c0⟩ := rd_cell R.out hz
          have c1 : wr.cell? ⟨b1, o1 + k, none⟩ = some (.int .i64 z) := (BK.out.cell (p := ⟨b1, o1 + k, none⟩) hb1).trans c0
          have hy : (ints (cut zs l))[k]? = some (.int .i64 (if l < z then l else z)) := by rw [← min_if]; unfold ints; rw [List.getElem?_map, cut_get hz]; rfl
          have c2 := (RK.out.cellAt k (by omega)).trans (filled_get (z := .int .i64 0) (List.getElem?_eq_some_iff.1 hy).1)
          have f2 := RK.out.frozenAt k
          obtain ⟨r1, r2⟩ := RK.out.stored k (.int .i64 (if l < z then l else z))
          rw [filled_put hy] at r1
          have R1 := Lib.hid r1
          have B1 := Lib.hid (BK.out.grown r2 (by exact BK.out.size) (fun g hg => by cases hg; exact Nat.le_refl _))
          clear r1 r2 hy RK BK c0 hb1 hz R0 B0
          subst eA
          go_wp2_with fail
          go_roundw
          case rel => exact ⟨k + 1, by omega, by go_num, R1, B1⟩
          case measure => simp [intOf]; omega
        · obtain rfl : k = n := by omega
          have hl : (cut zs l).length = k := by rw [cut_len, N.out]
          have OF := Lib.hid (show wr.ownsRow w.heap.size 3 1 (.slice (some ⟨w.heap.size, 0, none⟩) k k) k (ints (cut zs l)) by
            have := RK.out
            rw [show k = (ints (cut zs l)).length by rw [ints_len, hl], filled_all, ints_len, hl] at this; exact this)
          have HL := Lib.hid hl
          clear hl RK R0 B0
          go_wp2_with fail
          go_ret
          rw [F.out]
          refine ⟨w.heap.size, k, ?_, ?_, BK.out⟩
          · rw [HL.out]; rfl
          · rw [HL.out]; exact OF.out
  · have hd2 : dm zs = false := by simpa using hd
    have C := Lib.hid (demI_of hd2 A n c w.heap.size w N.out hb R.out)
    have F := Lib.hid (cutB_no (zs := zs) (l := l) (fun c => hd c.1))
    clear hr hn hd hd2
    go_enter Tryz.func115, Tryz.ntmps115
    go_wp2_with fail
    refine C.out.mono ?_
    rintro e w' ⟨rfl, rfl⟩
    go_wp2_with fail
    go_ret
    rw [F.out]; exact row_nil w

end Go.Proofs.YtkndejjfndjcoaaGreat.Wp
namespace Go.Proofs.YtkndejjfndjcoaaGreat.Im
open Go.RowKit Go.Proofs.YtkndejjfndjcoaaGreat.Mem Go.Proofs.YtkndejjfndjcoaaGreat.Rw
set_option linter.unusedVariables false
set_option linter.unusedSimpArgs false

/-- The marks are laid; what lies in other blocks is as it was. -/
def Laid (w : World) (base g n c k : Nat) (e : Ending) (w' : World) : Prop :=
  e = .returned (.int .i64 ((k : Int) + (n : Int))) ∧ w'.ownsRow base 3 1 (.slice (some ⟨g, 0, none⟩) n c) n (mk k n) ∧ w.grownBy w' (some g)

set_option maxHeartbeats 1000000 in
theorem markIntS (base g n c k : Nat) (xs : List Value) (w : World) (hn : xs.length = n) (hb : n ≤ 1048576) (hk : k ≤ 8388608) (hr : w.ownsRow base 3 1 (.slice (some ⟨g, 0, none⟩) n c) n xs) :
    Calls Tryz.prog 15 #[.slice (some ⟨g, 0, none⟩) n c, .int .i64 k] w (Laid w base g n c k) := by
  have HN := Lib.hid hn
  have R0 := Lib.hid (show w.ownsRow base 3 1 (.slice (some ⟨g, 0, none⟩) n c) n (marked k 0 xs) by rw [marked_zero]; exact hr)
  clear hn hr
  go_enter Tryz.func15, Tryz.ntmps15
  go_wp2_with fail
  go_loopw [1, 5] (fun q i wr => ∃ j : Nat, j ≤ n ∧ i = .int .i64 j ∧ q = .int .i64 ((k : Int) + (j : Int)) ∧ Hid (wr.ownsRow base 3 1 (.slice (some ⟨g, 0, none⟩) n c) n (marked k j xs)) ∧ Hid (w.grownBy wr (some g))) (fun _ i _ => n - (intOf i).toNat)
  case atStart => exact ⟨0, Nat.zero_le _, rfl, by simp, R0, Lib.hid (grown_refl _ _)⟩
  case round =>
    obtain ⟨j, hj, rfl, rfl, RK, GK⟩ := hrel
    by_cases hlt : j < n
    · have HL := HN.out
      have R1 := RK.out
      obtain ⟨v0, z0⟩ : ∃ v, xs[j]? = some v := ⟨_, List.getElem?_eq_getElem (by omega)⟩
      obtain ⟨r1, g1⟩ := R1.stored j (.int .i64 ((k : Int) + (j : Int)))
      rw [marked_set (by omega)] at r1
      have c1 := (R1.cellAt j (by omega)).trans (marked_get z0)
      have f1 := R1.frozenAt j
      have RR := Lib.hid r1
      have GG := Lib.hid (grown_trans GK.out g1)
      clear R0 R1 r1 g1 z0 HL RK GK
      go_wp2_with fail
      go_roundw
      case rel => exact ⟨j + 1, by omega, by go_num, by (congr 1), RR, GG⟩
      case measure => simp [intOf]; omega
    · obtain rfl : j = n := by omega
      have F := Lib.hid (show wr.ownsRow base 3 1 (.slice (some ⟨g, 0, none⟩) j c) j (mk k j) by
        have := RK.out
        rw [marked_all (by rw [HN.out]; exact Nat.le_refl _)] at this; exact this)
      clear R0
      go_wp2_with fail
      go_ret
      exact ⟨rfl, F.out, GK.out⟩

set_option maxHeartbeats 1000000 in
theorem heldIntS (A : Option Addr) (n c k B : Nat) (w : World) (hb : n ≤ 1048576) (hk : k ≤ 8388608) (hr : Rd w B A (mk k n)) :
    Calls Tryz.prog 16 #[.slice A n c, .int .i64 k] w fun e w' => e = .returned (.int .i64 ((k : Int) + (n : Int))) ∧ w = w' := by
  have HR := Lib.hid hr
  clear hr
  go_enter Tryz.func16, Tryz.ntmps16
  go_wp2_with fail
  go_loop [1, 5] (fun q i => ∃ j : Nat, j ≤ n ∧ i = .int .i64 j ∧ q = .int .i64 ((k : Int) + (j : Int))) (fun _ i => n - (intOf i).toNat)
  case atStart => exact ⟨0, Nat.zero_le _, rfl, by simp⟩
  case round =>
    obtain ⟨j, hj, rfl, rfl⟩ := hrel
    by_cases hlt : j < n
    · obtain ⟨b, o, eA, hbl, hcell⟩ := HR.out.get (k := j) (by rw [mk_len]; omega)
      have c1 := hcell j _ (mk_get (by omega))
      clear hcell hbl
      subst eA
      go_wp2_with fail
      go_round
      case rel => exact ⟨j + 1, by omega, by go_num, by (congr 1)⟩
      case measure => simp [intOf]; omega
    · obtain rfl : j = n := by omega
      go_wp2_with fail
      go_ret
      exact ⟨rfl, rfl⟩

theorem eqI (A B : Option Addr) (n c d : Nat) (zs : List Int) (w : World) (hn : zs.length = n) (hb : n ≤ 1048576) (hr : Rd w w.heap.size A (ints zs)) (hs : Rd w w.heap.size B (ints zs)) :
    Calls Tryz.prog 12 #[.slice A n c, .slice B n d] w fun e w' => e = .returned (.bool true) ∧ Below w.heap.size w w' :=
  (Ints.eqIntS A B n c d zs w.heap.size w hn hb hr hs).mono fun e w' ⟨he, m, hm⟩ => ⟨he, hm ▸ below_drewN (Below.refl _ _) m⟩

end Go.Proofs.YtkndejjfndjcoaaGreat.Im
namespace Go.Proofs.YtkndejjfndjcoaaGreat.Wq
open Go.RowKit Go.Proofs.YtkndejjfndjcoaaGreat.Mem Go.Proofs.YtkndejjfndjcoaaGreat.Dm Go.Proofs.YtkndejjfndjcoaaGreat.Ws Go.Proofs.YtkndejjfndjcoaaGreat.Wp
set_option linter.unusedVariables false
set_option linter.unusedSimpArgs false

/-- What the function that the program makes answers: the sum of what is cut at a level. -/
def Summed (x : Int) (w : World) (e : Ending) (w' : World) : Prop := e = .returned (.int .i64 x) ∧ w = w'

set_option maxHeartbeats 1000000 in
theorem closure (A : Option Addr) (n c : Nat) (zs : List Int) (l : Int) (B p : Nat) (w : World) (hn : zs.length = n) (hb : zs.length ≤ 8) (hd : okD zs) (hl : 0 ≤ l) (hr : Rd w B A (ints zs)) (hp : w.cell? ⟨p, 0, none⟩ = some (.slice A n c)) :
    Calls Tryz.prog 154 #[.int .i64 l, .pointer (some ⟨p, 0, none⟩)] w (Summed (tot (cut zs l)) w) := by
  have HR := Lib.hid hr
  have HN := Lib.hid hn
  have HT := Lib.hid (tot_take_small (zs := cut zs l) (by rw [cut_len]; exact hb) (cut_ok hd hl))
  have HD := Lib.hid hd
  have hb8 : n ≤ 8 := by omega
  clear hr hn hd hb
  go_enter Tryz.func154, Tryz.ntmps154
  go_wp2_with fail
  go_loop [4, 9] (fun t i => ∃ k : Nat, k ≤ n ∧ i = .int .i64 k ∧ ∃ x : Int, t = .int .i64 x ∧ Hid (x = tot ((cut zs l).take k))) (fun _ i => n - (intOf i).toNat)
  case atStart => exact ⟨0, Nat.zero_le _, rfl, 0, rfl, Lib.hid rfl⟩
  case round =>
    obtain ⟨k, hk, rfl, x, rfl, HX⟩ := hrel
    obtain ⟨hx1, hx2⟩ : 0 ≤ x ∧ x ≤ 512 := by have := HT.out k; rw [← HX.out] at this; exact this
    by_cases hlt : k < n
    · obtain ⟨z, hz⟩ : ∃ z, zs[k]? = some z := ⟨_, List.getElem?_eq_getElem (by rw [HN.out]; exact hlt)⟩
      obtain ⟨b1, o1, eA, hb1, c1⟩ := rd_cell HR.out hz
      have hz3 := HD.out z (List.mem_of_getElem? hz)
      obtain ⟨hz4, hz5⟩ := hz3
      have K := Lib.hid (show x + (if l < z then l else z) = tot ((cut zs l).take (k + 1)) by rw [cut_tot_take hz, ← HX.out, min_if])
      have b3 : 0 ≤ (if l < z then l else z) := by split <;> omega
      have b4 : (if l < z then l else z) ≤ 64 := by split <;> omega
      clear hz hb1
      subst eA
      go_wp2_with fail
      go_round
      case rel => exact ⟨k + 1, by omega, by go_num, _, rfl, K⟩
      case measure => simp [intOf]; omega
    · obtain rfl : k = n := by omega
      have F := Lib.hid (show x = tot (cut zs l) by rw [HX.out, show k = (cut zs l).length by rw [cut_len, HN.out], List.take_length])
      go_wp2_with fail
      go_ret
      exact ⟨ret_int F.out, rfl⟩


theorem alloc1 (w : World) (o : Obj) : Below w.heap.size w (w.alloc o) := (Below.refl _ _).alloc (Nat.le_refl _) _
theorem box_cell (w : World) (v : Value) (T : TypeId) : (w.alloc (.cells #[v] T)).cell? ⟨w.heap.size, 0, none⟩ = some v := by rw [cell_of_row (w.alloc (.cells #[v] T)) w.heap.size 0 _ _ _ (heap_alloc_new w _)]; rfl

/-- What the function that makes it leaves: a block with the list. -/
def Made (v : Value) (w : World) (e : Ending) (w' : World) : Prop := e = .returned (.func (.func 154) #[] #[.pointer (some ⟨w.heap.size, 0, none⟩)]) ∧ w' = w.alloc (.cells #[v] 28)
theorem totalsOf (A : Option Addr) (n c : Nat) (w : World) :
    Calls Tryz.prog 136 #[.slice A n c] w (Made (.slice A n c) w) := by
  have hmf : ∀ (fn : Fn) (first cap : Array Value) (w : World), (Instr.makeFunc fn first cap).run Tryz.prog w = .ok (.func fn first cap) w := fun _ _ _ _ => rfl
  go_enter Tryz.func136, Tryz.ntmps136
  go_wp2_with fail
  go_ret
  exact ⟨rfl, rfl⟩

/-- A number, and no old memory written. -/
def Num (x : Int) (w : World) (e : Ending) (w' : World) : Prop := e = .returned (.int .i64 x) ∧ Below w.heap.size w w'

set_option maxHeartbeats 1000000 in
theorem totI (A : Option Addr) (n c : Nat) (zs : List Int) (w : World) (hn : zs.length = n) (hb : n ≤ 1048576) (hr : Rd w w.heap.size A (ints zs)) :
    Calls Tryz.prog 116 #[.slice A n c] w (Num (totB zs) w) := by
  have R := Lib.hid hr
  have N := Lib.hid hn
  by_cases hd : dm zs = true
  · have C := Lib.hid (demI_of hd A n c w.heap.size w N.out hb R.out)
    have S := Lib.hid (closure A n c zs 64 w.heap.size w.heap.size (w.alloc (.cells #[.slice A n c] 28)) N.out (dm_iff.1 hd).1 (dm_iff.1 hd).2 (by decide) (R.out.below (alloc1 w _)) (box_cell w _ _))
    have F := Lib.hid (show tot (cut zs 64) = totB zs by rw [totB_yes hd, cut_all (fun z hz => ((dm_iff.1 hd).2 z hz).2)])
    clear hr hn hd
    go_enter Tryz.func116, Tryz.ntmps116
    go_wp2_with fail
    refine C.out.mono ?_
    rintro e w' ⟨rfl, rfl⟩
    go_wp2_with fail
    refine (totalsOf A n c _).mono ?_
    rintro e w' ⟨rfl, rfl⟩
    go_wp2_with fail
    refine S.out.mono ?_
    rintro e w' ⟨rfl, rfl⟩
    go_wp2_with fail
    go_ret
    exact ⟨ret_int F.out, alloc1 _ _⟩
  · have hd2 : dm zs = false := by simpa using hd
    have C := Lib.hid (demI_of hd2 A n c w.heap.size w N.out hb R.out)
    have F := Lib.hid (totB_no hd2)
    clear hr hn hd hd2
    go_enter Tryz.func116, Tryz.ntmps116
    go_wp2_with fail
    refine C.out.mono ?_
    rintro e w' ⟨rfl, rfl⟩
    go_wp2_with fail
    go_ret
    exact ⟨ret_int F.out.symm, Below.refl _ _⟩

end Go.Proofs.YtkndejjfndjcoaaGreat.Wq
