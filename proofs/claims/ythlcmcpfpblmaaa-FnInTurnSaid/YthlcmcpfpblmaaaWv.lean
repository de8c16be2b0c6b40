/- Water that is served in turn, of the program and of the model. -/
import Derived.Test.YthlcmcpfpblmaaaWl
namespace Go.Proofs.Ythlcmcpfpblmaaa.Wv
open Go.RowKit Go.Proofs.Ythlcmcpfpblmaaa.Mem Go.Proofs.Ythlcmcpfpblmaaa.Dm Go.Proofs.Ythlcmcpfpblmaaa.Ws Go.Proofs.Ythlcmcpfpblmaaa.Wp Go.Proofs.Ythlcmcpfpblmaaa.Wq Go.Proofs.Ythlcmcpfpblmaaa.Wl Go.Proofs.Ythlcmcpfpblmaaa.Rw
open Go.Proofs.Ythlcmcpfpblmaaa.Ints (infoInt)
set_option linter.unusedVariables false
set_option linter.unusedSimpArgs false

set_option maxRecDepth 100000 in
set_option maxHeartbeats 2000000 in
theorem serveI (A : Option Addr) (n c : Nat) (zs : List Int) (s : Int) (w : World) (hn : zs.length = n) (hb : n ≤ 1048576) (hr : Rd w w.heap.size A (ints zs)) :
    Calls Try.prog 30 #[.int .i64 s, .slice A n c] w (RowI w (inTurn s zs)) := by
  have R := Lib.hid hr
  have N := Lib.hid hn
  obtain ⟨i0, hi, hz0, hz1, hz2⟩ := info_parts infoI
  by_cases hd : dm zs = true
  · have C := Lib.hid (demI_of hd A n c w.heap.size w N.out hb R.out)
    by_cases hs : 0 ≤ s ∧ s ≤ 512
    · have CS := Lib.hid (fun v => isSupply_of (iw_yes hs) v)
      have D := Lib.hid (dm_iff.1 hd)
      obtain ⟨hs1, hs2⟩ := hs
      have F := Lib.hid (inTurn_yes hd hs1 hs2)
      have hn8 : n ≤ 8 := by have := D.out.1; have := N.out; omega
      have TR := Lib.hid (fun k => turn_rest s (zs.take k) hs1 (okD_take D.out.2 k))
      clear hr hn hd
      go_enter Try.func30, Try.ntmps30
      go_wp2_with fail
      refine C.out.mono ?_
      rintro e w' ⟨rfl, rfl⟩
      go_wp2_with fail
      refine (CS.out _).mono ?_
      rintro e w' ⟨rfl, rfl⟩
      go_wp2_with (at_make; refine wpList_make_full _ rfl _ _ 22 rfl w.heap.size 3 i0 (.int .i64 0) 1 Try.underlying22 hi hz0 hz1 .i64 .i64 n n n rfl rfl rfl rfl (by rw [hz2]; omega) (by unfold maxLen; omega) (Nat.le_refl _) ?_; intro w1 hown hgrow; clear hi hz0 hz1 hz2)
      have R0 := Lib.hid (show w1.ownsRow w.heap.size 3 1 (.slice (some ⟨w.heap.size, 0, none⟩) n n) n (filled (ints (turn s zs)) (.int .i64 0) 0) by
        rw [filled_zero, ints_len, turn_len, N.out]; rw [Ints.made_ints] at hown; exact hown)
      have B0 := Lib.hid (show Below w.heap.size w w1 from (Below.refl _ _).grown hgrow (Nat.le_refl _) (fun k hk => by cases hk))
      clear hown hgrow C CS
      go_wp2_with fail
      go_loopw [6, 24] (fun q i wr => ∃ (k : Nat) (r : Int), k ≤ n ∧ i = .int .i64 k ∧ q = .int .i64 r ∧ Hid (s - tot (turn s (zs.take k)) = r) ∧ Hid (wr.ownsRow w.heap.size 3 1 (.slice (some ⟨w.heap.size, 0, none⟩) n n) n (filled (ints (turn s zs)) (.int .i64 0) k)) ∧ Hid (Below w.heap.size w wr)) (fun _ i _ => n - (intOf i).toNat)
      case atStart => exact ⟨0, s, Nat.zero_le _, rfl, rfl, Lib.hid (by show s - tot (turn s []) = s; unfold turn tot; omega), R0, B0⟩
      case round =>
        obtain ⟨k, r, hk, rfl, rfl, HM, OK, BK⟩ := hrel
        obtain ⟨hr1, hr2⟩ : 0 ≤ r ∧ r ≤ s := by have := TR.out k; rw [HM.out] at this; exact this
        by_cases hlt : k < n
        · obtain ⟨z, hz⟩ : ∃ z, zs[k]? = some z := ⟨_, List.getElem?_eq_getElem (by rw [N.out]; exact hlt)⟩
          obtain ⟨b1, o1, eA, hb1, c0⟩ := rd_cell R.out hz
          have c1 : wr.cell? ⟨b1, o1 + k, none⟩ = some (.int .i64 z) := (BK.out.cell (p := ⟨b1, o1 + k, none⟩) hb1).trans c0
          obtain ⟨hz1, hz2⟩ := D.out.2 z (List.mem_of_getElem? hz)
          have hy := turn_get (s := s) hz
          rw [HM.out, min_if] at hy
          have HM2 := Lib.hid (show s - tot (turn s (zs.take (k + 1))) = r - (if r < z then r else z) by
            rw [turn_take hz, tot_append, HM.out, min_if, ← HM.out]; simp only [tot]; omega)
          have hq1 : 0 ≤ (if r < z then r else z) := by split <;> omega
          have hq2 : (if r < z then r else z) ≤ 64 := by split <;> omega
          have hy2 : (ints (turn s zs))[k]? = some (.int .i64 (if r < z then r else z)) := by unfold ints; rw [List.getElem?_map, hy]; rfl
          have c2 := (OK.out.cellAt k (by omega)).trans (filled_get (z := .int .i64 0) (List.getElem?_eq_some_iff.1 hy2).1)
          have f2 := OK.out.frozenAt k
          obtain ⟨r1, r2⟩ := OK.out.stored k (.int .i64 (if r < z then r else z))
          rw [filled_put hy2] at r1
          have c3 := (r1.cellAt k (by omega)).trans (show (filled (ints (turn s zs)) (.int .i64 0) (k + 1))[k]? = some (.int .i64 (if r < z then r else z)) by
            unfold filled
            rw [List.getElem?_append_left (by rw [List.length_take, ints_len, turn_len, N.out]; omega), List.getElem?_take_of_lt (by omega)]; exact hy2)
          have R1 := Lib.hid r1
          have BB := Lib.hid (BK.out.grown r2 BK.out.size (fun q hq => by cases hq; exact Nat.le_refl _))
          clear r1 r2 hy hy2 hz OK BK HM R0 B0 hb1 c0
          subst eA
          go_wp2_with fail
          go_roundw
          case rel => exact ⟨k + 1, _, by omega, by go_num, rfl, HM2, R1, BB⟩
          case measure => simp [intOf]; omega
        · obtain rfl : k = n := by omega
          have FL := Lib.hid (show (turn s zs).length = k by rw [turn_len, N.out])
          have OF := Lib.hid (show wr.ownsRow w.heap.size 3 1 (.slice (some ⟨w.heap.size, 0, none⟩) k k) k (ints (turn s zs)) by
            have := OK.out
            rw [show k = (ints (turn s zs)).length by rw [ints_len, FL.out], filled_all, ints_len, FL.out] at this; exact this)
          clear OK R0 B0 hr1 hr2 hlt
          go_wp2_with fail
          go_ret
          rw [F.out]
          refine ⟨w.heap.size, k, ?_, ?_, BK.out⟩
          · rw [FL.out]; rfl
          · rw [FL.out]; exact OF.out
    · have CS := Lib.hid (fun v => isSupply_of (iw_no (x := s) (a := 0) (b := 512) (by omega)) v)
      have F := Lib.hid (inTurn_no (s := s) (zs := zs) (fun c => hs c.2))
      clear hr hn hd hs
      go_enter Try.func30, Try.ntmps30
      go_wp2_with fail
      refine C.out.mono ?_
      rintro e w' ⟨rfl, rfl⟩
      go_wp2_with fail
      refine (CS.out _).mono ?_
      rintro e w' ⟨rfl, rfl⟩
      go_wp2_with fail
      go_ret
      rw [F.out]; exact row_nil w
  · have hd2 : dm zs = false := by simpa using hd
    have C := Lib.hid (demI_of hd2 A n c w.heap.size w N.out hb R.out)
    have F := Lib.hid (inTurn_no (s := s) (zs := zs) (fun c => hd c.1))
    clear hr hn hd hd2
    go_enter Try.func30, Try.ntmps30
    go_wp2_with fail
    refine C.out.mono ?_
    rintro e w' ⟨rfl, rfl⟩
    go_wp2_with fail
    go_ret
    rw [F.out]; exact row_nil w

set_option maxRecDepth 100000 in
set_option maxHeartbeats 2000000 in
theorem serveS (A : Option Addr) (n c : Nat) (zs : List Int) (s : Int) (w : World) (hn : zs.length = n) (hb : n ≤ 1048576) (hr : Rd w w.heap.size A (ints zs)) :
    Calls Try.prog 29 #[.int .i64 s, .slice A n c] w (RowI w (inTurn s zs)) := by
  have R := Lib.hid hr
  have N := Lib.hid hn
  obtain ⟨i0, hi, hz0, hz1, hz2⟩ := info_parts infoI
  by_cases hd : dm zs = true
  · have C := Lib.hid (fun v (h : Rd v w.heap.size A (ints zs)) => demS_of hd A n c w.heap.size v N.out hb h)
    by_cases hs : 0 ≤ s ∧ s ≤ 512
    · have CS := Lib.hid (fun v => l5Supply_of (iw_yes hs) v)
      have D := Lib.hid (dm_iff.1 hd)
      obtain ⟨hs1, hs2⟩ := hs
      have F := Lib.hid (inTurn_yes hd hs1 hs2)
      have hn8 : n ≤ 8 := by have := D.out.1; have := N.out; omega
      have TR := Lib.hid (fun k => turn_rest s (zs.take k) hs1 (okD_take D.out.2 k))
      clear hr hn hd
      go_enter Try.func29, Try.ntmps29
      have O1 := Lib.hid (World.ownsRow_lit (base := w.heap.size) (e := 3) (size := 1) w #[] 0 (Nat.le_refl _) (Nat.zero_le _) rfl)
      have B1 := Lib.hid (alloc1 w (.cells #[] 3))
      have RC := Lib.hid (R.out.below B1.out)
      go_wp2_with fail
      refine (C.out _ RC.out).mono ?_
      rintro e w' ⟨rfl, rfl⟩
      go_wp2_with fail
      refine (CS.out _).mono ?_
      rintro e w' ⟨rfl, rfl⟩
      go_wp2_with fail
      clear C CS RC
      go_loopw [0, 5, 21] (fun q v i wr => ∃ (k : Nat) (r : Int), k ≤ n ∧ i = .int .i64 k ∧ q = .int .i64 r ∧ (∃ b d, v = .slice (some ⟨b, 0, none⟩) k d) ∧ Hid (s - tot (turn s (zs.take k)) = r) ∧ Hid (wr.ownsRow w.heap.size 3 1 v k (ints (turn s (zs.take k)))) ∧ Hid (Below w.heap.size w wr)) (fun _ _ i _ => n - (intOf i).toNat)
      case atStart => exact ⟨0, s, Nat.zero_le _, rfl, rfl, ⟨_, _, rfl⟩, Lib.hid (by show s - tot (turn s []) = s; unfold turn tot; omega), O1, B1⟩
      case round =>
        obtain ⟨k, r, hk, rfl, rfl, ⟨bb, dd, rfl⟩, HM, OK, BK⟩ := hrel
        obtain ⟨hr1, hr2⟩ : 0 ≤ r ∧ r ≤ s := by have := TR.out k; rw [HM.out] at this; exact this
        by_cases hlt : k < n
        · obtain ⟨z, hz⟩ : ∃ z, zs[k]? = some z := ⟨_, List.getElem?_eq_getElem (by rw [N.out]; exact hlt)⟩
          obtain ⟨b1, o1, eA, hb1, c0⟩ := rd_cell R.out hz
          have c1 : wr.cell? ⟨b1, o1 + k, none⟩ = some (.int .i64 z) := (BK.out.cell (p := ⟨b1, o1 + k, none⟩) hb1).trans c0
          obtain ⟨hzz1, hzz2⟩ := D.out.2 z (List.mem_of_getElem? hz)
          obtain ⟨x, hx⟩ : ∃ x, min z r = x := ⟨_, rfl⟩
          have hx1 : 0 ≤ x := by omega
          have hx2 : x ≤ 64 := by omega
          have hx3 : x ≤ r := by omega
          have E0 := turn_take (s := s) hz
          rw [HM.out, hx] at E0
          have HM2 := Lib.hid (show s - tot (turn s (zs.take (k + 1))) = r - x by rw [E0, tot_append, ← HM.out]; simp only [tot]; omega)
          have E := Lib.hid E0.symm
          have CM := Lib.hid (fun v => hx ▸ l1Min z r v)
          have hown := OK.out.alloc
          have HS := Lib.hid (own_base OK.out)
          have HW := Lib.hid BK.out.size
          clear c0 hb1 hz hx O1 B1 E0 HM
          subst eA
          go_wp2_with fail
          refine (CM.out _).mono ?_
          rintro e w' ⟨rfl, rfl⟩
          go_wp2_with (at_builtin; refine wpList_append_own _ rfl _ _ 22 rfl w.heap.size 3 i0 (.int .i64 0) 1 8 Try.underlying22 hi hz0 hz1 hz2 rfl (by decide) _ _ _ rfl (hown _) ⟨wr.heap.size, 0, none⟩ 1 1 [.int .i64 x] rfl rfl (by intro j u hj; match j, hj with | 0, hj => simp at hj; subst hj; simp [Addr.add]) (by intro u hu; simp at hu; subst hu; rfl) (by unfold maxLen; omega) (by omega) (by have := HW.out; simp; omega) ?_; intro v' w5 hown' hgrow hnil)
          rw [ints_snoc, E.out] at hown'
          have hsh := own_mk hown'
          have OO := Lib.hid hown'
          have BB := Lib.hid ((BK.out.alloc BK.out.size _).grown hgrow (by have := HW.out; simp; omega) (fun j hj => HS.out j hj))
          clear hown' hgrow hnil OK BK HS HW hown E CM
          go_wp2_with fail
          go_roundw
          case rel => exact ⟨k + 1, r - x, by omega, by go_num, rfl, hsh, HM2, OO, BB⟩
          case measure => simp [intOf]; omega
        · obtain rfl : k = n := by omega
          have FL := Lib.hid (show (turn s zs).length = k by rw [turn_len, N.out])
          have OF := Lib.hid (show wr.ownsRow w.heap.size 3 1 (.slice (some ⟨bb, 0, none⟩) k dd) k (ints (turn s zs)) by
            have := OK.out
            rwa [← N.out, List.take_length, N.out] at this)
          clear OK O1 B1 hr1 hr2 hlt
          go_wp2_with fail
          go_ret
          rw [F.out]
          refine ⟨bb, dd, ?_, ?_, BK.out⟩
          · rw [FL.out]; rfl
          · rw [FL.out]; exact OF.out
    · have CS := Lib.hid (fun v => l5Supply_of (iw_no (x := s) (a := 0) (b := 512) (by omega)) v)
      have F := Lib.hid (inTurn_no (s := s) (zs := zs) (fun c => hs c.2))
      clear hr hn hd hs
      go_enter Try.func29, Try.ntmps29
      go_wp2_with fail
      refine (C.out _ (R.out.below (alloc1 w _))).mono ?_
      rintro e w' ⟨rfl, rfl⟩
      go_wp2_with fail
      refine (CS.out _).mono ?_
      rintro e w' ⟨rfl, rfl⟩
      go_wp2_with fail
      go_ret
      rw [F.out]; exact row_nil w
  · have hd2 : dm zs = false := by simpa using hd
    have C := Lib.hid (fun v (h : Rd v w.heap.size A (ints zs)) => demS_of hd2 A n c w.heap.size v N.out hb h)
    have F := Lib.hid (inTurn_no (s := s) (zs := zs) (fun c => hd c.1))
    clear hr hn hd hd2
    go_enter Try.func29, Try.ntmps29
    go_wp2_with fail
    refine (C.out _ (R.out.below (alloc1 w _))).mono ?_
    rintro e w' ⟨rfl, rfl⟩
    go_wp2_with fail
    go_ret
    rw [F.out]; exact row_nil w

end Go.Proofs.Ythlcmcpfpblmaaa.Wv
