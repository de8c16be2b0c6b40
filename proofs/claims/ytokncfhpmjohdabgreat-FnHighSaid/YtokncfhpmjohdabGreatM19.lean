/- Water that is shared out, of the program and of the model. -/
import Derived.Test.YtokncfhpmjohdabGreatM18
import Derived.Test.YtokncfhpmjohdabGreatM4
import Derived.Test.YtokncfhpmjohdabGreatM17
import Derived.Deep.RegionHeld3
import Derived.Test.YtokncfhpmjohdabGreatM5
set_option linter.unusedVariables false
set_option linter.unusedSimpArgs false
namespace Go.Proofs.YtokncfhpmjohdabGreat.Wu
open Go.RowKit Go.Proofs.YtokncfhpmjohdabGreat.Mem Go.Proofs.YtokncfhpmjohdabGreat.Dm Go.Proofs.YtokncfhpmjohdabGreat.Ws Go.Proofs.YtokncfhpmjohdabGreat.Wp Go.Proofs.YtokncfhpmjohdabGreat.Wq Go.Proofs.YtokncfhpmjohdabGreat.Wl Go.Proofs.YtokncfhpmjohdabGreat.Rw

set_option linter.unusedVariables false
set_option linter.unusedSimpArgs false

set_option maxRecDepth 100000 in
set_option maxHeartbeats 2000000 in
theorem shareS (A : Option Addr) (n c : Nat) (zs : List Int) (s : Int) (w : World) (hn : zs.length = n) (hb : n ≤ 1048576) (hr : Rd w w.heap.size A (ints zs)) :
    Calls Tryz.prog 120 #[.int .i64 s, .slice A n c] w (RowI w (share s zs)) := by
  have R := Lib.hid hr
  have N := Lib.hid hn
  by_cases hd : dm zs = true
  · have C := Lib.hid (demS_of hd A n c w.heap.size w N.out hb R.out)
    by_cases hs : 0 ≤ s ∧ s ≤ 512
    · have CS := Lib.hid (fun v => l5Supply_of (iw_yes hs) v)
      have LV := Lib.hid (fun (v : World) (h : Rd v v.heap.size A (ints zs)) => levelS A n c zs s v N.out hb h)
      have D := Lib.hid (dm_iff.1 hd)
      have hs1 := hs.1
      have hs2 := hs.2
      have F := Lib.hid (share_yes hd hs.1 hs.2)
      have F0 := Lib.hid (level_yes hd hs.1 hs.2)
      have FIT := Lib.hid (lv_fits (s := s) D.out.2 hs.1 64)
      obtain ⟨l, hl⟩ : ∃ l, lv s zs 64 = l := ⟨_, rfl⟩
      have hl64 : l ≤ 64 := by rw [← hl]; exact lv_le _ _ _
      rw [hl] at F F0 FIT
      rw [F0.out] at LV
      have CUT := Lib.hid (fun (v : World) (h : Rd v v.heap.size A (ints zs)) => (by have := l5Cut A n c zs (l : Int) v N.out hb h; exact this : Calls Tryz.prog _ _ v (RowI v (cut zs (l : Int)))))
      have CLN := Lib.hid (show (cut zs (l : Int)).length = n by rw [cut_len]; exact N.out)
      have CLS := Lib.hid (show (cut zs (l : Int)).length ≤ 8 by rw [cut_len]; exact D.out.1)
      have COK := Lib.hid (cut_ok (l := (l : Int)) D.out.2 (by omega))
      have TS := Lib.hid (tot_small CLS.out COK.out)
      have hn8 : n ≤ 8 := by have := D.out.1; have := N.out; omega
      clear hr hn hd hs hl
      go_enter Tryz.func120, Tryz.ntmps120
      go_wp2_with fail
      refine C.out.mono ?_
      rintro e w' ⟨rfl, rfl⟩
      go_wp2_with fail
      refine (CS.out _).mono ?_
      rintro e w' ⟨rfl, rfl⟩
      go_wp2_with fail
      refine (LV.out _ R.out).mono ?_
      rintro e w1 ⟨rfl, hb1⟩
      have B1 := Lib.hid hb1
      have R1 := Lib.hid ((R.out.below hb1).more hb1.size)
      clear hb1
      go_wp2_with fail
      refine (CUT.out _ R1.out).mono ?_
      rintro e w2 ⟨g, d, rfl, ho, hb2⟩
      rw [CLN.out] at ho
      rw [CLN.out]
      have O2 := Lib.hid ho
      have B2 := Lib.hid (B1.out.trans (hb2.mono B1.out.size))
      have WL := Lib.hid (Nat.le_trans B1.out.size (own_base ho g rfl))
      clear ho hb2 R1 CUT LV
      have S := Lib.hid (show Calls Tryz.prog _ #[.slice (some ⟨g, 0, none⟩) n d] w2 (Num (tot (cut zs (l : Int))) w2) from (sumS (some ⟨g, 0, none⟩) n d (cut zs (l : Int)) _ w2 CLN.out CLS.out COK.out (Rd.own O2.out)).mono (fun e w' k => ⟨k.1, k.2 ▸ Below.refl _ _⟩))
      obtain ⟨t, ht⟩ : ∃ t, tot (cut zs (l : Int)) = t := ⟨_, rfl⟩
      have FT := FIT.out
      have TB := TS.out
      rw [ht] at S FT TB F
      obtain ⟨TB1, TB2⟩ := TB
      clear ht FIT TS
      go_wp2_with fail
      refine S.out.mono ?_
      rintro e w3 ⟨rfl, hb3⟩
      have O3 := Lib.hid (owns_base (owns_below O2.out hb3) WL.out)
      have B3 := Lib.hid (B2.out.trans (hb3.mono B2.out.size))
      clear hb3 O2 B2 B1 S C CS
      go_wp2_with fail
      obtain ⟨r0, hr0⟩ : ∃ r0, s - t = r0 := ⟨_, rfl⟩
      have h0 : 0 ≤ r0 := by omega
      have h5 : r0 ≤ 512 := by omega
      have HR0 := Lib.hid (more_rest (l : Int) r0 zs h0)
      have FR := Lib.hid (show share s zs = (more (l : Int) r0 zs zs.length).1 by rw [← hr0]; exact F.out)
      rw [hr0]
      clear hr0 F FT TB1 TB2
      go_loopw [7, 31] (fun q i wr => ∃ (k : Nat) (r : Int), k ≤ n ∧ i = .int .i64 k ∧ q = .int .i64 r ∧ Hid ((more (l : Int) r0 zs k).2 = r) ∧ Hid (wr.ownsRow w.heap.size 3 1 (.slice (some ⟨g, 0, none⟩) n d) n (ints (more (l : Int) r0 zs k).1)) ∧ Hid (Below w.heap.size w wr)) (fun _ i _ => n - (intOf i).toNat)
      case atStart => exact ⟨0, r0, Nat.zero_le _, rfl, rfl, Lib.hid rfl, O3, B3⟩
      case round =>
        obtain ⟨k, r, hk, rfl, rfl, HM, OK, BK⟩ := hrel
        have hr1 : 0 ≤ r := by have := (HR0.out k).1; rw [HM.out] at this; exact this
        have hr2 : r ≤ 512 := by have := (HR0.out k).2; rw [HM.out] at this; omega
        by_cases hlt : k < n
        · obtain ⟨z, hz⟩ : ∃ z, zs[k]? = some z := ⟨_, List.getElem?_eq_getElem (by rw [N.out]; exact hlt)⟩
          obtain ⟨b1, o1, eA, hb1, c0⟩ := rd_cell R.out hz
          have c1 : wr.cell? ⟨b1, o1 + k, none⟩ = some (.int .i64 z) := (BK.out.cell (p := ⟨b1, o1 + k, none⟩) hb1).trans c0
          obtain ⟨hz1, hz2⟩ := D.out.2 z (List.mem_of_getElem? hz)
          have HZ := Lib.hid hz
          clear c0 hz
          by_cases hlz : (l : Int) < z
          · have d1 : decide ((l : Int) < z) = true := decide_eq_true hlz
            by_cases hrz : 0 < r
            · have d2 : decide (0 < r) = true := decide_eq_true hrz
              have em := more_yes (l := (l : Int)) (r := r0) HZ.out hlz (by rw [HM.out]; exact hrz)
              obtain ⟨x, hx⟩ : ∃ x, min z (l : Int) = x := ⟨_, rfl⟩
              have hx1 : 0 ≤ x := by omega
              have hx2 : x ≤ 64 := by omega
              have hy := more_at (l := (l : Int)) (r := r0) HZ.out
              rw [hx] at em hy
              have hy2 : (ints (more (l : Int) r0 zs k).1)[k]? = some (.int .i64 x) := by unfold ints; rw [List.getElem?_map, hy]; rfl
              have c2 := (OK.out.cellAt k (by omega)).trans hy2
              have f2 := OK.out.frozenAt k
              obtain ⟨r1, r2⟩ := OK.out.stored k (.int .i64 (x + 1))
              have es : (ints (more (l : Int) r0 zs k).1).set k (.int .i64 (x + 1)) = ints (more (l : Int) r0 zs (k + 1)).1 := by rw [em]; unfold ints; rw [List.map_set]
              rw [es] at r1
              have R1 := Lib.hid r1
              have BB := Lib.hid (BK.out.grown r2 BK.out.size (fun q hq => by cases hq; exact WL.out))
              have HM2 := Lib.hid (show (more (l : Int) r0 zs (k + 1)).2 = r - 1 by rw [em, ← HM.out])
              have p1 : b1 < wr.heap.size := World.block_lt_of_cell? wr _ c1
              clear r1 r2 es em hy hy2 hx OK BK HM O3 B3 hlz hrz hb1
              subst eA
              go_wp2_with fail
              go_roundw
              case rel => exact ⟨k + 1, r - 1, by omega, by go_num, rfl, HM2, R1, BB⟩
              case measure => simp [intOf]; omega
            · have d2 : decide (0 < r) = false := decide_eq_false hrz
              have em := more_no (l := (l : Int)) (r := r0) HZ.out (by rw [HM.out]; exact fun c => hrz c.2)
              have HM2 := Lib.hid (show (more (l : Int) r0 zs (k + 1)).2 = r by rw [em, HM.out])
              have R1 := Lib.hid (show wr.ownsRow w.heap.size 3 1 (.slice (some ⟨g, 0, none⟩) n d) n (ints (more (l : Int) r0 zs (k + 1)).1) by rw [em]; exact OK.out)
              clear em OK HM O3 B3 hlz hrz hb1
              subst eA
              go_wp2_with fail
              go_roundw
              case rel => exact ⟨k + 1, r, by omega, by go_num, rfl, HM2, R1, BK⟩
              case measure => simp [intOf]; omega
          · have d1 : decide ((l : Int) < z) = false := decide_eq_false hlz
            have em := more_no (l := (l : Int)) (r := r0) HZ.out (fun c => hlz c.1)
            have HM2 := Lib.hid (show (more (l : Int) r0 zs (k + 1)).2 = r by rw [em, HM.out])
            have R1 := Lib.hid (show wr.ownsRow w.heap.size 3 1 (.slice (some ⟨g, 0, none⟩) n d) n (ints (more (l : Int) r0 zs (k + 1)).1) by rw [em]; exact OK.out)
            clear em OK HM O3 B3 hlz hb1
            subst eA
            by_cases hrz : 0 < r
            all_goals
              go_wp2_with fail
              go_roundw
              case rel => exact ⟨k + 1, r, by omega, by go_num, rfl, HM2, R1, BK⟩
              case measure => simp [intOf]; omega
        · obtain rfl : k = n := by omega
          have FF := Lib.hid (show share s zs = (more (l : Int) r0 zs k).1 by rw [FR.out, N.out])
          have FL := Lib.hid (show (share s zs).length = k by rw [FF.out, more_len, N.out])
          rw [← FF.out] at OK
          clear hr1 hr2 hlt O3 B3
          go_wp2_with fail
          go_ret
          refine ⟨g, d, ?_, ?_, BK.out⟩
          · rw [FL.out]; rfl
          · rw [FL.out]; exact OK.out
    · have CS := Lib.hid (fun v => l5Supply_of (iw_no (x := s) (a := 0) (b := 512) (by omega)) v)
      have F := Lib.hid (share_no (s := s) (zs := zs) (fun c => hs c.2))
      clear hr hn hd hs
      go_enter Tryz.func120, Tryz.ntmps120
      go_wp2_with fail
      refine C.out.mono ?_
      rintro e w' ⟨rfl, rfl⟩
      go_wp2_with fail
      refine (CS.out _).mono ?_
      rintro e w' ⟨rfl, rfl⟩
      go_wp2_with fail
      go_ret
      rw [F.out]; exact row_nil w
  · have hd2 : dm zs = false := by simpa using hd
    have C := Lib.hid (demS_of hd2 A n c w.heap.size w N.out hb R.out)
    have F := Lib.hid (share_no (s := s) (zs := zs) (fun c => hd c.1))
    clear hr hn hd hd2
    go_enter Tryz.func120, Tryz.ntmps120
    go_wp2_with fail
    refine C.out.mono ?_
    rintro e w' ⟨rfl, rfl⟩
    go_wp2_with fail
    go_ret
    rw [F.out]; exact row_nil w

set_option maxRecDepth 100000 in
set_option maxHeartbeats 2000000 in
theorem shareI (A : Option Addr) (n c : Nat) (zs : List Int) (s : Int) (w : World) (hn : zs.length = n) (hb : n ≤ 1048576) (hr : Rd w w.heap.size A (ints zs)) :
    Calls Tryz.prog 66 #[.int .i64 s, .slice A n c] w (RowI w (share s zs)) := by
  have R := Lib.hid hr
  have N := Lib.hid hn
  by_cases hd : dm zs = true
  · have C := Lib.hid (demI_of hd A n c w.heap.size w N.out hb R.out)
    by_cases hs : 0 ≤ s ∧ s ≤ 512
    · have CS := Lib.hid (fun v => isSupply_of (iw_yes hs) v)
      have LV := Lib.hid (fun (v : World) (h : Rd v v.heap.size A (ints zs)) => levelI A n c zs s v N.out hb h)
      have D := Lib.hid (dm_iff.1 hd)
      have hs1 := hs.1
      have hs2 := hs.2
      have F := Lib.hid (share_yes hd hs.1 hs.2)
      have F0 := Lib.hid (level_yes hd hs.1 hs.2)
      have FIT := Lib.hid (lv_fits (s := s) D.out.2 hs.1 64)
      obtain ⟨l, hl⟩ : ∃ l, lv s zs 64 = l := ⟨_, rfl⟩
      have hl64 : l ≤ 64 := by rw [← hl]; exact lv_le _ _ _
      rw [hl] at F F0 FIT
      rw [F0.out] at LV
      have CUT := Lib.hid (fun (v : World) (h : Rd v v.heap.size A (ints zs)) => (by have := cutI A n c zs (l : Int) v N.out hb h; rw [cutB_yes hd (by omega)] at this; exact this : Calls Tryz.prog _ _ v (RowI v (cut zs (l : Int)))))
      have CLN := Lib.hid (show (cut zs (l : Int)).length = n by rw [cut_len]; exact N.out)
      have CLS := Lib.hid (show (cut zs (l : Int)).length ≤ 8 by rw [cut_len]; exact D.out.1)
      have COK := Lib.hid (cut_ok (l := (l : Int)) D.out.2 (by omega))
      have TS := Lib.hid (tot_small CLS.out COK.out)
      have hn8 : n ≤ 8 := by have := D.out.1; have := N.out; omega
      clear hr hn hd hs hl
      go_enter Tryz.func66, Tryz.ntmps66
      go_wp2_with fail
      refine C.out.mono ?_
      rintro e w' ⟨rfl, rfl⟩
      go_wp2_with fail
      refine (CS.out _).mono ?_
      rintro e w' ⟨rfl, rfl⟩
      go_wp2_with fail
      refine (LV.out _ R.out).mono ?_
      rintro e w1 ⟨rfl, hb1⟩
      have B1 := Lib.hid hb1
      have R1 := Lib.hid ((R.out.below hb1).more hb1.size)
      clear hb1
      go_wp2_with fail
      refine (CUT.out _ R1.out).mono ?_
      rintro e w2 ⟨g, d, rfl, ho, hb2⟩
      rw [CLN.out] at ho
      rw [CLN.out]
      have O2 := Lib.hid ho
      have B2 := Lib.hid (B1.out.trans (hb2.mono B1.out.size))
      have WL := Lib.hid (Nat.le_trans B1.out.size (own_base ho g rfl))
      clear ho hb2 R1 CUT LV
      have S := Lib.hid (show Calls Tryz.prog _ #[.slice (some ⟨g, 0, none⟩) n d] w2 (Num (tot (cut zs (l : Int))) w2) from (by have := totI (some ⟨g, 0, none⟩) n d (cut zs (l : Int)) w2 CLN.out hb (Rd.own O2.out); rw [totB_yes (dm_yes CLS.out COK.out)] at this; exact this))
      obtain ⟨t, ht⟩ : ∃ t, tot (cut zs (l : Int)) = t := ⟨_, rfl⟩
      have FT := FIT.out
      have TB := TS.out
      rw [ht] at S FT TB F
      obtain ⟨TB1, TB2⟩ := TB
      clear ht FIT TS
      go_wp2_with fail
      refine S.out.mono ?_
      rintro e w3 ⟨rfl, hb3⟩
      have O3 := Lib.hid (owns_base (owns_below O2.out hb3) WL.out)
      have B3 := Lib.hid (B2.out.trans (hb3.mono B2.out.size))
      clear hb3 O2 B2 B1 S C CS
      go_wp2_with fail
      obtain ⟨r0, hr0⟩ : ∃ r0, s - t = r0 := ⟨_, rfl⟩
      have h0 : 0 ≤ r0 := by omega
      have h5 : r0 ≤ 512 := by omega
      have HR0 := Lib.hid (more_rest (l : Int) r0 zs h0)
      have FR := Lib.hid (show share s zs = (more (l : Int) r0 zs zs.length).1 by rw [← hr0]; exact F.out)
      rw [hr0]
      clear hr0 F FT TB1 TB2
      go_loopw [7, 31] (fun q i wr => ∃ (k : Nat) (r : Int), k ≤ n ∧ i = .int .i64 k ∧ q = .int .i64 r ∧ Hid ((more (l : Int) r0 zs k).2 = r) ∧ Hid (wr.ownsRow w.heap.size 3 1 (.slice (some ⟨g, 0, none⟩) n d) n (ints (more (l : Int) r0 zs k).1)) ∧ Hid (Below w.heap.size w wr)) (fun _ i _ => n - (intOf i).toNat)
      case atStart => exact ⟨0, r0, Nat.zero_le _, rfl, rfl, Lib.hid rfl, O3, B3⟩
      case round =>
        obtain ⟨k, r, hk, rfl, rfl, HM, OK, BK⟩ := hrel
        have hr1 : 0 ≤ r := by have := (HR0.out k).1; rw [HM.out] at this; exact this
        have hr2 : r ≤ 512 := by have := (HR0.out k).2; rw [HM.out] at this; omega
        by_cases hlt : k < n
        · obtain ⟨z, hz⟩ : ∃ z, zs[k]? = some z := ⟨_, List.getElem?_eq_getElem (by rw [N.out]; exact hlt)⟩
          obtain ⟨b1, o1, eA, hb1, c0⟩ := rd_cell R.out hz
          have c1 : wr.cell? ⟨b1, o1 + k, none⟩ = some (.int .i64 z) := (BK.out.cell (p := ⟨b1, o1 + k, none⟩) hb1).trans c0
          obtain ⟨hz1, hz2⟩ := D.out.2 z (List.mem_of_getElem? hz)
          have HZ := Lib.hid hz
          clear c0 hz
          by_cases hlz : (l : Int) < z
          · have d1 : decide ((l : Int) < z) = true := decide_eq_true hlz
            by_cases hrz : 0 < r
            · have d2 : decide (0 < r) = true := decide_eq_true hrz
              have em := more_yes (l := (l : Int)) (r := r0) HZ.out hlz (by rw [HM.out]; exact hrz)
              obtain ⟨x, hx⟩ : ∃ x, min z (l : Int) = x := ⟨_, rfl⟩
              have hx1 : 0 ≤ x := by omega
              have hx2 : x ≤ 64 := by omega
              have hy := more_at (l := (l : Int)) (r := r0) HZ.out
              rw [hx] at em hy
              have hy2 : (ints (more (l : Int) r0 zs k).1)[k]? = some (.int .i64 x) := by unfold ints; rw [List.getElem?_map, hy]; rfl
              have c2 := (OK.out.cellAt k (by omega)).trans hy2
              have f2 := OK.out.frozenAt k
              obtain ⟨r1, r2⟩ := OK.out.stored k (.int .i64 (x + 1))
              have es : (ints (more (l : Int) r0 zs k).1).set k (.int .i64 (x + 1)) = ints (more (l : Int) r0 zs (k + 1)).1 := by rw [em]; unfold ints; rw [List.map_set]
              rw [es] at r1
              have R1 := Lib.hid r1
              have BB := Lib.hid (BK.out.grown r2 BK.out.size (fun q hq => by cases hq; exact WL.out))
              have HM2 := Lib.hid (show (more (l : Int) r0 zs (k + 1)).2 = r - 1 by rw [em, ← HM.out])
              have p1 : b1 < wr.heap.size := World.block_lt_of_cell? wr _ c1
              clear r1 r2 es em hy hy2 hx OK BK HM O3 B3 hlz hrz hb1
              subst eA
              go_wp2_with fail
              go_roundw
              case rel => exact ⟨k + 1, r - 1, by omega, by go_num, rfl, HM2, R1, BB⟩
              case measure => simp [intOf]; omega
            · have d2 : decide (0 < r) = false := decide_eq_false hrz
              have em := more_no (l := (l : Int)) (r := r0) HZ.out (by rw [HM.out]; exact fun c => hrz c.2)
              have HM2 := Lib.hid (show (more (l : Int) r0 zs (k + 1)).2 = r by rw [em, HM.out])
              have R1 := Lib.hid (show wr.ownsRow w.heap.size 3 1 (.slice (some ⟨g, 0, none⟩) n d) n (ints (more (l : Int) r0 zs (k + 1)).1) by rw [em]; exact OK.out)
              clear em OK HM O3 B3 hlz hrz hb1
              subst eA
              go_wp2_with fail
              go_roundw
              case rel => exact ⟨k + 1, r, by omega, by go_num, rfl, HM2, R1, BK⟩
              case measure => simp [intOf]; omega
          · have d1 : decide ((l : Int) < z) = false := decide_eq_false hlz
            have em := more_no (l := (l : Int)) (r := r0) HZ.out (fun c => hlz c.1)
            have HM2 := Lib.hid (show (more (l : Int) r0 zs (k + 1)).2 = r by rw [em, HM.out])
            have R1 := Lib.hid (show wr.ownsRow w.heap.size 3 1 (.slice (some ⟨g, 0, none⟩) n d) n (ints (more (l : Int) r0 zs (k + 1)).1) by rw [em]; exact OK.out)
            clear em OK HM O3 B3 hlz hb1
            subst eA
            by_cases hrz : 0 < r
            all_goals
              go_wp2_with fail
              go_roundw
              case rel => exact ⟨k + 1, r, by omega, by go_num, rfl, HM2, R1, BK⟩
              case measure => simp [intOf]; omega
        · obtain rfl : k = n := by omega
          have FF := Lib.hid (show share s zs = (more (l : Int) r0 zs k).1 by rw [FR.out, N.out])
          have FL := Lib.hid (show (share s zs).length = k by rw [FF.out, more_len, N.out])
          rw [← FF.out] at OK
          clear hr1 hr2 hlt O3 B3
          go_wp2_with fail
          go_ret
          refine ⟨g, d, ?_, ?_, BK.out⟩
          · rw [FL.out]; rfl
          · rw [FL.out]; exact OK.out
    · have CS := Lib.hid (fun v => isSupply_of (iw_no (x := s) (a := 0) (b := 512) (by omega)) v)
      have F := Lib.hid (share_no (s := s) (zs := zs) (fun c => hs c.2))
      clear hr hn hd hs
      go_enter Tryz.func66, Tryz.ntmps66
      go_wp2_with fail
      refine C.out.mono ?_
      rintro e w' ⟨rfl, rfl⟩
      go_wp2_with fail
      refine (CS.out _).mono ?_
      rintro e w' ⟨rfl, rfl⟩
      go_wp2_with fail
      go_ret
      rw [F.out]; exact row_nil w
  · have hd2 : dm zs = false := by simpa using hd
    have C := Lib.hid (demI_of hd2 A n c w.heap.size w N.out hb R.out)
    have F := Lib.hid (share_no (s := s) (zs := zs) (fun c => hd c.1))
    clear hr hn hd hd2
    go_enter Tryz.func66, Tryz.ntmps66
    go_wp2_with fail
    refine C.out.mono ?_
    rintro e w' ⟨rfl, rfl⟩
    go_wp2_with fail
    go_ret
    rw [F.out]; exact row_nil w

end Go.Proofs.YtokncfhpmjohdabGreat.Wu
namespace Go.Proofs.YtokncfhpmjohdabGreat.Oi7
open Go.RowKit Go.ChangeShapes Go.WideShapes Go.WideElems Go.Deep Go.Proofs.YtokncfhpmjohdabGreat.Mem Go.Proofs.YtokncfhpmjohdabGreat.Rw Go.Proofs.YtokncfhpmjohdabGreat.P2 Go.Proofs.YtokncfhpmjohdabGreat.Cd Go.Proofs.YtokncfhpmjohdabGreat.Cv Go.Proofs.YtokncfhpmjohdabGreat.Cl Go.Proofs.YtokncfhpmjohdabGreat.Cs
set_option linter.unusedVariables false
set_option linter.unusedSimpArgs false
open Go.Proofs.YtokncfhpmjohdabGreat.Sd Go.Proofs.YtokncfhpmjohdabGreat.Tn Go.Proofs.YtokncfhpmjohdabGreat.Oc Go.Proofs.YtokncfhpmjohdabGreat.Si7 Go.Proofs.YtokncfhpmjohdabGreat.Strs
open Go.Proofs.YtokncfhpmjohdabGreat.Rw (owns_below owns_grown)

set_option maxHeartbeats 4000000 in
set_option maxRecDepth 100000 in
theorem onlyI (A : Option Addr) (n0 c9 : Nat) (zs : List C) (B : Option Addr) (m0 c8 : Nat) (ss : List ByteArray) (w : World) (hn : zs.length = n0) (hb : n0 ≤ 1048576) (hm : ss.length = m0) (hb2 : m0 ≤ 1048576) (hr : Rd w w.heap.size A (dls zs)) (hs : Rd w w.heap.size B (strs ss)) :
    Calls Tryz.prog 29 #[.slice A n0 c9, .slice B m0 c8] w (RowC w (only zs ss)) := by
  have hu : undef = Value.tuple #[] := rfl
  have HR := Lib.hid hr
  have HN := Lib.hid hn
  have HM := Lib.hid hm
  have HT := Lib.hid hs
  have CS := Lib.hid (fun (W : World) (hW : Below w.heap.size w W) => scoreI A n0 c9 zs W hn hb ((hr.below hW).more hW.size))
  have R0 := Lib.hid (World.ownsRow_lit (base := w.heap.size) (e := 63) (size := 4) w #[] 0 (Nat.le_refl _) (Nat.zero_le _) rfl)
  have B0 := Lib.hid (show Below w.heap.size w (w.alloc (.cells #[] 63)) from (Below.refl _ _).alloc (Nat.le_refl _) _)
  obtain ⟨i0, hi, hz0, hz1, hz2⟩ := info_of infoD
  obtain ⟨sc, hsc⟩ : ∃ r, score zs = r := ⟨_, rfl⟩
  rw [hsc] at CS
  have HSC := Lib.hid hsc
  clear hr hn hm hs hsc
  cases sc
  · go_enter Tryz.func29, Tryz.ntmps29
    go_wp2_with fail
    refine (CS.out _ B0.out).mono ?_
    rintro e w2 ⟨rfl, hb9⟩
    have B2 := Lib.hid (B0.out.trans (hb9.mono B0.out.size))
    have R2 := Lib.hid (owns_below R0.out hb9)
    clear hb9
    go_wp2_with fail
    go_returns
    rw [only_no HSC.out]
    exact ⟨_, _, rfl, R2.out, B2.out⟩
  have HONLY := Lib.hid (only_yes HSC.out ss)
  go_enter Tryz.func29, Tryz.ntmps29
  go_wp2_with fail
  refine (CS.out _ B0.out).mono ?_
  rintro e w2 ⟨rfl, hb9⟩
  have B2 := Lib.hid (B0.out.trans (hb9.mono B0.out.size))
  have R2 := Lib.hid (owns_below R0.out hb9)
  clear hb9 B0 R0 CS
  go_wp2_with fail
  go_loopw [5, 15] (fun v i wr => ∃ k : Nat, k ≤ n0 ∧ ((pick (zs.take k) ss)).length ≤ k ∧ i = .int .i64 k ∧ (∃ g c, v = .slice (some ⟨g, 0, none⟩) ((pick (zs.take k) ss)).length c) ∧ Hid (wr.ownsRow w.heap.size 63 4 v ((pick (zs.take k) ss)).length (dls (pick (zs.take k) ss))) ∧ Hid (Below w.heap.size w wr)) (fun _ i _ => n0 - (intOf i).toNat)
  case atStart => exact ⟨0, Nat.zero_le _, Nat.zero_le _, rfl, ⟨_, _, rfl⟩, R2, B2⟩
  case round =>
    obtain ⟨k, hk, hlk, rfl, ⟨gb, gc, rfl⟩, RK, BK⟩ := hrel
    clear R2 B2
    have hsw : w.heap.size ≤ wr.heap.size := BK.out.size
    obtain ⟨L, hL⟩ : ∃ L, (pick (zs.take k) ss) = L := ⟨_, rfl⟩
    rw [hL] at RK hlk
    rw [hL]
    have HL := Lib.hid hL
    clear hL
    obtain ⟨q, hq⟩ : ∃ q, L.length = q := ⟨_, rfl⟩
    rw [hq] at RK hlk
    rw [hq]
    have HQ := Lib.hid hq
    clear hq
    by_cases hlt : k < n0
    · obtain ⟨z, hz⟩ : ∃ z, zs[k]? = some z := ⟨_, List.getElem?_eq_getElem (by rw [HN.out]; exact hlt)⟩
      have HZ := Lib.hid hz
      have RW := Lib.hid (HR.out.below BK.out)
      have TW := Lib.hid (HT.out.below BK.out)
      obtain ⟨hq9, hhq⟩ : ∃ r, hasN ss z.nm = r := ⟨_, rfl⟩
      have HHQ := Lib.hid hhq
      obtain ⟨t, n, l, r⟩ := z
      obtain ⟨b, o, eA, hbl, hcell⟩ := RW.out.get (k := k * 4) (by rw [dls_len, HN.out]; omega)
      have zz := dls_get hz
      simp only [] at hhq HHQ
      have c0 := hcell _ _ zz.1
      have c1 := hcell _ _ zz.2.1
      rw [← Nat.add_assoc] at c1
      have c2 := hcell _ _ zz.2.2.1
      rw [← Nat.add_assoc] at c2
      have c3 := hcell _ _ zz.2.2.2
      rw [← Nat.add_assoc] at c3
      clear hcell zz hz hbl
      subst eA
      have CT := Lib.hid (fun (W : World) (hW : Below wr.heap.size wr W) => contains B m0 c8 ss n wr.heap.size W HM.out hb2 ((TW.out.more BK.out.size).below hW))
      rw [hhq] at CT
      clear hhq
      cases hq9
      · have HP := Lib.hid (show pick (zs.take (k + 1)) ss = L by rw [← HL.out]; exact pick_no HZ.out HHQ.out)
        go_wp2_with fail
        refine (CT.out _ (by go_grown)).mono ?_
        rintro e w3 ⟨rfl, m9, rfl⟩
        have R3 := Lib.hid (own_drewN m9 (show (wr.alloc (.cells (ca t n l r) 63)).ownsRow w.heap.size 63 4 (.slice (some ⟨gb, 0, none⟩) q gc) q (dls L) from by repeat (first | with_reducible exact RK.out | refine World.ownsRow.alloc ?_ _ | refine own_drew ?_)))
        have B3 := Lib.hid (below_drewN (BK.out.alloc BK.out.size (.cells (ca t n l r) 63)) m9)
        go_wp2_with fail
        go_roundw
        case rel => first | exact ⟨k + 1, by omega, by rw [HP.out, HQ.out]; omega, by go_num, ⟨_, _, by rw [HP.out, HQ.out]⟩, by rw [HP.out, HQ.out]; exact R3, B3⟩ | ((repeat apply Exists.intro); exact ⟨⟨k + 1, by omega, by rw [HP.out, HQ.out]; omega, by go_num, ⟨_, _, by rw [HP.out, HQ.out]⟩, by rw [HP.out, HQ.out]; exact R3, B3⟩, rfl⟩)
        case measure => simp [intOf]; omega
      · have HP := Lib.hid (show pick (zs.take (k + 1)) ss = L ++ [⟨t, n, l, r⟩] by rw [← HL.out]; exact pick_yes HZ.out HHQ.out)
        have HPL := Lib.hid (show (pick (zs.take (k + 1)) ss).length = q + 1 by rw [HP.out, List.length_append, HQ.out]; rfl)
        go_wp2_with fail
        refine (CT.out _ (by go_grown)).mono ?_
        rintro e w3 ⟨rfl, m9, rfl⟩
        have R3 := Lib.hid (own_drewN m9 (show (wr.alloc (.cells (ca t n l r) 63)).ownsRow w.heap.size 63 4 (.slice (some ⟨gb, 0, none⟩) q gc) q (dls L) from by repeat (first | with_reducible exact RK.out | refine World.ownsRow.alloc ?_ _ | refine own_drew ?_)))
        have B3 := Lib.hid (below_drewN (BK.out.alloc BK.out.size (.cells (ca t n l r) 63)) m9)
        have k0 : ((wr.alloc (.cells (ca t n l r) 63)).drewN m9).cell? ⟨wr.heap.size, 0, none⟩ = some (.int .i64 t) := cell_here (W := wr) rfl
        have k1 : ((wr.alloc (.cells (ca t n l r) 63)).drewN m9).cell? ⟨wr.heap.size, 1, none⟩ = some (.string n) := cell_here (W := wr) rfl
        have k2 : ((wr.alloc (.cells (ca t n l r) 63)).drewN m9).cell? ⟨wr.heap.size, 2, none⟩ = some (.int .i64 l) := cell_here (W := wr) rfl
        have k3 : ((wr.alloc (.cells (ca t n l r) 63)).drewN m9).cell? ⟨wr.heap.size, 3, none⟩ = some (.int .i64 r) := cell_here (W := wr) rfl
        have HW := Lib.hid (show wr.heap.size + 1 = ((wr.alloc (.cells (ca t n l r) 63)).drewN m9).heap.size by simp)
        generalize ((wr.alloc (.cells (ca t n l r) 63)).drewN m9) = w4 at *
        have hown := R3.out.alloc
        clear CT RK BK
        go_wp2_with (at_builtin; refine wpList_append_own _ rfl _ _ 25 rfl w.heap.size 63 i0 (.agg #[.int .i64 0, .string ⟨#[]⟩, .int .i64 0, .int .i64 0]) 4 40 Tryz.underlying25 hi hz0 hz1 hz2 rfl (by decide) _ _ _ rfl (hown _) ⟨w4.heap.size, 0, none⟩ 1 1 [.int .i64 t, .string n, .int .i64 l, .int .i64 r] rfl rfl (by intro j u hj; match j, hj with | 0, hj => (simp at hj; subst hj; simp [Addr.add]) | 1, hj => (simp at hj; subst hj; simp [Addr.add]) | 2, hj => (simp at hj; subst hj; simp [Addr.add]) | 3, hj => (simp at hj; subst hj; simp [Addr.add])) (by intro u hu9; simp at hu9; rcases hu9 with rfl | rfl | rfl | rfl <;> rfl) (by unfold maxLen; omega) (by omega) (by have := B3.out.size; simp; omega) ?_; intro v' w5 hown' hgrow hnil)
        rw [show dls L ++ [.int .i64 t, .string n, .int .i64 l, .int .i64 r] = dls (pick (zs.take (k + 1)) ss) by rw [HP.out]; exact dls_snoc _ ⟨t, n, l, r⟩] at hown'
        obtain ⟨g5, c5, rfl⟩ := own_mk hown'
        have R6 := Lib.hid hown'
        have B6 := Lib.hid ((B3.out.alloc B3.out.size _).grown hgrow (by have := B3.out.size; simp; omega) (fun j hj => own_base R3.out j hj))
        clear hown' hgrow hnil hown R3 B3 HW k0 k1 k2 k3
        go_wp2_with fail
        go_roundw
        case rel => first | exact ⟨k + 1, by omega, by rw [HPL.out]; omega, by go_num, ⟨_, _, by rw [HPL.out]⟩, by rw [HPL.out]; exact R6, B6⟩ | ((repeat apply Exists.intro); exact ⟨⟨k + 1, by omega, by rw [HPL.out]; omega, by go_num, ⟨_, _, by rw [HPL.out]⟩, by rw [HPL.out]; exact R6, B6⟩, rfl⟩)
        case measure => simp [intOf]; omega
    · obtain rfl : k = n0 := by omega
      have HF := Lib.hid (show only zs ss = L by rw [HONLY.out, ← HL.out, List.take_of_length_le (by rw [HN.out]; exact Nat.le_refl _)])
      go_wp2_with fail
      go_returns
      rw [HF.out]
      exact ⟨gb, gc, by rw [HQ.out]; first | done | rfl, by rw [HQ.out]; exact RK.out, BK.out⟩
end Go.Proofs.YtokncfhpmjohdabGreat.Oi7
namespace Go.Proofs.YtokncfhpmjohdabGreat.Li7
open Go.RowKit Go.ChangeShapes Go.WideShapes Go.WideElems Go.Deep Go.Proofs.YtokncfhpmjohdabGreat.Mem Go.Proofs.YtokncfhpmjohdabGreat.Rw Go.Proofs.YtokncfhpmjohdabGreat.P2 Go.Proofs.YtokncfhpmjohdabGreat.Cd Go.Proofs.YtokncfhpmjohdabGreat.Cv Go.Proofs.YtokncfhpmjohdabGreat.Cl Go.Proofs.YtokncfhpmjohdabGreat.Cs
set_option linter.unusedVariables false
set_option linter.unusedSimpArgs false
open Go.Proofs.YtokncfhpmjohdabGreat.Sd Go.Proofs.YtokncfhpmjohdabGreat.Tn Go.Proofs.YtokncfhpmjohdabGreat.Oc Go.Proofs.YtokncfhpmjohdabGreat.Ld Go.Proofs.YtokncfhpmjohdabGreat.Hc Go.Proofs.YtokncfhpmjohdabGreat.Oi7 Go.Proofs.YtokncfhpmjohdabGreat.RampAt
open Go.Proofs.YtokncfhpmjohdabGreat.Rw (owns_below owns_grown grown_trans grown_refl)

theorem below_grown {w w' : World} {r : Option Nat} (h : Below w.heap.size w w') : w.grownBy w' r := ⟨h.os, h.tape, h.output, h.size, fun j hj _ => h.block j hj⟩
theorem rd_one (W : World) (s : ByteArray) : Rd (W.alloc (.cells #[.string s] 9)) (W.alloc (.cells #[.string s] 9)).heap.size (some ⟨W.heap.size, 0, none⟩) (Strs.strs [s]) := by
  refine Or.inr ⟨W.heap.size, 0, rfl, by simp, fun j v hj => ?_⟩
  match j, hj with
  | 0, hj => simp [Strs.strs] at hj; subst hj; exact cell_here rfl

set_option maxHeartbeats 4000000 in
set_option maxRecDepth 100000 in
theorem levelI (A : Option Addr) (n0 c9 : Nat) (zs : List C) (s : ByteArray) (t : Int) (w : World) (hn : zs.length = n0) (hb : n0 ≤ 1048576) (wt : (Lit.int .i64 t).wf = true) (hr : Rd w w.heap.size A (dls zs)) :
    Calls Tryz.prog 10 #[.slice A n0 c9, .string s, .int .i64 t] w fun e w' => e = .returned (.int .i64 (levV zs s t)) ∧ Below w.heap.size w w' := by
  have hu : undef = Value.tuple #[] := rfl
  have hwt := bounds_i64 wt
  obtain ⟨ys, hys⟩ : ∃ ys, only zs [s] = ys := ⟨_, rfl⟩
  have HA := Lib.hid (hys ▸ only_all zs [s] : ∀ x ∈ ys, cB x = true)
  have HL := Lib.hid (show ys.length ≤ 1048576 by rw [← hys]; have := only_len zs [s]; omega)
  have HV := Lib.hid (show levV zs s t = levP t ys by unfold levV; rw [hys])
  obtain ⟨W1, hW1⟩ : ∃ W, w.alloc (.cells #[.int .i64 0, .int .i64 0, .int .i64 0, .int .i64 0] 59) = W := ⟨_, rfl⟩
  have P1 : Below w.heap.size w W1 := by rw [← hW1]; exact (Below.refl _ _).alloc (Nat.le_refl _) _
  have s1 : W1.heap.size = w.heap.size + 1 := by rw [← hW1]; simp
  have H1 : R4 W1 w.heap.size (.int .i64 0) (.int .i64 0) (.int .i64 0) (.int .i64 0) := by rw [← hW1]; exact R4.new _ _ _ _ _ _
  have P2 := P1.alloc P1.size (.cells #[.string s] 9)
  have HI := H1.alloc (.cells #[.string s] 9)
  have CO := (onlyI A n0 c9 zs (some ⟨W1.heap.size, 0, none⟩) 1 1 [s] (W1.alloc (.cells #[.string s] 9)) hn hb rfl (by omega) ((hr.below P2).more P2.size) (rd_one W1 s))
  rw [hys, s1] at CO
  have HI := Lib.hid HI
  have P2 := Lib.hid P2
  clear hr hn hys P1 H1 s1
  subst hW1
  have CO := Lib.hid CO
  go_enter Tryz.func10, Tryz.ntmps10
  go_wp2_with fail
  refine CO.out.mono ?_
  rintro e w2 ⟨g, c, rfl, ho, hb2⟩
  obtain ⟨m, hm⟩ : ∃ m, ys.length = m := ⟨_, rfl⟩
  have HM := Lib.hid hm
  rw [hm] at ho HL ⊢
  have hml := HL.out
  have R2 := Lib.hid (show R4 w2 w.heap.size _ _ _ _ from HI.out.below hb2)
  have B2 := Lib.hid (P2.out.trans (hb2.mono P2.out.size))
  have hgw : w.heap.size < g := by have := (ho.lt g rfl).1; have := HI.out.lt; omega
  have RO := Lib.hid ho
  clear ho hb2 hm HI P2 CO HL
  go_wp2_with fail
  go_loopw [16] (fun i wr => ∃ k : Nat, k ≤ m ∧ i = .int .i64 k ∧ Hid (R4 wr w.heap.size (.int .i64 (reach t (ys.take k)).1) (.int .i64 (reach t (ys.take k)).2.lv) (.int .i64 (reach t (ys.take k)).2.tk) (.int .i64 (reach t (ys.take k)).2.rp)) ∧ Hid (w2.grownBy wr (some w.heap.size))) (fun i _ => m - (intOf i).toNat)
  case atStart => exact ⟨0, Nat.zero_le _, rfl, R2, Lib.hid (grown_refl _ _)⟩
  case round =>
    obtain ⟨k, hk, rfl, RK, GK⟩ := hrel
    clear R2
    obtain ⟨u, hu9⟩ : ∃ u, reach t (ys.take k) = u := ⟨_, rfl⟩
    have TU := Lib.hid (hu9 ▸ reach_tame t _ (fun x hx => HA.out x (List.mem_of_mem_take hx)) : Tame t u)
    rw [hu9] at RK
    have HU := Lib.hid hu9
    clear hu9
    obtain ⟨lv9, ⟨lt, ln, ll, lr⟩⟩ := u
    simp only [] at RK
    have tm := TU.out
    simp only [Tame] at tm
    have hq : w.heap.size < wr.heap.size := RK.out.lt
    have k0 := RK.out.c0
    have k1 := RK.out.c1
    have k2 := RK.out.c2
    have k3 := RK.out.c3
    by_cases hlt : k < m
    · obtain ⟨z, hz⟩ : ∃ z, ys[k]? = some z := ⟨_, List.getElem?_eq_getElem (by rw [HM.out]; exact hlt)⟩
      have HZ := Lib.hid hz
      have RW := Rd.own (owns_grown RO.out GK.out (fun q hq => by cases hq; intro h2; cases h2; exact absurd hgw (Nat.lt_irrefl _)))
      have hcb := cB_in (HA.out z (mem_at hz))
      have HS2 := Lib.hid (show reach t (ys.take (k + 1)) = stepC t (lv9, ⟨lt, ln, ll, lr⟩) z by
        obtain ⟨hk', e⟩ := List.getElem?_eq_some_iff.1 hz
        rw [List.take_succ_eq_append_getElem hk', reach_snoc, HU.out, e])
      obtain ⟨t1, n, l, r⟩ := z
      obtain ⟨b, o, eA, hbl, hcell⟩ := RW.get (k := k * 4) (by rw [dls_len, HM.out]; omega)
      have zz := dls_get hz
      simp only [] at hcb
      have c0 := hcell _ _ zz.1
      have c1 := hcell _ _ zz.2.1
      rw [← Nat.add_assoc] at c1
      have c2 := hcell _ _ zz.2.2.1
      rw [← Nat.add_assoc] at c2
      have c3 := hcell _ _ zz.2.2.2
      rw [← Nat.add_assoc] at c3
      injection eA with eA
      injection eA with e1 e2 e3
      subst e1 e2
      simp only [Nat.zero_add] at c0 c1 c2 c3
      clear hcell zz hz hbl RW
      have WA := Lib.hid (RK.out.alloc (.cells (ca t1 n l r) 63))
      have GA := Lib.hid (grown_trans GK.out (World.grownBy_alloc wr (.cells (ca t1 n l r) 63) (some w.heap.size)))
      by_cases htk : t1 ≤ t
      · have HP := Lib.hid (show reach t (ys.take (k + 1)) = (level lv9 ll (t1 - lt) lr, ⟨t1, n, l, r⟩) by rw [HS2.out, step_yes _ htk])
        have CR := interruptedI lv9 ll lt lr t1 n l r (IntWalk.wrap64_in _ (by omega)) (wf64 (by omega) (by omega)) (wf64 (by omega) (by omega))
        obtain ⟨v, hv⟩ : ∃ v, level lv9 ll (t1 - lt) lr = v := ⟨_, rfl⟩
        rw [hv] at CR HP
        have CR := Lib.hid CR
        clear hv tm hcb
        go_wp2_with fail
        refine (CR.out _).mono ?_
        rintro e w3 ⟨rfl, hb3⟩
        have W3 := Lib.hid (WA.out.below hb3)
        have G3 := Lib.hid (grown_trans GA.out (below_grown (r := some w.heap.size) hb3))
        clear hb3 WA GA RK GK c0 c1 c2 c3 k0 k1 k2 k3 hq
        have RZ := Lib.hid (W3.out.put (.int .i64 v) (.int .i64 l) (.int .i64 t1) (.int .i64 r))
        have GZ := Lib.hid (grown_trans G3.out (put_grown w3 w.heap.size (.int .i64 v) (.int .i64 l) (.int .i64 t1) (.int .i64 r)))
        have k0 := W3.out.c0
        have k1 := W3.out.c1
        have k2 := W3.out.c2
        have k3 := W3.out.c3
        have f0 := W3.out.f0
        have f1 := W3.out.f1
        have f2 := W3.out.f2
        have f3 := W3.out.f3
        clear W3 G3
        go_wp2_with fail
        go_roundw
        case rel => first | exact ⟨k + 1, by omega, by go_num, by rw [HP.out]; exact RZ, GZ⟩ | ((repeat apply Exists.intro); exact ⟨⟨k + 1, by omega, by go_num, by rw [HP.out]; exact RZ, GZ⟩, rfl⟩)
        case measure => simp [intOf]; omega
      · have HP := Lib.hid (show reach t (ys.take (k + 1)) = (lv9, ⟨lt, ln, ll, lr⟩) by rw [HS2.out, step_no _ htk])
        have RZ := WA
        have GZ := GA
        have ht0 : decide (t1 ≤ t) = false := decide_eq_false htk
        clear k0 k1 k2 k3 tm
        go_wp2_with fail
        go_roundw
        case rel => first | exact ⟨k + 1, by omega, by go_num, by rw [HP.out]; exact RZ, GZ⟩ | ((repeat apply Exists.intro); exact ⟨⟨k + 1, by omega, by go_num, by rw [HP.out]; exact RZ, GZ⟩, rfl⟩)
        case measure => simp [intOf]; omega
    · obtain rfl : k = m := by omega
      have HF := Lib.hid (show reach t ys = (lv9, ⟨lt, ln, ll, lr⟩) by have := HU.out; rw [List.take_of_length_le (by rw [HM.out]; exact Nat.le_refl _)] at this; exact this)
      have CR := levelAtI lv9 ll lt lr t (IntWalk.wrap64_in _ (by omega)) (wf64 (by omega) (by omega)) (wf64 (by omega) (by omega))
      have HW := Lib.hid (show levV zs s t = level lv9 ll (t - lt) lr by rw [HV.out]; unfold levP; rw [HF.out])
      obtain ⟨v, hv⟩ : ∃ v, level lv9 ll (t - lt) lr = v := ⟨_, rfl⟩
      rw [hv] at CR HW
      have CR := Lib.hid CR
      have BZ := Lib.hid (B2.out.grown GK.out B2.out.size (fun q hq => by cases hq; exact Nat.le_refl _))
      clear hv tm
      go_wp2_with fail
      refine (CR.out _).mono ?_
      rintro e w3 ⟨rfl, rfl⟩
      go_wp2_with fail
      go_ret
      exact ⟨by rw [HW.out]; first | done | rfl, BZ.out.alloc BZ.out.size _⟩
end Go.Proofs.YtokncfhpmjohdabGreat.Li7
