/- Water that is shared out, of the program and of the model. -/
import Derived.Test.YtejeikfgmiadhabGreatM20
import Derived.Test.YtejeikfgmiadhabGreatM14
set_option linter.unusedVariables false
set_option linter.unusedSimpArgs false
namespace Go.Proofs.YtejeikfgmiadhabGreat.Wu
open Go.RowKit Go.Proofs.YtejeikfgmiadhabGreat.Mem Go.Proofs.YtejeikfgmiadhabGreat.Dm Go.Proofs.YtejeikfgmiadhabGreat.Ws Go.Proofs.YtejeikfgmiadhabGreat.Wp Go.Proofs.YtejeikfgmiadhabGreat.Wq Go.Proofs.YtejeikfgmiadhabGreat.Wl Go.Proofs.YtejeikfgmiadhabGreat.Rw
open Go.Proofs.YtejeikfgmiadhabGreat.Ints (infoInt)
set_option linter.unusedVariables false
set_option linter.unusedSimpArgs false

set_option maxRecDepth 100000 in
set_option maxHeartbeats 2000000 in
theorem shareS (A : Option Addr) (n c : Nat) (zs : List Int) (s : Int) (w : World) (hn : zs.length = n) (hb : n ≤ 1048576) (hr : Rd w w.heap.size A (ints zs)) :
    Calls Tryz.prog 122 #[.int .i64 s, .slice A n c] w (RowI w (share s zs)) := by
  have R := Lib.hid hr
  have N := Lib.hid hn
  by_cases hd : dm zs = true
  · have C := Lib.hid (demS_of hd A n c w.heap.size w N.out hb R.out)
    by_cases hs : 0 ≤ s ∧ s ≤ 512
    · have CS := Lib.hid (fun v => l5Supply_of (iw_yes hs) v)
      have LV := Lib.hid (fun (v : World) (h : Rd v v.heap.size A (ints zs)) => levelS A n c zs s v N.out hb h)
      have D := Lib.hid (dm_iff.1 hd)
      have hs1 := hs.1
      have hs2 := hs.2
      have F := Lib.hid (share_yes hd hs.1 hs.2)
      have F0 := Lib.hid (level_yes hd hs.1 hs.2)
      have FIT := Lib.hid (lv_fits (s := s) D.out.2 hs.1 64)
      obtain ⟨l, hl⟩ : ∃ l, lv s zs 64 = l := ⟨_, rfl⟩
      have hl64 : l ≤ 64 := by rw [← hl]; exact lv_le _ _ _
      rw [hl] at F F0 FIT
      rw [F0.out] at LV
      have CUT := Lib.hid (fun (v : World) (h : Rd v v.heap.size A (ints zs)) => (by have := l5Cut A n c zs (l : Int) v N.out hb h; exact this : Calls Tryz.prog _ _ v (RowI v (cut zs (l : Int)))))
      have CLN := Lib.hid (show (cut zs (l : Int)).length = n by rw [cut_len]; exact N.out)
      have CLS := Lib.hid (show (cut zs (l : Int)).length ≤ 8 by rw [cut_len]; exact D.out.1)
      have COK := Lib.hid (cut_ok (l := (l : Int)) D.out.2 (by omega))
      have TS := Lib.hid (tot_small CLS.out COK.out)
      have hn8 : n ≤ 8 := by have := D.out.1; have := N.out; omega
      clear hr hn hd hs hl
      go_enter Tryz.func122, Tryz.ntmps122
      go_wp2_with fail
      refine C.out.mono ?_
      rintro e w' ⟨rfl, rfl⟩
      go_wp2_with fail
      refine (CS.out _).mono ?_
      rintro e w' ⟨rfl, rfl⟩
      go_wp2_with fail
      refine (LV.out _ R.out).mono ?_
      rintro e w1 ⟨rfl, hb1⟩
      have B1 := Lib.hid hb1
      have R1 := Lib.hid ((R.out.below hb1).more hb1.size)
      clear hb1
      go_wp2_with fail
      refine (CUT.out _ R1.out).mono ?_
      rintro e w2 ⟨g, d, rfl, ho, hb2⟩
      rw [CLN.out] at ho
      rw [CLN.out]
      have O2 := Lib.hid ho
      have B2 := Lib.hid (B1.out.trans (hb2.mono B1.out.size))
      have WL := Lib.hid (Nat.le_trans B1.out.size (own_base ho g rfl))
      clear ho hb2 R1 CUT LV
      have S := Lib.hid (show Calls Tryz.prog _ #[.slice (some ⟨g, 0, none⟩) n d] w2 (Num (tot (cut zs (l : Int))) w2) from (sumS (some ⟨g, 0, none⟩) n d (cut zs (l : Int)) _ w2 CLN.out CLS.out COK.out (Rd.own O2.out)).mono (fun e w' k => ⟨k.1, k.2 ▸ Below.refl _ _⟩))
      obtain ⟨t, ht⟩ : ∃ t, tot (cut zs (l : Int)) = t := ⟨_, rfl⟩
      have FT := FIT.out
      have TB := TS.out
      rw [ht] at S FT TB F
      obtain ⟨TB1, TB2⟩ := TB
      clear ht FIT TS
      go_wp2_with fail
      refine S.out.mono ?_
      rintro e w3 ⟨rfl, hb3⟩
      have O3 := Lib.hid (owns_base (owns_below O2.out hb3) WL.out)
      have B3 := Lib.hid (B2.out.trans (hb3.mono B2.out.size))
      clear hb3 O2 B2 B1 S C CS
      go_wp2_with fail
      obtain ⟨r0, hr0⟩ : ∃ r0, s - t = r0 := ⟨_, rfl⟩
      have h0 : 0 ≤ r0 := by omega
      have h5 : r0 ≤ 512 := by omega
      have HR0 := Lib.hid (more_rest (l : Int) r0 zs h0)
      have FR := Lib.hid (show share s zs = (more (l : Int) r0 zs zs.length).1 by rw [← hr0]; exact F.out)
      rw [hr0]
      clear hr0 F FT TB1 TB2
      go_loopw [7, 31] (fun q i wr => ∃ (k : Nat) (r : Int), k ≤ n ∧ i = .int .i64 k ∧ q = .int .i64 r ∧ Hid ((more (l : Int) r0 zs k).2 = r) ∧ Hid (wr.ownsRow w.heap.size 3 1 (.slice (some ⟨g, 0, none⟩) n d) n (ints (more (l : Int) r0 zs k).1)) ∧ Hid (Below w.heap.size w wr)) (fun _ i _ => n - (intOf i).toNat)
      case atStart => exact ⟨0, r0, Nat.zero_le _, rfl, rfl, Lib.hid rfl, O3, B3⟩
      case round =>
        obtain ⟨k, r, hk, rfl, rfl, HM, OK, BK⟩ := hrel
        have hr1 : 0 ≤ r := by have := (HR0.out k).1; rw [HM.out] at this; exact this
        have hr2 : r ≤ 512 := by have := (HR0.out k).2; rw [HM.out] at this; omega
        by_cases hlt : k < n
        · obtain ⟨z, hz⟩ : ∃ z, zs[k]? = some z := ⟨_, List.getElem?_eq_getElem (by rw [N.out]; exact hlt)⟩
          obtain ⟨b1, o1, eA, hb1, c0⟩ := rd_cell R.out hz
          have c1 : wr.cell? ⟨b1, o1 + k, none⟩ = some (.int .i64 z) := (BK.out.cell (p := ⟨b1, o1 + k, none⟩) hb1).trans c0
          obtain ⟨hz1, hz2⟩ := D.out.2 z (List.mem_of_getElem? hz)
          have HZ := Lib.hid hz
          clear c0 hz
          by_cases hlz : (l : Int) < z
          · have d1 : decide ((l : Int) < z) = true := decide_eq_true hlz
            by_cases hrz : 0 < r
            · have d2 : decide (0 < r) = true := decide_eq_true hrz
              have em := more_yes (l := (l : Int)) (r := r0) HZ.out hlz (by rw [HM.out]; exact hrz)
              obtain ⟨x, hx⟩ : ∃ x, min z (l : Int) = x := ⟨_, rfl⟩
              have hx1 : 0 ≤ x := by omega
              have hx2 : x ≤ 64 := by omega
              have hy := more_at (l := (l : Int)) (r := r0) HZ.out
              rw [hx] at em hy
              have hy2 : (ints (more (l : Int) r0 zs k).1)[k]? = some (.int .i64 x) := by unfold ints; rw [List.getElem?_map, hy]; rfl
              have c2 := (OK.out.cellAt k (by omega)).trans hy2
              have f2 := OK.out.frozenAt k
              obtain ⟨r1, r2⟩ := OK.out.stored k (.int .i64 (x + 1))
              have es : (ints (more (l : Int) r0 zs k).1).set k (.int .i64 (x + 1)) = ints (more (l : Int) r0 zs (k + 1)).1 := by rw [em]; unfold ints; rw [List.map_set]
              rw [es] at r1
              have R1 := Lib.hid r1
              have BB := Lib.hid (BK.out.grown r2 BK.out.size (fun q hq => by cases hq; exact WL.out))
              have HM2 := Lib.hid (show (more (l : Int) r0 zs (k + 1)).2 = r - 1 by rw [em, ← HM.out])
              have p1 : b1 < wr.heap.size := World.block_lt_of_cell? wr _ c1
              clear r1 r2 es em hy hy2 hx OK BK HM O3 B3 hlz hrz hb1
              subst eA
              go_wp2_with fail
              go_roundw
              case rel => exact ⟨k + 1, r - 1, by omega, by go_num, rfl, HM2, R1, BB⟩
              case measure => simp [intOf]; omega
            · have d2 : decide (0 < r) = false := decide_eq_false hrz
              have em := more_no (l := (l : Int)) (r := r0) HZ.out (by rw [HM.out]; exact fun c => hrz c.2)
              have HM2 := Lib.hid (show (more (l : Int) r0 zs (k + 1)).2 = r by rw [em, HM.out])
              have R1 := Lib.hid (show wr.ownsRow w.heap.size 3 1 (.slice (some ⟨g, 0, none⟩) n d) n (ints (more (l : Int) r0 zs (k + 1)).1) by rw [em]; exact OK.out)
              clear em OK HM O3 B3 hlz hrz hb1
              subst eA
              go_wp2_with fail
              go_roundw
              case rel => exact ⟨k + 1, r, by omega, by go_num, rfl, HM2, R1, BK⟩
              case measure => simp [intOf]; omega
          · have d1 : decide ((l : Int) < z) = false := decide_eq_false hlz
            have em := more_no (l := (l : Int)) (r := r0) HZ.out (fun c => hlz c.1)
            have HM2 := Lib.hid (show (more (l : Int) r0 zs (k + 1)).2 = r by rw [em, HM.out])
            have R1 := Lib.hid (show wr.ownsRow w.heap.size 3 1 (.slice (some ⟨g, 0, none⟩) n d) n (ints (more (l : Int) r0 zs (k + 1)).1) by rw [em]; exact OK.out)
            clear em OK HM O3 B3 hlz hb1
            subst eA
            by_cases hrz : 0 < r
            all_goals
              go_wp2_with fail
              go_roundw
              case rel => exact ⟨k + 1, r, by omega, by go_num, rfl, HM2, R1, BK⟩
              case measure => simp [intOf]; omega
        · obtain rfl : k = n := by omega
          have FF := Lib.hid (show share s zs = (more (l : Int) r0 zs k).1 by rw [FR.out, N.out])
          have FL := Lib.hid (show (share s zs).length = k by rw [FF.out, more_len, N.out])
          rw [← FF.out] at OK
          clear hr1 hr2 hlt O3 B3
          go_wp2_with fail
          go_ret
          refine ⟨g, d, ?_, ?_, BK.out⟩
          · rw [FL.out]; rfl
          · rw [FL.out]; exact OK.out
    · have CS := Lib.hid (fun v => l5Supply_of (iw_no (x := s) (a := 0) (b := 512) (by omega)) v)
      have F := Lib.hid (share_no (s := s) (zs := zs) (fun c => hs c.2))
      clear hr hn hd hs
      go_enter Tryz.func122, Tryz.ntmps122
      go_wp2_with fail
      refine C.out.mono ?_
      rintro e w' ⟨rfl, rfl⟩
      go_wp2_with fail
      refine (CS.out _).mono ?_
      rintro e w' ⟨rfl, rfl⟩
      go_wp2_with fail
      go_ret
      rw [F.out]; exact row_nil w
  · have hd2 : dm zs = false := by simpa using hd
    have C := Lib.hid (demS_of hd2 A n c w.heap.size w N.out hb R.out)
    have F := Lib.hid (share_no (s := s) (zs := zs) (fun c => hd c.1))
    clear hr hn hd hd2
    go_enter Tryz.func122, Tryz.ntmps122
    go_wp2_with fail
    refine C.out.mono ?_
    rintro e w' ⟨rfl, rfl⟩
    go_wp2_with fail
    go_ret
    rw [F.out]; exact row_nil w

set_option maxRecDepth 100000 in
set_option maxHeartbeats 2000000 in
theorem shareI (A : Option Addr) (n c : Nat) (zs : List Int) (s : Int) (w : World) (hn : zs.length = n) (hb : n ≤ 1048576) (hr : Rd w w.heap.size A (ints zs)) :
    Calls Tryz.prog 132 #[.int .i64 s, .slice A n c] w (RowI w (share s zs)) := by
  have R := Lib.hid hr
  have N := Lib.hid hn
  by_cases hd : dm zs = true
  · have C := Lib.hid (demI_of hd A n c w.heap.size w N.out hb R.out)
    by_cases hs : 0 ≤ s ∧ s ≤ 512
    · have CS := Lib.hid (fun v => isSupply_of (iw_yes hs) v)
      have LV := Lib.hid (fun (v : World) (h : Rd v v.heap.size A (ints zs)) => levelI A n c zs s v N.out hb h)
      have D := Lib.hid (dm_iff.1 hd)
      have hs1 := hs.1
      have hs2 := hs.2
      have F := Lib.hid (share_yes hd hs.1 hs.2)
      have F0 := Lib.hid (level_yes hd hs.1 hs.2)
      have FIT := Lib.hid (lv_fits (s := s) D.out.2 hs.1 64)
      obtain ⟨l, hl⟩ : ∃ l, lv s zs 64 = l := ⟨_, rfl⟩
      have hl64 : l ≤ 64 := by rw [← hl]; exact lv_le _ _ _
      rw [hl] at F F0 FIT
      rw [F0.out] at LV
      have CUT := Lib.hid (fun (v : World) (h : Rd v v.heap.size A (ints zs)) => (by have := cutI A n c zs (l : Int) v N.out hb h; rw [cutB_yes hd (by omega)] at this; exact this : Calls Tryz.prog _ _ v (RowI v (cut zs (l : Int)))))
      have CLN := Lib.hid (show (cut zs (l : Int)).length = n by rw [cut_len]; exact N.out)
      have CLS := Lib.hid (show (cut zs (l : Int)).length ≤ 8 by rw [cut_len]; exact D.out.1)
      have COK := Lib.hid (cut_ok (l := (l : Int)) D.out.2 (by omega))
      have TS := Lib.hid (tot_small CLS.out COK.out)
      have hn8 : n ≤ 8 := by have := D.out.1; have := N.out; omega
      clear hr hn hd hs hl
      go_enter Tryz.func132, Tryz.ntmps132
      go_wp2_with fail
      refine C.out.mono ?_
      rintro e w' ⟨rfl, rfl⟩
      go_wp2_with fail
      refine (CS.out _).mono ?_
      rintro e w' ⟨rfl, rfl⟩
      go_wp2_with fail
      refine (LV.out _ R.out).mono ?_
      rintro e w1 ⟨rfl, hb1⟩
      have B1 := Lib.hid hb1
      have R1 := Lib.hid ((R.out.below hb1).more hb1.size)
      clear hb1
      go_wp2_with fail
      refine (CUT.out _ R1.out).mono ?_
      rintro e w2 ⟨g, d, rfl, ho, hb2⟩
      rw [CLN.out] at ho
      rw [CLN.out]
      have O2 := Lib.hid ho
      have B2 := Lib.hid (B1.out.trans (hb2.mono B1.out.size))
      have WL := Lib.hid (Nat.le_trans B1.out.size (own_base ho g rfl))
      clear ho hb2 R1 CUT LV
      have S := Lib.hid (show Calls Tryz.prog _ #[.slice (some ⟨g, 0, none⟩) n d] w2 (Num (tot (cut zs (l : Int))) w2) from (by have := totI (some ⟨g, 0, none⟩) n d (cut zs (l : Int)) w2 CLN.out hb (Rd.own O2.out); rw [totB_yes (dm_yes CLS.out COK.out)] at this; exact this))
      obtain ⟨t, ht⟩ : ∃ t, tot (cut zs (l : Int)) = t := ⟨_, rfl⟩
      have FT := FIT.out
      have TB := TS.out
      rw [ht] at S FT TB F
      obtain ⟨TB1, TB2⟩ := TB
      clear ht FIT TS
      go_wp2_with fail
      refine S.out.mono ?_
      rintro e w3 ⟨rfl, hb3⟩
      have O3 := Lib.hid (owns_base (owns_below O2.out hb3) WL.out)
      have B3 := Lib.hid (B2.out.trans (hb3.mono B2.out.size))
      clear hb3 O2 B2 B1 S C CS
      go_wp2_with fail
      obtain ⟨r0, hr0⟩ : ∃ r0, s - t = r0 := ⟨_, rfl⟩
      have h0 : 0 ≤ r0 := by omega
      have h5 : r0 ≤ 512 := by omega
      have HR0 := Lib.hid (more_rest (l : Int) r0 zs h0)
      have FR := Lib.hid (show share s zs = (more (l : Int) r0 zs zs.length).1 by rw [← hr0]; exact F.out)
      rw [hr0]
      clear hr0 F FT TB1 TB2
      go_loopw [7, 31] (fun q i wr => ∃ (k : Nat) (r : Int), k ≤ n ∧ i = .int .i64 k ∧ q = .int .i64 r ∧ Hid ((more (l : Int) r0 zs k).2 = r) ∧ Hid (wr.ownsRow w.heap.size 3 1 (.slice (some ⟨g, 0, none⟩) n d) n (ints (more (l : Int) r0 zs k).1)) ∧ Hid (Below w.heap.size w wr)) (fun _ i _ => n - (intOf i).toNat)
      case atStart => exact ⟨0, r0, Nat.zero_le _, rfl, rfl, Lib.hid rfl, O3, B3⟩
      case round =>
        obtain ⟨k, r, hk, rfl, rfl, HM, OK, BK⟩ := hrel
        have hr1 : 0 ≤ r := by have := (HR0.out k).1; rw [HM.out] at this; exact this
        have hr2 : r ≤ 512 := by have := (HR0.out k).2; rw [HM.out] at this; omega
        by_cases hlt : k < n
        · obtain ⟨z, hz⟩ : ∃ z, zs[k]? = some z := ⟨_, List.getElem?_eq_getElem (by rw [N.out]; exact hlt)⟩
          obtain ⟨b1, o1, eA, hb1, c0⟩ := rd_cell R.out hz
          have c1 : wr.cell? ⟨b1, o1 + k, none⟩ = some (.int .i64 z) := (BK.out.cell (p := ⟨b1, o1 + k, none⟩) hb1).trans c0
          obtain ⟨hz1, hz2⟩ := D.out.2 z (List.mem_of_getElem? hz)
          have HZ := Lib.hid hz
          clear c0 hz
          by_cases hlz : (l : Int) < z
          · have d1 : decide ((l : Int) < z) = true := decide_eq_true hlz
            by_cases hrz : 0 < r
            · have d2 : decide (0 < r) = true := decide_eq_true hrz
              have em := more_yes (l := (l : Int)) (r := r0) HZ.out hlz (by rw [HM.out]; exact hrz)
              obtain ⟨x, hx⟩ : ∃ x, min z (l : Int) = x := ⟨_, rfl⟩
              have hx1 : 0 ≤ x := by omega
              have hx2 : x ≤ 64 := by omega
              have hy := more_at (l := (l : Int)) (r := r0) HZ.out
              rw [hx] at em hy
              have hy2 : (ints (more (l : Int) r0 zs k).1)[k]? = some (.int .i64 x) := by unfold ints; rw [List.getElem?_map, hy]; rfl
              have c2 := (OK.out.cellAt k (by omega)).trans hy2
              have f2 := OK.out.frozenAt k
              obtain ⟨r1, r2⟩ := OK.out.stored k (.int .i64 (x + 1))
              have es : (ints (more (l : Int) r0 zs k).1).set k (.int .i64 (x + 1)) = ints (more (l : Int) r0 zs (k + 1)).1 := by rw [em]; unfold ints; rw [List.map_set]
              rw [es] at r1
              have R1 := Lib.hid r1
              have BB := Lib.hid (BK.out.grown r2 BK.out.size (fun q hq => by cases hq; exact WL.out))
              have HM2 := Lib.hid (show (more (l : Int) r0 zs (k + 1)).2 = r - 1 by rw [em, ← HM.out])
              have p1 : b1 < wr.heap.size := World.block_lt_of_cell? wr _ c1
              clear r1 r2 es em hy hy2 hx OK BK HM O3 B3 hlz hrz hb1
              subst eA
              go_wp2_with fail
              go_roundw
              case rel => exact ⟨k + 1, r - 1, by omega, by go_num, rfl, HM2, R1, BB⟩
              case measure => simp [intOf]; omega
            · have d2 : decide (0 < r) = false := decide_eq_false hrz
              have em := more_no (l := (l : Int)) (r := r0) HZ.out (by rw [HM.out]; exact fun c => hrz c.2)
              have HM2 := Lib.hid (show (more (l : Int) r0 zs (k + 1)).2 = r by rw [em, HM.out])
              have R1 := Lib.hid (show wr.ownsRow w.heap.size 3 1 (.slice (some ⟨g, 0, none⟩) n d) n (ints (more (l : Int) r0 zs (k + 1)).1) by rw [em]; exact OK.out)
              clear em OK HM O3 B3 hlz hrz hb1
              subst eA
              go_wp2_with fail
              go_roundw
              case rel => exact ⟨k + 1, r, by omega, by go_num, rfl, HM2, R1, BK⟩
              case measure => simp [intOf]; omega
          · have d1 : decide ((l : Int) < z) = false := decide_eq_false hlz
            have em := more_no (l := (l : Int)) (r := r0) HZ.out (fun c => hlz c.1)
            have HM2 := Lib.hid (show (more (l : Int) r0 zs (k + 1)).2 = r by rw [em, HM.out])
            have R1 := Lib.hid (show wr.ownsRow w.heap.size 3 1 (.slice (some ⟨g, 0, none⟩) n d) n (ints (more (l : Int) r0 zs (k + 1)).1) by rw [em]; exact OK.out)
            clear em OK HM O3 B3 hlz hb1
            subst eA
            by_cases hrz : 0 < r
            all_goals
              go_wp2_with fail
              go_roundw
              case rel => exact ⟨k + 1, r, by omega, by go_num, rfl, HM2, R1, BK⟩
              case measure => simp [intOf]; omega
        · obtain rfl : k = n := by omega
          have FF := Lib.hid (show share s zs = (more (l : Int) r0 zs k).1 by rw [FR.out, N.out])
          have FL := Lib.hid (show (share s zs).length = k by rw [FF.out, more_len, N.out])
          rw [← FF.out] at OK
          clear hr1 hr2 hlt O3 B3
          go_wp2_with fail
          go_ret
          refine ⟨g, d, ?_, ?_, BK.out⟩
          · rw [FL.out]; rfl
          · rw [FL.out]; exact OK.out
    · have CS := Lib.hid (fun v => isSupply_of (iw_no (x := s) (a := 0) (b := 512) (by omega)) v)
      have F := Lib.hid (share_no (s := s) (zs := zs) (fun c => hs c.2))
      clear hr hn hd hs
      go_enter Tryz.func132, Tryz.ntmps132
      go_wp2_with fail
      refine C.out.mono ?_
      rintro e w' ⟨rfl, rfl⟩
      go_wp2_with fail
      refine (CS.out _).mono ?_
      rintro e w' ⟨rfl, rfl⟩
      go_wp2_with fail
      go_ret
      rw [F.out]; exact row_nil w
  · have hd2 : dm zs = false := by simpa using hd
    have C := Lib.hid (demI_of hd2 A n c w.heap.size w N.out hb R.out)
    have F := Lib.hid (share_no (s := s) (zs := zs) (fun c => hd c.1))
    clear hr hn hd hd2
    go_enter Tryz.func132, Tryz.ntmps132
    go_wp2_with fail
    refine C.out.mono ?_
    rintro e w' ⟨rfl, rfl⟩
    go_wp2_with fail
    go_ret
    rw [F.out]; exact row_nil w

end Go.Proofs.YtejeikfgmiadhabGreat.Wu
namespace Go.Proofs.YtejeikfgmiadhabGreat.Hc
open Go.RowKit Go.ChangeShapes Go.WideShapes Go.WideElems Go.Deep Go.Proofs.YtejeikfgmiadhabGreat.Mem Go.Proofs.YtejeikfgmiadhabGreat.Rw Go.Proofs.YtejeikfgmiadhabGreat.P2 Go.Proofs.YtejeikfgmiadhabGreat.Cd Go.Proofs.YtejeikfgmiadhabGreat.Cv Go.Proofs.YtejeikfgmiadhabGreat.Cl Go.Proofs.YtejeikfgmiadhabGreat.Cs
set_option linter.unusedVariables false
set_option linter.unusedSimpArgs false
open Go.Proofs.YtejeikfgmiadhabGreat.Ld

theorem grown_setCell (W : World) (b o : Nat) (v : Value) : W.grownBy (W.setCell ⟨b, o, none⟩ v) (some b) :=
  ⟨rfl, rfl, rfl, by simp, fun j _ hr => Below.heap_setCell _ _ _ _ (fun e => hr (by rw [e]))⟩
/-- These four lie in a block. -/
structure R4 (W : World) (b : Nat) (p q r s : Value) : Prop where
  c0 : W.cell? ⟨b, 0, none⟩ = some p
  c1 : W.cell? ⟨b, 1, none⟩ = some q
  c2 : W.cell? ⟨b, 2, none⟩ = some r
  c3 : W.cell? ⟨b, 3, none⟩ = some s
  f0 : W.frozen? ⟨b, 0, none⟩ = false
  f1 : W.frozen? ⟨b, 1, none⟩ = false
  f2 : W.frozen? ⟨b, 2, none⟩ = false
  f3 : W.frozen? ⟨b, 3, none⟩ = false
theorem R4.lt {W : World} {b : Nat} {p q r s : Value} (h : R4 W b p q r s) : b < W.heap.size := World.block_lt_of_cell? W _ h.c0
theorem R4.new (W : World) (p q r s : Value) (t : TypeId) : R4 (W.alloc (.cells #[p, q, r, s] t)) W.heap.size p q r s :=
  ⟨cell_here rfl, cell_here rfl, cell_here rfl, cell_here rfl, by simp [go_sem], by simp [go_sem], by simp [go_sem], by simp [go_sem]⟩
theorem R4.kept {W W' : World} {b : Nat} {p q r s : Value} (h : R4 W b p q r s) (hc : ∀ j, W'.cell? ⟨b, j, none⟩ = W.cell? ⟨b, j, none⟩) (hf : ∀ j, W'.frozen? ⟨b, j, none⟩ = W.frozen? ⟨b, j, none⟩) : R4 W' b p q r s :=
  ⟨(hc 0).trans h.c0, (hc 1).trans h.c1, (hc 2).trans h.c2, (hc 3).trans h.c3, (hf 0).trans h.f0, (hf 1).trans h.f1, (hf 2).trans h.f2, (hf 3).trans h.f3⟩
theorem R4.below {W W' : World} {b : Nat} {p q r s : Value} (h : R4 W b p q r s) (hb : Below W.heap.size W W') : R4 W' b p q r s :=
  h.kept (fun j => hb.cell h.lt) (fun j => hb.frozen h.lt)
theorem R4.alloc {W : World} {b : Nat} {p q r s : Value} (h : R4 W b p q r s) (o : Obj) : R4 (W.alloc o) b p q r s :=
  h.below ((Below.refl _ _).alloc (Nat.le_refl _) o)
theorem R4.drew {W : World} {b : Nat} {p q r s : Value} (h : R4 W b p q r s) : R4 W.drew b p q r s := ⟨h.c0, h.c1, h.c2, h.c3, h.f0, h.f1, h.f2, h.f3⟩
theorem R4.drewN {W : World} {b : Nat} {p q r s : Value} (m : Nat) (h : R4 W b p q r s) : R4 (W.drewN m) b p q r s := ⟨h.c0, h.c1, h.c2, h.c3, h.f0, h.f1, h.f2, h.f3⟩
theorem R4.grown {W W' : World} {b : Nat} {p q r s : Value} {row : Option Nat} (h : R4 W b p q r s) (hg : W.grownBy W' row) (hr : row ≠ some b) : R4 W' b p q r s := by
  have hk := hg.block b h.lt (fun e => hr e.symm)
  refine h.kept (fun j => ?_) (fun j => ?_)
  · simp only [World.cell?, hk]
  · simp only [World.frozen?, hk]
abbrev put4 (W : World) (b : Nat) (x y z u : Value) : World := (((W.setCell ⟨b, 0, none⟩ x).setCell ⟨b, 1, none⟩ y).setCell ⟨b, 2, none⟩ z).setCell ⟨b, 3, none⟩ u
theorem R4.put {W : World} {b : Nat} {p q r s : Value} (h : R4 W b p q r s) (x y z u : Value) : R4 (put4 W b x y z u) b x y z u := by
  obtain ⟨s0, s1, s2, s3⟩ := set4 (a := x) (b := y) (c := z) (d := u) h.c0 h.c1 h.c2 h.c3
  exact ⟨s0, s1, s2, s3, by simp [go_sem, h.f0], by simp [go_sem, h.f1], by simp [go_sem, h.f2], by simp [go_sem, h.f3]⟩
theorem put_grown (W : World) (b : Nat) (x y z u : Value) : W.grownBy (put4 W b x y z u) (some b) :=
  Rw.grown_trans (Rw.grown_trans (Rw.grown_trans (grown_setCell _ _ _ _) (grown_setCell _ _ _ _)) (grown_setCell _ _ _ _)) (grown_setCell _ _ _ _)
end Go.Proofs.YtejeikfgmiadhabGreat.Hc
