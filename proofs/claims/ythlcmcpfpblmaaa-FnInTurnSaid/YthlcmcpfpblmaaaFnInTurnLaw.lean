/- The law FnInTurn holds at every input. The step from the walk to the row follows the guide's own template. -/
import Derived.Test.YthlcmcpfpblmaaaMem
import Derived.Test.YthlcmcpfpblmaaaInts
import Derived.Test.YthlcmcpfpblmaaaTakeD
import Derived.Test.YthlcmcpfpblmaaaWu
import Derived.Test.YthlcmcpfpblmaaaWv
import Derived.Test.YthlcmcpfpblmaaaWf5
import Derived.Test.YthlcmcpfpblmaaaDn
import Derived.Test.YthlcmcpfpblmaaaDv
import Derived.BigRegion
namespace Go.Proofs.Ythlcmcpfpblmaaa.fnInTurn
open Go.ChangeShapes Go.WideShapes Go.ChangeAt Go.RowKit Go.WideMaps Go.WideElems Go.Proofs.Ythlcmcpfpblmaaa.Mem
open Go.ChangeMaps (open_string shut_string)
set_option linter.unusedVariables false
set_option linter.unusedSimpArgs false

theorem own : ownKnob Try.prog.godebug = none := by kernel_rfl
theorem laidOut : laidOutB Try.prog = true := by kernel_rfl

open Go.Proofs.Ythlcmcpfpblmaaa.Rw Go.Proofs.Ythlcmcpfpblmaaa.Dm Go.Proofs.Ythlcmcpfpblmaaa.Dn Go.Proofs.Ythlcmcpfpblmaaa.Ws Go.Proofs.Ythlcmcpfpblmaaa.Wp Go.Proofs.Ythlcmcpfpblmaaa.Wq Go.Proofs.Ythlcmcpfpblmaaa.Wf5
open Go.Proofs.Ythlcmcpfpblmaaa.Draw (u8s)
open Go.Proofs.Ythlcmcpfpblmaaa.Dq (Drawn drawShare drawTurn)
open Go.Proofs.Ythlcmcpfpblmaaa.Dv (big total drawFair Drawn3)

set_option maxRecDepth 100000 in
set_option maxHeartbeats 4000000 in
theorem walk (A : Option Addr) (n c : Nat) (bs : List UInt8) (hn : bs.length = n) (hm : n ≤ maxLen) (w : World) (hr : Rd w w.heap.size A (u8s bs)) :
    Calls Try.prog 14 #[.slice A n c] w fun e w' => e = .returned (.bool true) ∧ Below w.heap.size w w' := by
  unfold maxLen at hm
  by_cases hlen : 4096 < n
  · go_enter Try.func14, Try.ntmps14
    go_wp2
    go_ret
    exact ⟨rfl, Below.refl _ _⟩
  · have hb : n ≤ 4096 := by omega
    have D := Lib.hid (drawTurn w A n c bs hn hb hr)
    have hu : undef = Value.tuple #[] := rfl
    clear hn hr hlen hm
    go_enter Try.func14, Try.ntmps14
    go_wp2_with fail
    refine (big A n c _ hb).mono ?_
    rintro e w' ⟨rfl, rfl⟩
    clear hb
    go_wp2_with fail
    refine D.out.mono ?_
    rintro e wd0 ⟨s, zs, q, gZ, cZ, hl, hq, rfl, ho, hb⟩
    have Z := Lib.hid ho
    have BB := Lib.hid hb
    have ZL := Lib.hid hl
    clear ho hb hl D
    have hq2 : q ≤ 1048576 := by omega
    obtain ⟨zr, hzr⟩ : ∃ z, inTurn s zs = z := ⟨_, rfl⟩
    obtain ⟨m, hm⟩ : ∃ m, zr.length = m := ⟨_, rfl⟩
    have hm8 : m ≤ 8 := by rw [← hm, ← hzr]; exact inTurn_len _ _
    have HM := Lib.hid hm
    have CI := Lib.hid (show ∀ (W : World) (A : Option Addr) (c : Nat) (h : Rd W W.heap.size A (ints zs)), Calls Try.prog 30 #[.int .i64 s, .slice A q c] W (fun e w' => ∃ g c, e = .returned (.slice (some ⟨g, 0, none⟩) m c) ∧ w'.ownsRow W.heap.size 3 1 (.slice (some ⟨g, 0, none⟩) m c) m (ints zr) ∧ Below W.heap.size W w') from fun W A c h => by have := Wv.serveI A q c zs s W ZL.out hq2 h; rw [hzr] at this; unfold RowI at this; rw [hm] at this; exact this)
    have CS := Lib.hid (show ∀ (W : World) (A : Option Addr) (c : Nat) (h : Rd W W.heap.size A (ints zs)), Calls Try.prog 29 #[.int .i64 s, .slice A q c] W (fun e w' => ∃ g c, e = .returned (.slice (some ⟨g, 0, none⟩) m c) ∧ w'.ownsRow W.heap.size 3 1 (.slice (some ⟨g, 0, none⟩) m c) m (ints zr) ∧ Below W.heap.size W w') from fun W A c h => by have := Wv.serveS A q c zs s W ZL.out hq2 h; rw [hzr] at this; unfold RowI at this; rw [hm] at this; exact this)
    have hqq : ((m : Int) != (m : Int)) = false := by simp
    by_cases hd : dm zs = true
    · have DI := Lib.hid (fun (W : World) (h : Rd W W.heap.size (some ⟨gZ, 0, none⟩) (ints zs)) => demI_of hd (some ⟨gZ, 0, none⟩) q cZ _ W ZL.out hq2 h)
      by_cases h0 : 0 ≤ s ∧ s ≤ 512
      · obtain ⟨h1, h2⟩ := h0
        have FA := Lib.hid (turn_facts hd h1 h2)
        have GA := Lib.hid (share_facts hd h1 h2)
        rw [hzr] at FA
        obtain ⟨zh, hzh⟩ : ∃ z, share s zs = z := ⟨_, rfl⟩
        rw [hzh] at GA
        have SH2 := share_sh hd h1 h2
        rw [hzh] at SH2
        have emq : m = q := by rw [← hm, FA.out.1, ZL.out]
        have LH := Lib.hid (show zh.length = q by rw [GA.out.1, ZL.out])
        have HDZ := Lib.hid (dm_iff.1 hd)
        have HDS := Lib.hid (sh_ok FA.out.2.2.1 hd)
        have HDH := Lib.hid (sh_ok SH2 hd)
        have CH := Lib.hid (fun (W : World) (h : Rd W W.heap.size (some ⟨gZ, 0, none⟩) (ints zs)) => (by have := Wu.shareI (some ⟨gZ, 0, none⟩) q cZ zs s W ZL.out hq2 h; unfold RowI at this; rw [hzh, LH.out] at this; exact this : Calls Try.prog 28 #[.int .i64 s, .slice (some ⟨gZ, 0, none⟩) q cZ] W _))
        have TZ := Lib.hid (tot_small HDZ.out.1 HDZ.out.2)
        have TS := Lib.hid (tot_small HDS.out.1 HDS.out.2)
        have FL := Lib.hid (lack_yes hd FA.out.2.2.1)
        have FT := Lib.hid (totB_yes hd)
        have d1 : decide (s < 0) = false := decide_eq_false (by omega)
        have d2 : decide (512 < s) = false := decide_eq_false (by omega)
        obtain ⟨x, hx⟩ : ∃ x, tot zs = x := ⟨_, rfl⟩
        obtain ⟨y, hy⟩ : ∃ y, tot zr = y := ⟨_, rfl⟩
        have HH := Lib.hid (show tot zh = y by rw [← hy, GA.out.2.1, FA.out.2.1])
        rw [hx] at TZ FL FT
        rw [hy] at TS FL
        obtain ⟨x1, x2⟩ := TZ.out
        obtain ⟨y1, y2⟩ := TS.out
        have e2 : ((x - y) == (x - y)) = true := by simp
        have e1 : (y == y) = true := by simp
        have HX := Lib.hid hx
        have HY := Lib.hid hy
        clear hzr hd hx hy hzh SH2 GA
        subst emq
        go_wp2_with fail
        refine (CI.out _ _ _ (Rd.own Z.out)).mono ?_
        rintro e wd1 ⟨gS, cS, rfl, ho, hb⟩
        have wlS : w.heap.size ≤ gS := Nat.le_trans BB.out.size (own_base ho gS rfl)
        have ne_Z_S : gZ < gS := Nat.lt_of_lt_of_le (Z.out.lt _ rfl).2 (own_base ho gS rfl)
        have XN := Lib.hid (owns_base ho wlS)
        clear ho
        have BB2 := Lib.hid (BB.out.trans (hb.mono BB.out.size))
        have Zn := Lib.hid (owns_below Z.out hb)
        clear hb BB Z
        have BB := BB2
        clear BB2
        have Z := Zn
        clear Zn
        have S := XN
        clear XN
        go_wp2_with fail
        refine (CS.out _ _ _ (Rd.own Z.out)).mono ?_
        rintro e wd2 ⟨gT, cT, rfl, ho, hb⟩
        have wlT : w.heap.size ≤ gT := Nat.le_trans BB.out.size (own_base ho gT rfl)
        have ne_Z_T : gZ < gT := Nat.lt_of_lt_of_le (Z.out.lt _ rfl).2 (own_base ho gT rfl)
        have ne_S_T : gS < gT := Nat.lt_of_lt_of_le (S.out.lt _ rfl).2 (own_base ho gT rfl)
        have XN := Lib.hid (owns_base ho wlT)
        clear ho
        have BB2 := Lib.hid (BB.out.trans (hb.mono BB.out.size))
        have Zn := Lib.hid (owns_below Z.out hb)
        have Sn := Lib.hid (owns_below S.out hb)
        clear hb BB Z S
        have BB := BB2
        clear BB2
        have Z := Zn
        clear Zn
        have S := Sn
        clear Sn
        have T := XN
        clear XN
        clear T
        go_wp2_with fail
        refine (DI.out _ (Rd.own Z.out)).mono ?_
        rintro e w' ⟨rfl, rfl⟩
        go_wp2_with fail
        have RZ := Lib.hid (Rd.own Z.out)
        have RS := Lib.hid (Rd.own S.out)
        clear DI CI CS d1 d2 hqq
        go_loopw [6] (fun i wr => ∃ k p : Nat, (k < m ∨ k = 0) ∧ i = .int .i64 k ∧ wr = wd2.drewN p) (fun i _ => m - (intOf i).toNat)
        case atStart => exact ⟨0, 0, Or.inr rfl, rfl, rfl⟩
        case round =>
          obtain ⟨k, p, hk, rfl, rfl⟩ := hrel
          have hk8 : k ≤ 8 := by omega
          by_cases hlt : k + 1 < m
          · obtain ⟨z, hz⟩ : ∃ z, zs[k]? = some z := ⟨_, List.getElem?_eq_getElem (by rw [ZL.out]; omega)⟩
            obtain ⟨a, ha⟩ : ∃ z, zr[k]? = some z := ⟨_, List.getElem?_eq_getElem (by rw [HM.out]; omega)⟩
            obtain ⟨t, ht⟩ : ∃ z, zr[k + 1]? = some z := ⟨_, List.getElem?_eq_getElem (by rw [HM.out]; omega)⟩
            have l1 := FA.out.2.2.2 k z a t hz ha ht
            obtain ⟨b1, o1, ea, hb1, a1⟩ := rd_cell RZ.out hz
            obtain ⟨b2, o2, eb, hb2, a2⟩ := rd_cell RS.out ha
            obtain ⟨b3, o3, ec, hb3, a3⟩ := rd_cell RS.out ht
            injection ea with ea; injection ea with ea eo; subst ea eo
            injection eb with eb; injection eb with eb eo; subst eb eo
            injection ec with ec; injection ec with ec eo; subst ec eo
            have c1 : (wd2.drewN p).cell? ⟨gZ, 0 + k, none⟩ = some (.int .i64 z) := a1
            have c2 : (wd2.drewN p).cell? ⟨gS, 0 + k, none⟩ = some (.int .i64 a) := a2
            have c3 : (wd2.drewN p).cell? ⟨gS, 0 + (k + 1), none⟩ = some (.int .i64 t) := a3
            have k0 : (0 : Int) ≤ (k : Int) := by omega
            have k1 : (k : Int) < (m : Int) := by omega
            have kd : decide ((k : Int) + 1 < (m : Int)) = true := decide_eq_true (by omega)
            obtain ⟨W, hW⟩ : ∃ W, W = wd2.drewN p := ⟨_, rfl⟩
            rw [← hW] at c1 c2 c3 ⊢
            rw [Nat.zero_add] at c1 c2 c3
            have HW := Lib.hid hW
            clear hz ha ht hb1 hb2 hb3 a1 a2 a3 hW
            by_cases hq : a < z
            · have t1 : decide (a < z) = true := decide_eq_true hq
              have t2 : decide (0 < t) = false := decide_eq_false (by have := l1 hq; omega)
              clear l1 hq
              go_wp2_with fail
              have e3 : IntKind.i64.wrap ((k : Int) + 1) = (k : Int) + 1 := IntWalk.i64_in _ (by omega)
              have e4 : ((k : Int) + 1).toNat = k + 1 := by omega
              have k2 : (0 : Int) ≤ (k : Int) + 1 := by omega
              have k3 : (k : Int) + 1 < (m : Int) := by omega
              go_quiet (fail)
              clear e3 e4 k2 k3
              go_wp2_with fail
              go_roundw
              case rel => exact ⟨k + 1, p + nq, Or.inl (by omega), by go_num, by rw [HW.out, World.drewN_drewN]⟩
              case measure => simp [intOf]; omega
            · have t1 : decide (a < z) = false := decide_eq_false hq
              clear l1 hq
              go_wp2_with fail
              have e3 : IntKind.i64.wrap ((k : Int) + 1) = (k : Int) + 1 := IntWalk.i64_in _ (by omega)
              have e4 : ((k : Int) + 1).toNat = k + 1 := by omega
              have k2 : (0 : Int) ≤ (k : Int) + 1 := by omega
              have k3 : (k : Int) + 1 < (m : Int) := by omega
              go_quiet (fail)
              clear e3 e4 k2 k3
              go_wp2_with fail
              go_roundw
              case rel => exact ⟨k + 1, p + nq, Or.inl (by omega), by go_num, by rw [HW.out, World.drewN_drewN]⟩
              case measure => simp [intOf]; omega
          · have kd : decide ((k : Int) + 1 < (m : Int)) = false := decide_eq_false (by omega)
            have hsz := (below_drewN (Below.refl wd2.heap.size wd2) p).size
            have Z2 := Lib.hid (owns_below Z.out (below_drewN (Below.refl wd2.heap.size wd2) p))
            have S2 := Lib.hid (owns_below S.out (below_drewN (Below.refl wd2.heap.size wd2) p))
            have BB2 := Lib.hid (below_drewN BB.out p)
            clear BB Z S hsz RZ RS
            have BB := BB2
            have Z := Z2
            have S := S2
            clear BB2 Z2 S2
            generalize wd2.drewN p = v at *
            clear hk hlt
            go_wp2_with fail
            refine (total (some ⟨gS, 0, none⟩) m cS zr _ _ HM.out HDS.out.1 HDS.out.2 (Rd.own S.out)).mono ?_
            rw [HY.out]
            rintro e w' ⟨rfl, rfl⟩
            go_wp2_with fail
            refine (CH.out _ (Rd.own Z.out)).mono ?_
            rintro e wd3 ⟨gH, cH, rfl, ho, hb⟩
            have wlH : w.heap.size ≤ gH := Nat.le_trans BB.out.size (own_base ho gH rfl)
            have ne_Z_H : gZ < gH := Nat.lt_of_lt_of_le (Z.out.lt _ rfl).2 (own_base ho gH rfl)
            have ne_S_H : gS < gH := Nat.lt_of_lt_of_le (S.out.lt _ rfl).2 (own_base ho gH rfl)
            have XN := Lib.hid (owns_base ho wlH)
            clear ho
            have BB2 := Lib.hid (BB.out.trans (hb.mono BB.out.size))
            have Zn := Lib.hid (owns_below Z.out hb)
            have Sn := Lib.hid (owns_below S.out hb)
            clear hb BB Z S
            have BB := BB2
            clear BB2
            have Z := Zn
            clear Zn
            have S := Sn
            clear Sn
            have H := XN
            clear XN
            go_wp2_with fail
            refine (total (some ⟨gH, 0, none⟩) m cH zh _ _ LH.out HDH.out.1 HDH.out.2 (Rd.own H.out)).mono ?_
            rw [HH.out]
            rintro e w' ⟨rfl, rfl⟩
            clear H
            go_wp2_with fail
            refine (lackI (some ⟨gZ, 0, none⟩) (some ⟨gS, 0, none⟩) m m cZ cS zs zr _ ZL.out HM.out hq2 hq2 (Rd.own Z.out) (Rd.own S.out)).mono ?_
            rw [FL.out]
            rintro e wd4 ⟨rfl, hb⟩
            have BB2 := Lib.hid (BB.out.trans (hb.mono BB.out.size))
            have Zn := Lib.hid (owns_below Z.out hb)
            have Sn := Lib.hid (owns_below S.out hb)
            clear hb BB Z S
            have BB := BB2
            clear BB2
            have Z := Zn
            clear Zn
            have S := Sn
            clear Sn
            go_wp2_with fail
            refine (totI (some ⟨gZ, 0, none⟩) m cZ zs _ ZL.out hq2 (Rd.own Z.out)).mono ?_
            rw [FT.out]
            rintro e wd5 ⟨rfl, hb⟩
            have BB2 := Lib.hid (BB.out.trans (hb.mono BB.out.size))
            have Zn := Lib.hid (owns_below Z.out hb)
            have Sn := Lib.hid (owns_below S.out hb)
            clear hb BB Z S
            have BB := BB2
            clear BB2
            have Z := Zn
            clear Zn
            have S := Sn
            clear Sn
            go_wp2_with fail
            refine (total (some ⟨gS, 0, none⟩) m cS zr _ _ HM.out HDS.out.1 HDS.out.2 (Rd.own S.out)).mono ?_
            rw [HY.out]
            rintro e w' ⟨rfl, rfl⟩
            go_wp2_with fail
            go_ret
            exact ⟨rfl, BB.out⟩
      · have F := Lib.hid (show m = 0 by rw [← hm, ← hzr, inTurn_no (fun c => h0 c.2)]; rfl)
        have e0 : ((m : Int) == 0) = true := by rw [F.out]; rfl
        clear hzr hd hm
        by_cases h1 : s < 0
        · have d1 : decide (s < 0) = true := decide_eq_true h1
          clear h0 h1
          go_wp2_with fail
          refine (CI.out _ _ _ (Rd.own Z.out)).mono ?_
          rintro e wd1 ⟨gS, cS, rfl, ho, hb⟩
          have wlS : w.heap.size ≤ gS := Nat.le_trans BB.out.size (own_base ho gS rfl)
          have ne_Z_S : gZ < gS := Nat.lt_of_lt_of_le (Z.out.lt _ rfl).2 (own_base ho gS rfl)
          have XN := Lib.hid (owns_base ho wlS)
          clear ho
          have BB2 := Lib.hid (BB.out.trans (hb.mono BB.out.size))
          have Zn := Lib.hid (owns_below Z.out hb)
          clear hb BB Z
          have BB := BB2
          clear BB2
          have Z := Zn
          clear Zn
          have S := XN
          clear XN
          go_wp2_with fail
          refine (CS.out _ _ _ (Rd.own Z.out)).mono ?_
          rintro e wd2 ⟨gT, cT, rfl, ho, hb⟩
          have wlT : w.heap.size ≤ gT := Nat.le_trans BB.out.size (own_base ho gT rfl)
          have ne_Z_T : gZ < gT := Nat.lt_of_lt_of_le (Z.out.lt _ rfl).2 (own_base ho gT rfl)
          have ne_S_T : gS < gT := Nat.lt_of_lt_of_le (S.out.lt _ rfl).2 (own_base ho gT rfl)
          have XN := Lib.hid (owns_base ho wlT)
          clear ho
          have BB2 := Lib.hid (BB.out.trans (hb.mono BB.out.size))
          have Zn := Lib.hid (owns_below Z.out hb)
          have Sn := Lib.hid (owns_below S.out hb)
          clear hb BB Z S
          have BB := BB2
          clear BB2
          have Z := Zn
          clear Zn
          have S := Sn
          clear Sn
          have T := XN
          clear XN
          clear T
          go_wp2_with fail
          refine (DI.out _ (Rd.own Z.out)).mono ?_
          rintro e w' ⟨rfl, rfl⟩
          go_wp2_with fail
          go_ret
          exact ⟨rfl, BB.out⟩
        · have d1 : decide (s < 0) = false := decide_eq_false h1
          have d2 : decide (512 < s) = true := decide_eq_true (by omega)
          clear h0 h1
          go_wp2_with fail
          refine (CI.out _ _ _ (Rd.own Z.out)).mono ?_
          rintro e wd1 ⟨gS, cS, rfl, ho, hb⟩
          have wlS : w.heap.size ≤ gS := Nat.le_trans BB.out.size (own_base ho gS rfl)
          have ne_Z_S : gZ < gS := Nat.lt_of_lt_of_le (Z.out.lt _ rfl).2 (own_base ho gS rfl)
          have XN := Lib.hid (owns_base ho wlS)
          clear ho
          have BB2 := Lib.hid (BB.out.trans (hb.mono BB.out.size))
          have Zn := Lib.hid (owns_below Z.out hb)
          clear hb BB Z
          have BB := BB2
          clear BB2
          have Z := Zn
          clear Zn
          have S := XN
          clear XN
          go_wp2_with fail
          refine (CS.out _ _ _ (Rd.own Z.out)).mono ?_
          rintro e wd2 ⟨gT, cT, rfl, ho, hb⟩
          have wlT : w.heap.size ≤ gT := Nat.le_trans BB.out.size (own_base ho gT rfl)
          have ne_Z_T : gZ < gT := Nat.lt_of_lt_of_le (Z.out.lt _ rfl).2 (own_base ho gT rfl)
          have ne_S_T : gS < gT := Nat.lt_of_lt_of_le (S.out.lt _ rfl).2 (own_base ho gT rfl)
          have XN := Lib.hid (owns_base ho wlT)
          clear ho
          have BB2 := Lib.hid (BB.out.trans (hb.mono BB.out.size))
          have Zn := Lib.hid (owns_below Z.out hb)
          have Sn := Lib.hid (owns_below S.out hb)
          clear hb BB Z S
          have BB := BB2
          clear BB2
          have Z := Zn
          clear Zn
          have S := Sn
          clear Sn
          have T := XN
          clear XN
          clear T
          go_wp2_with fail
          refine (DI.out _ (Rd.own Z.out)).mono ?_
          rintro e w' ⟨rfl, rfl⟩
          go_wp2_with fail
          go_ret
          exact ⟨rfl, BB.out⟩
    · have hd2 : dm zs = false := by simpa using hd
      have DI := Lib.hid (fun (W : World) (h : Rd W W.heap.size (some ⟨gZ, 0, none⟩) (ints zs)) => demI_of hd2 (some ⟨gZ, 0, none⟩) q cZ _ W ZL.out hq2 h)
      have F := Lib.hid (show m = 0 by rw [← hm, ← hzr, inTurn_no (fun c => hd c.1)]; rfl)
      have e0 : ((m : Int) == 0) = true := by rw [F.out]; rfl
      clear hzr hd hm hd2
      go_wp2_with fail
      refine (CI.out _ _ _ (Rd.own Z.out)).mono ?_
      rintro e wd1 ⟨gS, cS, rfl, ho, hb⟩
      have wlS : w.heap.size ≤ gS := Nat.le_trans BB.out.size (own_base ho gS rfl)
      have ne_Z_S : gZ < gS := Nat.lt_of_lt_of_le (Z.out.lt _ rfl).2 (own_base ho gS rfl)
      have XN := Lib.hid (owns_base ho wlS)
      clear ho
      have BB2 := Lib.hid (BB.out.trans (hb.mono BB.out.size))
      have Zn := Lib.hid (owns_below Z.out hb)
      clear hb BB Z
      have BB := BB2
      clear BB2
      have Z := Zn
      clear Zn
      have S := XN
      clear XN
      go_wp2_with fail
      refine (CS.out _ _ _ (Rd.own Z.out)).mono ?_
      rintro e wd2 ⟨gT, cT, rfl, ho, hb⟩
      have wlT : w.heap.size ≤ gT := Nat.le_trans BB.out.size (own_base ho gT rfl)
      have ne_Z_T : gZ < gT := Nat.lt_of_lt_of_le (Z.out.lt _ rfl).2 (own_base ho gT rfl)
      have ne_S_T : gS < gT := Nat.lt_of_lt_of_le (S.out.lt _ rfl).2 (own_base ho gT rfl)
      have XN := Lib.hid (owns_base ho wlT)
      clear ho
      have BB2 := Lib.hid (BB.out.trans (hb.mono BB.out.size))
      have Zn := Lib.hid (owns_below Z.out hb)
      have Sn := Lib.hid (owns_below S.out hb)
      clear hb BB Z S
      have BB := BB2
      clear BB2
      have Z := Zn
      clear Zn
      have S := Sn
      clear Sn
      have T := XN
      clear XN
      clear T
      go_wp2_with fail
      refine (DI.out _ (Rd.own Z.out)).mono ?_
      rintro e w' ⟨rfl, rfl⟩
      go_wp2_with fail
      go_ret
      exact ⟨rfl, BB.out⟩

set_option maxRecDepth 100000 in
theorem lifted (os : Os) (started : os.Started) (H : Type) (enc : TypeId × Value → H) :
    ReturnsInHanded {} Try.checked os 14 .any (Rows.fnInTurnSpec.pre6 enc Try.prog Try.f14 Rows.fnInTurnRow.domain false) (Rows.fnInTurnSpec.post enc Try.prog Try.f14 false true false false) := by
  refine returnsInHanded_of_change (C := Try.checked) own started (by kernel_rfl) Try.func14
    (ChangeSpec.witness6 (enc := enc) (C := Try.checked) false ⟨#[], #[.slice none 0 0], []⟩ 8 (by kernel_rfl) (by kernel_rfl) (by kernel_rfl) (by kernel_rfl)) ?_
  intro W base args ds gs before hval0 hW hcnd hsz
  have hval : ∀ (j : Nat) t v, Try.f14.params[j]? = some t → args[j]? = some v → Value.okWide Try.prog W .any base t v := hval0
  have hW' := hW
  obtain ⟨p, q, hA0, hV, rfl, hfz, hnd⟩ := hW
  have hA1 := hA0
  have hA : DataW.TrodAll enc Try.prog W 0 (fun _ => true) true Try.f14.params.toList args.toList ds p := hA0
  rw [Try.params14] at hA hval
  obtain ⟨v0, vs0, d0, ds0, p0, q0, hargs, rfl, rfl, h0, r0⟩ := trodAll_cons hA
  obtain ⟨rfl, rfl, rfl⟩ := trodAll_nil r0
  obtain rfl : args = #[v0] := by cases args; simp_all
  obtain ⟨rfl, rfl⟩ := trodVars_none hV
  obtain ⟨A0, n0, c0, a0, rfl, l0, m0, g0⟩ := RampFn.take_bytes Try.underlying35 Try.underlying5 (by kernel_rfl) (hval 0 35 v0 rfl rfl) h0
  clear hA0 hval0
  rw [List.append_nil] at hW'
  refine (walk A0 n0 c0 a0 l0 m0 W g0).mono fun e W' ⟨he, hb⟩ => ?_
  subst he
  exact ⟨_, rfl, post_law rfl hW' hA1 laidOut (by rw [Try.params14]; exact of_decide_eq_true (by kernel_rfl)) 4 (by kernel_rfl) Try.underlying4 rfl hb⟩

theorem over : Rows.fnInTurnRow.holds Try.pinned (OpenSpec.ofChange Rows.fnInTurnSpec) :=
  OpenClaim.holds_of_wide 14 Try.f14 rfl rfl rfl rfl rfl rfl rfl ⟨rfl, rfl, rfl, rfl, rfl⟩ rfl rfl rfl rfl rfl (by kernel_rfl) Try.func14 (by kernel_rfl)
    (of_decide_eq_true (by kernel_rfl)) (by unfold Func.isWrapper; first | (rw [if_pos (by decide +kernel)]; kernel_rfl) | (rw [if_neg (by decide +kernel)]; exact ⟨rfl, rfl⟩))
    (fun os started H enc _ => lifted os started H enc)

/-- The statement. -/
theorem proved : Rows.FnInTurnSaid :=
  over
#print axioms proved
end Go.Proofs.Ythlcmcpfpblmaaa.fnInTurn
