/- The law FnWater holds at every input. The step from the walk to the row follows the guide's own template. -/
import Derived.Test.YtokncfhpmjohdabGreatM1
import Derived.Test.YtokncfhpmjohdabGreatDh9
import Derived.Test.YtokncfhpmjohdabGreatM22
import Derived.Test.YtokncfhpmjohdabGreatM21
import Derived.Test.YtokncfhpmjohdabGreatM25
import Derived.Test.YtokncfhpmjohdabGreatNa11
import Derived.Test.YtokncfhpmjohdabGreatNf11
import Derived.Test.YtokncfhpmjohdabGreatTt11
import Derived.Test.YtokncfhpmjohdabGreatM32
import Derived.Deep.RegionHeld3
import Derived.Deep.DeepCutAuto
set_option linter.unusedVariables false
set_option linter.unusedSimpArgs false
namespace Go.Proofs.YtokncfhpmjohdabGreat.fnWater
open Go.ChangeShapes Go.WideShapes Go.ChangeAt Go.RowKit Go.WideMaps Go.WideElems Go.Proofs.YtokncfhpmjohdabGreat.Mem
open Go.ChangeMaps (open_string shut_string)
set_option linter.unusedVariables false
set_option linter.unusedSimpArgs false

theorem own : ownKnob Tryz.prog.godebug = none := by kernel_rfl
theorem laidOut : laidOutB Tryz.prog = true := by kernel_rfl

open Go.Proofs.YtokncfhpmjohdabGreat.P2 Go.Proofs.YtokncfhpmjohdabGreat.Bk Go.Proofs.YtokncfhpmjohdabGreat.Sp Go.Proofs.YtokncfhpmjohdabGreat.Sq 
open Go.Proofs.YtokncfhpmjohdabGreat.Sv hiding D C G
open Go.Proofs.YtokncfhpmjohdabGreat.Dh9 Go.Proofs.YtokncfhpmjohdabGreat.Nl9 Go.Proofs.YtokncfhpmjohdabGreat.Sp Go.Proofs.YtokncfhpmjohdabGreat.Sq Go.Proofs.YtokncfhpmjohdabGreat.Bk Go.Proofs.YtokncfhpmjohdabGreat.P2
open Go.Proofs.YtokncfhpmjohdabGreat.Rw (owns_below owns_grown owns_base)

set_option maxHeartbeats 8000000 in
set_option maxRecDepth 100000 in
theorem walk (A : Option Addr) (n c : Nat) (bs : List UInt8) (hn : bs.length = n) (hm : n ≤ maxLen) (w : World) (hr : Rd w w.heap.size A (Draw.u8s bs)) :
    Calls Tryz.prog 4 #[.slice A n c] w fun e w' => e = .returned (.bool true) ∧ Below w.heap.size w w' := by
  have hu : undef = Value.tuple #[] := rfl
  by_cases hbig : (n : Int) ≤ 4096
  · have D := Lib.hid (drawS w A n c bs hn (by omega) hr)
    clear hm
    go_enter Tryz.func4, Tryz.ntmps4
    go_wp2_with (go_at_call 7; go_enter Tryz.func7, Tryz.ntmps7)
    refine D.out.mono ?_
    rintro e wd0 ⟨ds, cs, gs, T, t, q0, g0, c0, A1, q1, c1, q2, g2, c2, e0, e1, e2, hH, ht0, ht1, rfl, o0, o1, o2, hB⟩
    have h9 := Lib.hid (drawn_show hH.score.1 hH.rig.1 hH.wind hH.t0 hH.t1)
    have HF := Lib.hid (show Fit q0 q1 q2 ds cs gs from ⟨⟨e0, by have := hH.rig.len; omega⟩, ⟨e1, by have := hH.score.2.1; omega⟩, e2, by have := hH.few; omega⟩)
    have hq0 : q0 ≤ 8 := by have := hH.rig.len; omega
    have HN := Lib.hid e0
    have wt : (Lit.int .i64 t).wf = true := Draw.wf_of_small (by omega) (by omega)
    have HSZ := Lib.hid hH.rig.sizes
    have HSC := Lib.hid hH.score.sizes
    have HT0 := Lib.hid (And.intro hH.t0 hH.t1)
    have HS0 := Lib.hid (show SR wd0 (some ⟨g0, 0, none⟩) A1 (some ⟨g2, 0, none⟩) ds cs gs from ⟨Rd.own o0, own_rd o1, Rd.own o2⟩)
    have B0 := Lib.hid hB
    clear e0 e1 e2 o0 o1 o2 hB hbig hn hr D hH
    generalize (some (⟨g0, 0, none⟩ : Addr)) = A0 at *
    generalize (some (⟨g2, 0, none⟩ : Addr)) = A2 at *
    have hrig : Ig.rig ds = true := (show_iff.1 h9.out).1
    obtain ⟨N, hN⟩ : ∃ N : Nat, (N : Int) = T := ⟨T.toNat, by have := HT0.out; omega⟩
    have hN13 : N ≤ 13 := by have := HT0.out; omega
    obtain ⟨WV, hWV⟩ : ∃ v, Na11.wsum ds cs T N = v := ⟨_, rfl⟩
    obtain ⟨M, hM⟩ : ∃ v, Na11.mostK ds q0 = v := ⟨_, rfl⟩
    have hWa : Tn9.wat (all9 ds cs gs T) = WV := by rw [Na11.wat_show h9.out, ← hWV, show T.toNat = N by omega]
    have HML := Lib.hid (Na11.most_le hrig)
    have hMb := Na11.most_le hrig q0
    rw [hM] at hMb
    have HWL := Lib.hid (show ∀ k : Nat, k ≤ N → 0 ≤ Na11.wsum ds cs T k ∧ Na11.wsum ds cs T k ≤ 1048576 from fun k hk => by
      have h1 := Na11.wsum_le cs T hrig k
      have h2 := Na11.most_le hrig ds.length
      have hl : ds.length ≤ 8 := by rw [HN.out]; omega
      have h3 : Na11.mostK ds ds.length * (k : Int) ≤ 4096 * (k : Int) := Int.mul_le_mul_of_nonneg_right (by omega) (by omega)
      exact ⟨h1.1, by omega⟩)
    have hWM : WV ≤ M * T := by
      have h1 := (Na11.wsum_le cs T hrig N).2
      rw [hWV, HN.out, hM, hN] at h1
      exact h1
    have hMT : 0 ≤ M * T ∧ M * T ≤ 1048576 := by
      have hT := HT0.out
      have h1 := Int.mul_le_mul_of_nonneg_right (c := T) (show M ≤ 4096 by omega) hT.1
      exact ⟨Int.mul_nonneg hMb.1 hT.1, by omega⟩
    have HLB := Lib.hid (show ∀ (t : Int), ∀ z ∈ lifts ds cs T t, 0 ≤ z ∧ z ≤ 512 from fun t z hz => by
      obtain ⟨j, hj, rfl⟩ := List.getElem_of_mem hz
      rcases ok_lifts cs T t hrig j _ (List.getElem?_eq_getElem hj) with e | ⟨a, b, _⟩ <;> omega)
    have CW := Lib.hid (show ∀ (W : World) (h : SR W A0 A1 A2 ds cs gs), Calls Tryz.prog 13 #[sv A0 q0 c0 A1 q1 c1 A2 q2 c2 T] W (fun e w' => e = .returned (.int .i64 WV) ∧ Below W.heap.size W w') from fun W h => by have := Tc9.waterI A0 q0 c0 A1 q1 c1 A2 q2 c2 T ds cs gs W HF.out h; rw [hWa] at this; exact this)
    have CX := Lib.hid (show ∀ (W : World) (h : SR W A0 A1 A2 ds cs gs), Calls Tryz.prog 14 #[sv A0 q0 c0 A1 q1 c1 A2 q2 c2 T] W (fun e w' => e = .returned (.int .i64 WV) ∧ Below W.heap.size W w') from fun W h => by have := Tn9.waterS A0 q0 c0 A1 q1 c1 A2 q2 c2 T ds cs gs W HF.out h HSZ.out HSC.out; rw [hWa] at this; exact this)
    have CL := Lib.hid (show ∀ (k : Nat) (W : World) (h : SR W A0 A1 A2 ds cs gs), k < 14 → Calls Tryz.prog 9 #[sv A0 q0 c0 A1 q1 c1 A2 q2 c2 T, .int .i64 (k : Int)] W (fun e w' => ∃ g c, e = .returned (.slice (some ⟨g, 0, none⟩) q0 c) ∧ w'.ownsRow W.heap.size 3 1 (.slice (some ⟨g, 0, none⟩) q0 c) q0 (Mem.ints (lifts ds cs T (k : Int))) ∧ Below W.heap.size W w') from fun k W h hk => by
      have := La9.liftsAtI A0 q0 c0 A1 q1 c1 A2 q2 c2 T ds cs gs (k : Int) W HF.out h (Draw.wf_of_small (by omega) (by omega))
      unfold Wp.RowI at this
      rw [La9.laV_yes _ h9.out, lifts_len, HN.out] at this
      exact this)
    have HWS := Lib.hid (show ∀ k : Nat, Na11.wsum ds cs T (k + 1) = Na11.wsum ds cs T k + Dm.tot (lifts ds cs T (k : Int)) from fun k => rfl)
    have HLL := Lib.hid (show ∀ t, (lifts ds cs T t).length = q0 from fun t => by rw [lifts_len, HN.out])
    have HZ := Lib.hid hWV
    have HM := Lib.hid hM
    have HNT := Lib.hid hN
    have z1 : (WV != WV) = false := by simp
    have z2 : (WV == WV) = true := by simp
    have z3 : wrap64 (M * T) = M * T := IntWalk.wrap64_in _ (by omega)
    have z4 : IntKind.i64.wrap (M * T) = M * T := IntWalk.i64_in _ (by omega)
    have z5 : decide (WV ≤ M * T) = true := decide_eq_true hWM
    clear hWa hWV hM h9 wt HSZ HSC hrig hMb hWM hMT
    have hb := (Below.refl wd0.heap.size wd0).alloc (Nat.le_refl _) (.cells #[.slice A0 q0 c0, .slice A1 q1 c1, .slice A2 q2 c2, .int .i64 T] 28)
    have KB := Lib.hid (Bk.new wd0 #[.slice A0 q0 c0, .slice A1 q1 c1, .slice A2 q2 c2, .int .i64 T] 28)
    have HS := Lib.hid (HS0.out.below hb)
    have BB := Lib.hid (B0.out.trans (hb.mono B0.out.size))
    clear hb HS0 B0
    go_upto_region 4 with fail
    generalize wd0.alloc (.cells #[.slice A0 q0 c0, .slice A1 q1 c1, .slice A2 q2 c2, .int .i64 T] 28) = w1 at *
    generalize wd0.heap.size = bx at *
    go_wp2_with fail
    go_loopw [5, 7] (fun n i wr => ∃ k : Nat, k ≤ N ∧ i = .int .i64 (k : Int) ∧ n = .int .i64 (Na11.wsum ds cs T k) ∧ Hid (Below w1.heap.size w1 wr)) (fun _ i _ => N - (intOf i).toNat)
    case atStart => exact ⟨0, Nat.zero_le _, rfl, rfl, Lib.hid (Below.refl _ _)⟩
    case round =>
      obtain ⟨k, hk, rfl, rfl, BW⟩ := hrel
      have KW := Lib.hid (KB.out.below BW.out)
      have HW := Lib.hid (HS.out.below BW.out)
      have f0 := KW.out.cell (i := 0) rfl
      have f1 := KW.out.cell (i := 1) rfl
      have f2 := KW.out.cell (i := 2) rfl
      have f3 := KW.out.cell (i := 3) rfl
      have b1 := HWL.out k hk
      by_cases hlt : k < N
      · have b2 := HWL.out (k + 1) (by omega)
        have hs := Lib.hid (HWS.out k)
        rw [hs.out] at b2
        have hc : decide ((k : Int) < T) = true := decide_eq_true (by have := HNT.out; omega)
        have hlt' : (k : Int) < T := by have := HNT.out; omega
        obtain ⟨TT, hTT⟩ : ∃ v, Dm.tot (lifts ds cs T (k : Int)) = v := ⟨_, rfl⟩
        obtain ⟨WK, hWK⟩ : ∃ v, Na11.wsum ds cs T k = v := ⟨_, rfl⟩
        have CT := Lib.hid (fun (g c : Nat) (W : World) (h : Rd W W.heap.size (some ⟨g, 0, none⟩) (Mem.ints (lifts ds cs T (k : Int)))) => (by have := Tt11.totalL (some ⟨g, 0, none⟩) q0 c _ _ W (HLL.out _) (by omega) (HLB.out _) h; rw [hTT] at this; exact this : Calls Tryz.prog 12 #[.slice (some ⟨g, 0, none⟩) q0 c] W (fun e w' => e = .returned (.int .i64 TT) ∧ W = w')))
        rw [hWK, hTT] at hs b2
        rw [hWK] at b1
        rw [hWK]
        have hk13 : k < 14 := by omega
        have CLk := Lib.hid (fun (W : World) (h : SR W A0 A1 A2 ds cs gs) => CL.out k W h hk13)
        clear hTT hWK
        go_wp2_with fail
        refine (CLk.out _ HW.out).mono ?_
        rintro e w2 ⟨gl, cl, rfl, ho, hb⟩
        have RL := Lib.hid (Rd.own ho)
        have B2 := Lib.hid (BW.out.trans (hb.mono BW.out.size))
        clear f0 f1 f2 f3 ho hb
        go_wp2_with fail
        refine (CT.out gl cl _ RL.out).mono ?_
        rintro e _ ⟨rfl, rfl⟩
        go_wp2_with fail
        go_roundw
        case rel => exact ⟨k + 1, by omega, by go_num, by rw [hs.out], B2⟩
        case measure => simp [intOf]; omega
      · obtain rfl : k = N := by omega
        have hc : decide ((k : Int) < T) = false := decide_eq_false (by have := HNT.out; omega)
        have hlt' : ¬ (k : Int) < T := by have := HNT.out; omega
        have hK := HZ.out
        obtain ⟨wo, rfl⟩ : ∃ wo, wo = wr := ⟨_, rfl⟩
        rw [hK]
        clear hK b1
        go_wp2_with fail
        clear f0 f1 f2 f3
        go_loop [6, 8] (fun m i => ∃ k : Nat, k ≤ q0 ∧ i = .int .i64 (k : Int) ∧ m = .int .i64 (Na11.mostK ds k)) (fun _ i => q0 - (intOf i).toNat)
        case atStart => exact ⟨0, Nat.zero_le _, rfl, rfl⟩
        case round =>
          obtain ⟨j, hj, rfl, rfl⟩ := hrel
          have f0 := KW.out.cell (i := 0) rfl
          have m1 := HML.out j
          by_cases hjt : j < q0
          · obtain ⟨z, hz⟩ : ∃ z, ds[j]? = some z := ⟨_, List.getElem?_eq_getElem (by rw [HN.out]; exact hjt)⟩
            have m2 := HML.out (j + 1)
            obtain ⟨bD, oD, eA, hbl, hcell⟩ := (HW.out.r0).get (k := j * 8) (by rw [Dd.dls_len, HN.out]; omega)
            obtain ⟨dn, dk, dl, dx, dy, dh, dt, dm⟩ := z
            obtain ⟨z0, z1, z2, z3, z4, z5, z6, z7⟩ := Dd.dls_get hz
            have v1 := hcell (j * 8 + 1) _ z1
            rw [← Nat.add_assoc] at v1
            have v7 := hcell (j * 8 + 7) _ z7
            rw [← Nat.add_assoc] at v7
            subst eA
            by_cases hkd : dk = 1
            · have hs := Lib.hid (show Na11.mostK ds (j + 1) = Na11.mostK ds j + dm from Na11.most_yes hz hkd)
              rw [hs.out] at m2
              have ceq : (dk == 1) = true := by simp [hkd]
              obtain ⟨MK, hMK⟩ : ∃ v, Na11.mostK ds j = v := ⟨_, rfl⟩
              rw [hMK] at m1 m2 hs ⊢
              have z9 : wrap64 (MK + dm) = MK + dm := IntWalk.wrap64_in _ (by omega)
              clear hMK hkd hz hcell hbl z0 z1 z2 z3 z4 z5 z6 z7
              go_wp2_with fail
              go_round
              case rel => exact ⟨j + 1, by omega, by go_num, by rw [hs.out]⟩
              case measure => simp [intOf]; omega
            · have hs := Lib.hid (Na11.most_no hz hkd)
              have ceq : (dk == 1) = false := by simp [hkd]
              clear hkd hz hcell hbl z0 z1 z2 z3 z4 z5 z6 z7 m2
              go_wp2_with fail
              go_round
              case rel => exact ⟨j + 1, by omega, by go_num, by rw [hs.out]⟩
              case measure => simp [intOf]; omega
          · obtain rfl : q0 = j := by omega
            have hK := HM.out
            have BF := Lib.hid (BB.out.trans (BW.out.mono BB.out.size))
            rw [hK]
            clear hK m1 BB HS KB BW
            have KB := KW
            have HS := HW
            have BB := BF
            clear KW HW BF
            have f1 := KB.out.cell (i := 1) rfl
            have f2 := KB.out.cell (i := 2) rfl
            have f3 := KB.out.cell (i := 3) rfl
            go_wp2_with fail
            have fKB_0 := f0
            have fKB_1 := f1
            have fKB_2 := f2
            have fKB_3 := f3
            clear f0 f1 f2 f3
            refine wp_region_noPanic ?_
            refine wp_region_held_drew (S := (fun w' => w'.cell? ⟨bx, 0, none⟩ = some (.slice A0 q0 c0) ∧ w'.cell? ⟨bx, 1, none⟩ = some (.slice A1 q1 c1) ∧ w'.cell? ⟨bx, 2, none⟩ = some (.slice A2 q2 c2) ∧ w'.cell? ⟨bx, 3, none⟩ = some (.int .i64 T) ∧ Below wo.heap.size wo w')) (by kernel_rfl) ?_ (fun hH => ?_)
            · exact ⟨fKB_0, fKB_1, fKB_2, fKB_3, (Below.refl _ _).drew⟩
            refine wpAnyH_take (i := 0) (oi := { dst := some 50, op := _, type := _, pos := _, after := _, guard := _ }) (v := ?_) rfl (by kernel_rfl) (by kernel_rfl) (by kernel_rfl) (fun _ _ _ h => h) (Or.inl ⟨by rfl, ?_⟩) hH ?_
            rotate_left 1
            · intro W hSw
              (try dsimp only at hSw)
              go_simp
              (try with_reducible rfl)
            try simp only [Act.put, List.setIfInBounds_toArray, List.set_cons_zero, List.set_cons_succ]
            refine wpAnyH_take (i := 2) (oi := { dst := some 52, op := _, type := _, pos := _, after := _, guard := _ }) (v := ?_) rfl (by kernel_rfl) (by kernel_rfl) (by kernel_rfl) (fun _ _ _ h => h) (Or.inl ⟨by rfl, ?_⟩) hH ?_
            rotate_left 1
            · intro W hSw
              (try dsimp only at hSw)
              go_simp
              (try with_reducible rfl)
            try simp only [Act.put, List.setIfInBounds_toArray, List.set_cons_zero, List.set_cons_succ]
            refine wpAnyH_ready (rs := [1]) (by kernel_rfl) (by simp) (AllReadyH.cons rfl (fun K hK => ?_) AllReadyH.nil)
            go_simp
            go_at_call 13; ((with_reducible refine (CW.out _ (HS.out.below hH.2.2.2.2)).mono ?_); rintro e z0 ⟨rfl, hb⟩); go_wp2_with fail
            refine hK.out _ _ ?_ (fun hG => ?_)
            · exact ⟨cell_below hb hH.1, cell_below hb hH.2.1, cell_below hb hH.2.2.1, cell_below hb hH.2.2.2.1, hH.2.2.2.2.trans (hb.mono hH.2.2.2.2.size)⟩
            replace hH := hG
            clear hK K hG
            try simp only [Act.put, List.setIfInBounds_toArray, List.set_cons_zero, List.set_cons_succ]
            clear hb
            refine wpAnyH_ready (rs := [3]) (by kernel_rfl) (by simp) (AllReadyH.cons rfl (fun K hK => ?_) AllReadyH.nil)
            go_simp
            go_at_call 14; ((with_reducible refine (CX.out _ (HS.out.below hH.2.2.2.2)).mono ?_); rintro e z1 ⟨rfl, hb⟩); go_wp2_with fail
            refine hK.out _ _ ?_ (fun hG => ?_)
            · exact ⟨cell_below hb hH.1, cell_below hb hH.2.1, cell_below hb hH.2.2.1, cell_below hb hH.2.2.2.1, hH.2.2.2.2.trans (hb.mono hH.2.2.2.2.size)⟩
            replace hH := hG
            clear hK K hG
            try simp only [Act.put, List.setIfInBounds_toArray, List.set_cons_zero, List.set_cons_succ]
            clear hb
            refine wpAnyH_take (i := 4) (oi := { dst := some 54, op := _, type := _, pos := _, after := _, guard := _ }) (v := ?_) rfl (by kernel_rfl) (by kernel_rfl) (by kernel_rfl) (fun _ _ _ h => h) (Or.inl ⟨by rfl, ?_⟩) hH ?_
            rotate_left 1
            · intro W hSw
              (try dsimp only at hSw)
              go_simp
              (try with_reducible rfl)
            try simp only [Act.put, List.setIfInBounds_toArray, List.set_cons_zero, List.set_cons_succ]
            refine wpAnyH_done (by kernel_rfl) ?_ _
            refine NoPanic.normal ?_
            have hb := hH.2.2.2.2
            clear hH
            clear fKB_0 fKB_1 fKB_2 fKB_3
            have KB9 := Lib.hid (KB.out.below hb)
            have HS9 := Lib.hid (HS.out.below hb)
            have BB9 := Lib.hid (BB.out.trans (hb.mono BB.out.size))
            clear hb KB HS BB
            have KB := KB9
            clear KB9
            have HS := HS9
            clear HS9
            have BB := BB9
            clear BB9
            have fKB_0 := KB.out.cell (i := 0) rfl
            have fKB_1 := KB.out.cell (i := 1) rfl
            have fKB_2 := KB.out.cell (i := 2) rfl
            have fKB_3 := KB.out.cell (i := 3) rfl
            go_wp2_with fail
            clear fKB_0 fKB_1 fKB_2 fKB_3
            refine (CW.out _ HS.out).mono ?_
            rintro e V1 ⟨rfl, hb⟩
            have KB9 := Lib.hid (KB.out.below hb)
            have HS9 := Lib.hid (HS.out.below hb)
            have BB9 := Lib.hid (BB.out.trans (hb.mono BB.out.size))
            clear hb KB HS BB
            have KB := KB9
            clear KB9
            have HS := HS9
            clear HS9
            have BB := BB9
            clear BB9
            have fKB_0 := KB.out.cell (i := 0) rfl
            have fKB_1 := KB.out.cell (i := 1) rfl
            have fKB_2 := KB.out.cell (i := 2) rfl
            have fKB_3 := KB.out.cell (i := 3) rfl
            go_wp2_with fail
            go_ret
            exact ⟨rfl, BB.out⟩
  · have hd : decide (4096 < n) = true := decide_eq_true (by omega)
    clear hn hm hr
    go_enter Tryz.func4, Tryz.ntmps4
    go_wp2_with (go_at_call 7; go_enter Tryz.func7, Tryz.ntmps7)
    go_returns
    exact ⟨rfl, Below.refl _ _⟩

set_option maxRecDepth 100000 in
theorem lifted (os : Os) (started : os.Started) (H : Type) (enc : TypeId × Value → H) :
    ReturnsInHanded {} Tryz.checked os 4 .any (Rows.fnWaterSpec.pre6 enc Tryz.prog Tryz.f4 Rows.fnWaterRow.domain false) (Rows.fnWaterSpec.post enc Tryz.prog Tryz.f4 false true false false) := by
  refine returnsInHanded_of_change (C := Tryz.checked) own started (by kernel_rfl) Tryz.func4
    (ChangeSpec.witness6 (enc := enc) (C := Tryz.checked) false ⟨#[], #[.slice none 0 0], []⟩ 8 (by kernel_rfl) (by kernel_rfl) (by kernel_rfl) (by kernel_rfl)) ?_
  intro W base args ds gs before hval0 hW hcnd hsz
  have hval : ∀ (j : Nat) t v, Tryz.f4.params[j]? = some t → args[j]? = some v → Value.okWide Tryz.prog W .any base t v := hval0
  have hW' := hW
  obtain ⟨p, q, hA0, hV, rfl, hfz, hnd⟩ := hW
  have hA1 := hA0
  have hA : DataW.TrodAll enc Tryz.prog W 0 (fun _ => true) true Tryz.f4.params.toList args.toList ds p := hA0
  rw [Tryz.params4] at hA hval
  obtain ⟨v0, vs0, d0, ds0, p0, q0, hargs, rfl, rfl, h0, r0⟩ := trodAll_cons hA
  obtain ⟨rfl, rfl, rfl⟩ := trodAll_nil r0
  obtain rfl : args = #[v0] := by cases args; simp_all
  obtain ⟨rfl, rfl⟩ := trodVars_none hV
  obtain ⟨A0, n0, c0, a0, rfl, l0, m0, g0⟩ := RampFn.take_bytes Tryz.underlying22 Tryz.underlying5 (by kernel_rfl) (hval 0 22 v0 rfl rfl) h0
  clear hA0 hval0
  rw [List.append_nil] at hW'
  refine (walk A0 n0 c0 a0 l0 m0 W g0).mono fun e W' ⟨he, hb⟩ => ?_
  subst he
  exact ⟨_, rfl, post_law rfl hW' hA1 laidOut (by rw [Tryz.params4]; exact of_decide_eq_true (by kernel_rfl)) 4 (by kernel_rfl) Tryz.underlying4 rfl hb⟩

theorem over : Rows.fnWaterRow.holds Tryz.pinned (OpenSpec.ofChange Rows.fnWaterSpec) :=
  OpenClaim.holds_of_wide 4 Tryz.f4 rfl rfl rfl rfl rfl rfl rfl ⟨rfl, rfl, rfl, rfl, rfl⟩ rfl rfl rfl rfl rfl (by kernel_rfl) Tryz.func4 (by kernel_rfl)
    (of_decide_eq_true (by kernel_rfl)) (by unfold Func.isWrapper; first | (rw [if_pos (by decide +kernel)]; kernel_rfl) | (rw [if_neg (by decide +kernel)]; exact ⟨rfl, rfl⟩))
    (fun os started H enc _ => lifted os started H enc)

/-- The statement. -/
theorem proved : Rows.FnWaterSaid :=
  over
#print axioms proved
end Go.Proofs.YtokncfhpmjohdabGreat.fnWater
