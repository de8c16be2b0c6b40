/- The law FnHigh holds at every input. The step from the walk to the row follows the guide's own template. -/
import Derived.Test.YtokncfhpmjohdabGreatM1
import Derived.Test.YtokncfhpmjohdabGreatDh9
import Derived.Test.YtokncfhpmjohdabGreatM22
import Derived.Test.YtokncfhpmjohdabGreatM31
import Derived.Test.YtokncfhpmjohdabGreatM29
import Derived.Test.YtokncfhpmjohdabGreatM25
import Derived.Test.YtokncfhpmjohdabGreatNh12
import Derived.Test.YtokncfhpmjohdabGreatM21
import Derived.Test.YtokncfhpmjohdabGreatM24
import Derived.Test.YtokncfhpmjohdabGreatM32
import Derived.Deep.RegionHeld3
import Derived.Deep.DeepCutAuto
set_option linter.unusedVariables false
set_option linter.unusedSimpArgs false
namespace Go.Proofs.YtokncfhpmjohdabGreat.fnHigh
open Go.ChangeShapes Go.WideShapes Go.ChangeAt Go.RowKit Go.WideMaps Go.WideElems Go.Proofs.YtokncfhpmjohdabGreat.Mem
open Go.ChangeMaps (open_string shut_string)
set_option linter.unusedVariables false
set_option linter.unusedSimpArgs false

theorem own : ownKnob Tryz.prog.godebug = none := by kernel_rfl
theorem laidOut : laidOutB Tryz.prog = true := by kernel_rfl

open Go.Proofs.YtokncfhpmjohdabGreat.P2 Go.Proofs.YtokncfhpmjohdabGreat.Bk Go.Proofs.YtokncfhpmjohdabGreat.Sp Go.Proofs.YtokncfhpmjohdabGreat.Sq 
open Go.Proofs.YtokncfhpmjohdabGreat.Sv hiding D C G
open Go.Proofs.YtokncfhpmjohdabGreat.Dh9 Go.Proofs.YtokncfhpmjohdabGreat.Nl9 Go.Proofs.YtokncfhpmjohdabGreat.Sp Go.Proofs.YtokncfhpmjohdabGreat.Sq Go.Proofs.YtokncfhpmjohdabGreat.Bk Go.Proofs.YtokncfhpmjohdabGreat.P2 Go.Proofs.YtokncfhpmjohdabGreat.Nh12
open Go.Proofs.YtokncfhpmjohdabGreat.Rw (owns_below owns_grown owns_base)

set_option maxRecDepth 100000
theorem step_store9 {ops : Array Oper} {o : Oper} {a : Act} {w : World} {K : Act → World → Prop} {Q : Exit → Act → World → Prop} {E : Prop} (hgd : o.guard = none) (ty : TypeId) (x y : Operand) (ho : o.op = .store ty x y)
    (g : Nat) (cells : Array Value) (hx : a.eval x = .pointer (some ⟨g, 0, none⟩)) (hy : a.eval y = .agg cells) (t : TypeId) (old : Array Value) (hg : Bk w g old t) (hi : (Tryz.prog.info? ty).map (·.size) = some cells.size)
    (hold : old.size = cells.size) (h1 : cells.all (·.oneCell') = true) (h : K (a.put o.dst undef) (w.setRow g cells)) : if Region.wanted o (yielded ops a.tmps) = true then Oper.wp Tryz.prog o a w K Q else E := by
  have hw : Region.wanted o (yielded ops a.tmps) = true := by simp [Region.wanted, hgd]
  rw [if_pos hw]
  exact wp_store_row ty x y ho g cells hx hy t old hg hi hold h1 h
theorem row_grown9 (w : World) (g : Nat) (cells : Array Value) : w.grownBy (w.setRow g cells) (some g) := ⟨rfl, rfl, rfl, by simp, fun k _ hk => setRow_other w g k _ (fun e => hk (by rw [e]))⟩
theorem row_bk9 {w : World} {g : Nat} {old : Array Value} {T : TypeId} (cells : Array Value) (h : Bk w g old T) : Bk (w.setRow g cells) g cells T := setRow_heap w g old cells T (0, 0) h

set_option maxHeartbeats 8000000 in
set_option maxRecDepth 100000 in
theorem walk (A : Option Addr) (n c : Nat) (bs : List UInt8) (hn : bs.length = n) (hm : n ≤ maxLen) (w : World) (hr : Rd w w.heap.size A (Draw.u8s bs)) :
    Calls Tryz.prog 5 #[.slice A n c] w fun e w' => e = .returned (.bool true) ∧ Below w.heap.size w w' := by
  have hu : undef = Value.tuple #[] := rfl
  by_cases hbig : (n : Int) ≤ 4096
  · have D := Lib.hid (drawS w A n c bs hn (by omega) hr)
    clear hm
    go_enter Tryz.func5, Tryz.ntmps5
    go_wp2_with (go_at_call 7; go_enter Tryz.func7, Tryz.ntmps7)
    refine D.out.mono ?_
    rintro e wd0 ⟨ds, cs, gs, T, t, q0, g0, c0, A1, q1, c1, q2, g2, c2, e0, e1, e2, hH, ht0, ht1, rfl, o0, o1, o2, hB⟩
    have h9 := Lib.hid (drawn_show hH.score.1 hH.rig.1 hH.wind hH.t0 hH.t1)
    have HF := Lib.hid (show Fit q0 q1 q2 ds cs gs from ⟨⟨e0, by have := hH.rig.len; omega⟩, ⟨e1, by have := hH.score.2.1; omega⟩, e2, by have := hH.few; omega⟩)
    have hq0 : q0 ≤ 8 := by have := hH.rig.len; omega
    have HN := Lib.hid e0
    have wt : (Lit.int .i64 t).wf = true := Draw.wf_of_small (by omega) (by omega)
    have HSZ := Lib.hid hH.rig.sizes
    have HSC := Lib.hid hH.score.sizes
    have HT0 := Lib.hid (And.intro hH.t0 hH.t1)
    have HS0 := Lib.hid (show SR wd0 (some ⟨g0, 0, none⟩) A1 (some ⟨g2, 0, none⟩) ds cs gs from ⟨Rd.own o0, own_rd o1, Rd.own o2⟩)
    have B0 := Lib.hid hB
    clear e0 e1 e2 o0 o1 o2 hB hbig hn hr D hH
    generalize (some (⟨g0, 0, none⟩ : Addr)) = A0 at *
    generalize (some (⟨g2, 0, none⟩ : Addr)) = A2 at *
    obtain ⟨N, hN⟩ : ∃ N : Nat, (N : Int) = T := ⟨T.toNat, by have := HT0.out; omega⟩
    have hN13 : N ≤ 13 := by have := HT0.out; omega
    obtain ⟨H, hH9⟩ : ∃ v, Tn9.hi9 (all9 ds cs gs T) = v := ⟨_, rfl⟩
    obtain ⟨zs, hzs⟩ : ∃ l, Lw9.dpV ds cs gs T t = l := ⟨_, rfl⟩
    obtain ⟨p, hp⟩ : ∃ p, zs.length = p := ⟨_, rfl⟩
    obtain ⟨m, hm⟩ : ∃ p, (Lp9.ldV ds cs gs T).length = p := ⟨_, rfl⟩
    have hp5 : p ≤ 512 := by rw [← hp, ← hzs]; exact Lw9.dp_len ds cs gs T t
    have HZ := Lib.hid (show ∀ d ∈ zs, 0 ≤ d.h ∧ d.h ≤ H from fun d hd => by rw [← hH9]; exact Nh11.drop_high (by rw [hzs]; exact hd))
    have HE := Lib.hid (show ∀ k : Nat, (k : Int) = T → NoM ds cs gs T H k 0 → m = 0 from fun k hk h => by rw [← hm, no_all hk (by rw [hH9]; exact h)]; rfl)
    have HE0 := Lib.hid (show m = 0 → H = 0 from fun h => by rw [← hH9]; exact Nh11.high_none (List.eq_nil_of_length_eq_zero (by rw [hm]; exact h)))
    have CHI := Lib.hid (show ∀ (W : World) (h : SR W A0 A1 A2 ds cs gs), Calls Tryz.prog 15 #[sv A0 q0 c0 A1 q1 c1 A2 q2 c2 T] W (fun e w' => e = .returned (.int .i64 H) ∧ Below W.heap.size W w') from fun W h => by have := Tc9.highI A0 q0 c0 A1 q1 c1 A2 q2 c2 T ds cs gs W HF.out h; rw [hH9] at this; exact this)
    have CHS := Lib.hid (show ∀ (W : World) (h : SR W A0 A1 A2 ds cs gs), Calls Tryz.prog 16 #[sv A0 q0 c0 A1 q1 c1 A2 q2 c2 T] W (fun e w' => e = .returned (.int .i64 H) ∧ Below W.heap.size W w') from fun W h => by have := Tn9.highS A0 q0 c0 A1 q1 c1 A2 q2 c2 T ds cs gs W HF.out h HSZ.out HSC.out; rw [hH9] at this; exact this)
    have CD := Lib.hid (show ∀ (W : World) (h : SR W A0 A1 A2 ds cs gs), Calls Tryz.prog 17 #[sv A0 q0 c0 A1 q1 c1 A2 q2 c2 T, .int .i64 t] W (fun e w' => ∃ g c, e = .returned (.slice (some ⟨g, 0, none⟩) p c) ∧ w'.ownsRow W.heap.size 44 5 (.slice (some ⟨g, 0, none⟩) p c) p (Pl9.pls zs) ∧ Below W.heap.size W w') from fun W h => by have := Dp9.dropsI A0 q0 c0 A1 q1 c1 A2 q2 c2 T ds cs gs t W HF.out h; unfold Pl9.RowP at this; rw [hzs, hp] at this; exact this)
    have CG := Lib.hid (show ∀ (W : World) (h : SR W A0 A1 A2 ds cs gs), Calls Tryz.prog 18 #[sv A0 q0 c0 A1 q1 c1 A2 q2 c2 T] W (fun e w' => ∃ g c, e = .returned (.slice (some ⟨g, 0, none⟩) m c) ∧ Below W.heap.size W w') from fun W h => (Lp9.landingsI A0 q0 c0 A1 q1 c1 A2 q2 c2 T ds cs gs W HF.out h).mono fun e w' k => by unfold Pl9.RowP at k; obtain ⟨g, c, k1, _, k2⟩ := k; exact ⟨g, c, by rw [k1, hm], k2⟩)
    have CJ := Lib.hid (fun (q : ByteArray) (k : Nat) (hk : k < 14) (W : World) (h : SR W A0 A1 A2 ds cs gs) => Jb9.jetAtI A0 q0 c0 A1 q1 c1 A2 q2 c2 T ds cs gs q (k : Int) W HF.out h (Draw.wf_of_small (by omega) (by omega)))
    have HP := Lib.hid hp
    have HNT := Lib.hid hN
    have z1 : (H != H) = false := by simp
    clear hH9 hzs hp hm hN wt HSZ HSC h9 HF
    have hb := (Below.refl wd0.heap.size wd0).alloc (Nat.le_refl _) (.cells #[.slice A0 q0 c0, .slice A1 q1 c1, .slice A2 q2 c2, .int .i64 T] 28)
    have KB := Lib.hid (Bk.new wd0 #[.slice A0 q0 c0, .slice A1 q1 c1, .slice A2 q2 c2, .int .i64 T] 28)
    have HS := Lib.hid (HS0.out.below hb)
    have BB := Lib.hid (B0.out.trans (hb.mono B0.out.size))
    clear hb HS0 B0
    go_upto_region 4 with fail
    generalize wd0.alloc (.cells #[.slice A0 q0 c0, .slice A1 q1 c1, .slice A2 q2 c2, .int .i64 T] 28) = w1 at *
    generalize wd0.heap.size = bx at *
    have fKB_0 := KB.out.cell (i := 0) rfl
    have fKB_1 := KB.out.cell (i := 1) rfl
    have fKB_2 := KB.out.cell (i := 2) rfl
    have fKB_3 := KB.out.cell (i := 3) rfl
    go_wp2_with fail
    clear fKB_0 fKB_1 fKB_2 fKB_3
    refine (CHI.out _ HS.out).mono ?_
    rintro e V1 ⟨rfl, hb⟩
    have KB9 := Lib.hid (KB.out.below hb)
    have HS9 := Lib.hid (HS.out.below hb)
    have BB9 := Lib.hid (BB.out.trans (hb.mono BB.out.size))
    clear hb KB HS BB
    have KB := KB9
    clear KB9
    have HS := HS9
    clear HS9
    have BB := BB9
    clear BB9
    have fKB_0 := KB.out.cell (i := 0) rfl
    have fKB_1 := KB.out.cell (i := 1) rfl
    have fKB_2 := KB.out.cell (i := 2) rfl
    have fKB_3 := KB.out.cell (i := 3) rfl
    go_wp2_with fail
    clear fKB_0 fKB_1 fKB_2 fKB_3
    refine (CHS.out _ HS.out).mono ?_
    rintro e V2 ⟨rfl, hb⟩
    have KB9 := Lib.hid (KB.out.below hb)
    have HS9 := Lib.hid (HS.out.below hb)
    have BB9 := Lib.hid (BB.out.trans (hb.mono BB.out.size))
    clear hb KB HS BB
    have KB := KB9
    clear KB9
    have HS := HS9
    clear HS9
    have BB := BB9
    clear BB9
    have fKB_0 := KB.out.cell (i := 0) rfl
    have fKB_1 := KB.out.cell (i := 1) rfl
    have fKB_2 := KB.out.cell (i := 2) rfl
    have fKB_3 := KB.out.cell (i := 3) rfl
    go_wp2_with fail
    clear fKB_0 fKB_1 fKB_2 fKB_3
    refine (CD.out _ HS.out).mono ?_
    rintro e V3 ⟨gd, cd, rfl, ho, hb⟩
    have DRN := Lib.hid ho
    clear ho
    have KB9 := Lib.hid (KB.out.below hb)
    have HS9 := Lib.hid (HS.out.below hb)
    have BB9 := Lib.hid (BB.out.trans (hb.mono BB.out.size))
    clear hb KB HS BB
    have KB := KB9
    clear KB9
    have HS := HS9
    clear HS9
    have BB := BB9
    clear BB9
    have DR := DRN
    clear DRN
    go_wp2_with fail
    go_loop [7] (fun i => ∃ k : Nat, k ≤ p ∧ i = .int .i64 (k : Int)) (fun i => p - (intOf i).toNat)
    case atStart => exact ⟨0, Nat.zero_le _, rfl⟩
    case round =>
      obtain ⟨k, hk, rfl⟩ := hrel
      by_cases hlt : k < p
      · obtain ⟨d, hd⟩ : ∃ d, zs[k]? = some d := ⟨_, List.getElem?_eq_getElem (by rw [HP.out]; exact hlt)⟩
        obtain ⟨dn, db, dx, dy, dh⟩ := d
        have hb9 : 0 ≤ dh ∧ dh ≤ H := HZ.out _ (List.mem_of_getElem? hd)
        have c4 := (DR.out.cellAt (k * 5 + 4) (by omega)).trans (Pl9.pls_get hd).2.2.2.2
        have d1 : decide (H < dh) = false := decide_eq_false (by omega)
        have d2 : decide (dh < 0) = false := decide_eq_false (by omega)
        have d3 : ¬ H < dh := by omega
        have d4 : ¬ dh < 0 := by omega
        clear hd hb9
        go_wp2_with fail
        go_round
        case rel => exact ⟨k + 1, by omega, by go_num⟩
        case measure => simp [intOf]; omega
      · have hkp : k = p := by omega
        have d5 : decide ((k : Int) < (p : Int)) = false := decide_eq_false (by omega)
        clear hkp
        by_cases h0 : H = 0
        · have d6 : (H == 0) = true := by simp [h0]
          clear h0
          have f0 := KB.out.cell (i := 0) rfl
          have f1 := KB.out.cell (i := 1) rfl
          have f2 := KB.out.cell (i := 2) rfl
          have f3 := KB.out.cell (i := 3) rfl
          go_wp2_with fail
          refine (CG.out _ HS.out).mono ?_
          rintro e v9 ⟨g9, c9, rfl, hb⟩
          have B9 := Lib.hid hb
          have HM := Lib.hid (show ((m : Int) == 0) = false → m ≠ 0 from fun h e => by rw [e] at h; simp at h)
          clear hb f0 f1 f2 f3
          have KX := Lib.hid (KB.out.below B9.out)
          have HX := Lib.hid (HS.out.below B9.out)
          have BBX := Lib.hid (BB.out.trans (B9.out.mono BB.out.size))
          clear KB HS BB B9 DR CHI CHS CD CG HZ d5 d6 hlt hk HP
          obtain ⟨wo, rfl⟩ : ∃ wo, wo = v9 := ⟨_, rfl⟩
          go_wp2_with fail
          go_loopw [8, 9] (fun f i wr => ∃ (k : Nat) (b : Bool), k ≤ N ∧ i = .int .i64 (k : Int) ∧ f = .bool b ∧ Hid (b = false → m ≠ 0 ∧ NoM ds cs gs T H k 0) ∧ Hid (Below wo.heap.size wo wr)) (fun _ i _ => N - (intOf i).toNat)
          case atStart => exact ⟨0, _, Nat.zero_le _, rfl, rfl, Lib.hid (fun h => ⟨HM.out (by first | exact h | trivial), no_zero ds cs gs T H⟩), Lib.hid (Below.refl _ _)⟩
          case round =>
            clear HM
            obtain ⟨q, b, hq, rfl, rfl, HQ, BW⟩ := hrel
            have KW := Lib.hid (KX.out.below BW.out)
            have HW := Lib.hid (HX.out.below BW.out)
            have BBW := Lib.hid (BBX.out.trans (BW.out.mono BBX.out.size))
            have f3 := KW.out.cell (i := 3) rfl
            cases b
            · by_cases hlq : q < N
              · have hc : decide ((q : Int) < T) = true := decide_eq_true (by have := HNT.out; omega)
                have hc2 : (q : Int) < T := by have := HNT.out; omega
                have HQ2 := Lib.hid (HQ.out rfl)
                have hq14 : q < 14 := by omega
                have CJq := Lib.hid (fun (z : ByteArray) => CJ.out z q hq14)
                obtain ⟨wv, rfl⟩ : ∃ wv, wv = wr := ⟨_, rfl⟩
                clear HQ
                go_wp2_with fail
                clear f3
                go_loopw [8, 10] (fun f i wr => ∃ (j : Nat) (b : Bool), j ≤ q0 ∧ i = .int .i64 (j : Int) ∧ f = .bool b ∧ Hid (b = false → NoM ds cs gs T H q j) ∧ Hid (Below wv.heap.size wv wr)) (fun _ i _ => q0 - (intOf i).toNat)
                case atStart => exact ⟨0, false, Nat.zero_le _, rfl, rfl, Lib.hid (fun _ => HQ2.out.2), Lib.hid (Below.refl _ _)⟩
                case round =>
                  obtain ⟨j, b, hj, rfl, rfl, HJ, BV⟩ := hrel
                  have KV := Lib.hid (KW.out.below BV.out)
                  have HV := Lib.hid (HW.out.below BV.out)
                  have b0 := KV.out.cell (i := 0) rfl
                  by_cases hlj : j < q0
                  · obtain ⟨z, hz⟩ : ∃ z, ds[j]? = some z := ⟨_, List.getElem?_eq_getElem (by rw [HN.out]; exact hlj)⟩
                    have HZ := Lib.hid hz
                    clear hz
                    obtain ⟨dn, dk, dl, dx, dy, dh, dt, dm⟩ := z
                    obtain ⟨bD, oD, eA, hbl, hcell⟩ := (HV.out.r0).get (k := j * 8) (by rw [Dd.dls_len, HN.out]; omega)
                    obtain ⟨z0, z1', z2, z3, z4, z5, z6, z7⟩ := Dd.dls_get HZ.out
                    have v0 := hcell (j * 8) _ z0
                    have VV := Lib.hid v0
                    clear hcell hbl z0 z1' z2 z3 z4 z5 z6 z7 v0
                    subst eA
                    have CK := Lib.hid (CJq.out dn)
                    obtain ⟨ax, ay, ah, at9, al, hjv, htp⟩ := jv_top (Ja9.jaV ds cs gs T dn (q : Int))
                    rw [hjv] at CK
                    obtain ⟨rb, hrb⟩ : ∃ rb, (Ja9.jaV ds cs gs T dn (q : Int)).isSome = rb := ⟨_, rfl⟩
                    obtain ⟨tp, htv⟩ : ∃ v, Dp.ha ax ay ah at9 al (Dp.pk ax ay ah at9 al) = v := ⟨_, rfl⟩
                    obtain ⟨pv, hpv⟩ : ∃ v : Int, ((Dp.pk ax ay ah at9 al : Nat) : Int) = v := ⟨_, rfl⟩
                    rw [hrb] at CK htp
                    rw [htv] at htp
                    have CP := Lib.hid (fun (W : World) => (by have := Dp.peakI ax ay ah at9 al W; unfold Dp.peakV at this; rw [htv, hpv] at this; exact this : Calls Tryz.prog 20 #[.agg #[.int .i64 ax, .int .i64 ay, .int .i64 ah, .int .i64 at9, .int .i64 al]] W fun e w' => e = .returned (.tuple #[.int .i64 pv, .int .i64 tp]) ∧ Below W.heap.size W w'))
                    have HMT := Lib.hid (show mtB ds cs gs T H (q : Int) ⟨dn, dk, dl, dx, dy, dh, dt, dm⟩ = (rb && decide (tp = H)) from by
                      unfold mtB
                      show ((Ja9.jaV ds cs gs T dn (q : Int)).isSome && decide (topO (Ja9.jaV ds cs gs T dn (q : Int)) = H)) = _
                      rw [hrb]
                      cases rb
                      · rfl
                      · rw [htp rfl])
                    have qk : ¬ q0 ≤ j := by omega
                    clear hjv hrb htp htv hpv
                    go_upto_region 21 with fail
                    clear b0
                    go_cut [11, 12] (fun a b wx => ∃ kk, a = .pointer (some ⟨kk, 0, none⟩) ∧ b = .bool rb ∧ Hid (Bk wx kk #[.int .i64 ax, .int .i64 ay, .int .i64 ah, .int .i64 at9, .int .i64 al] 47) ∧ Hid (Below wr.heap.size wr wx))
                    case first =>
                      have b0 := KV.out.cell (i := 0) rfl
                      have b1 := KV.out.cell (i := 1) rfl
                      have b2 := KV.out.cell (i := 2) rfl
                      have b3 := KV.out.cell (i := 3) rfl
                      have lx : bx < wr.heap.size := KV.out.lt
                      have ly : bD < wr.heap.size := World.block_lt_of_cell? _ _ VV.out
                      refine wp_region_noPanic ?_
                      refine wp_region_held_drew (S := (fun w' => w'.cell? ⟨bx, 0, none⟩ = some (.slice (some ⟨bD, oD, none⟩) q0 c0) ∧ w'.cell? ⟨bx, 1, none⟩ = some (.slice A1 q1 c1) ∧ w'.cell? ⟨bx, 2, none⟩ = some (.slice A2 q2 c2) ∧ w'.cell? ⟨bx, 3, none⟩ = some (.int .i64 T) ∧ w'.cell? ⟨bD, oD + j * 8, none⟩ = some (.string dn) ∧ Below wr.heap.size wr w')) (by kernel_rfl) ?_ (fun hH => ?_)
                      · exact ⟨b0, b1, b2, b3, VV.out, (Below.refl _ _).drew⟩
                      clear b0 b1 b2 b3
                      refine wpAnyH_take (i := 0) (oi := { dst := some 78, op := _, type := _, pos := _, after := _, guard := _ }) (v := ?_) rfl (by kernel_rfl) (by kernel_rfl) (by kernel_rfl) (fun _ _ _ h => h) (Or.inl ⟨by rfl, ?_⟩) hH ?_
                      rotate_left 1
                      · intro W hSw
                        (try dsimp only at hSw)
                        go_simp
                        (try with_reducible rfl)
                      try simp only [Act.put, List.setIfInBounds_toArray, List.set_cons_zero, List.set_cons_succ]
                      refine wpAnyH_take (i := 1) (oi := { dst := some 79, op := _, type := _, pos := _, after := _, guard := _ }) (v := ?_) rfl (by kernel_rfl) (by kernel_rfl) (by kernel_rfl) (fun _ _ _ h => h) (Or.inl ⟨by rfl, ?_⟩) hH ?_
                      rotate_left 1
                      · intro W hSw
                        (try dsimp only at hSw)
                        go_simp
                        (try with_reducible rfl)
                      try simp only [Act.put, List.setIfInBounds_toArray, List.set_cons_zero, List.set_cons_succ]
                      refine wpAnyH_take (i := 2) (oi := { dst := some 80, op := _, type := _, pos := _, after := _, guard := _ }) (v := ?_) rfl (by kernel_rfl) (by kernel_rfl) (by kernel_rfl) (fun _ _ _ h => h) (Or.inl ⟨by rfl, ?_⟩) hH ?_
                      rotate_left 1
                      · intro W hSw
                        (try dsimp only at hSw)
                        go_simp
                        (try with_reducible rfl)
                      try simp only [Act.put, List.setIfInBounds_toArray, List.set_cons_zero, List.set_cons_succ]
                      refine wpAnyH_take (i := 3) (oi := { dst := some 81, op := _, type := _, pos := _, after := _, guard := _ }) (v := ?_) rfl (by kernel_rfl) (by kernel_rfl) (by kernel_rfl) (fun _ _ _ h => h) (Or.inl ⟨by rfl, ?_⟩) hH ?_
                      rotate_left 1
                      · intro W hSw
                        (try dsimp only at hSw)
                        go_simp
                        (try with_reducible rfl)
                      try simp only [Act.put, List.setIfInBounds_toArray, List.set_cons_zero, List.set_cons_succ]
                      refine wpAnyH_take (i := 4) (oi := { dst := some 82, op := _, type := _, pos := _, after := _, guard := _ }) (v := ?_) rfl (by kernel_rfl) (by kernel_rfl) (by kernel_rfl) (fun _ _ _ h => h) (Or.inl ⟨by rfl, ?_⟩) hH ?_
                      rotate_left 1
                      · intro W hSw
                        (try dsimp only at hSw)
                        go_simp
                        (try with_reducible rfl)
                      try simp only [Act.put, List.setIfInBounds_toArray, List.set_cons_zero, List.set_cons_succ]
                      refine wpAnyH_take (i := 5) (oi := { dst := some 83, op := _, type := _, pos := _, after := _, guard := _ }) (v := ?_) rfl (by kernel_rfl) (by kernel_rfl) (by kernel_rfl) (fun _ _ _ h => h) (Or.inl ⟨by rfl, ?_⟩) hH ?_
                      rotate_left 1
                      · intro W hSw
                        (try dsimp only at hSw)
                        go_simp
                        (try with_reducible rfl)
                      try simp only [Act.put, List.setIfInBounds_toArray, List.set_cons_zero, List.set_cons_succ]
                      refine wpAnyH_take (i := 6) (oi := { dst := some 84, op := _, type := _, pos := _, after := _, guard := _ }) (v := ?_) rfl (by kernel_rfl) (by kernel_rfl) (by kernel_rfl) (fun _ _ _ h => h) (Or.inl ⟨by rfl, ?_⟩) hH ?_
                      rotate_left 1
                      · intro W hSw
                        (try dsimp only at hSw)
                        go_simp
                        (try with_reducible rfl)
                      try simp only [Act.put, List.setIfInBounds_toArray, List.set_cons_zero, List.set_cons_succ]
                      refine wpAnyH_take (i := 7) (oi := { dst := some 85, op := _, type := _, pos := _, after := _, guard := _ }) (v := ?_) rfl (by kernel_rfl) (by kernel_rfl) (by kernel_rfl) (fun _ _ _ h => h) (Or.inl ⟨by rfl, ?_⟩) hH ?_
                      rotate_left 1
                      · intro W hSw
                        (try dsimp only at hSw)
                        go_simp
                        (try with_reducible rfl)
                      try simp only [Act.put, List.setIfInBounds_toArray, List.set_cons_zero, List.set_cons_succ]
                      refine wpAnyH_ready (rs := [8, 12]) (by kernel_rfl) (by simp) (AllReadyH.cons rfl (fun K hK => ?_) (AllReadyH.cons rfl (fun K hK => ?_) (AllReadyH.nil)))
                      · go_simp
                        go_at_call 19; ((with_reducible refine (CK.out _ (HV.out.below hH.2.2.2.2.2)).mono ?_); rintro e r1 ⟨rfl, hb⟩); go_wp2_with fail
                        refine hK.out _ _ ?_ (fun hG => ?_)
                        · exact ⟨cell_below hb hH.1, cell_below hb hH.2.1, cell_below hb hH.2.2.1, cell_below hb hH.2.2.2.1, cell_below hb hH.2.2.2.2.1, hH.2.2.2.2.2.trans (hb.mono hH.2.2.2.2.2.size)⟩
                        replace hH := hG
                        clear hK K hG
                        try simp only [Act.put, List.setIfInBounds_toArray, List.set_cons_zero, List.set_cons_succ]
                        clear hb
                        refine wpAnyH_take (i := 9) (oi := { dst := some 77, op := _, type := _, pos := _, after := _, guard := _ }) (v := ?_) rfl (by kernel_rfl) (by kernel_rfl) (by kernel_rfl) (fun _ _ _ h => h) (Or.inl ⟨by rfl, ?_⟩) hH ?_
                        rotate_left 1
                        · intro W hSw
                          (try dsimp only at hSw)
                          go_simp
                          (try with_reducible rfl)
                        try simp only [Act.put, List.setIfInBounds_toArray, List.set_cons_zero, List.set_cons_succ]
                        refine wpAnyH_take (i := 10) (oi := { dst := some 87, op := _, type := _, pos := _, after := _, guard := _ }) (v := ?_) rfl (by kernel_rfl) (by kernel_rfl) (by kernel_rfl) (fun _ _ _ h => h) (Or.inl ⟨by rfl, ?_⟩) hH ?_
                        rotate_left 1
                        · intro W hSw
                          (try dsimp only at hSw)
                          go_simp
                          (try with_reducible rfl)
                        try simp only [Act.put, List.setIfInBounds_toArray, List.set_cons_zero, List.set_cons_succ]
                        refine wpAnyH_take (i := 11) (oi := { dst := some 88, op := _, type := _, pos := _, after := _, guard := _ }) (v := ?_) rfl (by kernel_rfl) (by kernel_rfl) (by kernel_rfl) (fun _ _ _ h => h) (Or.inl ⟨by rfl, ?_⟩) hH ?_
                        rotate_left 1
                        · intro W hSw
                          (try dsimp only at hSw)
                          go_simp
                          (try with_reducible rfl)
                        try simp only [Act.put, List.setIfInBounds_toArray, List.set_cons_zero, List.set_cons_succ]
                        refine wpAnyH_ready (rs := [12]) (by kernel_rfl) (by simp) (AllReadyH.cons rfl (fun K hK => ?_) (AllReadyH.nil))
                        go_simp
                        have hb : Below r1.heap.size r1 (r1.alloc (.cells (#[.int .i64 0, .int .i64 0, .int .i64 0, .int .i64 0, .int .i64 0]) 47)) := (Below.refl _ _).alloc (Nat.le_refl _) (.cells (#[.int .i64 0, .int .i64 0, .int .i64 0, .int .i64 0, .int .i64 0]) 47)
                        have leA : wr.heap.size ≤ r1.heap.size := hH.2.2.2.2.2.size
                        have KJ := Lib.hid (Bk.new r1 (#[.int .i64 0, .int .i64 0, .int .i64 0, .int .i64 0, .int .i64 0]) 47)
                        refine hK.out _ _ ?_ (fun hG => ?_)
                        · exact ⟨cell_below hb hH.1, cell_below hb hH.2.1, cell_below hb hH.2.2.1, cell_below hb hH.2.2.2.1, cell_below hb hH.2.2.2.2.1, hH.2.2.2.2.2.trans (hb.mono hH.2.2.2.2.2.size)⟩
                        replace hH := hG
                        clear hK K hG
                        try simp only [Act.put, List.setIfInBounds_toArray, List.set_cons_zero, List.set_cons_succ]
                        clear hb
                        refine wpAnyH_ready (rs := [13]) (by kernel_rfl) (by simp) (AllReadyH.cons rfl (fun K hK => ?_) AllReadyH.nil)
                        (refine step_store9 rfl 47 (.tmp 11) (.tmp 87) rfl (r1.heap.size) (#[.int .i64 ax, .int .i64 ay, .int .i64 ah, .int .i64 at9, .int .i64 al]) (by simp [Act.eval, Act.put]) (by simp [Act.eval, Act.put]) 47 (#[.int .i64 0, .int .i64 0, .int .i64 0, .int .i64 0, .int .i64 0]) KJ.out (by kernel_rfl) rfl (by simp [Value.oneCell']) ?_; refine (show K (Act.put _ none _) _ from ?_); have hgR := row_grown9 (r1.alloc (.cells (#[.int .i64 0, .int .i64 0, .int .i64 0, .int .i64 0, .int .i64 0]) 47)) (r1.heap.size) (#[.int .i64 ax, .int .i64 ay, .int .i64 ah, .int .i64 at9, .int .i64 al]); have KJn := Lib.hid (row_bk9 (#[.int .i64 ax, .int .i64 ay, .int .i64 ah, .int .i64 at9, .int .i64 al]) KJ.out); have BJn := Lib.hid (KJ.out.lt))
                        refine hK.out _ _ ?_ (fun hG => ?_)
                        · exact ⟨hgR.cell hH.1 (fun e => by have e := Option.some.inj e; (have e9 : bx = r1.heap.size := e); omega), hgR.cell hH.2.1 (fun e => by have e := Option.some.inj e; (have e9 : bx = r1.heap.size := e); omega), hgR.cell hH.2.2.1 (fun e => by have e := Option.some.inj e; (have e9 : bx = r1.heap.size := e); omega), hgR.cell hH.2.2.2.1 (fun e => by have e := Option.some.inj e; (have e9 : bx = r1.heap.size := e); omega), hgR.cell hH.2.2.2.2.1 (fun e => by have e := Option.some.inj e; (have e9 : bD = r1.heap.size := e); omega), hH.2.2.2.2.2.grown hgR hH.2.2.2.2.2.size (fun z9 e9 => by have e9 := Option.some.inj e9; omega)⟩
                        replace hH := hG
                        clear hK K hG
                        try simp only [Act.put, List.setIfInBounds_toArray, List.set_cons_zero, List.set_cons_succ]
                        refine wpAnyH_take (i := 14) (oi := { dst := some 12, op := _, type := _, pos := _, after := _, guard := _ }) (v := ?_) rfl (by kernel_rfl) (by kernel_rfl) (by kernel_rfl) (fun _ _ _ h => h) (Or.inl ⟨by rfl, ?_⟩) hH ?_
                        rotate_left 1
                        · intro W hSw
                          (try dsimp only at hSw)
                          go_simp
                          (try with_reducible rfl)
                        try simp only [Act.put, List.setIfInBounds_toArray, List.set_cons_zero, List.set_cons_succ]
                        refine wpAnyH_done (by kernel_rfl) ?_ _
                        refine NoPanic.normal ?_
                        have BF := Lib.hid hH.2.2.2.2.2
                        clear hH hgR
                        go_wp2_with fail
                        go_meet
                        exact ⟨_, rfl, rfl, KJn, BF⟩
                      · go_simp
                        have hb : Below wr.drew.heap.size wr.drew (wr.drew.alloc (.cells (#[.int .i64 0, .int .i64 0, .int .i64 0, .int .i64 0, .int .i64 0]) 47)) := (Below.refl _ _).alloc (Nat.le_refl _) (.cells (#[.int .i64 0, .int .i64 0, .int .i64 0, .int .i64 0, .int .i64 0]) 47)
                        have leA : wr.heap.size ≤ wr.drew.heap.size := hH.2.2.2.2.2.size
                        have KJ := Lib.hid (Bk.new wr.drew (#[.int .i64 0, .int .i64 0, .int .i64 0, .int .i64 0, .int .i64 0]) 47)
                        refine hK.out _ _ ?_ (fun hG => ?_)
                        · exact ⟨cell_below hb hH.1, cell_below hb hH.2.1, cell_below hb hH.2.2.1, cell_below hb hH.2.2.2.1, cell_below hb hH.2.2.2.2.1, hH.2.2.2.2.2.trans (hb.mono hH.2.2.2.2.2.size)⟩
                        replace hH := hG
                        clear hK K hG
                        try simp only [Act.put, List.setIfInBounds_toArray, List.set_cons_zero, List.set_cons_succ]
                        clear hb
                        refine wpAnyH_ready (rs := [8]) (by kernel_rfl) (by simp) (AllReadyH.cons rfl (fun K hK => ?_) (AllReadyH.nil))
                        go_simp
                        go_at_call 19; ((with_reducible refine (CK.out _ (HV.out.below hH.2.2.2.2.2)).mono ?_); rintro e r1 ⟨rfl, hb⟩); go_wp2_with fail
                        have KJn := Lib.hid (KJ.out.below hb)
                        clear KJ
                        have KJ := KJn
                        clear KJn
                        refine hK.out _ _ ?_ (fun hG => ?_)
                        · exact ⟨cell_below hb hH.1, cell_below hb hH.2.1, cell_below hb hH.2.2.1, cell_below hb hH.2.2.2.1, cell_below hb hH.2.2.2.2.1, hH.2.2.2.2.2.trans (hb.mono hH.2.2.2.2.2.size)⟩
                        replace hH := hG
                        clear hK K hG
                        try simp only [Act.put, List.setIfInBounds_toArray, List.set_cons_zero, List.set_cons_succ]
                        clear hb
                        refine wpAnyH_take (i := 9) (oi := { dst := some 77, op := _, type := _, pos := _, after := _, guard := _ }) (v := ?_) rfl (by kernel_rfl) (by kernel_rfl) (by kernel_rfl) (fun _ _ _ h => h) (Or.inl ⟨by rfl, ?_⟩) hH ?_
                        rotate_left 1
                        · intro W hSw
                          (try dsimp only at hSw)
                          go_simp
                          (try with_reducible rfl)
                        try simp only [Act.put, List.setIfInBounds_toArray, List.set_cons_zero, List.set_cons_succ]
                        refine wpAnyH_take (i := 10) (oi := { dst := some 87, op := _, type := _, pos := _, after := _, guard := _ }) (v := ?_) rfl (by kernel_rfl) (by kernel_rfl) (by kernel_rfl) (fun _ _ _ h => h) (Or.inl ⟨by rfl, ?_⟩) hH ?_
                        rotate_left 1
                        · intro W hSw
                          (try dsimp only at hSw)
                          go_simp
                          (try with_reducible rfl)
                        try simp only [Act.put, List.setIfInBounds_toArray, List.set_cons_zero, List.set_cons_succ]
                        refine wpAnyH_take (i := 11) (oi := { dst := some 88, op := _, type := _, pos := _, after := _, guard := _ }) (v := ?_) rfl (by kernel_rfl) (by kernel_rfl) (by kernel_rfl) (fun _ _ _ h => h) (Or.inl ⟨by rfl, ?_⟩) hH ?_
                        rotate_left 1
                        · intro W hSw
                          (try dsimp only at hSw)
                          go_simp
                          (try with_reducible rfl)
                        try simp only [Act.put, List.setIfInBounds_toArray, List.set_cons_zero, List.set_cons_succ]
                        refine wpAnyH_ready (rs := [13]) (by kernel_rfl) (by simp) (AllReadyH.cons rfl (fun K hK => ?_) AllReadyH.nil)
                        (refine step_store9 rfl 47 (.tmp 11) (.tmp 87) rfl (wr.drew.heap.size) (#[.int .i64 ax, .int .i64 ay, .int .i64 ah, .int .i64 at9, .int .i64 al]) (by simp [Act.eval, Act.put]) (by simp [Act.eval, Act.put]) 47 (#[.int .i64 0, .int .i64 0, .int .i64 0, .int .i64 0, .int .i64 0]) KJ.out (by kernel_rfl) rfl (by simp [Value.oneCell']) ?_; refine (show K (Act.put _ none _) _ from ?_); have hgR := row_grown9 r1 (wr.drew.heap.size) (#[.int .i64 ax, .int .i64 ay, .int .i64 ah, .int .i64 at9, .int .i64 al]); have KJn := Lib.hid (row_bk9 (#[.int .i64 ax, .int .i64 ay, .int .i64 ah, .int .i64 at9, .int .i64 al]) KJ.out); have BJn := Lib.hid (KJ.out.lt))
                        refine hK.out _ _ ?_ (fun hG => ?_)
                        · exact ⟨hgR.cell hH.1 (fun e => by have e := Option.some.inj e; (have e9 : bx = wr.drew.heap.size := e); omega), hgR.cell hH.2.1 (fun e => by have e := Option.some.inj e; (have e9 : bx = wr.drew.heap.size := e); omega), hgR.cell hH.2.2.1 (fun e => by have e := Option.some.inj e; (have e9 : bx = wr.drew.heap.size := e); omega), hgR.cell hH.2.2.2.1 (fun e => by have e := Option.some.inj e; (have e9 : bx = wr.drew.heap.size := e); omega), hgR.cell hH.2.2.2.2.1 (fun e => by have e := Option.some.inj e; (have e9 : bD = wr.drew.heap.size := e); omega), hH.2.2.2.2.2.grown hgR hH.2.2.2.2.2.size (fun z9 e9 => by have e9 := Option.some.inj e9; omega)⟩
                        replace hH := hG
                        clear hK K hG
                        try simp only [Act.put, List.setIfInBounds_toArray, List.set_cons_zero, List.set_cons_succ]
                        refine wpAnyH_take (i := 14) (oi := { dst := some 12, op := _, type := _, pos := _, after := _, guard := _ }) (v := ?_) rfl (by kernel_rfl) (by kernel_rfl) (by kernel_rfl) (fun _ _ _ h => h) (Or.inl ⟨by rfl, ?_⟩) hH ?_
                        rotate_left 1
                        · intro W hSw
                          (try dsimp only at hSw)
                          go_simp
                          (try with_reducible rfl)
                        try simp only [Act.put, List.setIfInBounds_toArray, List.set_cons_zero, List.set_cons_succ]
                        refine wpAnyH_done (by kernel_rfl) ?_ _
                        refine NoPanic.normal ?_
                        have BF := Lib.hid hH.2.2.2.2.2
                        clear hH hgR
                        go_wp2_with fail
                        go_meet
                        exact ⟨_, rfl, rfl, KJn, BF⟩
                    case rest =>
                      obtain ⟨kk, rfl, rfl, KJ, BX⟩ := hcut
                      have j0 := KJ.out.cell (i := 0) rfl
                      have j1 := KJ.out.cell (i := 1) rfl
                      have j2 := KJ.out.cell (i := 2) rfl
                      have j3 := KJ.out.cell (i := 3) rfl
                      have j4 := KJ.out.cell (i := 4) rfl
                      have B2 := Lib.hid (BV.out.trans (BX.out.mono BV.out.size))
                      have HBB := Lib.hid (show ∀ r : Bool, (b || (rb && decide (tp = H))) = r → (r = false → NoM ds cs gs T H q (j + 1)) from fun r hr h => by
                        rw [h] at hr
                        cases b
                        · rw [Bool.false_or] at hr
                          exact no_next (HJ.out rfl) HZ.out (by rw [HMT.out]; exact hr)
                        · cases hr)
                      clear CK KV HV BX HMT HJ HZ VV
                      go_wp2_with fail
                      refine (CP.out _).mono ?_
                      rintro e w9 ⟨rfl, hb⟩
                      have B3 := Lib.hid (B2.out.trans (hb.mono B2.out.size))
                      clear hb CP j0 j1 j2 j3 j4 KJ B2
                      by_cases ht : tp = H
                      · have t1 : (tp == H) = true := by simp [ht]
                        have T9 := Lib.hid (HBB.out _ rfl)
                        rw [decide_eq_true ht] at T9
                        clear ht HBB
                        cases b <;> cases rb
                        all_goals
                          go_wp2_with fail
                          go_roundw
                          case rel => first | exact ⟨j + 1, _, by omega, by go_num, rfl, T9, B3⟩ | ((repeat apply Exists.intro); exact ⟨⟨j + 1, _, by omega, by go_num, rfl, T9, B3⟩, rfl⟩)
                          case measure => simp [intOf]; omega
                      · have t1 : (tp == H) = false := by simp [ht]
                        have T9 := Lib.hid (HBB.out _ rfl)
                        rw [decide_eq_false ht] at T9
                        clear ht HBB
                        cases b <;> cases rb
                        all_goals
                          go_wp2_with fail
                          go_roundw
                          case rel => first | exact ⟨j + 1, _, by omega, by go_num, rfl, T9, B3⟩ | ((repeat apply Exists.intro); exact ⟨⟨j + 1, _, by omega, by go_num, rfl, T9, B3⟩, rfl⟩)
                          case measure => simp [intOf]; omega
                  · have hjq : j = q0 := by omega
                    have B4 := Lib.hid (BW.out.trans (BV.out.mono BW.out.size))
                    have HB4 := Lib.hid (show b = false → m ≠ 0 ∧ NoM ds cs gs T H (q + 1) 0 from fun h => ⟨HQ2.out.1, no_tick (by have := HJ.out h; rw [hjq, ← HN.out] at this; exact this)⟩)
                    have d7 : decide ((j : Int) < (q0 : Int)) = false := decide_eq_false (by omega)
                    clear hjq HJ HQ2 KV HV
                    go_wp2_with fail
                    go_roundw
                    case rel => first | exact ⟨q + 1, b, by omega, by go_num, rfl, HB4, B4⟩ | ((repeat apply Exists.intro); exact ⟨⟨q + 1, b, by omega, by go_num, rfl, HB4, B4⟩, rfl⟩)
                    case measure => simp [intOf]; omega
              · exact absurd (HE.out q (by have := HNT.out; omega) (HQ.out rfl).2) (HQ.out rfl).1
            · clear HQ
              by_cases hlq : q < N
              · have hc : decide ((q : Int) < T) = true := decide_eq_true (by have := HNT.out; omega)
                have hc2 : (q : Int) < T := by have := HNT.out; omega
                go_wp2_with fail
                go_ret
                exact ⟨rfl, BBW.out⟩
              · have hc : decide ((q : Int) < T) = false := decide_eq_false (by have := HNT.out; omega)
                have hc2 : ¬ (q : Int) < T := by have := HNT.out; omega
                go_wp2_with fail
                go_ret
                exact ⟨rfl, BBW.out⟩
        · have d6 : (H == 0) = false := by simp [h0]
          have HM := Lib.hid (show false = false → m ≠ 0 from fun _ e => h0 (HE0.out e))
          clear h0
          have KX := Lib.hid KB.out
          have HX := Lib.hid HS.out
          have BBX := Lib.hid BB.out
          clear KB HS BB DR CHI CHS CD CG HZ HP
          obtain ⟨wo, rfl⟩ : ∃ wo, wo = V3 := ⟨_, rfl⟩
          go_wp2_with fail
          clear d5 d6 hlt hk
          go_loopw [8, 9] (fun f i wr => ∃ (k : Nat) (b : Bool), k ≤ N ∧ i = .int .i64 (k : Int) ∧ f = .bool b ∧ Hid (b = false → m ≠ 0 ∧ NoM ds cs gs T H k 0) ∧ Hid (Below wo.heap.size wo wr)) (fun _ i _ => N - (intOf i).toNat)
          case atStart => exact ⟨0, _, Nat.zero_le _, rfl, rfl, Lib.hid (fun h => ⟨HM.out (by first | exact h | trivial), no_zero ds cs gs T H⟩), Lib.hid (Below.refl _ _)⟩
          case round =>
            clear HM
            obtain ⟨q, b, hq, rfl, rfl, HQ, BW⟩ := hrel
            have KW := Lib.hid (KX.out.below BW.out)
            have HW := Lib.hid (HX.out.below BW.out)
            have BBW := Lib.hid (BBX.out.trans (BW.out.mono BBX.out.size))
            have f3 := KW.out.cell (i := 3) rfl
            cases b
            · by_cases hlq : q < N
              · have hc : decide ((q : Int) < T) = true := decide_eq_true (by have := HNT.out; omega)
                have hc2 : (q : Int) < T := by have := HNT.out; omega
                have HQ2 := Lib.hid (HQ.out rfl)
                have hq14 : q < 14 := by omega
                have CJq := Lib.hid (fun (z : ByteArray) => CJ.out z q hq14)
                obtain ⟨wv, rfl⟩ : ∃ wv, wv = wr := ⟨_, rfl⟩
                clear HQ
                go_wp2_with fail
                clear f3
                go_loopw [8, 10] (fun f i wr => ∃ (j : Nat) (b : Bool), j ≤ q0 ∧ i = .int .i64 (j : Int) ∧ f = .bool b ∧ Hid (b = false → NoM ds cs gs T H q j) ∧ Hid (Below wv.heap.size wv wr)) (fun _ i _ => q0 - (intOf i).toNat)
                case atStart => exact ⟨0, false, Nat.zero_le _, rfl, rfl, Lib.hid (fun _ => HQ2.out.2), Lib.hid (Below.refl _ _)⟩
                case round =>
                  obtain ⟨j, b, hj, rfl, rfl, HJ, BV⟩ := hrel
                  have KV := Lib.hid (KW.out.below BV.out)
                  have HV := Lib.hid (HW.out.below BV.out)
                  have b0 := KV.out.cell (i := 0) rfl
                  by_cases hlj : j < q0
                  · obtain ⟨z, hz⟩ : ∃ z, ds[j]? = some z := ⟨_, List.getElem?_eq_getElem (by rw [HN.out]; exact hlj)⟩
                    have HZ := Lib.hid hz
                    clear hz
                    obtain ⟨dn, dk, dl, dx, dy, dh, dt, dm⟩ := z
                    obtain ⟨bD, oD, eA, hbl, hcell⟩ := (HV.out.r0).get (k := j * 8) (by rw [Dd.dls_len, HN.out]; omega)
                    obtain ⟨z0, z1', z2, z3, z4, z5, z6, z7⟩ := Dd.dls_get HZ.out
                    have v0 := hcell (j * 8) _ z0
                    have VV := Lib.hid v0
                    clear hcell hbl z0 z1' z2 z3 z4 z5 z6 z7 v0
                    subst eA
                    have CK := Lib.hid (CJq.out dn)
                    obtain ⟨ax, ay, ah, at9, al, hjv, htp⟩ := jv_top (Ja9.jaV ds cs gs T dn (q : Int))
                    rw [hjv] at CK
                    obtain ⟨rb, hrb⟩ : ∃ rb, (Ja9.jaV ds cs gs T dn (q : Int)).isSome = rb := ⟨_, rfl⟩
                    obtain ⟨tp, htv⟩ : ∃ v, Dp.ha ax ay ah at9 al (Dp.pk ax ay ah at9 al) = v := ⟨_, rfl⟩
                    obtain ⟨pv, hpv⟩ : ∃ v : Int, ((Dp.pk ax ay ah at9 al : Nat) : Int) = v := ⟨_, rfl⟩
                    rw [hrb] at CK htp
                    rw [htv] at htp
                    have CP := Lib.hid (fun (W : World) => (by have := Dp.peakI ax ay ah at9 al W; unfold Dp.peakV at this; rw [htv, hpv] at this; exact this : Calls Tryz.prog 20 #[.agg #[.int .i64 ax, .int .i64 ay, .int .i64 ah, .int .i64 at9, .int .i64 al]] W fun e w' => e = .returned (.tuple #[.int .i64 pv, .int .i64 tp]) ∧ Below W.heap.size W w'))
                    have HMT := Lib.hid (show mtB ds cs gs T H (q : Int) ⟨dn, dk, dl, dx, dy, dh, dt, dm⟩ = (rb && decide (tp = H)) from by
                      unfold mtB
                      show ((Ja9.jaV ds cs gs T dn (q : Int)).isSome && decide (topO (Ja9.jaV ds cs gs T dn (q : Int)) = H)) = _
                      rw [hrb]
                      cases rb
                      · rfl
                      · rw [htp rfl])
                    have qk : ¬ q0 ≤ j := by omega
                    clear hjv hrb htp htv hpv
                    go_upto_region 21 with fail
                    clear b0
                    go_cut [11, 12] (fun a b wx => ∃ kk, a = .pointer (some ⟨kk, 0, none⟩) ∧ b = .bool rb ∧ Hid (Bk wx kk #[.int .i64 ax, .int .i64 ay, .int .i64 ah, .int .i64 at9, .int .i64 al] 47) ∧ Hid (Below wr.heap.size wr wx))
                    case first =>
                      have b0 := KV.out.cell (i := 0) rfl
                      have b1 := KV.out.cell (i := 1) rfl
                      have b2 := KV.out.cell (i := 2) rfl
                      have b3 := KV.out.cell (i := 3) rfl
                      have lx : bx < wr.heap.size := KV.out.lt
                      have ly : bD < wr.heap.size := World.block_lt_of_cell? _ _ VV.out
                      refine wp_region_noPanic ?_
                      refine wp_region_held_drew (S := (fun w' => w'.cell? ⟨bx, 0, none⟩ = some (.slice (some ⟨bD, oD, none⟩) q0 c0) ∧ w'.cell? ⟨bx, 1, none⟩ = some (.slice A1 q1 c1) ∧ w'.cell? ⟨bx, 2, none⟩ = some (.slice A2 q2 c2) ∧ w'.cell? ⟨bx, 3, none⟩ = some (.int .i64 T) ∧ w'.cell? ⟨bD, oD + j * 8, none⟩ = some (.string dn) ∧ Below wr.heap.size wr w')) (by kernel_rfl) ?_ (fun hH => ?_)
                      · exact ⟨b0, b1, b2, b3, VV.out, (Below.refl _ _).drew⟩
                      clear b0 b1 b2 b3
                      refine wpAnyH_take (i := 0) (oi := { dst := some 78, op := _, type := _, pos := _, after := _, guard := _ }) (v := ?_) rfl (by kernel_rfl) (by kernel_rfl) (by kernel_rfl) (fun _ _ _ h => h) (Or.inl ⟨by rfl, ?_⟩) hH ?_
                      rotate_left 1
                      · intro W hSw
                        (try dsimp only at hSw)
                        go_simp
                        (try with_reducible rfl)
                      try simp only [Act.put, List.setIfInBounds_toArray, List.set_cons_zero, List.set_cons_succ]
                      refine wpAnyH_take (i := 1) (oi := { dst := some 79, op := _, type := _, pos := _, after := _, guard := _ }) (v := ?_) rfl (by kernel_rfl) (by kernel_rfl) (by kernel_rfl) (fun _ _ _ h => h) (Or.inl ⟨by rfl, ?_⟩) hH ?_
                      rotate_left 1
                      · intro W hSw
                        (try dsimp only at hSw)
                        go_simp
                        (try with_reducible rfl)
                      try simp only [Act.put, List.setIfInBounds_toArray, List.set_cons_zero, List.set_cons_succ]
                      refine wpAnyH_take (i := 2) (oi := { dst := some 80, op := _, type := _, pos := _, after := _, guard := _ }) (v := ?_) rfl (by kernel_rfl) (by kernel_rfl) (by kernel_rfl) (fun _ _ _ h => h) (Or.inl ⟨by rfl, ?_⟩) hH ?_
                      rotate_left 1
                      · intro W hSw
                        (try dsimp only at hSw)
                        go_simp
                        (try with_reducible rfl)
                      try simp only [Act.put, List.setIfInBounds_toArray, List.set_cons_zero, List.set_cons_succ]
                      refine wpAnyH_take (i := 3) (oi := { dst := some 81, op := _, type := _, pos := _, after := _, guard := _ }) (v := ?_) rfl (by kernel_rfl) (by kernel_rfl) (by kernel_rfl) (fun _ _ _ h => h) (Or.inl ⟨by rfl, ?_⟩) hH ?_
                      rotate_left 1
                      · intro W hSw
                        (try dsimp only at hSw)
                        go_simp
                        (try with_reducible rfl)
                      try simp only [Act.put, List.setIfInBounds_toArray, List.set_cons_zero, List.set_cons_succ]
                      refine wpAnyH_take (i := 4) (oi := { dst := some 82, op := _, type := _, pos := _, after := _, guard := _ }) (v := ?_) rfl (by kernel_rfl) (by kernel_rfl) (by kernel_rfl) (fun _ _ _ h => h) (Or.inl ⟨by rfl, ?_⟩) hH ?_
                      rotate_left 1
                      · intro W hSw
                        (try dsimp only at hSw)
                        go_simp
                        (try with_reducible rfl)
                      try simp only [Act.put, List.setIfInBounds_toArray, List.set_cons_zero, List.set_cons_succ]
                      refine wpAnyH_take (i := 5) (oi := { dst := some 83, op := _, type := _, pos := _, after := _, guard := _ }) (v := ?_) rfl (by kernel_rfl) (by kernel_rfl) (by kernel_rfl) (fun _ _ _ h => h) (Or.inl ⟨by rfl, ?_⟩) hH ?_
                      rotate_left 1
                      · intro W hSw
                        (try dsimp only at hSw)
                        go_simp
                        (try with_reducible rfl)
                      try simp only [Act.put, List.setIfInBounds_toArray, List.set_cons_zero, List.set_cons_succ]
                      refine wpAnyH_take (i := 6) (oi := { dst := some 84, op := _, type := _, pos := _, after := _, guard := _ }) (v := ?_) rfl (by kernel_rfl) (by kernel_rfl) (by kernel_rfl) (fun _ _ _ h => h) (Or.inl ⟨by rfl, ?_⟩) hH ?_
                      rotate_left 1
                      · intro W hSw
                        (try dsimp only at hSw)
                        go_simp
                        (try with_reducible rfl)
                      try simp only [Act.put, List.setIfInBounds_toArray, List.set_cons_zero, List.set_cons_succ]
                      refine wpAnyH_take (i := 7) (oi := { dst := some 85, op := _, type := _, pos := _, after := _, guard := _ }) (v := ?_) rfl (by kernel_rfl) (by kernel_rfl) (by kernel_rfl) (fun _ _ _ h => h) (Or.inl ⟨by rfl, ?_⟩) hH ?_
                      rotate_left 1
                      · intro W hSw
                        (try dsimp only at hSw)
                        go_simp
                        (try with_reducible rfl)
                      try simp only [Act.put, List.setIfInBounds_toArray, List.set_cons_zero, List.set_cons_succ]
                      refine wpAnyH_ready (rs := [8, 12]) (by kernel_rfl) (by simp) (AllReadyH.cons rfl (fun K hK => ?_) (AllReadyH.cons rfl (fun K hK => ?_) (AllReadyH.nil)))
                      · go_simp
                        go_at_call 19; ((with_reducible refine (CK.out _ (HV.out.below hH.2.2.2.2.2)).mono ?_); rintro e r1 ⟨rfl, hb⟩); go_wp2_with fail
                        refine hK.out _ _ ?_ (fun hG => ?_)
                        · exact ⟨cell_below hb hH.1, cell_below hb hH.2.1, cell_below hb hH.2.2.1, cell_below hb hH.2.2.2.1, cell_below hb hH.2.2.2.2.1, hH.2.2.2.2.2.trans (hb.mono hH.2.2.2.2.2.size)⟩
                        replace hH := hG
                        clear hK K hG
                        try simp only [Act.put, List.setIfInBounds_toArray, List.set_cons_zero, List.set_cons_succ]
                        clear hb
                        refine wpAnyH_take (i := 9) (oi := { dst := some 77, op := _, type := _, pos := _, after := _, guard := _ }) (v := ?_) rfl (by kernel_rfl) (by kernel_rfl) (by kernel_rfl) (fun _ _ _ h => h) (Or.inl ⟨by rfl, ?_⟩) hH ?_
                        rotate_left 1
                        · intro W hSw
                          (try dsimp only at hSw)
                          go_simp
                          (try with_reducible rfl)
                        try simp only [Act.put, List.setIfInBounds_toArray, List.set_cons_zero, List.set_cons_succ]
                        refine wpAnyH_take (i := 10) (oi := { dst := some 87, op := _, type := _, pos := _, after := _, guard := _ }) (v := ?_) rfl (by kernel_rfl) (by kernel_rfl) (by kernel_rfl) (fun _ _ _ h => h) (Or.inl ⟨by rfl, ?_⟩) hH ?_
                        rotate_left 1
                        · intro W hSw
                          (try dsimp only at hSw)
                          go_simp
                          (try with_reducible rfl)
                        try simp only [Act.put, List.setIfInBounds_toArray, List.set_cons_zero, List.set_cons_succ]
                        refine wpAnyH_take (i := 11) (oi := { dst := some 88, op := _, type := _, pos := _, after := _, guard := _ }) (v := ?_) rfl (by kernel_rfl) (by kernel_rfl) (by kernel_rfl) (fun _ _ _ h => h) (Or.inl ⟨by rfl, ?_⟩) hH ?_
                        rotate_left 1
                        · intro W hSw
                          (try dsimp only at hSw)
                          go_simp
                          (try with_reducible rfl)
                        try simp only [Act.put, List.setIfInBounds_toArray, List.set_cons_zero, List.set_cons_succ]
                        refine wpAnyH_ready (rs := [12]) (by kernel_rfl) (by simp) (AllReadyH.cons rfl (fun K hK => ?_) (AllReadyH.nil))
                        go_simp
                        have hb : Below r1.heap.size r1 (r1.alloc (.cells (#[.int .i64 0, .int .i64 0, .int .i64 0, .int .i64 0, .int .i64 0]) 47)) := (Below.refl _ _).alloc (Nat.le_refl _) (.cells (#[.int .i64 0, .int .i64 0, .int .i64 0, .int .i64 0, .int .i64 0]) 47)
                        have leA : wr.heap.size ≤ r1.heap.size := hH.2.2.2.2.2.size
                        have KJ := Lib.hid (Bk.new r1 (#[.int .i64 0, .int .i64 0, .int .i64 0, .int .i64 0, .int .i64 0]) 47)
                        refine hK.out _ _ ?_ (fun hG => ?_)
                        · exact ⟨cell_below hb hH.1, cell_below hb hH.2.1, cell_below hb hH.2.2.1, cell_below hb hH.2.2.2.1, cell_below hb hH.2.2.2.2.1, hH.2.2.2.2.2.trans (hb.mono hH.2.2.2.2.2.size)⟩
                        replace hH := hG
                        clear hK K hG
                        try simp only [Act.put, List.setIfInBounds_toArray, List.set_cons_zero, List.set_cons_succ]
                        clear hb
                        refine wpAnyH_ready (rs := [13]) (by kernel_rfl) (by simp) (AllReadyH.cons rfl (fun K hK => ?_) AllReadyH.nil)
                        (refine step_store9 rfl 47 (.tmp 11) (.tmp 87) rfl (r1.heap.size) (#[.int .i64 ax, .int .i64 ay, .int .i64 ah, .int .i64 at9, .int .i64 al]) (by simp [Act.eval, Act.put]) (by simp [Act.eval, Act.put]) 47 (#[.int .i64 0, .int .i64 0, .int .i64 0, .int .i64 0, .int .i64 0]) KJ.out (by kernel_rfl) rfl (by simp [Value.oneCell']) ?_; refine (show K (Act.put _ none _) _ from ?_); have hgR := row_grown9 (r1.alloc (.cells (#[.int .i64 0, .int .i64 0, .int .i64 0, .int .i64 0, .int .i64 0]) 47)) (r1.heap.size) (#[.int .i64 ax, .int .i64 ay, .int .i64 ah, .int .i64 at9, .int .i64 al]); have KJn := Lib.hid (row_bk9 (#[.int .i64 ax, .int .i64 ay, .int .i64 ah, .int .i64 at9, .int .i64 al]) KJ.out); have BJn := Lib.hid (KJ.out.lt))
                        refine hK.out _ _ ?_ (fun hG => ?_)
                        · exact ⟨hgR.cell hH.1 (fun e => by have e := Option.some.inj e; (have e9 : bx = r1.heap.size := e); omega), hgR.cell hH.2.1 (fun e => by have e := Option.some.inj e; (have e9 : bx = r1.heap.size := e); omega), hgR.cell hH.2.2.1 (fun e => by have e := Option.some.inj e; (have e9 : bx = r1.heap.size := e); omega), hgR.cell hH.2.2.2.1 (fun e => by have e := Option.some.inj e; (have e9 : bx = r1.heap.size := e); omega), hgR.cell hH.2.2.2.2.1 (fun e => by have e := Option.some.inj e; (have e9 : bD = r1.heap.size := e); omega), hH.2.2.2.2.2.grown hgR hH.2.2.2.2.2.size (fun z9 e9 => by have e9 := Option.some.inj e9; omega)⟩
                        replace hH := hG
                        clear hK K hG
                        try simp only [Act.put, List.setIfInBounds_toArray, List.set_cons_zero, List.set_cons_succ]
                        refine wpAnyH_take (i := 14) (oi := { dst := some 12, op := _, type := _, pos := _, after := _, guard := _ }) (v := ?_) rfl (by kernel_rfl) (by kernel_rfl) (by kernel_rfl) (fun _ _ _ h => h) (Or.inl ⟨by rfl, ?_⟩) hH ?_
                        rotate_left 1
                        · intro W hSw
                          (try dsimp only at hSw)
                          go_simp
                          (try with_reducible rfl)
                        try simp only [Act.put, List.setIfInBounds_toArray, List.set_cons_zero, List.set_cons_succ]
                        refine wpAnyH_done (by kernel_rfl) ?_ _
                        refine NoPanic.normal ?_
                        have BF := Lib.hid hH.2.2.2.2.2
                        clear hH hgR
                        go_wp2_with fail
                        go_meet
                        exact ⟨_, rfl, rfl, KJn, BF⟩
                      · go_simp
                        have hb : Below wr.drew.heap.size wr.drew (wr.drew.alloc (.cells (#[.int .i64 0, .int .i64 0, .int .i64 0, .int .i64 0, .int .i64 0]) 47)) := (Below.refl _ _).alloc (Nat.le_refl _) (.cells (#[.int .i64 0, .int .i64 0, .int .i64 0, .int .i64 0, .int .i64 0]) 47)
                        have leA : wr.heap.size ≤ wr.drew.heap.size := hH.2.2.2.2.2.size
                        have KJ := Lib.hid (Bk.new wr.drew (#[.int .i64 0, .int .i64 0, .int .i64 0, .int .i64 0, .int .i64 0]) 47)
                        refine hK.out _ _ ?_ (fun hG => ?_)
                        · exact ⟨cell_below hb hH.1, cell_below hb hH.2.1, cell_below hb hH.2.2.1, cell_below hb hH.2.2.2.1, cell_below hb hH.2.2.2.2.1, hH.2.2.2.2.2.trans (hb.mono hH.2.2.2.2.2.size)⟩
                        replace hH := hG
                        clear hK K hG
                        try simp only [Act.put, List.setIfInBounds_toArray, List.set_cons_zero, List.set_cons_succ]
                        clear hb
                        refine wpAnyH_ready (rs := [8]) (by kernel_rfl) (by simp) (AllReadyH.cons rfl (fun K hK => ?_) (AllReadyH.nil))
                        go_simp
                        go_at_call 19; ((with_reducible refine (CK.out _ (HV.out.below hH.2.2.2.2.2)).mono ?_); rintro e r1 ⟨rfl, hb⟩); go_wp2_with fail
                        have KJn := Lib.hid (KJ.out.below hb)
                        clear KJ
                        have KJ := KJn
                        clear KJn
                        refine hK.out _ _ ?_ (fun hG => ?_)
                        · exact ⟨cell_below hb hH.1, cell_below hb hH.2.1, cell_below hb hH.2.2.1, cell_below hb hH.2.2.2.1, cell_below hb hH.2.2.2.2.1, hH.2.2.2.2.2.trans (hb.mono hH.2.2.2.2.2.size)⟩
                        replace hH := hG
                        clear hK K hG
                        try simp only [Act.put, List.setIfInBounds_toArray, List.set_cons_zero, List.set_cons_succ]
                        clear hb
                        refine wpAnyH_take (i := 9) (oi := { dst := some 77, op := _, type := _, pos := _, after := _, guard := _ }) (v := ?_) rfl (by kernel_rfl) (by kernel_rfl) (by kernel_rfl) (fun _ _ _ h => h) (Or.inl ⟨by rfl, ?_⟩) hH ?_
                        rotate_left 1
                        · intro W hSw
                          (try dsimp only at hSw)
                          go_simp
                          (try with_reducible rfl)
                        try simp only [Act.put, List.setIfInBounds_toArray, List.set_cons_zero, List.set_cons_succ]
                        refine wpAnyH_take (i := 10) (oi := { dst := some 87, op := _, type := _, pos := _, after := _, guard := _ }) (v := ?_) rfl (by kernel_rfl) (by kernel_rfl) (by kernel_rfl) (fun _ _ _ h => h) (Or.inl ⟨by rfl, ?_⟩) hH ?_
                        rotate_left 1
                        · intro W hSw
                          (try dsimp only at hSw)
                          go_simp
                          (try with_reducible rfl)
                        try simp only [Act.put, List.setIfInBounds_toArray, List.set_cons_zero, List.set_cons_succ]
                        refine wpAnyH_take (i := 11) (oi := { dst := some 88, op := _, type := _, pos := _, after := _, guard := _ }) (v := ?_) rfl (by kernel_rfl) (by kernel_rfl) (by kernel_rfl) (fun _ _ _ h => h) (Or.inl ⟨by rfl, ?_⟩) hH ?_
                        rotate_left 1
                        · intro W hSw
                          (try dsimp only at hSw)
                          go_simp
                          (try with_reducible rfl)
                        try simp only [Act.put, List.setIfInBounds_toArray, List.set_cons_zero, List.set_cons_succ]
                        refine wpAnyH_ready (rs := [13]) (by kernel_rfl) (by simp) (AllReadyH.cons rfl (fun K hK => ?_) AllReadyH.nil)
                        (refine step_store9 rfl 47 (.tmp 11) (.tmp 87) rfl (wr.drew.heap.size) (#[.int .i64 ax, .int .i64 ay, .int .i64 ah, .int .i64 at9, .int .i64 al]) (by simp [Act.eval, Act.put]) (by simp [Act.eval, Act.put]) 47 (#[.int .i64 0, .int .i64 0, .int .i64 0, .int .i64 0, .int .i64 0]) KJ.out (by kernel_rfl) rfl (by simp [Value.oneCell']) ?_; refine (show K (Act.put _ none _) _ from ?_); have hgR := row_grown9 r1 (wr.drew.heap.size) (#[.int .i64 ax, .int .i64 ay, .int .i64 ah, .int .i64 at9, .int .i64 al]); have KJn := Lib.hid (row_bk9 (#[.int .i64 ax, .int .i64 ay, .int .i64 ah, .int .i64 at9, .int .i64 al]) KJ.out); have BJn := Lib.hid (KJ.out.lt))
                        refine hK.out _ _ ?_ (fun hG => ?_)
                        · exact ⟨hgR.cell hH.1 (fun e => by have e := Option.some.inj e; (have e9 : bx = wr.drew.heap.size := e); omega), hgR.cell hH.2.1 (fun e => by have e := Option.some.inj e; (have e9 : bx = wr.drew.heap.size := e); omega), hgR.cell hH.2.2.1 (fun e => by have e := Option.some.inj e; (have e9 : bx = wr.drew.heap.size := e); omega), hgR.cell hH.2.2.2.1 (fun e => by have e := Option.some.inj e; (have e9 : bx = wr.drew.heap.size := e); omega), hgR.cell hH.2.2.2.2.1 (fun e => by have e := Option.some.inj e; (have e9 : bD = wr.drew.heap.size := e); omega), hH.2.2.2.2.2.grown hgR hH.2.2.2.2.2.size (fun z9 e9 => by have e9 := Option.some.inj e9; omega)⟩
                        replace hH := hG
                        clear hK K hG
                        try simp only [Act.put, List.setIfInBounds_toArray, List.set_cons_zero, List.set_cons_succ]
                        refine wpAnyH_take (i := 14) (oi := { dst := some 12, op := _, type := _, pos := _, after := _, guard := _ }) (v := ?_) rfl (by kernel_rfl) (by kernel_rfl) (by kernel_rfl) (fun _ _ _ h => h) (Or.inl ⟨by rfl, ?_⟩) hH ?_
                        rotate_left 1
                        · intro W hSw
                          (try dsimp only at hSw)
                          go_simp
                          (try with_reducible rfl)
                        try simp only [Act.put, List.setIfInBounds_toArray, List.set_cons_zero, List.set_cons_succ]
                        refine wpAnyH_done (by kernel_rfl) ?_ _
                        refine NoPanic.normal ?_
                        have BF := Lib.hid hH.2.2.2.2.2
                        clear hH hgR
                        go_wp2_with fail
                        go_meet
                        exact ⟨_, rfl, rfl, KJn, BF⟩
                    case rest =>
                      obtain ⟨kk, rfl, rfl, KJ, BX⟩ := hcut
                      have j0 := KJ.out.cell (i := 0) rfl
                      have j1 := KJ.out.cell (i := 1) rfl
                      have j2 := KJ.out.cell (i := 2) rfl
                      have j3 := KJ.out.cell (i := 3) rfl
                      have j4 := KJ.out.cell (i := 4) rfl
                      have B2 := Lib.hid (BV.out.trans (BX.out.mono BV.out.size))
                      have HBB := Lib.hid (show ∀ r : Bool, (b || (rb && decide (tp = H))) = r → (r = false → NoM ds cs gs T H q (j + 1)) from fun r hr h => by
                        rw [h] at hr
                        cases b
                        · rw [Bool.false_or] at hr
                          exact no_next (HJ.out rfl) HZ.out (by rw [HMT.out]; exact hr)
                        · cases hr)
                      clear CK KV HV BX HMT HJ HZ VV
                      go_wp2_with fail
                      refine (CP.out _).mono ?_
                      rintro e w9 ⟨rfl, hb⟩
                      have B3 := Lib.hid (B2.out.trans (hb.mono B2.out.size))
                      clear hb CP j0 j1 j2 j3 j4 KJ B2
                      by_cases ht : tp = H
                      · have t1 : (tp == H) = true := by simp [ht]
                        have T9 := Lib.hid (HBB.out _ rfl)
                        rw [decide_eq_true ht] at T9
                        clear ht HBB
                        cases b <;> cases rb
                        all_goals
                          go_wp2_with fail
                          go_roundw
                          case rel => first | exact ⟨j + 1, _, by omega, by go_num, rfl, T9, B3⟩ | ((repeat apply Exists.intro); exact ⟨⟨j + 1, _, by omega, by go_num, rfl, T9, B3⟩, rfl⟩)
                          case measure => simp [intOf]; omega
                      · have t1 : (tp == H) = false := by simp [ht]
                        have T9 := Lib.hid (HBB.out _ rfl)
                        rw [decide_eq_false ht] at T9
                        clear ht HBB
                        cases b <;> cases rb
                        all_goals
                          go_wp2_with fail
                          go_roundw
                          case rel => first | exact ⟨j + 1, _, by omega, by go_num, rfl, T9, B3⟩ | ((repeat apply Exists.intro); exact ⟨⟨j + 1, _, by omega, by go_num, rfl, T9, B3⟩, rfl⟩)
                          case measure => simp [intOf]; omega
                  · have hjq : j = q0 := by omega
                    have B4 := Lib.hid (BW.out.trans (BV.out.mono BW.out.size))
                    have HB4 := Lib.hid (show b = false → m ≠ 0 ∧ NoM ds cs gs T H (q + 1) 0 from fun h => ⟨HQ2.out.1, no_tick (by have := HJ.out h; rw [hjq, ← HN.out] at this; exact this)⟩)
                    have d7 : decide ((j : Int) < (q0 : Int)) = false := decide_eq_false (by omega)
                    clear hjq HJ HQ2 KV HV
                    go_wp2_with fail
                    go_roundw
                    case rel => first | exact ⟨q + 1, b, by omega, by go_num, rfl, HB4, B4⟩ | ((repeat apply Exists.intro); exact ⟨⟨q + 1, b, by omega, by go_num, rfl, HB4, B4⟩, rfl⟩)
                    case measure => simp [intOf]; omega
              · exact absurd (HE.out q (by have := HNT.out; omega) (HQ.out rfl).2) (HQ.out rfl).1
            · clear HQ
              by_cases hlq : q < N
              · have hc : decide ((q : Int) < T) = true := decide_eq_true (by have := HNT.out; omega)
                have hc2 : (q : Int) < T := by have := HNT.out; omega
                go_wp2_with fail
                go_ret
                exact ⟨rfl, BBW.out⟩
              · have hc : decide ((q : Int) < T) = false := decide_eq_false (by have := HNT.out; omega)
                have hc2 : ¬ (q : Int) < T := by have := HNT.out; omega
                go_wp2_with fail
                go_ret
                exact ⟨rfl, BBW.out⟩
  · have hd : decide (4096 < n) = true := decide_eq_true (by omega)
    clear hn hm hr
    go_enter Tryz.func5, Tryz.ntmps5
    go_wp2_with (go_at_call 7; go_enter Tryz.func7, Tryz.ntmps7)
    go_returns
    exact ⟨rfl, Below.refl _ _⟩

set_option maxRecDepth 100000 in
theorem lifted (os : Os) (started : os.Started) (H : Type) (enc : TypeId × Value → H) :
    ReturnsInHanded {} Tryz.checked os 5 .any (Rows.fnHighSpec.pre6 enc Tryz.prog Tryz.f5 Rows.fnHighRow.domain false) (Rows.fnHighSpec.post enc Tryz.prog Tryz.f5 false true false false) := by
  refine returnsInHanded_of_change (C := Tryz.checked) own started (by kernel_rfl) Tryz.func5
    (ChangeSpec.witness6 (enc := enc) (C := Tryz.checked) false ⟨#[], #[.slice none 0 0], []⟩ 8 (by kernel_rfl) (by kernel_rfl) (by kernel_rfl) (by kernel_rfl)) ?_
  intro W base args ds gs before hval0 hW hcnd hsz
  have hval : ∀ (j : Nat) t v, Tryz.f5.params[j]? = some t → args[j]? = some v → Value.okWide Tryz.prog W .any base t v := hval0
  have hW' := hW
  obtain ⟨p, q, hA0, hV, rfl, hfz, hnd⟩ := hW
  have hA1 := hA0
  have hA : DataW.TrodAll enc Tryz.prog W 0 (fun _ => true) true Tryz.f5.params.toList args.toList ds p := hA0
  rw [Tryz.params5] at hA hval
  obtain ⟨v0, vs0, d0, ds0, p0, q0, hargs, rfl, rfl, h0, r0⟩ := trodAll_cons hA
  obtain ⟨rfl, rfl, rfl⟩ := trodAll_nil r0
  obtain rfl : args = #[v0] := by cases args; simp_all
  obtain ⟨rfl, rfl⟩ := trodVars_none hV
  obtain ⟨A0, n0, c0, a0, rfl, l0, m0, g0⟩ := RampFn.take_bytes Tryz.underlying22 Tryz.underlying5 (by kernel_rfl) (hval 0 22 v0 rfl rfl) h0
  clear hA0 hval0
  rw [List.append_nil] at hW'
  refine (walk A0 n0 c0 a0 l0 m0 W g0).mono fun e W' ⟨he, hb⟩ => ?_
  subst he
  exact ⟨_, rfl, post_law rfl hW' hA1 laidOut (by rw [Tryz.params5]; exact of_decide_eq_true (by kernel_rfl)) 4 (by kernel_rfl) Tryz.underlying4 rfl hb⟩

theorem over : Rows.fnHighRow.holds Tryz.pinned (OpenSpec.ofChange Rows.fnHighSpec) :=
  OpenClaim.holds_of_wide 5 Tryz.f5 rfl rfl rfl rfl rfl rfl rfl ⟨rfl, rfl, rfl, rfl, rfl⟩ rfl rfl rfl rfl rfl (by kernel_rfl) Tryz.func5 (by kernel_rfl)
    (of_decide_eq_true (by kernel_rfl)) (by unfold Func.isWrapper; first | (rw [if_pos (by decide +kernel)]; kernel_rfl) | (rw [if_neg (by decide +kernel)]; exact ⟨rfl, rfl⟩))
    (fun os started H enc _ => lifted os started H enc)

/-- The statement. -/
theorem proved : Rows.FnHighSaid :=
  over
#print axioms proved
end Go.Proofs.YtokncfhpmjohdabGreat.fnHigh
