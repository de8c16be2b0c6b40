/- The law FnAllDrops holds at every input. The step from the walk to the row follows the guide's own template. -/
import Derived.Test.YtokncfhpmjohdabGreatM1
import Derived.Test.YtokncfhpmjohdabGreatDh9
import Derived.Test.YtokncfhpmjohdabGreatM22
import Derived.Test.YtokncfhpmjohdabGreatM31
import Derived.Test.YtokncfhpmjohdabGreatM25
import Derived.Test.YtokncfhpmjohdabGreatNa11
import Derived.Test.YtokncfhpmjohdabGreatM32
import Derived.Deep.RegionHeld3
import Derived.Deep.DeepCutAuto
set_option linter.unusedVariables false
set_option linter.unusedSimpArgs false
namespace Go.Proofs.YtokncfhpmjohdabGreat.fnAllDrops
open Go.ChangeShapes Go.WideShapes Go.ChangeAt Go.RowKit Go.WideMaps Go.WideElems Go.Proofs.YtokncfhpmjohdabGreat.Mem
open Go.ChangeMaps (open_string shut_string)
set_option linter.unusedVariables false
set_option linter.unusedSimpArgs false

theorem own : ownKnob Tryz.prog.godebug = none := by kernel_rfl
theorem laidOut : laidOutB Tryz.prog = true := by kernel_rfl

open Go.Proofs.YtokncfhpmjohdabGreat.P2 Go.Proofs.YtokncfhpmjohdabGreat.Bk Go.Proofs.YtokncfhpmjohdabGreat.Sp Go.Proofs.YtokncfhpmjohdabGreat.Sq 
open Go.Proofs.YtokncfhpmjohdabGreat.Sv hiding D C G
open Go.Proofs.YtokncfhpmjohdabGreat.Dh9 Go.Proofs.YtokncfhpmjohdabGreat.Nl9 Go.Proofs.YtokncfhpmjohdabGreat.Sp Go.Proofs.YtokncfhpmjohdabGreat.Sq Go.Proofs.YtokncfhpmjohdabGreat.Bk Go.Proofs.YtokncfhpmjohdabGreat.P2
open Go.Proofs.YtokncfhpmjohdabGreat.Rw (owns_below owns_grown owns_base)

set_option maxHeartbeats 8000000 in
set_option maxRecDepth 100000 in
theorem walk (A : Option Addr) (n c : Nat) (bs : List UInt8) (hn : bs.length = n) (hm : n ≤ maxLen) (w : World) (hr : Rd w w.heap.size A (Draw.u8s bs)) :
    Calls Tryz.prog 6 #[.slice A n c] w fun e w' => e = .returned (.bool true) ∧ Below w.heap.size w w' := by
  have hu : undef = Value.tuple #[] := rfl
  by_cases hbig : (n : Int) ≤ 4096
  · have D := Lib.hid (drawS w A n c bs hn (by omega) hr)
    clear hm
    go_enter Tryz.func6, Tryz.ntmps6
    go_wp2_with (go_at_call 7; go_enter Tryz.func7, Tryz.ntmps7)
    refine D.out.mono ?_
    rintro e wd0 ⟨ds, cs, gs, T, t, q0, g0, c0, A1, q1, c1, q2, g2, c2, e0, e1, e2, hH, ht0, ht1, rfl, o0, o1, o2, hB⟩
    have h9 := Lib.hid (drawn_show hH.score.1 hH.rig.1 hH.wind hH.t0 hH.t1)
    have HF := Lib.hid (show Fit q0 q1 q2 ds cs gs from ⟨⟨e0, by have := hH.rig.len; omega⟩, ⟨e1, by have := hH.score.2.1; omega⟩, e2, by have := hH.few; omega⟩)
    have hq0 : q0 ≤ 8 := by have := hH.rig.len; omega
    have HN := Lib.hid e0
    have wt : (Lit.int .i64 t).wf = true := Draw.wf_of_small (by omega) (by omega)
    have HSZ := Lib.hid hH.rig.sizes
    have HSC := Lib.hid hH.score.sizes
    have HT0 := Lib.hid (And.intro hH.t0 hH.t1)
    have HS0 := Lib.hid (show SR wd0 (some ⟨g0, 0, none⟩) A1 (some ⟨g2, 0, none⟩) ds cs gs from ⟨Rd.own o0, own_rd o1, Rd.own o2⟩)
    have B0 := Lib.hid hB
    clear e0 e1 e2 o0 o1 o2 hB hbig hn hr D hH
    generalize (some (⟨g0, 0, none⟩ : Addr)) = A0 at *
    generalize (some (⟨g2, 0, none⟩ : Addr)) = A2 at *
    obtain ⟨NV, hNV⟩ : ∃ v, Tn9.cnt (Tn9.thP t) (all9 ds cs gs T) = v := ⟨_, rfl⟩
    obtain ⟨LV, hLV⟩ : ∃ v, Tn9.cnt (Tn9.laP t) (all9 ds cs gs T) = v := ⟨_, rfl⟩
    obtain ⟨p, hp⟩ : ∃ p, (Lw9.dpV ds cs gs T t).length = p := ⟨_, rfl⟩
    obtain ⟨m, hm⟩ : ∃ p, (Lp9.ldV ds cs gs T).length = p := ⟨_, rfl⟩
    have x1 : NV = (p : Int) + LV := by rw [← hNV, ← hLV, ← hp]; exact Na11.thrown_split ds cs gs T t
    have x2 := Na11.thrown_le ds cs gs T t
    have x3 := Na11.landed_le ds cs gs T t
    rw [hNV, hm] at x2
    rw [hLV, hm] at x3
    have x4 : m ≤ 512 := by rw [← hm]; exact Lp9.ld_len ds cs gs T
    have x5 : p ≤ 512 := by rw [← hp]; exact Lw9.dp_len ds cs gs T t
    have CT := Lib.hid (show ∀ (W : World) (h : SR W A0 A1 A2 ds cs gs), Calls Tryz.prog 21 #[sv A0 q0 c0 A1 q1 c1 A2 q2 c2 T, .int .i64 t] W (fun e w' => e = .returned (.int .i64 (NV)) ∧ Below W.heap.size W w') from fun W h => by have := Tc9.thrownI A0 q0 c0 A1 q1 c1 A2 q2 c2 T ds cs gs t W HF.out h; rw [hNV] at this; exact this)
    have CS := Lib.hid (show ∀ (W : World) (h : SR W A0 A1 A2 ds cs gs), Calls Tryz.prog 22 #[sv A0 q0 c0 A1 q1 c1 A2 q2 c2 T, .int .i64 t] W (fun e w' => e = .returned (.int .i64 (NV)) ∧ Below W.heap.size W w') from fun W h => by have := Tn9.thrownS A0 q0 c0 A1 q1 c1 A2 q2 c2 T ds cs gs t W HF.out h HSZ.out HSC.out; rw [hNV] at this; exact this)
    have CL := Lib.hid (show ∀ (W : World) (h : SR W A0 A1 A2 ds cs gs), Calls Tryz.prog 23 #[sv A0 q0 c0 A1 q1 c1 A2 q2 c2 T, .int .i64 t] W (fun e w' => e = .returned (.int .i64 (LV)) ∧ Below W.heap.size W w') from fun W h => by have := Tc9.landedI A0 q0 c0 A1 q1 c1 A2 q2 c2 T ds cs gs t W HF.out h; rw [hLV] at this; exact this)
    have CN := Lib.hid (show ∀ (W : World) (h : SR W A0 A1 A2 ds cs gs), Calls Tryz.prog 21 #[sv A0 q0 c0 A1 q1 c1 A2 q2 c2 T, .int .i64 (-1)] W (fun e w' => e = .returned (.int .i64 (0)) ∧ Below W.heap.size W w') from fun W h => by have := Tc9.thrownI A0 q0 c0 A1 q1 c1 A2 q2 c2 T ds cs gs (-1) W HF.out h; rw [Na11.thrown_neg] at this; exact this)
    have CZ := Lib.hid (show ∀ (W : World) (h : SR W A0 A1 A2 ds cs gs), Calls Tryz.prog 23 #[sv A0 q0 c0 A1 q1 c1 A2 q2 c2 T, .int .i64 0] W (fun e w' => e = .returned (.int .i64 (0)) ∧ Below W.heap.size W w') from fun W h => by have := Tc9.landedI A0 q0 c0 A1 q1 c1 A2 q2 c2 T ds cs gs 0 W HF.out h; rw [Na11.landed_zero] at this; exact this)
    have CA := Lib.hid (show ∀ (W : World) (h : SR W A0 A1 A2 ds cs gs), Calls Tryz.prog 21 #[sv A0 q0 c0 A1 q1 c1 A2 q2 c2 T, .int .i64 T] W (fun e w' => e = .returned (.int .i64 ((m : Int))) ∧ Below W.heap.size W w') from fun W h => by have := Tc9.thrownI A0 q0 c0 A1 q1 c1 A2 q2 c2 T ds cs gs T W HF.out h; rw [Na11.thrown_all, hm] at this; exact this)
    have CM := Lib.hid (show ∀ (W : World) (h : SR W A0 A1 A2 ds cs gs), Calls Tryz.prog 23 #[sv A0 q0 c0 A1 q1 c1 A2 q2 c2 T, .int .i64 200] W (fun e w' => e = .returned (.int .i64 ((m : Int))) ∧ Below W.heap.size W w') from fun W h => by have := Tc9.landedI A0 q0 c0 A1 q1 c1 A2 q2 c2 T ds cs gs 200 W HF.out h; rw [Na11.landed_all, hm] at this; exact this)
    have CD := Lib.hid (show ∀ (W : World) (h : SR W A0 A1 A2 ds cs gs), Calls Tryz.prog 17 #[sv A0 q0 c0 A1 q1 c1 A2 q2 c2 T, .int .i64 t] W (fun e w' => ∃ g c, e = .returned (.slice (some ⟨g, 0, none⟩) p c) ∧ Below W.heap.size W w') from fun W h => (Dp9.dropsI A0 q0 c0 A1 q1 c1 A2 q2 c2 T ds cs gs t W HF.out h).mono fun e w' k => by unfold Pl9.RowP at k; obtain ⟨g, c, k1, _, k2⟩ := k; exact ⟨g, c, by rw [k1, hp], k2⟩)
    have CE := Lib.hid (show ∀ (W : World) (h : SR W A0 A1 A2 ds cs gs), Calls Tryz.prog 17 #[sv A0 q0 c0 A1 q1 c1 A2 q2 c2 T, .int .i64 200] W (fun e w' => ∃ g c, e = .returned (.slice (some ⟨g, 0, none⟩) 0 c) ∧ Below W.heap.size W w') from fun W h => (Dp9.dropsI A0 q0 c0 A1 q1 c1 A2 q2 c2 T ds cs gs 200 W HF.out h).mono fun e w' k => by unfold Pl9.RowP at k; obtain ⟨g, c, k1, _, k2⟩ := k; exact ⟨g, c, by rw [k1, Na11.drops_late], k2⟩)
    have CG := Lib.hid (show ∀ (W : World) (h : SR W A0 A1 A2 ds cs gs), Calls Tryz.prog 18 #[sv A0 q0 c0 A1 q1 c1 A2 q2 c2 T] W (fun e w' => ∃ g c, e = .returned (.slice (some ⟨g, 0, none⟩) m c) ∧ Below W.heap.size W w') from fun W h => (Lp9.landingsI A0 q0 c0 A1 q1 c1 A2 q2 c2 T ds cs gs W HF.out h).mono fun e w' k => by unfold Pl9.RowP at k; obtain ⟨g, c, k1, _, k2⟩ := k; exact ⟨g, c, by rw [k1, hm], k2⟩)
    have y1 : IntKind.i64.wrap ((p : Int) + LV) = (p : Int) + LV := IntWalk.i64_in _ (by omega)
    have y2 : (NV != (p : Int) + LV) = false := by rw [x1]; simp
    have y3 : NV ≤ (m : Int) := x2.2
    have y4 : (NV != NV) = false := by simp
    have y5 : ((m : Int) == (m : Int)) = true := by simp
    have y6 : ((0 : Int) != 0) = false := by simp
    have y7 : decide (NV ≤ (m : Int)) = true := decide_eq_true y3
    clear x1 x2 x3 hNV hLV hp hm wt HSZ HSC h9 HN HT0
    have hb := (Below.refl wd0.heap.size wd0).alloc (Nat.le_refl _) (.cells #[.slice A0 q0 c0, .slice A1 q1 c1, .slice A2 q2 c2, .int .i64 T] 28)
    have KB := Lib.hid (Bk.new wd0 #[.slice A0 q0 c0, .slice A1 q1 c1, .slice A2 q2 c2, .int .i64 T] 28)
    have HS := Lib.hid (HS0.out.below hb)
    have BB := Lib.hid (B0.out.trans (hb.mono B0.out.size))
    clear hb HS0 B0
    go_upto_region 4 with fail
    generalize wd0.alloc (.cells #[.slice A0 q0 c0, .slice A1 q1 c1, .slice A2 q2 c2, .int .i64 T] 28) = w1 at *
    generalize wd0.heap.size = bx at *
    have fKB_0 := KB.out.cell (i := 0) rfl
    have fKB_1 := KB.out.cell (i := 1) rfl
    have fKB_2 := KB.out.cell (i := 2) rfl
    have fKB_3 := KB.out.cell (i := 3) rfl
    go_wp2_with fail
    clear fKB_0 fKB_1 fKB_2 fKB_3
    refine (CT.out _ HS.out).mono ?_
    rintro e V1 ⟨rfl, hb⟩
    have KB9 := Lib.hid (KB.out.below hb)
    have HS9 := Lib.hid (HS.out.below hb)
    have BB9 := Lib.hid (BB.out.trans (hb.mono BB.out.size))
    clear hb KB HS BB
    have KB := KB9
    clear KB9
    have HS := HS9
    clear HS9
    have BB := BB9
    clear BB9
    have fKB_0 := KB.out.cell (i := 0) rfl
    have fKB_1 := KB.out.cell (i := 1) rfl
    have fKB_2 := KB.out.cell (i := 2) rfl
    have fKB_3 := KB.out.cell (i := 3) rfl
    go_wp2_with fail
    clear fKB_0 fKB_1 fKB_2 fKB_3
    refine (CS.out _ HS.out).mono ?_
    rintro e V2 ⟨rfl, hb⟩
    have KB9 := Lib.hid (KB.out.below hb)
    have HS9 := Lib.hid (HS.out.below hb)
    have BB9 := Lib.hid (BB.out.trans (hb.mono BB.out.size))
    clear hb KB HS BB
    have KB := KB9
    clear KB9
    have HS := HS9
    clear HS9
    have BB := BB9
    clear BB9
    have fKB_0 := KB.out.cell (i := 0) rfl
    have fKB_1 := KB.out.cell (i := 1) rfl
    have fKB_2 := KB.out.cell (i := 2) rfl
    have fKB_3 := KB.out.cell (i := 3) rfl
    go_wp2_with fail
    refine wp_region_noPanic ?_
    refine wp_region_held_drew (S := (fun w' => w'.cell? ⟨bx, 0, none⟩ = some (.slice A0 q0 c0) ∧ w'.cell? ⟨bx, 1, none⟩ = some (.slice A1 q1 c1) ∧ w'.cell? ⟨bx, 2, none⟩ = some (.slice A2 q2 c2) ∧ w'.cell? ⟨bx, 3, none⟩ = some (.int .i64 T) ∧ Below V2.heap.size V2 w')) (by kernel_rfl) ?_ (fun hH => ?_)
    · exact ⟨fKB_0, fKB_1, fKB_2, fKB_3, (Below.refl _ _).drew⟩
    refine wpAnyH_take (i := 0) (oi := { dst := some 22, op := _, type := _, pos := _, after := _, guard := _ }) (v := ?_) rfl (by kernel_rfl) (by kernel_rfl) (by kernel_rfl) (fun _ _ _ h => h) (Or.inl ⟨by rfl, ?_⟩) hH ?_
    rotate_left 1
    · intro W hSw
      (try dsimp only at hSw)
      go_simp
      (try with_reducible rfl)
    try simp only [Act.put, List.setIfInBounds_toArray, List.set_cons_zero, List.set_cons_succ]
    refine wpAnyH_take (i := 1) (oi := { dst := some 23, op := _, type := _, pos := _, after := _, guard := _ }) (v := ?_) rfl (by kernel_rfl) (by kernel_rfl) (by kernel_rfl) (fun _ _ _ h => h) (Or.inl ⟨by rfl, ?_⟩) hH ?_
    rotate_left 1
    · intro W hSw
      (try dsimp only at hSw)
      go_simp
      (try with_reducible rfl)
    try simp only [Act.put, List.setIfInBounds_toArray, List.set_cons_zero, List.set_cons_succ]
    refine wpAnyH_take (i := 2) (oi := { dst := some 24, op := _, type := _, pos := _, after := _, guard := _ }) (v := ?_) rfl (by kernel_rfl) (by kernel_rfl) (by kernel_rfl) (fun _ _ _ h => h) (Or.inl ⟨by rfl, ?_⟩) hH ?_
    rotate_left 1
    · intro W hSw
      (try dsimp only at hSw)
      go_simp
      (try with_reducible rfl)
    try simp only [Act.put, List.setIfInBounds_toArray, List.set_cons_zero, List.set_cons_succ]
    refine wpAnyH_take (i := 5) (oi := { dst := some 27, op := _, type := _, pos := _, after := _, guard := _ }) (v := ?_) rfl (by kernel_rfl) (by kernel_rfl) (by kernel_rfl) (fun _ _ _ h => h) (Or.inl ⟨by rfl, ?_⟩) hH ?_
    rotate_left 1
    · intro W hSw
      (try dsimp only at hSw)
      go_simp
      (try with_reducible rfl)
    try simp only [Act.put, List.setIfInBounds_toArray, List.set_cons_zero, List.set_cons_succ]
    refine wpAnyH_take (i := 6) (oi := { dst := some 28, op := _, type := _, pos := _, after := _, guard := _ }) (v := ?_) rfl (by kernel_rfl) (by kernel_rfl) (by kernel_rfl) (fun _ _ _ h => h) (Or.inl ⟨by rfl, ?_⟩) hH ?_
    rotate_left 1
    · intro W hSw
      (try dsimp only at hSw)
      go_simp
      (try with_reducible rfl)
    try simp only [Act.put, List.setIfInBounds_toArray, List.set_cons_zero, List.set_cons_succ]
    refine wpAnyH_ready (rs := [3]) (by kernel_rfl) (by simp) (AllReadyH.cons rfl (fun K hK => ?_) AllReadyH.nil)
    go_simp
    go_at_call 17; ((with_reducible refine (CD.out _ (HS.out.below hH.2.2.2.2)).mono ?_); rintro e z0 ⟨gd, cd, rfl, hb⟩); go_wp2_with fail
    refine hK.out _ _ ?_ (fun hG => ?_)
    · exact ⟨cell_below hb hH.1, cell_below hb hH.2.1, cell_below hb hH.2.2.1, cell_below hb hH.2.2.2.1, hH.2.2.2.2.trans (hb.mono hH.2.2.2.2.size)⟩
    replace hH := hG
    clear hK K hG
    try simp only [Act.put, List.setIfInBounds_toArray, List.set_cons_zero, List.set_cons_succ]
    clear hb
    refine wpAnyH_take (i := 4) (oi := { dst := some 26, op := _, type := _, pos := _, after := _, guard := _ }) (v := ?_) rfl (by kernel_rfl) (by kernel_rfl) (by kernel_rfl) (fun _ _ _ h => h) (Or.inl ⟨by rfl, ?_⟩) hH ?_
    rotate_left 1
    · intro W hSw
      (try dsimp only at hSw)
      go_simp
      (try with_reducible rfl)
    try simp only [Act.put, List.setIfInBounds_toArray, List.set_cons_zero, List.set_cons_succ]
    refine wpAnyH_ready (rs := [7]) (by kernel_rfl) (by simp) (AllReadyH.cons rfl (fun K hK => ?_) AllReadyH.nil)
    go_simp
    go_at_call 23; ((with_reducible refine (CL.out _ (HS.out.below hH.2.2.2.2)).mono ?_); rintro e z1 ⟨rfl, hb⟩); go_wp2_with fail
    refine hK.out _ _ ?_ (fun hG => ?_)
    · exact ⟨cell_below hb hH.1, cell_below hb hH.2.1, cell_below hb hH.2.2.1, cell_below hb hH.2.2.2.1, hH.2.2.2.2.trans (hb.mono hH.2.2.2.2.size)⟩
    replace hH := hG
    clear hK K hG
    try simp only [Act.put, List.setIfInBounds_toArray, List.set_cons_zero, List.set_cons_succ]
    clear hb
    refine wpAnyH_take (i := 8) (oi := { dst := some 30, op := _, type := _, pos := _, after := _, guard := _ }) (v := ?_) rfl (by kernel_rfl) (by kernel_rfl) (by kernel_rfl) (fun _ _ _ h => h) (Or.inl ⟨by rfl, ?_⟩) hH ?_
    rotate_left 1
    · intro W hSw
      (try dsimp only at hSw)
      go_simp
      (try with_reducible rfl)
    try simp only [Act.put, List.setIfInBounds_toArray, List.set_cons_zero, List.set_cons_succ]
    refine wpAnyH_take (i := 9) (oi := { dst := some 31, op := _, type := _, pos := _, after := _, guard := _ }) (v := ?_) rfl (by kernel_rfl) (by kernel_rfl) (by kernel_rfl) (fun _ _ _ h => h) (Or.inl ⟨by rfl, ?_⟩) hH ?_
    rotate_left 1
    · intro W hSw
      (try dsimp only at hSw)
      go_simp
      (try with_reducible rfl)
    try simp only [Act.put, List.setIfInBounds_toArray, List.set_cons_zero, List.set_cons_succ]
    refine wpAnyH_take (i := 10) (oi := { dst := some 32, op := _, type := _, pos := _, after := _, guard := _ }) (v := ?_) rfl (by kernel_rfl) (by kernel_rfl) (by kernel_rfl) (fun _ _ _ h => h) (Or.inl ⟨by rfl, ?_⟩) hH ?_
    rotate_left 1
    · intro W hSw
      (try dsimp only at hSw)
      go_simp
      (try with_reducible rfl)
    try simp only [Act.put, List.setIfInBounds_toArray, List.set_cons_zero, List.set_cons_succ]
    refine wpAnyH_take (i := 11) (oi := { dst := some 33, op := _, type := _, pos := _, after := _, guard := _ }) (v := ?_) rfl (by kernel_rfl) (by kernel_rfl) (by kernel_rfl) (fun _ _ _ h => h) (Or.inl ⟨by rfl, ?_⟩) hH ?_
    rotate_left 1
    · intro W hSw
      (try dsimp only at hSw)
      go_simp
      (try with_reducible rfl)
    try simp only [Act.put, List.setIfInBounds_toArray, List.set_cons_zero, List.set_cons_succ]
    refine wpAnyH_ready (rs := [12]) (by kernel_rfl) (by simp) (AllReadyH.cons rfl (fun K hK => ?_) AllReadyH.nil)
    go_simp
    go_at_call 21; ((with_reducible refine (CN.out _ (HS.out.below hH.2.2.2.2)).mono ?_); rintro e z2 ⟨rfl, hb⟩); go_wp2_with fail
    refine hK.out _ _ ?_ (fun hG => ?_)
    · exact ⟨cell_below hb hH.1, cell_below hb hH.2.1, cell_below hb hH.2.2.1, cell_below hb hH.2.2.2.1, hH.2.2.2.2.trans (hb.mono hH.2.2.2.2.size)⟩
    replace hH := hG
    clear hK K hG
    try simp only [Act.put, List.setIfInBounds_toArray, List.set_cons_zero, List.set_cons_succ]
    clear hb
    refine wpAnyH_take (i := 13) (oi := { dst := some 35, op := _, type := _, pos := _, after := _, guard := _ }) (v := ?_) rfl (by kernel_rfl) (by kernel_rfl) (by kernel_rfl) (fun _ _ _ h => h) (Or.inl ⟨by rfl, ?_⟩) hH ?_
    rotate_left 1
    · intro W hSw
      (try dsimp only at hSw)
      go_simp
      (try with_reducible rfl)
    try simp only [Act.put, List.setIfInBounds_toArray, List.set_cons_zero, List.set_cons_succ]
    refine wpAnyH_take (i := 14) (oi := { dst := some 36, op := _, type := _, pos := _, after := _, guard := _ }) (v := ?_) rfl (by kernel_rfl) (by kernel_rfl) (by kernel_rfl) (fun _ _ _ h => h) (Or.inl ⟨by rfl, ?_⟩) hH ?_
    rotate_left 1
    · intro W hSw
      (try dsimp only at hSw)
      go_simp
      (try with_reducible rfl)
    try simp only [Act.put, List.setIfInBounds_toArray, List.set_cons_zero, List.set_cons_succ]
    refine wpAnyH_take (i := 15) (oi := { dst := some 37, op := _, type := _, pos := _, after := _, guard := _ }) (v := ?_) rfl (by kernel_rfl) (by kernel_rfl) (by kernel_rfl) (fun _ _ _ h => h) (Or.inl ⟨by rfl, ?_⟩) hH ?_
    rotate_left 1
    · intro W hSw
      (try dsimp only at hSw)
      go_simp
      (try with_reducible rfl)
    try simp only [Act.put, List.setIfInBounds_toArray, List.set_cons_zero, List.set_cons_succ]
    refine wpAnyH_take (i := 16) (oi := { dst := some 38, op := _, type := _, pos := _, after := _, guard := _ }) (v := ?_) rfl (by kernel_rfl) (by kernel_rfl) (by kernel_rfl) (fun _ _ _ h => h) (Or.inl ⟨by rfl, ?_⟩) hH ?_
    rotate_left 1
    · intro W hSw
      (try dsimp only at hSw)
      go_simp
      (try with_reducible rfl)
    try simp only [Act.put, List.setIfInBounds_toArray, List.set_cons_zero, List.set_cons_succ]
    refine wpAnyH_ready (rs := [17]) (by kernel_rfl) (by simp) (AllReadyH.cons rfl (fun K hK => ?_) AllReadyH.nil)
    go_simp
    go_at_call 23; ((with_reducible refine (CZ.out _ (HS.out.below hH.2.2.2.2)).mono ?_); rintro e z3 ⟨rfl, hb⟩); go_wp2_with fail
    refine hK.out _ _ ?_ (fun hG => ?_)
    · exact ⟨cell_below hb hH.1, cell_below hb hH.2.1, cell_below hb hH.2.2.1, cell_below hb hH.2.2.2.1, hH.2.2.2.2.trans (hb.mono hH.2.2.2.2.size)⟩
    replace hH := hG
    clear hK K hG
    try simp only [Act.put, List.setIfInBounds_toArray, List.set_cons_zero, List.set_cons_succ]
    clear hb
    refine wpAnyH_take (i := 18) (oi := { dst := some 40, op := _, type := _, pos := _, after := _, guard := _ }) (v := ?_) rfl (by kernel_rfl) (by kernel_rfl) (by kernel_rfl) (fun _ _ _ h => h) (Or.inl ⟨by rfl, ?_⟩) hH ?_
    rotate_left 1
    · intro W hSw
      (try dsimp only at hSw)
      go_simp
      (try with_reducible rfl)
    try simp only [Act.put, List.setIfInBounds_toArray, List.set_cons_zero, List.set_cons_succ]
    refine wpAnyH_take (i := 19) (oi := { dst := some 41, op := _, type := _, pos := _, after := _, guard := _ }) (v := ?_) rfl (by kernel_rfl) (by kernel_rfl) (by kernel_rfl) (fun _ _ _ h => h) (Or.inl ⟨by rfl, ?_⟩) hH ?_
    rotate_left 1
    · intro W hSw
      (try dsimp only at hSw)
      go_simp
      (try with_reducible rfl)
    try simp only [Act.put, List.setIfInBounds_toArray, List.set_cons_zero, List.set_cons_succ]
    refine wpAnyH_done (by kernel_rfl) ?_ _
    refine NoPanic.normal ?_
    have hb := hH.2.2.2.2
    clear hH
    clear fKB_0 fKB_1 fKB_2 fKB_3
    have KB9 := Lib.hid (KB.out.below hb)
    have HS9 := Lib.hid (HS.out.below hb)
    have BB9 := Lib.hid (BB.out.trans (hb.mono BB.out.size))
    clear hb KB HS BB
    have KB := KB9
    clear KB9
    have HS := HS9
    clear HS9
    have BB := BB9
    clear BB9
    have fKB_0 := KB.out.cell (i := 0) rfl
    have fKB_1 := KB.out.cell (i := 1) rfl
    have fKB_2 := KB.out.cell (i := 2) rfl
    have fKB_3 := KB.out.cell (i := 3) rfl
    go_wp2_with fail
    clear fKB_0 fKB_1 fKB_2 fKB_3
    refine (CG.out _ HS.out).mono ?_
    rintro e V3 ⟨gl, cl, rfl, hb⟩
    have KB9 := Lib.hid (KB.out.below hb)
    have HS9 := Lib.hid (HS.out.below hb)
    have BB9 := Lib.hid (BB.out.trans (hb.mono BB.out.size))
    clear hb KB HS BB
    have KB := KB9
    clear KB9
    have HS := HS9
    clear HS9
    have BB := BB9
    clear BB9
    have fKB_0 := KB.out.cell (i := 0) rfl
    have fKB_1 := KB.out.cell (i := 1) rfl
    have fKB_2 := KB.out.cell (i := 2) rfl
    have fKB_3 := KB.out.cell (i := 3) rfl
    go_wp2_with fail
    clear fKB_0 fKB_1 fKB_2 fKB_3
    refine (CA.out _ HS.out).mono ?_
    rintro e V4 ⟨rfl, hb⟩
    have KB9 := Lib.hid (KB.out.below hb)
    have HS9 := Lib.hid (HS.out.below hb)
    have BB9 := Lib.hid (BB.out.trans (hb.mono BB.out.size))
    clear hb KB HS BB
    have KB := KB9
    clear KB9
    have HS := HS9
    clear HS9
    have BB := BB9
    clear BB9
    have fKB_0 := KB.out.cell (i := 0) rfl
    have fKB_1 := KB.out.cell (i := 1) rfl
    have fKB_2 := KB.out.cell (i := 2) rfl
    have fKB_3 := KB.out.cell (i := 3) rfl
    go_wp2_with fail
    clear fKB_0 fKB_1 fKB_2 fKB_3
    refine (CM.out _ HS.out).mono ?_
    rintro e V5 ⟨rfl, hb⟩
    have KB9 := Lib.hid (KB.out.below hb)
    have HS9 := Lib.hid (HS.out.below hb)
    have BB9 := Lib.hid (BB.out.trans (hb.mono BB.out.size))
    clear hb KB HS BB
    have KB := KB9
    clear KB9
    have HS := HS9
    clear HS9
    have BB := BB9
    clear BB9
    have fKB_0 := KB.out.cell (i := 0) rfl
    have fKB_1 := KB.out.cell (i := 1) rfl
    have fKB_2 := KB.out.cell (i := 2) rfl
    have fKB_3 := KB.out.cell (i := 3) rfl
    go_wp2_with fail
    clear fKB_0 fKB_1 fKB_2 fKB_3
    refine (CE.out _ HS.out).mono ?_
    rintro e V6 ⟨ge, ce, rfl, hb⟩
    have KB9 := Lib.hid (KB.out.below hb)
    have HS9 := Lib.hid (HS.out.below hb)
    have BB9 := Lib.hid (BB.out.trans (hb.mono BB.out.size))
    clear hb KB HS BB
    have KB := KB9
    clear KB9
    have HS := HS9
    clear HS9
    have BB := BB9
    clear BB9
    have fKB_0 := KB.out.cell (i := 0) rfl
    have fKB_1 := KB.out.cell (i := 1) rfl
    have fKB_2 := KB.out.cell (i := 2) rfl
    have fKB_3 := KB.out.cell (i := 3) rfl
    go_wp2_with fail
    go_ret
    exact ⟨rfl, BB.out⟩
  · have hd : decide (4096 < n) = true := decide_eq_true (by omega)
    clear hn hm hr
    go_enter Tryz.func6, Tryz.ntmps6
    go_wp2_with (go_at_call 7; go_enter Tryz.func7, Tryz.ntmps7)
    go_returns
    exact ⟨rfl, Below.refl _ _⟩

set_option maxRecDepth 100000 in
theorem lifted (os : Os) (started : os.Started) (H : Type) (enc : TypeId × Value → H) :
    ReturnsInHanded {} Tryz.checked os 6 .any (Rows.fnAllDropsSpec.pre6 enc Tryz.prog Tryz.f6 Rows.fnAllDropsRow.domain false) (Rows.fnAllDropsSpec.post enc Tryz.prog Tryz.f6 false true false false) := by
  refine returnsInHanded_of_change (C := Tryz.checked) own started (by kernel_rfl) Tryz.func6
    (ChangeSpec.witness6 (enc := enc) (C := Tryz.checked) false ⟨#[], #[.slice none 0 0], []⟩ 8 (by kernel_rfl) (by kernel_rfl) (by kernel_rfl) (by kernel_rfl)) ?_
  intro W base args ds gs before hval0 hW hcnd hsz
  have hval : ∀ (j : Nat) t v, Tryz.f6.params[j]? = some t → args[j]? = some v → Value.okWide Tryz.prog W .any base t v := hval0
  have hW' := hW
  obtain ⟨p, q, hA0, hV, rfl, hfz, hnd⟩ := hW
  have hA1 := hA0
  have hA : DataW.TrodAll enc Tryz.prog W 0 (fun _ => true) true Tryz.f6.params.toList args.toList ds p := hA0
  rw [Tryz.params6] at hA hval
  obtain ⟨v0, vs0, d0, ds0, p0, q0, hargs, rfl, rfl, h0, r0⟩ := trodAll_cons hA
  obtain ⟨rfl, rfl, rfl⟩ := trodAll_nil r0
  obtain rfl : args = #[v0] := by cases args; simp_all
  obtain ⟨rfl, rfl⟩ := trodVars_none hV
  obtain ⟨A0, n0, c0, a0, rfl, l0, m0, g0⟩ := RampFn.take_bytes Tryz.underlying22 Tryz.underlying5 (by kernel_rfl) (hval 0 22 v0 rfl rfl) h0
  clear hA0 hval0
  rw [List.append_nil] at hW'
  refine (walk A0 n0 c0 a0 l0 m0 W g0).mono fun e W' ⟨he, hb⟩ => ?_
  subst he
  exact ⟨_, rfl, post_law rfl hW' hA1 laidOut (by rw [Tryz.params6]; exact of_decide_eq_true (by kernel_rfl)) 4 (by kernel_rfl) Tryz.underlying4 rfl hb⟩

theorem over : Rows.fnAllDropsRow.holds Tryz.pinned (OpenSpec.ofChange Rows.fnAllDropsSpec) :=
  OpenClaim.holds_of_wide 6 Tryz.f6 rfl rfl rfl rfl rfl rfl rfl ⟨rfl, rfl, rfl, rfl, rfl⟩ rfl rfl rfl rfl rfl (by kernel_rfl) Tryz.func6 (by kernel_rfl)
    (of_decide_eq_true (by kernel_rfl)) (by unfold Func.isWrapper; first | (rw [if_pos (by decide +kernel)]; kernel_rfl) | (rw [if_neg (by decide +kernel)]; exact ⟨rfl, rfl⟩))
    (fun os started H enc _ => lifted os started H enc)

/-- The statement. -/
theorem proved : Rows.FnAllDropsSaid :=
  over
#print axioms proved
end Go.Proofs.YtokncfhpmjohdabGreat.fnAllDrops
