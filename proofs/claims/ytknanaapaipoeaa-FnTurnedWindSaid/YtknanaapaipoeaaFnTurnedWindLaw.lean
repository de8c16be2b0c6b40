/- The law FnTurnedWind holds at every input. The step from the walk to the row follows the guide's own template. -/
import Derived.Test.YtknanaapaipoeaaMem
import Derived.Test.YtknanaapaipoeaaWf
import Derived.Test.YtknanaapaipoeaaWg
import Derived.Test.YtknanaapaipoeaaWt
import Derived.Test.YtknanaapaipoeaaTp4
import Derived.Test.YtknanaapaipoeaaDw
import Derived.Test.YtknanaapaipoeaaDz
import Derived.Test.YtknanaapaipoeaaWn
import Derived.Test.YtknanaapaipoeaaLw
import Derived.Test.YtknanaapaipoeaaTakeC
namespace Go.Proofs.Ytknanaapaipoeaa.fnTurnedWind
open Go.ChangeShapes Go.WideShapes Go.ChangeAt Go.RowKit Go.WideMaps Go.WideElems Go.Proofs.Ytknanaapaipoeaa.Mem
open Go.ChangeMaps (open_string shut_string)
set_option linter.unusedVariables false
set_option linter.unusedSimpArgs false

theorem own : ownKnob Try.prog.godebug = none := by kernel_rfl
theorem laidOut : laidOutB Try.prog = true := by kernel_rfl

open Go.Proofs.Ytknanaapaipoeaa.Rw Go.Proofs.Ytknanaapaipoeaa.Bk Go.Proofs.Ytknanaapaipoeaa.Jt Go.Proofs.Ytknanaapaipoeaa.Str Go.Proofs.Ytknanaapaipoeaa.Pw Go.Proofs.Ytknanaapaipoeaa.P2 Go.Proofs.Ytknanaapaipoeaa.Gs Go.Proofs.Ytknanaapaipoeaa.Wm Go.Proofs.Ytknanaapaipoeaa.Wi Go.Proofs.Ytknanaapaipoeaa.Wa Go.Proofs.Ytknanaapaipoeaa.Wb Go.Proofs.Ytknanaapaipoeaa.Wc Go.Proofs.Ytknanaapaipoeaa.We Go.Proofs.Ytknanaapaipoeaa.Wg Go.Proofs.Ytknanaapaipoeaa.Dw Go.Proofs.Ytknanaapaipoeaa.Dz Go.Proofs.Ytknanaapaipoeaa.Wn Go.Proofs.Ytknanaapaipoeaa.Lw Go.Proofs.Ytknanaapaipoeaa.Wt Go.Proofs.Ytknanaapaipoeaa.Tp Go.Proofs.Ytknanaapaipoeaa.Pl Go.Proofs.Ytknanaapaipoeaa.Cm

theorem sum_any {zs : List G} (h : wd zs = true) (a m : Nat) (hm : m ≤ 128) : (-1024 ≤ (sum2 (drs zs a m)).1 ∧ (sum2 (drs zs a m)).1 ≤ 1024) ∧ (-1024 ≤ (sum2 (drs zs a m)).2 ∧ (sum2 (drs zs a m)).2 ≤ 1024) := by
  have := sum_near h a m m (Nat.le_refl _) hm
  rwa [drs_take (Nat.le_refl _)] at this
theorem tmod4 (n : Int) : -4 < n.tmod 4 ∧ n.tmod 4 < 4 := ⟨Int.lt_tmod_of_pos n (by decide), Int.tmod_lt_of_pos n (by decide)⟩

set_option maxHeartbeats 4000000 in
set_option maxRecDepth 100000 in
theorem walk (A : Option Addr) (n c : Nat) (bs : List UInt8) (hn : bs.length = n) (hm : n ≤ maxLen) (w : World) (hr : Rd w w.heap.size A (Draw.u8s bs)) :
    Calls Try.prog 7 #[.slice A n c] w fun e w' => e = .returned (.bool true) ∧ Below w.heap.size w w' := by
  have hu : undef = Value.tuple #[] := rfl
  by_cases hbig : (n : Int) ≤ 4096
  · have D := Lib.hid (drawWind w A n c bs hn (by omega) hr)
    have DT := Lib.hid (fun (W : World) (h : Below w.heap.size w W) => drawTurnWind W A n c bs hn (by omega) ((hr.below h).more h.size))
    clear hm
    go_enter Try.func7, Try.ntmps7
    go_wp2_with (go_at_call 15; go_enter Try.func15, Try.ntmps15)
    refine D.out.mono ?_
    rintro e wd0 ⟨zs, q, gZ, cZ, a, d, hw, hl, hq, ha, hd, rfl, hR, hB⟩
    have BB := Lib.hid hB
    have Z := Lib.hid hR
    have ZL := Lib.hid hl
    clear D hbig hR hB hn hr hl
    have hqb : q ≤ 1048576 := by omega
    go_wp2_with fail
    refine (DT.out _ BB.out).mono ?_
    rintro e wd1 ⟨_, _, _, _, t, _, _, _, rfl, _, hb⟩
    have CP := Lib.hid (fun (W : World) (h : Rd W W.heap.size (some ⟨gZ, 0, none⟩) (gls zs)) => by have := driftOverI (some ⟨gZ, 0, none⟩) q cZ zs _ (a : Int) ((a : Int) + (d : Int)) W ZL.out hqb (Nat.le_refl _) h; rw [over_yes hw (by omega)] at this; exact this)
    obtain ⟨⟨px, py⟩, hp⟩ : ∃ p, sum2 (drs zs a d) = p := ⟨_, rfl⟩
    have hbp := sum_any hw a d (by omega)
    rw [hp] at CP hbp
    obtain ⟨zr, hzr⟩ : ∃ z, zs.map (tg t) = z := ⟨_, rfl⟩
    have HM := Lib.hid (show zr.length = q by rw [← hzr, List.length_map]; exact ZL.out)
    have hw2 : wd zr = true := by rw [← hzr, wd_rot]; exact hw
    have hp2 : sum2 (drs zr a d) = rot t (px, py) := by rw [← hzr, drs_rot, sum_rot, hp]
    have CQ := Lib.hid (fun (W : World) (g c : Nat) (h : Rd W W.heap.size (some ⟨g, 0, none⟩) (gls zr)) => by have := driftOverI (some ⟨g, 0, none⟩) q c zr _ (a : Int) ((a : Int) + (d : Int)) W HM.out hqb (Nat.le_refl _) h; rw [over_yes hw2 (by omega), hp2] at this; exact this)
    have DN := Lib.hid (fun (W : World) (g c : Nat) (h : Rd W W.heap.size (some ⟨g, 0, none⟩) (gls zr)) => windI (c := c) HM.out hqb hw2 W (Nat.le_refl _) h)
    have TP := Lib.hid (turnI (x := px) (y := py) t (by rw [Bool.and_eq_true, ms_iff, ms_iff]; omega))
    have CX := Lib.hid (show ∀ (W : World) (h : Rd W W.heap.size (some ⟨gZ, 0, none⟩) (gls zs)), Calls Try.prog 32 #[.slice (some ⟨gZ, 0, none⟩) q cZ, .int .i64 t] W (fun e w' => ∃ g c, e = .returned (.slice (some ⟨g, 0, none⟩) q c) ∧ w'.ownsRow W.heap.size 57 3 (.slice (some ⟨g, 0, none⟩) q c) q (gls zr) ∧ Below W.heap.size W w') from fun W h => by have := turnWindI ⟨gZ, 0, none⟩ q cZ zs t W ZL.out hqb h; rw [tws_yes hw, hzr] at this; unfold Row3 at this; rw [HM.out] at this; exact this)
    have CB := Lib.hid (show ∀ (W : World) (g c : Nat) (h : Rd W W.heap.size (some ⟨g, 0, none⟩) (gls zr)), Calls Try.prog 32 #[.slice (some ⟨g, 0, none⟩) q c, .int .i64 (4 - t.tmod 4)] W (fun e w' => ∃ g c, e = .returned (.slice (some ⟨g, 0, none⟩) q c) ∧ w'.ownsRow W.heap.size 57 3 (.slice (some ⟨g, 0, none⟩) q c) q (gls zs) ∧ Below W.heap.size W w') from fun W g c h => by have := turnWindI ⟨g, 0, none⟩ q c zr (4 - t.tmod 4) W HM.out hqb h; rw [tws_yes hw2, ← hzr, map_back] at this; unfold Row3 at this; rw [ZL.out] at this; exact this)
    have e4 : IntKind.i64.wrap (4 - t.tmod 4) = 4 - t.tmod 4 := IntWalk.i64_in _ (by have := tmod4 t; omega)
    unfold rot at CQ
    obtain ⟨tx1, htx⟩ : ∃ x, tx (t % 4).toNat px py = x := ⟨_, rfl⟩
    obtain ⟨ty1, hty⟩ : ∃ x, ty (t % 4).toNat px py = x := ⟨_, rfl⟩
    simp only [htx, hty] at CQ TP
    clear hzr hw hw2 hp hp2 hbp htx hty DT
    have BB2 := Lib.hid (BB.out.trans (hb.mono BB.out.size))
    have Zn := Lib.hid ((Z.out.below hb).more hb.size)
    clear hb BB Z
    have BB := BB2
    clear BB2
    have Z := Zn
    clear Zn
    go_wp2_with fail
    refine (CP.out _ Z.out).mono ?_
    rintro e wd2 ⟨rfl, hb⟩
    have BB2 := Lib.hid (BB.out.trans (hb.mono BB.out.size))
    have Zn := Lib.hid ((Z.out.below hb).more hb.size)
    clear hb BB Z
    have BB := BB2
    clear BB2
    have Z := Zn
    clear Zn
    have P1 := Lib.hid (Bk.new wd2 (pc px py) 28)
    have BB2 := Lib.hid (BB.out.alloc BB.out.size (.cells (pc px py) 28))
    clear BB
    have BB := BB2
    clear BB2
    have Zn := Lib.hid (rd_more Z.out (o := (.cells (pc px py) 28)))
    clear Z
    have Z := Zn
    clear Zn
    go_wp2_with fail
    refine (CX.out _ Z.out).mono ?_
    rintro e wd3 ⟨gN, cN, rfl, ho, hb⟩
    have P2 := Lib.hid (P1.out.below hb)
    clear P1
    have BB2 := Lib.hid (BB.out.trans (hb.mono BB.out.size))
    have Zn := Lib.hid ((Z.out.below hb).more hb.size)
    have XN := Lib.hid (Rd.own ho)
    clear ho
    clear hb BB Z
    have BB := BB2
    clear BB2
    have Z := Zn
    clear Zn
    have N := XN
    clear XN
    go_wp2_with fail
    refine (CQ.out _ _ _ N.out).mono ?_
    rintro e wd4 ⟨rfl, hb⟩
    have P3 := Lib.hid (P2.out.below hb)
    clear P2
    have BB2 := Lib.hid (BB.out.trans (hb.mono BB.out.size))
    have Zn := Lib.hid ((Z.out.below hb).more hb.size)
    have Nn := Lib.hid ((N.out.below hb).more hb.size)
    clear hb BB Z N
    have BB := BB2
    clear BB2
    have Z := Zn
    clear Zn
    have N := Nn
    clear Nn
    have Q := Lib.hid (Bk.new wd4 (pc tx1 ty1) 28)
    have P4 := Lib.hid (P3.out.alloc (o := (.cells (pc tx1 ty1) 28)))
    clear P3
    have BB2 := Lib.hid (BB.out.alloc BB.out.size (.cells (pc tx1 ty1) 28))
    clear BB
    have BB := BB2
    clear BB2
    have Zn := Lib.hid (rd_more Z.out (o := (.cells (pc tx1 ty1) 28)))
    have Nn := Lib.hid (rd_more N.out (o := (.cells (pc tx1 ty1) 28)))
    clear Z N
    have Z := Zn
    clear Zn
    have N := Nn
    clear Nn
    have z0 := P4.out.cell (i := 0) rfl
    have z1 := P4.out.cell (i := 1) rfl
    have z2 := Q.out.cell (i := 0) rfl
    have z3 := Q.out.cell (i := 1) rfl
    have l1 := P4.out.lt
    have l2 := Q.out.lt
    clear P4 Q CP CQ CX
    go_wp2_with fail
    refine wp_region_noPanic ?_
    refine wp_region_held_drew (S := (fun w' => w'.cell? ⟨wd2.heap.size, 0, none⟩ = some (.int .i64 px) ∧ w'.cell? ⟨wd2.heap.size, 1, none⟩ = some (.int .i64 py) ∧ w'.cell? ⟨wd4.heap.size, 0, none⟩ = some (.int .i64 tx1) ∧ w'.cell? ⟨wd4.heap.size, 1, none⟩ = some (.int .i64 ty1) ∧ Below (wd4.alloc (.cells (pc tx1 ty1) 28)).heap.size (wd4.alloc (.cells (pc tx1 ty1) 28)) w')) (by kernel_rfl) ?_ (fun hH => ?_)
    · exact ⟨z0, z1, z2, z3, (Below.refl _ _).drew⟩
    refine wpAnyH_take (i := 0) (oi := { dst := some 43, op := _, type := _, pos := _, after := _, guard := _ }) (v := ?_) rfl (by kernel_rfl) (by kernel_rfl) (by kernel_rfl) (fun _ _ _ h => h) (Or.inl ⟨by rfl, ?_⟩) hH ?_
    rotate_left 1
    · intro W hSw
      (try dsimp only at hSw)
      go_simp
      (try with_reducible rfl)
    try simp only [Act.put, List.setIfInBounds_toArray, List.set_cons_zero, List.set_cons_succ]
    refine wpAnyH_take (i := 1) (oi := { dst := some 44, op := _, type := _, pos := _, after := _, guard := _ }) (v := ?_) rfl (by kernel_rfl) (by kernel_rfl) (by kernel_rfl) (fun _ _ _ h => h) (Or.inl ⟨by rfl, ?_⟩) hH ?_
    rotate_left 1
    · intro W hSw
      (try dsimp only at hSw)
      go_simp
      (try with_reducible rfl)
    try simp only [Act.put, List.setIfInBounds_toArray, List.set_cons_zero, List.set_cons_succ]
    refine wpAnyH_take (i := 2) (oi := { dst := some 45, op := _, type := _, pos := _, after := _, guard := _ }) (v := ?_) rfl (by kernel_rfl) (by kernel_rfl) (by kernel_rfl) (fun _ _ _ h => h) (Or.inl ⟨by rfl, ?_⟩) hH ?_
    rotate_left 1
    · intro W hSw
      (try dsimp only at hSw)
      go_simp
      (try with_reducible rfl)
    try simp only [Act.put, List.setIfInBounds_toArray, List.set_cons_zero, List.set_cons_succ]
    refine wpAnyH_ready (rs := [3]) (by kernel_rfl) (by simp) (AllReadyH.cons rfl (fun K hK => ?_) AllReadyH.nil)
    go_simp
    go_at_call 23; ((with_reducible refine (DN.out _ _ _ ((N.out.below hH.2.2.2.2).more hH.2.2.2.2.size)).mono ?_); rintro e v4 ⟨rfl, hb⟩); go_wp2_with fail
    refine hK.out _ _ ?_ (fun hG => ?_)
    · exact ⟨cell_below hb hH.1, cell_below hb hH.2.1, cell_below hb hH.2.2.1, cell_below hb hH.2.2.2.1, hH.2.2.2.2.trans (hb.mono hH.2.2.2.2.size)⟩
    replace hH := hG
    clear hK K hG
    try simp only [Act.put, List.setIfInBounds_toArray, List.set_cons_zero, List.set_cons_succ]
    refine wpAnyH_take (i := 4) (oi := { dst := some 47, op := _, type := _, pos := _, after := _, guard := _ }) (v := ?_) rfl (by kernel_rfl) (by kernel_rfl) (by kernel_rfl) (fun _ _ _ h => h) (Or.inl ⟨by rfl, ?_⟩) hH ?_
    rotate_left 1
    · intro W hSw
      (try dsimp only at hSw)
      go_simp
      (try with_reducible rfl)
    try simp only [Act.put, List.setIfInBounds_toArray, List.set_cons_zero, List.set_cons_succ]
    refine wpAnyH_take (i := 5) (oi := { dst := some 48, op := _, type := _, pos := _, after := _, guard := _ }) (v := ?_) rfl (by kernel_rfl) (by kernel_rfl) (by kernel_rfl) (fun _ _ _ h => h) (Or.inl ⟨by rfl, ?_⟩) hH ?_
    rotate_left 1
    · intro W hSw
      (try dsimp only at hSw)
      go_simp
      (try with_reducible rfl)
    try simp only [Act.put, List.setIfInBounds_toArray, List.set_cons_zero, List.set_cons_succ]
    refine wpAnyH_take (i := 6) (oi := { dst := some 49, op := _, type := _, pos := _, after := _, guard := _ }) (v := ?_) rfl (by kernel_rfl) (by kernel_rfl) (by kernel_rfl) (fun _ _ _ h => h) (Or.inl ⟨by rfl, ?_⟩) hH ?_
    rotate_left 1
    · intro W hSw
      (try dsimp only at hSw)
      go_simp
      (try with_reducible rfl)
    try simp only [Act.put, List.setIfInBounds_toArray, List.set_cons_zero, List.set_cons_succ]
    refine wpAnyH_take (i := 7) (oi := { dst := some 50, op := _, type := _, pos := _, after := _, guard := _ }) (v := ?_) rfl (by kernel_rfl) (by kernel_rfl) (by kernel_rfl) (fun _ _ _ h => h) (Or.inl ⟨by rfl, ?_⟩) hH ?_
    rotate_left 1
    · intro W hSw
      (try dsimp only at hSw)
      go_simp
      (try with_reducible rfl)
    try simp only [Act.put, List.setIfInBounds_toArray, List.set_cons_zero, List.set_cons_succ]
    refine wpAnyH_take (i := 8) (oi := { dst := some 51, op := _, type := _, pos := _, after := _, guard := _ }) (v := ?_) rfl (by kernel_rfl) (by kernel_rfl) (by kernel_rfl) (fun _ _ _ h => h) (Or.inl ⟨by rfl, ?_⟩) hH ?_
    rotate_left 1
    · intro W hSw
      (try dsimp only at hSw)
      go_simp
      (try with_reducible rfl)
    try simp only [Act.put, List.setIfInBounds_toArray, List.set_cons_zero, List.set_cons_succ]
    refine wpAnyH_ready (rs := [9]) (by kernel_rfl) (by simp) (AllReadyH.cons rfl (fun K hK => ?_) AllReadyH.nil)
    go_simp
    go_at_call 33; ((with_reducible refine (TP.out _).mono ?_); rintro e v4 ⟨rfl, hb⟩); go_wp2_with fail
    refine hK.out _ _ ?_ (fun hG => ?_)
    · exact ⟨cell_below hb hH.1, cell_below hb hH.2.1, cell_below hb hH.2.2.1, cell_below hb hH.2.2.2.1, hH.2.2.2.2.trans (hb.mono hH.2.2.2.2.size)⟩
    replace hH := hG
    clear hK K hG
    try simp only [Act.put, List.setIfInBounds_toArray, List.set_cons_zero, List.set_cons_succ]
    refine wpAnyH_take (i := 10) (oi := { dst := some 53, op := _, type := _, pos := _, after := _, guard := _ }) (v := ?_) rfl (by kernel_rfl) (by kernel_rfl) (by kernel_rfl) (fun _ _ _ h => h) (Or.inl ⟨by rfl, ?_⟩) hH ?_
    rotate_left 1
    · intro W hSw
      (try dsimp only at hSw)
      go_simp
      (try with_reducible rfl)
    try simp only [Act.put, List.setIfInBounds_toArray, List.set_cons_zero, List.set_cons_succ]
    refine wpAnyH_take (i := 11) (oi := { dst := some 54, op := _, type := _, pos := _, after := _, guard := _ }) (v := ?_) rfl (by kernel_rfl) (by kernel_rfl) (by kernel_rfl) (fun _ _ _ h => h) (Or.inl ⟨by rfl, ?_⟩) hH ?_
    rotate_left 1
    · intro W hSw
      (try dsimp only at hSw)
      go_simp
      (try with_reducible rfl)
    try simp only [Act.put, List.setIfInBounds_toArray, List.set_cons_zero, List.set_cons_succ]
    refine wpAnyH_take (i := 12) (oi := { dst := some 55, op := _, type := _, pos := _, after := _, guard := _ }) (v := ?_) rfl (by kernel_rfl) (by kernel_rfl) (by kernel_rfl) (fun _ _ _ h => h) (Or.inl ⟨by rfl, ?_⟩) hH ?_
    rotate_left 1
    · intro W hSw
      (try dsimp only at hSw)
      go_simp
      (try with_reducible rfl)
    try simp only [Act.put, List.setIfInBounds_toArray, List.set_cons_zero, List.set_cons_succ]
    refine wpAnyH_take (i := 13) (oi := { dst := some 56, op := _, type := _, pos := _, after := _, guard := _ }) (v := ?_) rfl (by kernel_rfl) (by kernel_rfl) (by kernel_rfl) (fun _ _ _ h => h) (Or.inl ⟨by rfl, ?_⟩) hH ?_
    rotate_left 1
    · intro W hSw
      (try dsimp only at hSw)
      go_simp
      (try with_reducible rfl)
    try simp only [Act.put, List.setIfInBounds_toArray, List.set_cons_zero, List.set_cons_succ]
    refine wpAnyH_take (i := 14) (oi := { dst := some 57, op := _, type := _, pos := _, after := _, guard := _ }) (v := ?_) rfl (by kernel_rfl) (by kernel_rfl) (by kernel_rfl) (fun _ _ _ h => h) (Or.inl ⟨by rfl, ?_⟩) hH ?_
    rotate_left 1
    · intro W hSw
      (try dsimp only at hSw)
      go_simp
      (try with_reducible rfl)
    try simp only [Act.put, List.setIfInBounds_toArray, List.set_cons_zero, List.set_cons_succ]
    refine wpAnyH_take (i := 15) (oi := { dst := some 58, op := _, type := _, pos := _, after := _, guard := _ }) (v := ?_) rfl (by kernel_rfl) (by kernel_rfl) (by kernel_rfl) (fun _ _ _ h => h) (Or.inl ⟨by rfl, ?_⟩) hH ?_
    rotate_left 1
    · intro W hSw
      (try dsimp only at hSw)
      go_simp
      (try with_reducible rfl)
    try simp only [Act.put, List.setIfInBounds_toArray, List.set_cons_zero, List.set_cons_succ]
    refine wpAnyH_take (i := 16) (oi := { dst := some 59, op := _, type := _, pos := _, after := _, guard := _ }) (v := ?_) rfl (by kernel_rfl) (by kernel_rfl) (by kernel_rfl) (fun _ _ _ h => h) (Or.inl ⟨by rfl, ?_⟩) hH ?_
    rotate_left 1
    · intro W hSw
      (try dsimp only at hSw)
      go_simp
      (try with_reducible rfl)
    try simp only [Act.put, List.setIfInBounds_toArray, List.set_cons_zero, List.set_cons_succ]
    refine wpAnyH_take (i := 18) (oi := { dst := some 61, op := _, type := _, pos := _, after := _, guard := _ }) (v := ?_) rfl (by kernel_rfl) (by kernel_rfl) (by kernel_rfl) (fun _ _ _ h => h) (Or.inl ⟨by rfl, ?_⟩) hH ?_
    rotate_left 1
    · intro W hSw
      (try dsimp only at hSw)
      go_simp
      (try with_reducible rfl)
    try simp only [Act.put, List.setIfInBounds_toArray, List.set_cons_zero, List.set_cons_succ]
    refine wpAnyH_ready (rs := [17]) (by kernel_rfl) (by simp) (AllReadyH.cons rfl (fun K hK => ?_) AllReadyH.nil)
    go_simp
    go_at_call 32; ((with_reducible refine (CB.out _ _ _ ((N.out.below hH.2.2.2.2).more hH.2.2.2.2.size)).mono ?_); rintro e v4 ⟨gB, cB, rfl, ho, hb⟩); have HR9 := Lib.hid (Rd.own ho); go_wp2_with fail
    refine hK.out _ _ ?_ (fun hG => ?_)
    · exact ⟨cell_below hb hH.1, cell_below hb hH.2.1, cell_below hb hH.2.2.1, cell_below hb hH.2.2.2.1, hH.2.2.2.2.trans (hb.mono hH.2.2.2.2.size)⟩
    replace hH := hG
    clear hK K hG
    try simp only [Act.put, List.setIfInBounds_toArray, List.set_cons_zero, List.set_cons_succ]
    refine wpAnyH_ready (rs := [19]) (by kernel_rfl) (by simp) (AllReadyH.cons rfl (fun K hK => ?_) AllReadyH.nil)
    go_simp
    go_at_call 24; ((with_reducible refine (windsL _ _ q cB cZ zs _ _ ZL.out hqb HR9.out ((Z.out.below hH.2.2.2.2).more hH.2.2.2.2.size)).mono ?_); rintro e v4 ⟨rfl, hb⟩); go_wp2_with fail
    refine hK.out _ _ ?_ (fun hG => ?_)
    · exact ⟨cell_below hb hH.1, cell_below hb hH.2.1, cell_below hb hH.2.2.1, cell_below hb hH.2.2.2.1, hH.2.2.2.2.trans (hb.mono hH.2.2.2.2.size)⟩
    replace hH := hG
    clear hK K hG
    try simp only [Act.put, List.setIfInBounds_toArray, List.set_cons_zero, List.set_cons_succ]
    refine wpAnyH_take (i := 20) (oi := { dst := some 63, op := _, type := _, pos := _, after := _, guard := _ }) (v := ?_) rfl (by kernel_rfl) (by kernel_rfl) (by kernel_rfl) (fun _ _ _ h => h) (Or.inl ⟨by rfl, ?_⟩) hH ?_
    rotate_left 1
    · intro W hSw
      (try dsimp only at hSw)
      go_simp
      (try with_reducible rfl)
    try simp only [Act.put, List.setIfInBounds_toArray, List.set_cons_zero, List.set_cons_succ]
    refine wpAnyH_take (i := 21) (oi := { dst := some 2, op := _, type := _, pos := _, after := _, guard := _ }) (v := ?_) rfl (by kernel_rfl) (by kernel_rfl) (by kernel_rfl) (fun _ _ _ h => h) (Or.inl ⟨by rfl, ?_⟩) hH ?_
    rotate_left 1
    · intro W hSw
      (try dsimp only at hSw)
      go_simp
      (try with_reducible rfl)
    try simp only [Act.put, List.setIfInBounds_toArray, List.set_cons_zero, List.set_cons_succ]
    refine wpAnyH_done (by kernel_rfl) ?_ _
    refine NoPanic.normal ?_
    have BF := Lib.hid (BB.out.trans (hH.2.2.2.2.mono BB.out.size))
    clear hH
    go_wp2_with fail
    go_ret
    exact ⟨rfl, BF.out⟩
  · have hd : decide (4096 < n) = true := decide_eq_true (by omega)
    clear hn hm hr
    go_enter Try.func7, Try.ntmps7
    go_wp2_with (go_at_call 15; go_enter Try.func15, Try.ntmps15)
    go_returns
    exact ⟨rfl, Below.refl _ _⟩

set_option maxRecDepth 100000 in
theorem lifted (os : Os) (started : os.Started) (H : Type) (enc : TypeId × Value → H) :
    ReturnsInHanded {} Try.checked os 7 .any (Rows.fnTurnedWindSpec.pre6 enc Try.prog Try.f7 Rows.fnTurnedWindRow.domain false) (Rows.fnTurnedWindSpec.post enc Try.prog Try.f7 false true false false) := by
  refine returnsInHanded_of_change (C := Try.checked) own started (by kernel_rfl) Try.func7
    (ChangeSpec.witness6 (enc := enc) (C := Try.checked) false ⟨#[], #[.slice none 0 0], []⟩ 8 (by kernel_rfl) (by kernel_rfl) (by kernel_rfl) (by kernel_rfl)) ?_
  intro W base args ds gs before hval0 hW hcnd hsz
  have hval : ∀ (j : Nat) t v, Try.f7.params[j]? = some t → args[j]? = some v → Value.okWide Try.prog W .any base t v := hval0
  have hW' := hW
  obtain ⟨p, q, hA0, hV, rfl, hfz, hnd⟩ := hW
  have hA1 := hA0
  have hA : DataW.TrodAll enc Try.prog W 0 (fun _ => true) true Try.f7.params.toList args.toList ds p := hA0
  rw [Try.params7] at hA hval
  obtain ⟨v0, vs0, d0, ds0, p0, q0, hargs, rfl, rfl, h0, r0⟩ := trodAll_cons hA
  obtain ⟨rfl, rfl, rfl⟩ := trodAll_nil r0
  obtain rfl : args = #[v0] := by cases args; simp_all
  obtain ⟨rfl, rfl⟩ := trodVars_none hV
  obtain ⟨A0, n0, c0, a0, rfl, l0, m0, g0⟩ := RampFn.take_bytes Try.underlying22 Try.underlying5 (by kernel_rfl) (hval 0 22 v0 rfl rfl) h0
  clear hA0 hval0
  rw [List.append_nil] at hW'
  refine (walk A0 n0 c0 a0 l0 m0 W g0).mono fun e W' ⟨he, hb⟩ => ?_
  subst he
  exact ⟨_, rfl, post_law rfl hW' hA1 laidOut (by rw [Try.params7]; exact of_decide_eq_true (by kernel_rfl)) 4 (by kernel_rfl) Try.underlying4 rfl hb⟩

theorem over : Rows.fnTurnedWindRow.holds Try.pinned (OpenSpec.ofChange Rows.fnTurnedWindSpec) :=
  OpenClaim.holds_of_wide 7 Try.f7 rfl rfl rfl rfl rfl rfl rfl ⟨rfl, rfl, rfl, rfl, rfl⟩ rfl rfl rfl rfl rfl (by kernel_rfl) Try.func7 (by kernel_rfl)
    (of_decide_eq_true (by kernel_rfl)) (by unfold Func.isWrapper; first | (rw [if_pos (by decide +kernel)]; kernel_rfl) | (rw [if_neg (by decide +kernel)]; exact ⟨rfl, rfl⟩))
    (fun os started H enc _ => lifted os started H enc)

/-- The statement. -/
theorem proved : Rows.FnTurnedWindSaid :=
  over
#print axioms proved
end Go.Proofs.Ytknanaapaipoeaa.fnTurnedWind
