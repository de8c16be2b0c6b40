/- The law FnMovedRig holds at every input. The step from the walk to the row follows the guide's own template. -/
import Derived.Test.YtgcheplneolonaaMem
import Derived.Test.YtgcheplneolonaaZ4
import Derived.Test.YtgcheplneolonaaZ3
import Derived.Test.YtgcheplneolonaaTakeC
import Derived.Deep.RegionHeld3
import Derived.BigQuiet
namespace Go.Proofs.Ytgcheplneolonaa.fnMovedRig
open Go.ChangeShapes Go.WideShapes Go.ChangeAt Go.RowKit Go.WideMaps Go.WideElems Go.Proofs.Ytgcheplneolonaa.Mem
open Go.ChangeMaps (open_string shut_string)
set_option linter.unusedVariables false
set_option linter.unusedSimpArgs false

theorem own : ownKnob Try.prog.godebug = none := by kernel_rfl
theorem laidOut : laidOutB Try.prog = true := by kernel_rfl

open Go.Proofs.Ytgcheplneolonaa.Rw Go.Proofs.Ytgcheplneolonaa.Dd Go.Proofs.Ytgcheplneolonaa.Dl Go.Proofs.Ytgcheplneolonaa.Ds Go.Proofs.Ytgcheplneolonaa.Pu Go.Proofs.Ytgcheplneolonaa.Ig Go.Proofs.Ytgcheplneolonaa.Fd Go.Proofs.Ytgcheplneolonaa.Lm6 Go.Proofs.Ytgcheplneolonaa.Ha Go.Proofs.Ytgcheplneolonaa.P2 Go.Proofs.Ytgcheplneolonaa.Mo Go.Proofs.Ytgcheplneolonaa.Tr Go.Proofs.Ytgcheplneolonaa.Sk Go.Proofs.Ytgcheplneolonaa.Mr6 
open Go.Proofs.Ytgcheplneolonaa.Rw (owns_below owns_grown owns_base)

set_option maxHeartbeats 8000000 in
set_option maxRecDepth 100000 in
theorem walk (A : Option Addr) (n c : Nat) (bs : List UInt8) (hn : bs.length = n) (hm : n ≤ maxLen) (w : World) (hr : Rd w w.heap.size A (Draw.u8s bs)) :
    Calls Try.prog 4 #[.slice A n c] w fun e w' => e = .returned (.bool true) ∧ Below w.heap.size w w' := by
  have hu : undef = Value.tuple #[] := rfl
  by_cases hbig : (n : Int) ≤ 4096
  · have D := Lib.hid (drawV w A n c bs hn (by omega) hr)
    have DT := Lib.hid (fun (W : World) (h : Below w.heap.size w W) => Dr6.drawTurn W A n c bs hn (by omega) ((hr.below h).more h.size))
    clear hm
    go_enter Try.func4, Try.ntmps4
    go_wp2_with (go_at_call 5; go_enter Try.func5, Try.ntmps5)
    refine D.out.mono ?_
    rintro e wd0 ⟨zs, q, gZ, oZ, cZ, hl, hrn, rfl, hR, hB⟩
    have hq8 : q ≤ 8 := by have := hrn.len; omega
    have BB := Lib.hid hB
    have Z := Lib.hid hR
    have HN4 := Lib.hid (show n ≤ 4096 by omega)
    have H := hrn.1
    have HL := Lib.hid hl
    have hq9 : q ≤ 1048576 := by omega
    have hsz := hrn.sizes
    clear D hR hB hn hr hrn
    go_wp2_with fail
    refine (DT.out _ BB.out).mono ?_
    rintro e9 w1 ⟨v, k, rfl, hb⟩
    have BBn := Lib.hid (BB.out.trans (hb.mono BB.out.size))
    have Zn := Lib.hid ((Z.out.below hb).more hb.size)
    clear hb BB Z
    have BB := BBn
    have Z := Zn
    clear BBn Zn
    obtain ⟨e1, H2, e2⟩ := turned_rig H k
    obtain ⟨xs, hxs⟩ : ∃ xs, zs.map (mvD k 0 0) = xs := ⟨_, rfl⟩
    have hxl : xs.length = q := by rw [← hxs, List.length_map]; exact hl
    have px := map_pump (mv_same k 0 0) H H2
    have hxg : ∀ (j : Nat) (d : D), zs[j]? = some d → xs[j]? = some (mvD k 0 0 d) := fun j d hd => by rw [← hxs, List.getElem?_map, hd]; rfl
    rw [hxs] at e1 e2 H2 px
    have hxz : ∀ z ∈ xs, z.nm.size ≤ 1048576 ∧ z.ln.size ≤ 1048576 := fun z hz => by
      rw [← hxs] at hz
      obtain ⟨d, hd, rfl⟩ := List.mem_map.1 hz
      rw [(mv_same k 0 0 d).1, (mv_same k 0 0 d).2.2]; exact hsz d hd
    have CT := Lib.hid (show ∀ (W : World) (h : Rd W W.heap.size (some ⟨gZ, oZ, none⟩) (dls zs)), Calls Try.prog 13 #[.slice (some ⟨gZ, oZ, none⟩) q cZ, .int .i64 k] W (fun e w' => ∃ g o c : Nat, e = .returned (.slice (some ⟨g, o, none⟩) q c) ∧ Rd w' w'.heap.size (some ⟨g, o, none⟩) (dls xs) ∧ Below W.heap.size W w') from fun W h =>
      (Tq.turnI (some ⟨gZ, oZ, none⟩) q cZ zs k W hl hq9 h).mono fun e w' ⟨g, c, h1, h2, h3⟩ => by rw [e1, hxl] at h1 h2; exact ⟨g, 0, c, h1, Rd.own h2, h3⟩)
    have CK := Lib.hid (show ∀ (g o c : Nat) (W : World) (h : Rd W W.heap.size (some ⟨g, o, none⟩) (dls xs)), Calls Try.prog 14 #[.slice (some ⟨g, o, none⟩) q c] W (fun e w' => e = .returned (.bool true) ∧ Below W.heap.size W w') from fun g o c W h => by
      have := Iq.rigI (some ⟨g, o, none⟩) q c xs W hxl hq9 h
      rw [rig_yes H2] at this; exact this)
    have CB := Lib.hid (show ∀ (g o c : Nat) (W : World) (h : Rd W W.heap.size (some ⟨g, o, none⟩) (dls xs)), Calls Try.prog 13 #[.slice (some ⟨g, o, none⟩) q c, .int .i64 (4 - k.tmod 4)] W (fun e w' => ∃ g o c : Nat, e = .returned (.slice (some ⟨g, o, none⟩) q c) ∧ Rd w' w'.heap.size (some ⟨g, o, none⟩) (dls zs) ∧ Below W.heap.size W w') from fun g o c W h =>
      (Tq.turnI (some ⟨g, o, none⟩) q c xs (4 - k.tmod 4) W hxl hq9 h).mono fun e w' ⟨g, c, h1, h2, h3⟩ => by rw [e2, hl] at h1 h2; exact ⟨g, 0, c, h1, Rd.own h2, h3⟩)
    have HM := Lib.hid (moved_rig H2 (a := (n : Int)) (b := -7) (by have := HN4.out; omega) (by omega))
    have htm := Tp.tmod_range k
    have hwr : wrap64 (4 - k.tmod 4) = 4 - k.tmod 4 := IntWalk.wrap64_in _ (by omega)
    clear e1 e2
    go_wp2_with fail
    refine (CT.out _ Z.out).mono ?_
    rintro e9 w2 ⟨gX, oX, cX, rfl, hX, hb⟩
    have X := Lib.hid hX
    clear hX
    have BBn := Lib.hid (BB.out.trans (hb.mono BB.out.size))
    have Zn := Lib.hid ((Z.out.below hb).more hb.size)
    clear hb BB Z
    have BB := BBn
    have Z := Zn
    clear BBn Zn
    go_wp2_with fail
    refine (CK.out _ _ _ _ X.out).mono ?_
    rintro e9 w3 ⟨rfl, hb⟩
    have BBn := Lib.hid (BB.out.trans (hb.mono BB.out.size))
    have Zn := Lib.hid ((Z.out.below hb).more hb.size)
    have Xn := Lib.hid ((X.out.below hb).more hb.size)
    clear hb BB Z X
    have BB := BBn
    have Z := Zn
    have X := Xn
    clear BBn Zn Xn
    go_wp2_with fail
    (try rw [hwr])
    refine (CB.out _ _ _ _ X.out).mono ?_
    rintro e9 w4 ⟨gY, oY, cY, rfl, hY, hb⟩
    have Y := Lib.hid hY
    clear hY
    have BBn := Lib.hid (BB.out.trans (hb.mono BB.out.size))
    have Zn := Lib.hid ((Z.out.below hb).more hb.size)
    have Xn := Lib.hid ((X.out.below hb).more hb.size)
    clear hb BB Z X
    have BB := BBn
    have Z := Zn
    have X := Xn
    clear BBn Zn Xn
    go_wp2_with fail
    refine (Rg.rigsL _ _ _ _ _ _ q zs _ hl hq9 Y.out Z.out).mono ?_
    rintro e9 w5 ⟨rfl, hb⟩
    clear Y
    have BBn := Lib.hid (BB.out.trans (hb.mono BB.out.size))
    have Zn := Lib.hid ((Z.out.below hb).more hb.size)
    have Xn := Lib.hid ((X.out.below hb).more hb.size)
    clear hb BB Z X
    have BB := BBn
    have Z := Zn
    have X := Xn
    clear BBn Zn Xn
    clear CT CK CB hwr htm
    have P0 := Lib.hid (show (w5.alloc (.cells #[.int .i64 (n : Int), .int .i64 (-7)] 29)).cell? ⟨w5.heap.size, 0, none⟩ = some (.int .i64 (n : Int)) ∧ (w5.alloc (.cells #[.int .i64 (n : Int), .int .i64 (-7)] 29)).cell? ⟨w5.heap.size, 1, none⟩ = some (.int .i64 (-7)) from ⟨cell_here rfl, cell_here rfl⟩)
    have hb : Below w5.heap.size w5 (w5.alloc (.cells #[.int .i64 (n : Int), .int .i64 (-7)] 29)) := (Below.refl _ _).alloc (Nat.le_refl _) _
    have BBn := Lib.hid (BB.out.trans (hb.mono BB.out.size))
    have Zn := Lib.hid ((Z.out.below hb).more hb.size)
    have Xn := Lib.hid ((X.out.below hb).more hb.size)
    clear hb BB Z X
    have BB := BBn
    have Z := Zn
    have X := Xn
    clear BBn Zn Xn
    rcases HM.out with ⟨r0, r1⟩ | ⟨r1, r2, H3, r4, r5⟩
    · have CS := Lib.hid (show ∀ (W : World) (h : Rd W W.heap.size (some ⟨gX, oX, none⟩) (dls xs)), Calls Try.prog 16 #[.slice (some ⟨gX, oX, none⟩) q cX, .agg #[.int .i64 (n : Int), .int .i64 (-7)]] W (fun e w' => ∃ g o c : Nat, e = .returned (.tuple #[.slice (some ⟨g, o, none⟩) 0 c, .bool false]) ∧ Rd w' w'.heap.size (some ⟨g, o, none⟩) (dls ([] : List D)) ∧ Below W.heap.size W w') from fun W h =>
        (shiftI ⟨gX, oX, none⟩ q cX xs (n : Int) (-7) W hxl hq9 h).mono fun e w' ⟨g, c, h1, h2, h3⟩ => by rw [r0, r1] at h1; rw [r1] at h2; exact ⟨g, 0, c, h1, Rd.own h2, h3⟩)
      go_wp2_with fail
      refine (CS.out _ X.out).mono ?_
      rintro e9 w6 ⟨gY, oY, cY, rfl, hY, hb⟩
      clear hY
      have BBn := Lib.hid (BB.out.trans (hb.mono BB.out.size))
      clear hb BB
      have BB := BBn
      clear BBn
      go_wp2_with fail
      go_ret
      exact ⟨rfl, BB.out⟩
    · rw [show -(-7 : Int) = 7 by decide] at r4 r5
      obtain ⟨ys, hys⟩ : ∃ ys, xs.map (mvD 0 (n : Int) (-7)) = ys := ⟨_, rfl⟩
      have hyl : ys.length = q := by rw [← hys, List.length_map]; exact hxl
      have py := map_pump (mv_same 0 (n : Int) (-7)) H2 H3
      have hyg : ∀ (j : Nat) (d : D), xs[j]? = some d → ys[j]? = some (mvD 0 (n : Int) (-7) d) := fun j d hd => by rw [← hys, List.getElem?_map, hd]; rfl
      have hyz : ∀ z ∈ ys, z.nm.size ≤ 1048576 ∧ z.ln.size ≤ 1048576 := fun z hz => by
        rw [← hys] at hz
        obtain ⟨d, hd, rfl⟩ := List.mem_map.1 hz
        rw [(mv_same 0 (n : Int) (-7) d).1, (mv_same 0 (n : Int) (-7) d).2.2]; exact hxz d hd
      rw [hys] at r2 H3 r4 r5 py
      have HYG := Lib.hid (show ∀ (j : Nat) (d : D), zs[j]? = some d → ∃ d2, ys[j]? = some d2 ∧ d2.nm = d.nm ∧ d2.ln = d.ln from fun j d hd =>
        ⟨_, hyg j _ (hxg j d hd), by rw [(mv_same 0 (n : Int) (-7) _).1, (mv_same k 0 0 d).1], by rw [(mv_same 0 (n : Int) (-7) _).2.2, (mv_same k 0 0 d).2.2]⟩)
      have CS := Lib.hid (show ∀ (W : World) (h : Rd W W.heap.size (some ⟨gX, oX, none⟩) (dls xs)), Calls Try.prog 16 #[.slice (some ⟨gX, oX, none⟩) q cX, .agg #[.int .i64 (n : Int), .int .i64 (-7)]] W (fun e w' => ∃ g o c : Nat, e = .returned (.tuple #[.slice (some ⟨g, o, none⟩) q c, .bool true]) ∧ Rd w' w'.heap.size (some ⟨g, o, none⟩) (dls ys) ∧ Below W.heap.size W w') from fun W h =>
        (shiftI ⟨gX, oX, none⟩ q cX xs (n : Int) (-7) W hxl hq9 h).mono fun e w' ⟨g, c, h1, h2, h3⟩ => by rw [r1, r2, hyl] at h1; rw [r2, hyl] at h2; exact ⟨g, 0, c, h1, Rd.own h2, h3⟩)
      have CS2 := Lib.hid (show ∀ (g o c : Nat) (W : World) (h : Rd W W.heap.size (some ⟨g, o, none⟩) (dls ys)), Calls Try.prog 16 #[.slice (some ⟨g, o, none⟩) q c, .agg #[.int .i64 (-(n : Int)), .int .i64 7]] W (fun e w' => ∃ g o c : Nat, e = .returned (.tuple #[.slice (some ⟨g, o, none⟩) q c, .bool true]) ∧ Rd w' w'.heap.size (some ⟨g, o, none⟩) (dls xs) ∧ Below W.heap.size W w') from fun g o c W h =>
        (shiftI ⟨g, o, none⟩ q c ys (-(n : Int)) 7 W hyl hq9 h).mono fun e w' ⟨g, c, h1, h2, h3⟩ => by rw [r4, r5, hxl] at h1; rw [r5, hxl] at h2; exact ⟨g, 0, c, h1, Rd.own h2, h3⟩)
      have CP := Lib.hid (fun (sx : ByteArray) (W : World) (h : Rd W W.heap.size (some ⟨gZ, oZ, none⟩) (dls zs)) => pumpI (some ⟨gZ, oZ, none⟩) q cZ zs sx W hl hq9 hsz h)
      have CQ := Lib.hid (show ∀ (g o c : Nat) (sx : ByteArray) (W : World) (h : Rd W W.heap.size (some ⟨g, o, none⟩) (dls ys)), Calls Try.prog 8 #[.slice (some ⟨g, o, none⟩) q c, .string sx] W (fun e w' => e = .returned (.string (pumpV zs sx)) ∧ Below W.heap.size W w') from fun g o c sx W h => by
        have := pumpI (some ⟨g, o, none⟩) q c ys sx W hyl hq9 hyz h
        rw [py sx, px sx] at this; exact this)
      have hw2 : wrap64 (-(n : Int)) = -(n : Int) := IntWalk.wrap64_in _ (by have := HN4.out; omega)
      clear r1 r2 r4 r5 hyg hyz py px hxz hsz H3
      go_wp2_with fail
      refine (CS.out _ X.out).mono ?_
      rintro e9 w6 ⟨gY, oY, cY, rfl, hY, hb⟩
      have Y := Lib.hid hY
      have p0 := cell_below hb P0.out.1
      have p1 := cell_below hb P0.out.2
      clear hY P0
      have BBn := Lib.hid (BB.out.trans (hb.mono BB.out.size))
      have Zn := Lib.hid ((Z.out.below hb).more hb.size)
      have Xn := Lib.hid ((X.out.below hb).more hb.size)
      clear hb BB Z X
      have BB := BBn
      have Z := Zn
      have X := Xn
      clear BBn Zn Xn
      go_wp2_with fail
      (try rw [hw2])
      refine (CS2.out _ _ _ _ Y.out).mono ?_
      rintro e9 w7 ⟨gV, oV, cV, rfl, hV, hb⟩
      have U := Lib.hid hV
      clear hV p0 p1
      have BBn := Lib.hid (BB.out.trans (hb.mono BB.out.size))
      have Zn := Lib.hid ((Z.out.below hb).more hb.size)
      have Xn := Lib.hid ((X.out.below hb).more hb.size)
      have Yn := Lib.hid ((Y.out.below hb).more hb.size)
      clear hb BB Z X Y
      have BB := BBn
      have Z := Zn
      have X := Xn
      have Y := Yn
      clear BBn Zn Xn Yn
      go_wp2_with fail
      go_loopw [12] (fun i wr => ∃ k2 : Nat, k2 ≤ q ∧ i = .int .i64 k2 ∧ Hid (Below w.heap.size w wr) ∧ Hid (Rd wr wr.heap.size (some ⟨gZ, oZ, none⟩) (dls zs)) ∧ Hid (Rd wr wr.heap.size (some ⟨gX, oX, none⟩) (dls xs)) ∧ Hid (Rd wr wr.heap.size (some ⟨gY, oY, none⟩) (dls ys)) ∧ Hid (Rd wr wr.heap.size (some ⟨gV, oV, none⟩) (dls xs))) (fun i _ => q - (intOf i).toNat)
      case atStart => exact ⟨0, Nat.zero_le _, rfl, BB, Z, X, Y, U⟩
      case round =>
        clear BB Z X Y U
        obtain ⟨k2, hk2, rfl, BB, Z, X, Y, U⟩ := hrel
        by_cases hlt : k2 < q
        · obtain ⟨d, hd⟩ : ∃ d, zs[k2]? = some d := ⟨_, List.getElem?_eq_getElem (by rw [HL.out]; exact hlt)⟩
          obtain ⟨d2, hd2, hn2, hl2⟩ := HYG.out k2 d hd
          obtain ⟨a0, _, a2⟩ := dcells Z.out rfl hd
          obtain ⟨b0, _, b2⟩ := dcells Y.out rfl hd2
          rw [hn2] at b0
          rw [hl2] at b2
          have hki : (k2 : Int) < (q : Int) := by omega
          have EQ1 : (d.nm.toList == d.nm.toList) = true := by simp
          have EQ2 : (d.ln.toList == d.ln.toList) = true := by simp
          obtain ⟨pn, hpn⟩ : ∃ x, pumpV zs d.nm = x := ⟨_, rfl⟩
          have P1 := CQ.out gY oY cY d.nm
          have P2 := CP.out d.nm
          rw [hpn] at P1 P2
          have P1 := Lib.hid P1
          have P2 := Lib.hid P2
          have EQ3 : (pn.toList == pn.toList) = true := by simp
          clear hd hd2 hn2 hl2 hpn
          go_wp2_with fail
          refine wp_region_noPanic ?_
          refine wp_region_held_drew (S := (fun w' => w'.cell? ⟨gY, oY + k2 * 8, none⟩ = some (.string d.nm) ∧ w'.cell? ⟨gY, oY + k2 * 8 + 2, none⟩ = some (.string d.ln) ∧ w'.cell? ⟨gZ, oZ + k2 * 8, none⟩ = some (.string d.nm) ∧ w'.cell? ⟨gZ, oZ + k2 * 8 + 2, none⟩ = some (.string d.ln) ∧ Below wr.heap.size wr w')) (by kernel_rfl) ?_ (fun hH => ?_)
          · exact ⟨b0, b2, a0, a2, by go_grown⟩
          refine wpAnyH_take (i := 0) (oi := { dst := some 70, op := _, type := _, pos := _, after := _, guard := _ }) (v := ?_) rfl (by kernel_rfl) (by kernel_rfl) (by kernel_rfl) (fun _ _ _ h => h) (Or.inl ⟨by rfl, ?_⟩) hH ?_
          rotate_left 1
          · intro W hSw
            (try dsimp only at hSw)
            go_simp
            (try with_reducible rfl)
          try simp only [Act.put, List.setIfInBounds_toArray, List.set_cons_zero, List.set_cons_succ]
          refine wpAnyH_take (i := 1) (oi := { dst := some 71, op := _, type := _, pos := _, after := _, guard := _ }) (v := ?_) rfl (by kernel_rfl) (by kernel_rfl) (by kernel_rfl) (fun _ _ _ h => h) (Or.inl ⟨by rfl, ?_⟩) hH ?_
          rotate_left 1
          · intro W hSw
            (try dsimp only at hSw)
            go_simp
            (try with_reducible rfl)
          try simp only [Act.put, List.setIfInBounds_toArray, List.set_cons_zero, List.set_cons_succ]
          refine wpAnyH_take (i := 2) (oi := { dst := some 72, op := _, type := _, pos := _, after := _, guard := _ }) (v := ?_) rfl (by kernel_rfl) (by kernel_rfl) (by kernel_rfl) (fun _ _ _ h => h) (Or.inl ⟨by rfl, ?_⟩) hH ?_
          rotate_left 1
          · intro W hSw
            (try dsimp only at hSw)
            go_simp
            (try with_reducible rfl)
          try simp only [Act.put, List.setIfInBounds_toArray, List.set_cons_zero, List.set_cons_succ]
          refine wpAnyH_take (i := 3) (oi := { dst := some 73, op := _, type := _, pos := _, after := _, guard := _ }) (v := ?_) rfl (by kernel_rfl) (by kernel_rfl) (by kernel_rfl) (fun _ _ _ h => h) (Or.inl ⟨by rfl, ?_⟩) hH ?_
          rotate_left 1
          · intro W hSw
            (try dsimp only at hSw)
            go_simp
            (try with_reducible rfl)
          try simp only [Act.put, List.setIfInBounds_toArray, List.set_cons_zero, List.set_cons_succ]
          refine wpAnyH_take (i := 4) (oi := { dst := some 74, op := _, type := _, pos := _, after := _, guard := _ }) (v := ?_) rfl (by kernel_rfl) (by kernel_rfl) (by kernel_rfl) (fun _ _ _ h => h) (Or.inl ⟨by rfl, ?_⟩) hH ?_
          rotate_left 1
          · intro W hSw
            (try dsimp only at hSw)
            go_simp
            (try with_reducible rfl)
          try simp only [Act.put, List.setIfInBounds_toArray, List.set_cons_zero, List.set_cons_succ]
          refine wpAnyH_take (i := 5) (oi := { dst := some 75, op := _, type := _, pos := _, after := _, guard := _ }) (v := ?_) rfl (by kernel_rfl) (by kernel_rfl) (by kernel_rfl) (fun _ _ _ h => h) (Or.inl ⟨by rfl, ?_⟩) hH ?_
          rotate_left 1
          · intro W hSw
            (try dsimp only at hSw)
            go_simp
            (try with_reducible rfl)
          try simp only [Act.put, List.setIfInBounds_toArray, List.set_cons_zero, List.set_cons_succ]
          refine wpAnyH_take (i := 6) (oi := { dst := some 76, op := _, type := _, pos := _, after := _, guard := _ }) (v := ?_) rfl (by kernel_rfl) (by kernel_rfl) (by kernel_rfl) (fun _ _ _ h => h) (Or.inl ⟨by rfl, ?_⟩) hH ?_
          rotate_left 1
          · intro W hSw
            (try dsimp only at hSw)
            go_simp
            (try with_reducible rfl)
          try simp only [Act.put, List.setIfInBounds_toArray, List.set_cons_zero, List.set_cons_succ]
          refine wpAnyH_take (i := 7) (oi := { dst := some 77, op := _, type := _, pos := _, after := _, guard := _ }) (v := ?_) rfl (by kernel_rfl) (by kernel_rfl) (by kernel_rfl) (fun _ _ _ h => h) (Or.inl ⟨by rfl, ?_⟩) hH ?_
          rotate_left 1
          · intro W hSw
            (try dsimp only at hSw)
            go_simp
            (try with_reducible rfl)
          try simp only [Act.put, List.setIfInBounds_toArray, List.set_cons_zero, List.set_cons_succ]
          refine wpAnyH_take (i := 8) (oi := { dst := some 78, op := _, type := _, pos := _, after := _, guard := _ }) (v := ?_) rfl (by kernel_rfl) (by kernel_rfl) (by kernel_rfl) (fun _ _ _ h => h) (Or.inl ⟨by rfl, ?_⟩) hH ?_
          rotate_left 1
          · intro W hSw
            (try dsimp only at hSw)
            go_simp
            (try with_reducible rfl)
          try simp only [Act.put, List.setIfInBounds_toArray, List.set_cons_zero, List.set_cons_succ]
          refine wpAnyH_take (i := 9) (oi := { dst := some 79, op := _, type := _, pos := _, after := _, guard := _ }) (v := ?_) rfl (by kernel_rfl) (by kernel_rfl) (by kernel_rfl) (fun _ _ _ h => h) (Or.inl ⟨by rfl, ?_⟩) hH ?_
          rotate_left 1
          · intro W hSw
            (try dsimp only at hSw)
            go_simp
            (try with_reducible rfl)
          try simp only [Act.put, List.setIfInBounds_toArray, List.set_cons_zero, List.set_cons_succ]
          refine wpAnyH_take (i := 10) (oi := { dst := some 80, op := _, type := _, pos := _, after := _, guard := _ }) (v := ?_) rfl (by kernel_rfl) (by kernel_rfl) (by kernel_rfl) (fun _ _ _ h => h) (Or.inl ⟨by rfl, ?_⟩) hH ?_
          rotate_left 1
          · intro W hSw
            (try dsimp only at hSw)
            go_simp
            (try with_reducible rfl)
          try simp only [Act.put, List.setIfInBounds_toArray, List.set_cons_zero, List.set_cons_succ]
          refine wpAnyH_take (i := 11) (oi := { dst := some 81, op := _, type := _, pos := _, after := _, guard := _ }) (v := ?_) rfl (by kernel_rfl) (by kernel_rfl) (by kernel_rfl) (fun _ _ _ h => h) (Or.inl ⟨by rfl, ?_⟩) hH ?_
          rotate_left 1
          · intro W hSw
            (try dsimp only at hSw)
            go_simp
            (try with_reducible rfl)
          try simp only [Act.put, List.setIfInBounds_toArray, List.set_cons_zero, List.set_cons_succ]
          refine wpAnyH_take (i := 12) (oi := { dst := some 82, op := _, type := _, pos := _, after := _, guard := _ }) (v := ?_) rfl (by kernel_rfl) (by kernel_rfl) (by kernel_rfl) (fun _ _ _ h => h) (Or.inl ⟨by rfl, ?_⟩) hH ?_
          rotate_left 1
          · intro W hSw
            (try dsimp only at hSw)
            go_simp
            (try with_reducible rfl)
          try simp only [Act.put, List.setIfInBounds_toArray, List.set_cons_zero, List.set_cons_succ]
          refine wpAnyH_take (i := 13) (oi := { dst := some 83, op := _, type := _, pos := _, after := _, guard := _ }) (v := ?_) rfl (by kernel_rfl) (by kernel_rfl) (by kernel_rfl) (fun _ _ _ h => h) (Or.inl ⟨by rfl, ?_⟩) hH ?_
          rotate_left 1
          · intro W hSw
            (try dsimp only at hSw)
            go_simp
            (try with_reducible rfl)
          try simp only [Act.put, List.setIfInBounds_toArray, List.set_cons_zero, List.set_cons_succ]
          refine wpAnyH_take (i := 14) (oi := { dst := some 84, op := _, type := _, pos := _, after := _, guard := _ }) (v := ?_) rfl (by kernel_rfl) (by kernel_rfl) (by kernel_rfl) (fun _ _ _ h => h) (Or.inl ⟨by rfl, ?_⟩) hH ?_
          rotate_left 1
          · intro W hSw
            (try dsimp only at hSw)
            go_simp
            (try with_reducible rfl)
          try simp only [Act.put, List.setIfInBounds_toArray, List.set_cons_zero, List.set_cons_succ]
          refine wpAnyH_take (i := 15) (oi := { dst := some 85, op := _, type := _, pos := _, after := _, guard := _ }) (v := ?_) rfl (by kernel_rfl) (by kernel_rfl) (by kernel_rfl) (fun _ _ _ h => h) (Or.inl ⟨by rfl, ?_⟩) hH ?_
          rotate_left 1
          · intro W hSw
            (try dsimp only at hSw)
            go_simp
            (try with_reducible rfl)
          try simp only [Act.put, List.setIfInBounds_toArray, List.set_cons_zero, List.set_cons_succ]
          refine wpAnyH_take (i := 16) (oi := { dst := some 86, op := _, type := _, pos := _, after := _, guard := _ }) (v := ?_) rfl (by kernel_rfl) (by kernel_rfl) (by kernel_rfl) (fun _ _ _ h => h) (Or.inl ⟨by rfl, ?_⟩) hH ?_
          rotate_left 1
          · intro W hSw
            (try dsimp only at hSw)
            go_simp
            (try with_reducible rfl)
          try simp only [Act.put, List.setIfInBounds_toArray, List.set_cons_zero, List.set_cons_succ]
          refine wpAnyH_take (i := 17) (oi := { dst := some 87, op := _, type := _, pos := _, after := _, guard := _ }) (v := ?_) rfl (by kernel_rfl) (by kernel_rfl) (by kernel_rfl) (fun _ _ _ h => h) (Or.inl ⟨by rfl, ?_⟩) hH ?_
          rotate_left 1
          · intro W hSw
            (try dsimp only at hSw)
            go_simp
            (try with_reducible rfl)
          try simp only [Act.put, List.setIfInBounds_toArray, List.set_cons_zero, List.set_cons_succ]
          refine wpAnyH_take (i := 18) (oi := { dst := some 88, op := _, type := _, pos := _, after := _, guard := _ }) (v := ?_) rfl (by kernel_rfl) (by kernel_rfl) (by kernel_rfl) (fun _ _ _ h => h) (Or.inl ⟨by rfl, ?_⟩) hH ?_
          rotate_left 1
          · intro W hSw
            (try dsimp only at hSw)
            go_simp
            (try with_reducible rfl)
          try simp only [Act.put, List.setIfInBounds_toArray, List.set_cons_zero, List.set_cons_succ]
          refine wpAnyH_take (i := 19) (oi := { dst := some 89, op := _, type := _, pos := _, after := _, guard := _ }) (v := ?_) rfl (by kernel_rfl) (by kernel_rfl) (by kernel_rfl) (fun _ _ _ h => h) (Or.inl ⟨by rfl, ?_⟩) hH ?_
          rotate_left 1
          · intro W hSw
            (try dsimp only at hSw)
            go_simp
            (try with_reducible rfl)
          try simp only [Act.put, List.setIfInBounds_toArray, List.set_cons_zero, List.set_cons_succ]
          refine wpAnyH_take (i := 20) (oi := { dst := some 90, op := _, type := _, pos := _, after := _, guard := _ }) (v := ?_) rfl (by kernel_rfl) (by kernel_rfl) (by kernel_rfl) (fun _ _ _ h => h) (Or.inl ⟨by rfl, ?_⟩) hH ?_
          rotate_left 1
          · intro W hSw
            (try dsimp only at hSw)
            go_simp
            (try with_reducible rfl)
          try simp only [Act.put, List.setIfInBounds_toArray, List.set_cons_zero, List.set_cons_succ]
          refine wpAnyH_take (i := 21) (oi := { dst := some 91, op := _, type := _, pos := _, after := _, guard := _ }) (v := ?_) rfl (by kernel_rfl) (by kernel_rfl) (by kernel_rfl) (fun _ _ _ h => h) (Or.inl ⟨by rfl, ?_⟩) hH ?_
          rotate_left 1
          · intro W hSw
            (try dsimp only at hSw)
            go_simp
            (try with_reducible rfl)
          try simp only [Act.put, List.setIfInBounds_toArray, List.set_cons_zero, List.set_cons_succ]
          refine wpAnyH_take (i := 22) (oi := { dst := some 92, op := _, type := _, pos := _, after := _, guard := _ }) (v := ?_) rfl (by kernel_rfl) (by kernel_rfl) (by kernel_rfl) (fun _ _ _ h => h) (Or.inl ⟨by rfl, ?_⟩) hH ?_
          rotate_left 1
          · intro W hSw
            (try dsimp only at hSw)
            go_simp
            (try with_reducible rfl)
          try simp only [Act.put, List.setIfInBounds_toArray, List.set_cons_zero, List.set_cons_succ]
          refine wpAnyH_take (i := 23) (oi := { dst := some 93, op := _, type := _, pos := _, after := _, guard := _ }) (v := ?_) rfl (by kernel_rfl) (by kernel_rfl) (by kernel_rfl) (fun _ _ _ h => h) (Or.inl ⟨by rfl, ?_⟩) hH ?_
          rotate_left 1
          · intro W hSw
            (try dsimp only at hSw)
            go_simp
            (try with_reducible rfl)
          try simp only [Act.put, List.setIfInBounds_toArray, List.set_cons_zero, List.set_cons_succ]
          refine wpAnyH_take (i := 24) (oi := { dst := some 94, op := _, type := _, pos := _, after := _, guard := _ }) (v := ?_) rfl (by kernel_rfl) (by kernel_rfl) (by kernel_rfl) (fun _ _ _ h => h) (Or.inl ⟨by rfl, ?_⟩) hH ?_
          rotate_left 1
          · intro W hSw
            (try dsimp only at hSw)
            go_simp
            (try with_reducible rfl)
          try simp only [Act.put, List.setIfInBounds_toArray, List.set_cons_zero, List.set_cons_succ]
          refine wpAnyH_take (i := 25) (oi := { dst := some 95, op := _, type := _, pos := _, after := _, guard := _ }) (v := ?_) rfl (by kernel_rfl) (by kernel_rfl) (by kernel_rfl) (fun _ _ _ h => h) (Or.inl ⟨by rfl, ?_⟩) hH ?_
          rotate_left 1
          · intro W hSw
            (try dsimp only at hSw)
            go_simp
            (try with_reducible rfl)
          try simp only [Act.put, List.setIfInBounds_toArray, List.set_cons_zero, List.set_cons_succ]
          refine wpAnyH_take (i := 26) (oi := { dst := some 96, op := _, type := _, pos := _, after := _, guard := _ }) (v := ?_) rfl (by kernel_rfl) (by kernel_rfl) (by kernel_rfl) (fun _ _ _ h => h) (Or.inl ⟨by rfl, ?_⟩) hH ?_
          rotate_left 1
          · intro W hSw
            (try dsimp only at hSw)
            go_simp
            (try with_reducible rfl)
          try simp only [Act.put, List.setIfInBounds_toArray, List.set_cons_zero, List.set_cons_succ]
          refine wpAnyH_take (i := 27) (oi := { dst := some 97, op := _, type := _, pos := _, after := _, guard := _ }) (v := ?_) rfl (by kernel_rfl) (by kernel_rfl) (by kernel_rfl) (fun _ _ _ h => h) (Or.inl ⟨by rfl, ?_⟩) hH ?_
          rotate_left 1
          · intro W hSw
            (try dsimp only at hSw)
            go_simp
            (try with_reducible rfl)
          try simp only [Act.put, List.setIfInBounds_toArray, List.set_cons_zero, List.set_cons_succ]
          refine wpAnyH_take (i := 28) (oi := { dst := some 98, op := _, type := _, pos := _, after := _, guard := _ }) (v := ?_) rfl (by kernel_rfl) (by kernel_rfl) (by kernel_rfl) (fun _ _ _ h => h) (Or.inl ⟨by rfl, ?_⟩) hH ?_
          rotate_left 1
          · intro W hSw
            (try dsimp only at hSw)
            go_simp
            (try with_reducible rfl)
          try simp only [Act.put, List.setIfInBounds_toArray, List.set_cons_zero, List.set_cons_succ]
          refine wpAnyH_take (i := 29) (oi := { dst := some 99, op := _, type := _, pos := _, after := _, guard := _ }) (v := ?_) rfl (by kernel_rfl) (by kernel_rfl) (by kernel_rfl) (fun _ _ _ h => h) (Or.inl ⟨by rfl, ?_⟩) hH ?_
          rotate_left 1
          · intro W hSw
            (try dsimp only at hSw)
            go_simp
            (try with_reducible rfl)
          try simp only [Act.put, List.setIfInBounds_toArray, List.set_cons_zero, List.set_cons_succ]
          refine wpAnyH_take (i := 30) (oi := { dst := some 100, op := _, type := _, pos := _, after := _, guard := _ }) (v := ?_) rfl (by kernel_rfl) (by kernel_rfl) (by kernel_rfl) (fun _ _ _ h => h) (Or.inl ⟨by rfl, ?_⟩) hH ?_
          rotate_left 1
          · intro W hSw
            (try dsimp only at hSw)
            go_simp
            (try with_reducible rfl)
          try simp only [Act.put, List.setIfInBounds_toArray, List.set_cons_zero, List.set_cons_succ]
          refine wpAnyH_take (i := 32) (oi := { dst := some 102, op := _, type := _, pos := _, after := _, guard := _ }) (v := ?_) rfl (by kernel_rfl) (by kernel_rfl) (by kernel_rfl) (fun _ _ _ h => h) (Or.inl ⟨by rfl, ?_⟩) hH ?_
          rotate_left 1
          · intro W hSw
            (try dsimp only at hSw)
            go_simp
            (try with_reducible rfl)
          try simp only [Act.put, List.setIfInBounds_toArray, List.set_cons_zero, List.set_cons_succ]
          refine wpAnyH_take (i := 33) (oi := { dst := some 103, op := _, type := _, pos := _, after := _, guard := _ }) (v := ?_) rfl (by kernel_rfl) (by kernel_rfl) (by kernel_rfl) (fun _ _ _ h => h) (Or.inl ⟨by rfl, ?_⟩) hH ?_
          rotate_left 1
          · intro W hSw
            (try dsimp only at hSw)
            go_simp
            (try with_reducible rfl)
          try simp only [Act.put, List.setIfInBounds_toArray, List.set_cons_zero, List.set_cons_succ]
          refine wpAnyH_take (i := 34) (oi := { dst := some 104, op := _, type := _, pos := _, after := _, guard := _ }) (v := ?_) rfl (by kernel_rfl) (by kernel_rfl) (by kernel_rfl) (fun _ _ _ h => h) (Or.inl ⟨by rfl, ?_⟩) hH ?_
          rotate_left 1
          · intro W hSw
            (try dsimp only at hSw)
            go_simp
            (try with_reducible rfl)
          try simp only [Act.put, List.setIfInBounds_toArray, List.set_cons_zero, List.set_cons_succ]
          refine wpAnyH_take (i := 35) (oi := { dst := some 105, op := _, type := _, pos := _, after := _, guard := _ }) (v := ?_) rfl (by kernel_rfl) (by kernel_rfl) (by kernel_rfl) (fun _ _ _ h => h) (Or.inl ⟨by rfl, ?_⟩) hH ?_
          rotate_left 1
          · intro W hSw
            (try dsimp only at hSw)
            go_simp
            (try with_reducible rfl)
          try simp only [Act.put, List.setIfInBounds_toArray, List.set_cons_zero, List.set_cons_succ]
          refine wpAnyH_take (i := 36) (oi := { dst := some 106, op := _, type := _, pos := _, after := _, guard := _ }) (v := ?_) rfl (by kernel_rfl) (by kernel_rfl) (by kernel_rfl) (fun _ _ _ h => h) (Or.inl ⟨by rfl, ?_⟩) hH ?_
          rotate_left 1
          · intro W hSw
            (try dsimp only at hSw)
            go_simp
            (try with_reducible rfl)
          try simp only [Act.put, List.setIfInBounds_toArray, List.set_cons_zero, List.set_cons_succ]
          refine wpAnyH_take (i := 37) (oi := { dst := some 107, op := _, type := _, pos := _, after := _, guard := _ }) (v := ?_) rfl (by kernel_rfl) (by kernel_rfl) (by kernel_rfl) (fun _ _ _ h => h) (Or.inl ⟨by rfl, ?_⟩) hH ?_
          rotate_left 1
          · intro W hSw
            (try dsimp only at hSw)
            go_simp
            (try with_reducible rfl)
          try simp only [Act.put, List.setIfInBounds_toArray, List.set_cons_zero, List.set_cons_succ]
          refine wpAnyH_ready (rs := [31]) (by kernel_rfl) (by simp) (AllReadyH.cons rfl (fun K hK => ?_) AllReadyH.nil)
          go_simp
          go_at_call 8; ((with_reducible refine (P1.out _ ((Y.out.below hH.2.2.2.2).more hH.2.2.2.2.size)).mono ?_); rintro e9 r1 ⟨rfl, hb9⟩); go_wp2_with fail
          refine hK.out _ _ ?_ (fun hG => ?_)
          · exact ⟨cell_below hb9 hH.1, cell_below hb9 hH.2.1, cell_below hb9 hH.2.2.1, cell_below hb9 hH.2.2.2.1, hH.2.2.2.2.trans (hb9.mono hH.2.2.2.2.size)⟩
          replace hH := hG
          clear hK K hG
          try simp only [Act.put, List.setIfInBounds_toArray, List.set_cons_zero, List.set_cons_succ]
          refine wpAnyH_ready (rs := [38]) (by kernel_rfl) (by simp) (AllReadyH.cons rfl (fun K hK => ?_) AllReadyH.nil)
          go_simp
          go_at_call 8; ((with_reducible refine (P2.out _ ((Z.out.below hH.2.2.2.2).more hH.2.2.2.2.size)).mono ?_); rintro e9 r2 ⟨rfl, hb9⟩); go_wp2_with fail
          refine hK.out _ _ ?_ (fun hG => ?_)
          · exact ⟨cell_below hb9 hH.1, cell_below hb9 hH.2.1, cell_below hb9 hH.2.2.1, cell_below hb9 hH.2.2.2.1, hH.2.2.2.2.trans (hb9.mono hH.2.2.2.2.size)⟩
          replace hH := hG
          clear hK K hG
          try simp only [Act.put, List.setIfInBounds_toArray, List.set_cons_zero, List.set_cons_succ]
          refine wpAnyH_take (i := 39) (oi := { dst := some 109, op := _, type := _, pos := _, after := _, guard := _ }) (v := ?_) rfl (by kernel_rfl) (by kernel_rfl) (by kernel_rfl) (fun _ _ _ h => h) (Or.inl ⟨by rfl, ?_⟩) hH ?_
          rotate_left 1
          · intro W hSw
            (try dsimp only at hSw)
            go_simp
            (try with_reducible rfl)
          try simp only [Act.put, List.setIfInBounds_toArray, List.set_cons_zero, List.set_cons_succ]
          refine wpAnyH_take (i := 40) (oi := { dst := some 110, op := _, type := _, pos := _, after := _, guard := _ }) (v := ?_) rfl (by kernel_rfl) (by kernel_rfl) (by kernel_rfl) (fun _ _ _ h => h) (Or.inl ⟨by rfl, ?_⟩) hH ?_
          rotate_left 1
          · intro W hSw
            (try dsimp only at hSw)
            go_simp
            (try with_reducible rfl)
          try simp only [Act.put, List.setIfInBounds_toArray, List.set_cons_zero, List.set_cons_succ]
          refine wpAnyH_done (by kernel_rfl) ?_ _
          refine NoPanic.normal ?_
          have hb := hH.2.2.2.2
          clear hH a0 a2 b0 b2
          have BBn := Lib.hid (BB.out.trans (hb.mono BB.out.size))
          have Zn := Lib.hid ((Z.out.below hb).more hb.size)
          have Xn := Lib.hid ((X.out.below hb).more hb.size)
          have Yn := Lib.hid ((Y.out.below hb).more hb.size)
          have Un := Lib.hid ((U.out.below hb).more hb.size)
          clear hb BB Z X Y U
          have BB := BBn
          have Z := Zn
          have X := Xn
          have Y := Yn
          have U := Un
          clear BBn Zn Xn Yn Un
          go_wp2_with fail
          go_roundw
          case rel => first | exact ⟨k2 + 1, by omega, by go_num, BB, Z, X, Y, U⟩ | ((repeat apply Exists.intro); exact ⟨⟨k2 + 1, by omega, by go_num, BB, Z, X, Y, U⟩, rfl⟩)
          case measure => simp [intOf]; omega
        · obtain rfl : k2 = q := by omega
          go_wp2_with fail
          refine (Rg.rigsL _ _ _ _ _ _ _ xs _ hxl hq9 U.out X.out).mono ?_
          rintro e9 w8 ⟨rfl, hb⟩
          have BBn := Lib.hid (BB.out.trans (hb.mono BB.out.size))
          go_wp2_with fail
          go_ret
          exact ⟨rfl, BBn.out⟩
  · have hd : decide (4096 < n) = true := decide_eq_true (by omega)
    clear hn hm hr
    go_enter Try.func4, Try.ntmps4
    go_wp2_with (go_at_call 5; go_enter Try.func5, Try.ntmps5)
    go_returns
    exact ⟨rfl, Below.refl _ _⟩

set_option maxRecDepth 100000 in
theorem lifted (os : Os) (started : os.Started) (H : Type) (enc : TypeId × Value → H) :
    ReturnsInHanded {} Try.checked os 4 .any (Rows.fnMovedRigSpec.pre6 enc Try.prog Try.f4 Rows.fnMovedRigRow.domain false) (Rows.fnMovedRigSpec.post enc Try.prog Try.f4 false true false false) := by
  refine returnsInHanded_of_change (C := Try.checked) own started (by kernel_rfl) Try.func4
    (ChangeSpec.witness6 (enc := enc) (C := Try.checked) false ⟨#[], #[.slice none 0 0], []⟩ 8 (by kernel_rfl) (by kernel_rfl) (by kernel_rfl) (by kernel_rfl)) ?_
  intro W base args ds gs before hval0 hW hcnd hsz
  have hval : ∀ (j : Nat) t v, Try.f4.params[j]? = some t → args[j]? = some v → Value.okWide Try.prog W .any base t v := hval0
  have hW' := hW
  obtain ⟨p, q, hA0, hV, rfl, hfz, hnd⟩ := hW
  have hA1 := hA0
  have hA : DataW.TrodAll enc Try.prog W 0 (fun _ => true) true Try.f4.params.toList args.toList ds p := hA0
  rw [Try.params4] at hA hval
  obtain ⟨v0, vs0, d0, ds0, p0, q0, hargs, rfl, rfl, h0, r0⟩ := trodAll_cons hA
  obtain ⟨rfl, rfl, rfl⟩ := trodAll_nil r0
  obtain rfl : args = #[v0] := by cases args; simp_all
  obtain ⟨rfl, rfl⟩ := trodVars_none hV
  obtain ⟨A0, n0, c0, a0, rfl, l0, m0, g0⟩ := RampFn.take_bytes Try.underlying22 Try.underlying5 (by kernel_rfl) (hval 0 22 v0 rfl rfl) h0
  clear hA0 hval0
  rw [List.append_nil] at hW'
  refine (walk A0 n0 c0 a0 l0 m0 W g0).mono fun e W' ⟨he, hb⟩ => ?_
  subst he
  exact ⟨_, rfl, post_law rfl hW' hA1 laidOut (by rw [Try.params4]; exact of_decide_eq_true (by kernel_rfl)) 4 (by kernel_rfl) Try.underlying4 rfl hb⟩

theorem over : Rows.fnMovedRigRow.holds Try.pinned (OpenSpec.ofChange Rows.fnMovedRigSpec) :=
  OpenClaim.holds_of_wide 4 Try.f4 rfl rfl rfl rfl rfl rfl rfl ⟨rfl, rfl, rfl, rfl, rfl⟩ rfl rfl rfl rfl rfl (by kernel_rfl) Try.func4 (by kernel_rfl)
    (of_decide_eq_true (by kernel_rfl)) (by unfold Func.isWrapper; first | (rw [if_pos (by decide +kernel)]; kernel_rfl) | (rw [if_neg (by decide +kernel)]; exact ⟨rfl, rfl⟩))
    (fun os started H enc _ => lifted os started H enc)

/-- The statement. -/
theorem proved : Rows.FnMovedRigSaid :=
  over
#print axioms proved
end Go.Proofs.Ytgcheplneolonaa.fnMovedRig
