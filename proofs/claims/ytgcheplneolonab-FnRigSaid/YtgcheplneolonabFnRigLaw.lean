/- The law FnRig holds at every input. The step from the walk to the row follows the guide's own template. -/
import Derived.Test.YtgcheplneolonabMem
import Derived.Test.YtgcheplneolonabFr6
import Derived.Test.YtgcheplneolonabAi6
import Derived.Test.YtgcheplneolonabRg
import Derived.Test.YtgcheplneolonabZ3
import Derived.Test.YtgcheplneolonabTakeC
import Derived.Deep.RegionHeld3
import Derived.BigQuiet
namespace Go.Proofs.Ytgcheplneolonab.fnRig
open Go.ChangeShapes Go.WideShapes Go.ChangeAt Go.RowKit Go.WideMaps Go.WideElems Go.Proofs.Ytgcheplneolonab.Mem
open Go.ChangeMaps (open_string shut_string)
set_option linter.unusedVariables false
set_option linter.unusedSimpArgs false

theorem own : ownKnob Try.prog.godebug = none := by kernel_rfl
theorem laidOut : laidOutB Try.prog = true := by kernel_rfl

open Go.Proofs.Ytgcheplneolonab.Rw Go.Proofs.Ytgcheplneolonab.Dd Go.Proofs.Ytgcheplneolonab.Dl Go.Proofs.Ytgcheplneolonab.Ds Go.Proofs.Ytgcheplneolonab.Pu Go.Proofs.Ytgcheplneolonab.Ig Go.Proofs.Ytgcheplneolonab.Fd Go.Proofs.Ytgcheplneolonab.Lm6 Go.Proofs.Ytgcheplneolonab.P2 Go.Proofs.Ytgcheplneolonab.Mo Go.Proofs.Ytgcheplneolonab.Ol Go.Proofs.Ytgcheplneolonab.Rk Go.Proofs.Ytgcheplneolonab.Rz Go.Proofs.Ytgcheplneolonab.Adn Go.Proofs.Ytgcheplneolonab.Bxd Go.Proofs.Ytgcheplneolonab.Fr6 Go.Proofs.Ytgcheplneolonab.Rg 
open Go.Proofs.Ytgcheplneolonab.Rw (owns_below owns_grown owns_base)

set_option maxHeartbeats 8000000 in
set_option maxRecDepth 100000 in
theorem walk (A : Option Addr) (n c : Nat) (bs : List UInt8) (hn : bs.length = n) (hm : n ≤ maxLen) (w : World) (hr : Rd w w.heap.size A (Draw.u8s bs)) :
    Calls Try.prog 3 #[.slice A n c] w fun e w' => e = .returned (.bool true) ∧ Below w.heap.size w w' := by
  have hu : undef = Value.tuple #[] := rfl
  by_cases hbig : (n : Int) ≤ 4096
  · have D := Lib.hid (Dr6.drawAdd w A n c bs hn (by omega) hr)
    clear hm
    go_enter Try.func3, Try.ntmps3
    go_wp2_with (go_at_call 5; go_enter Try.func5, Try.ntmps5)
    refine D.out.mono ?_
    rintro e wd0 ⟨zs, q, gZ, oZ, cZ, sn, sk, sl, sx, sy, sh, st, sm, hl, hsh, _, rfl, hR, hB⟩
    have BB := Lib.hid hB
    have Z := Lib.hid hR
    have hq16 : q ≤ 16 := by have := hsh.1; omega
    have hq9 : q ≤ 1048576 := by omega
    have X := Lib.hid (Bx.new wd0 sn sk sl sx sy sh st sm)
    have hb : Below wd0.heap.size wd0 (wd0.alloc (.cells (ca sn sk sl sx sy sh st sm) 28)) := (Below.refl _ _).alloc (Nat.le_refl _) _
    have BBn := Lib.hid (BB.out.trans (hb.mono BB.out.size))
    have Zn := Lib.hid ((Z.out.below hb).more hb.size)
    clear hb BB Z
    have BB := BBn
    have Z := Zn
    clear BBn Zn
    generalize hxb : wd0.heap.size = xb at *
    clear hbig hR hB hn hr D
    obtain ⟨x0, x1, x2, x3, x4, x5, x6, x7⟩ := X.out.c
    obtain ⟨ag, hag⟩ : ∃ b, adG zs ⟨sn, sk, sl, sx, sy, sh, st, sm⟩ = b := ⟨_, rfl⟩
    obtain ⟨L, hL⟩ : ∃ L, adL zs ⟨sn, sk, sl, sx, sy, sh, st, sm⟩ = L := ⟨_, rfl⟩
    obtain ⟨p, hp⟩ : ∃ p, L.length = p := ⟨_, rfl⟩
    have CA := Lib.hid (show ∀ (W : World) (h : Rd W W.heap.size (some ⟨gZ, oZ, none⟩) (dls zs)), Calls Try.prog 7 #[.slice (some ⟨gZ, oZ, none⟩) q cZ, va sn sk sl sx sy sh st sm] W (fun e w' => ∃ g o c : Nat, e = .returned (.tuple #[.slice (some ⟨g, o, none⟩) p c, .bool ag]) ∧ Rd w' w'.heap.size (some ⟨g, o, none⟩) (dls L) ∧ Below W.heap.size W w') from fun W h =>
      (Ai6.addI ⟨gZ, oZ, none⟩ q cZ zs sn sk sl sx sy sh st sm W hl hq9 h).mono fun e w' ⟨g, c, h1, h2, h3⟩ => by rw [hag, hL, hp] at h1; rw [hL, hp] at h2; exact ⟨g, 0, c, h1, Rd.own h2, h3⟩)
    cases ag
    · have hLz : L = zs := by rw [← hL]; exact adL_no hag
      subst hLz
      obtain rfl : q = p := by omega
      go_wp2_with fail
      (try rw [hxb])
      refine (CA.out _ Z.out).mono ?_
      rintro e9 w2 ⟨gM, oM, cM, rfl, hM, hb⟩
      have M := Lib.hid hM
      clear hM
      clear x0 x1 x2 x3 x4 x5 x6 x7
      have BBn := Lib.hid (BB.out.trans (hb.mono BB.out.size))
      have Zn := Lib.hid ((Z.out.below hb).more hb.size)
      clear hb BB Z
      have BB := BBn
      have Z := Zn
      clear BBn Zn
      go_wp2_with fail
      refine (rigsL _ _ _ _ _ _ _ L _ hl hq9 Z.out M.out).mono ?_
      rintro e9 w3 ⟨rfl, hb⟩
      have BBn := Lib.hid (BB.out.trans (hb.mono BB.out.size))
      go_wp2_with fail
      go_ret
      exact ⟨rfl, BBn.out⟩
    · obtain ⟨k, hk, hd, hrL, hfd, hrg, hrl⟩ := added hag
      have hLi : insD zs ⟨sn, sk, sl, sx, sy, sh, st, sm⟩ = L := by rw [← hL]; exact (adL_yes hag).symm
      rw [hLi] at hk hd hrL hfd hrg hrl
      rw [hp] at hk
      have hp9 : p ≤ 1048576 := by have := hrL.1; omega
      have PL := Lib.hid hp
      have HD := Lib.hid hd
      have HRL := Lib.hid hrL
      have CI := Lib.hid (show ∀ (g o c : Nat) (W : World) (h : Rd W W.heap.size (some ⟨g, o, none⟩) (dls L)), Calls Try.prog 11 #[.slice (some ⟨g, o, none⟩) p c] W (fun e w' => e = .returned (.bool true) ∧ Below W.heap.size W w') from fun g o c W h => by
        have := Iq.rigI (some ⟨g, o, none⟩) p c L W hp hp9 h
        rw [rig_yes hrL] at this; exact this)
      have CF := Lib.hid (show ∀ (g o c : Nat) (W : World) (h : Rd W W.heap.size (some ⟨g, o, none⟩) (dls L)), Calls Try.prog 9 #[.slice (some ⟨g, o, none⟩) p c, .string sn] W (fun e w' => e = .returned (.int .i64 (k : Int)) ∧ Below W.heap.size W w') from fun g o c W h => by
        have := findI (some ⟨g, o, none⟩) p c L sn W hp hp9 h
        rw [show fd L sn = (k : Int) from hfd] at this; exact this)
      have CR := Lib.hid (show ∀ (g o c : Nat) (W : World) (h : Rd W W.heap.size (some ⟨g, o, none⟩) (dls L)), Calls Try.prog 10 #[.slice (some ⟨g, o, none⟩) p c, .string sn] W (fun e w' => ∃ g o c : Nat, e = .returned (.tuple #[.slice (some ⟨g, o, none⟩) q c, .bool true]) ∧ Rd w' w'.heap.size (some ⟨g, o, none⟩) (dls zs) ∧ Below W.heap.size W w') from fun g o c W h =>
        (removeI ⟨g, o, none⟩ p c L sn W hp hp9 h).mono fun e w' ⟨g, c, h1, h2, h3⟩ => by rw [show rmG L sn = true from hrg, show rmL L sn = zs from hrl, hl] at h1; rw [show rmL L sn = zs from hrl, hl] at h2; exact ⟨g, 0, c, h1, Rd.own h2, h3⟩)
      have CX := Lib.hid (show ∀ (g o c : Nat) (s : ByteArray) (W : World) (h : Rd W W.heap.size (some ⟨g, o, none⟩) (dls L)), Calls Try.prog 10 #[.slice (some ⟨g, o, none⟩) p c, .string s] W (fun e w' => ∃ g o c n : Nat, e = .returned (.tuple #[.slice (some ⟨g, o, none⟩) n c, .bool (rmG L s)]) ∧ Below W.heap.size W w') from fun g o c s W h =>
        (removeI ⟨g, o, none⟩ p c L s W hp hp9 h).mono fun e w' ⟨g, c, h1, h2, h3⟩ => ⟨g, 0, c, _, h1, h3⟩)
      have CO := Lib.hid (show ∀ (g o c : Nat) (s : ByteArray) (W : World) (h : Rd W W.heap.size (some ⟨g, o, none⟩) (dls L)), Calls Try.prog 12 #[.slice (some ⟨g, o, none⟩) p c, .string s] W (fun e w' => ∃ g c : Nat, e = .returned (.slice (some ⟨g, 0, none⟩) (olV L s L).length c) ∧ Below W.heap.size W w') from fun g o c s W h =>
        (onI (some ⟨g, o, none⟩) p c L s W hp hp9 h).mono fun e w' ⟨g, c, h1, h2, h3⟩ => ⟨g, c, h1, h3⟩)
      clear hrL hfd hrg hrl hLi hL hp hd hag hsh
      go_wp2_with fail
      (try rw [hxb])
      refine (CA.out _ Z.out).mono ?_
      rintro e9 w2 ⟨gM, oM, cM, rfl, hM, hb⟩
      have M := Lib.hid hM
      clear hM hxb CA
      clear x0 x1 x2 x3 x4 x5 x6 x7
      have Xn := Lib.hid (X.out.below hb X.out.lt)
      clear X
      have X := Xn
      clear Xn
      have BBn := Lib.hid (BB.out.trans (hb.mono BB.out.size))
      have Zn := Lib.hid ((Z.out.below hb).more hb.size)
      clear hb BB Z
      have BB := BBn
      have Z := Zn
      clear BBn Zn
      obtain ⟨x0, x1, x2, x3, x4, x5, x6, x7⟩ := X.out.c
      go_wp2_with fail
      refine (CF.out _ _ _ _ M.out).mono ?_
      rintro e9 w3 ⟨rfl, hb⟩
      clear x0 x1 x2 x3 x4 x5 x6 x7
      have Xn := Lib.hid (X.out.below hb X.out.lt)
      clear X
      have X := Xn
      clear Xn
      have BBn := Lib.hid (BB.out.trans (hb.mono BB.out.size))
      have Zn := Lib.hid ((Z.out.below hb).more hb.size)
      have Mn := Lib.hid ((M.out.below hb).more hb.size)
      clear hb BB Z M
      have BB := BBn
      have Z := Zn
      have M := Mn
      clear BBn Zn Mn
      obtain ⟨x0, x1, x2, x3, x4, x5, x6, x7⟩ := X.out.c
      go_wp2_with fail
      refine (CR.out _ _ _ _ M.out).mono ?_
      rintro e9 w4 ⟨gY, oY, cY, rfl, hY, hb⟩
      have Y := Lib.hid hY
      clear hY
      clear x0 x1 x2 x3 x4 x5 x6 x7
      have Xn := Lib.hid (X.out.below hb X.out.lt)
      clear X
      have X := Xn
      clear Xn
      have BBn := Lib.hid (BB.out.trans (hb.mono BB.out.size))
      have Zn := Lib.hid ((Z.out.below hb).more hb.size)
      have Mn := Lib.hid ((M.out.below hb).more hb.size)
      clear hb BB Z M
      have BB := BBn
      have Z := Zn
      have M := Mn
      clear BBn Zn Mn
      obtain ⟨x0, x1, x2, x3, x4, x5, x6, x7⟩ := X.out.c
      obtain ⟨a0, a1, a2, a3, a4, a5, a6, a7⟩ := cells8 M.out rfl HD.out
      have EQ := neq_same sn sk sl sx sy sh st sm
      have hki : (k : Int) < (p : Int) := by omega
      have hk0 : (0 : Int) ≤ (k : Int) := by omega
      have hkn : decide ((k : Int) < 0) = false := decide_eq_false (by omega)
      go_wp2_with fail
      refine wp_region_noPanic ?_
      refine wp_region_held_drew (S := (fun w' => w'.cell? ⟨gM, oM + k * 8, none⟩ = some (.string sn) ∧ w'.cell? ⟨gM, oM + k * 8 + 1, none⟩ = some (.int .i64 sk) ∧ w'.cell? ⟨gM, oM + k * 8 + 2, none⟩ = some (.string sl) ∧ w'.cell? ⟨gM, oM + k * 8 + 3, none⟩ = some (.int .i64 sx) ∧ w'.cell? ⟨gM, oM + k * 8 + 4, none⟩ = some (.int .i64 sy) ∧ w'.cell? ⟨gM, oM + k * 8 + 5, none⟩ = some (.int .i64 sh) ∧ w'.cell? ⟨gM, oM + k * 8 + 6, none⟩ = some (.int .i64 st) ∧ w'.cell? ⟨gM, oM + k * 8 + 7, none⟩ = some (.int .i64 sm) ∧ w'.cell? ⟨xb, 0, none⟩ = some (.string sn) ∧ w'.cell? ⟨xb, 1, none⟩ = some (.int .i64 sk) ∧ w'.cell? ⟨xb, 2, none⟩ = some (.string sl) ∧ w'.cell? ⟨xb, 3, none⟩ = some (.int .i64 sx) ∧ w'.cell? ⟨xb, 4, none⟩ = some (.int .i64 sy) ∧ w'.cell? ⟨xb, 5, none⟩ = some (.int .i64 sh) ∧ w'.cell? ⟨xb, 6, none⟩ = some (.int .i64 st) ∧ w'.cell? ⟨xb, 7, none⟩ = some (.int .i64 sm) ∧ Below w4.heap.size w4 w')) (by kernel_rfl) ?_ (fun hH => ?_)
      · exact ⟨a0, a1, a2, a3, a4, a5, a6, a7, x0, x1, x2, x3, x4, x5, x6, x7, by go_grown⟩
      refine wpAnyH_take (i := 0) (oi := { dst := some 42, op := _, type := _, pos := _, after := _, guard := _ }) (v := ?_) rfl (by kernel_rfl) (by kernel_rfl) (by kernel_rfl) (fun _ _ _ h => h) (Or.inl ⟨by rfl, ?_⟩) hH ?_
      rotate_left 1
      · intro W hSw
        (try dsimp only at hSw)
        go_simp
        (try with_reducible rfl)
      try simp only [Act.put, List.setIfInBounds_toArray, List.set_cons_zero, List.set_cons_succ]
      refine wpAnyH_ready (rs := [1]) (by kernel_rfl) (by simp) (AllReadyH.cons rfl (fun K hK => ?_) AllReadyH.nil)
      go_simp
      go_at_call 11; ((with_reducible refine (CI.out _ _ _ _ ((M.out.below hH.2.2.2.2.2.2.2.2.2.2.2.2.2.2.2.2).more hH.2.2.2.2.2.2.2.2.2.2.2.2.2.2.2.2.size)).mono ?_); rintro e9 r1 ⟨rfl, hb9⟩); go_wp2_with fail
      refine hK.out _ _ ?_ (fun hG => ?_)
      · exact ⟨cell_below hb9 hH.1, cell_below hb9 hH.2.1, cell_below hb9 hH.2.2.1, cell_below hb9 hH.2.2.2.1, cell_below hb9 hH.2.2.2.2.1, cell_below hb9 hH.2.2.2.2.2.1, cell_below hb9 hH.2.2.2.2.2.2.1, cell_below hb9 hH.2.2.2.2.2.2.2.1, cell_below hb9 hH.2.2.2.2.2.2.2.2.1, cell_below hb9 hH.2.2.2.2.2.2.2.2.2.1, cell_below hb9 hH.2.2.2.2.2.2.2.2.2.2.1, cell_below hb9 hH.2.2.2.2.2.2.2.2.2.2.2.1, cell_below hb9 hH.2.2.2.2.2.2.2.2.2.2.2.2.1, cell_below hb9 hH.2.2.2.2.2.2.2.2.2.2.2.2.2.1, cell_below hb9 hH.2.2.2.2.2.2.2.2.2.2.2.2.2.2.1, cell_below hb9 hH.2.2.2.2.2.2.2.2.2.2.2.2.2.2.2.1, hH.2.2.2.2.2.2.2.2.2.2.2.2.2.2.2.2.trans (hb9.mono hH.2.2.2.2.2.2.2.2.2.2.2.2.2.2.2.2.size)⟩
      replace hH := hG
      clear hK K hG
      try simp only [Act.put, List.setIfInBounds_toArray, List.set_cons_zero, List.set_cons_succ]
      refine wpAnyH_take (i := 2) (oi := { dst := some 44, op := _, type := _, pos := _, after := _, guard := _ }) (v := ?_) rfl (by kernel_rfl) (by kernel_rfl) (by kernel_rfl) (fun _ _ _ h => h) (Or.inl ⟨by rfl, ?_⟩) hH ?_
      rotate_left 1
      · intro W hSw
        (try dsimp only at hSw)
        go_simp
        (try with_reducible rfl)
      try simp only [Act.put, List.setIfInBounds_toArray, List.set_cons_zero, List.set_cons_succ]
      refine wpAnyH_take (i := 3) (oi := { dst := some 45, op := _, type := _, pos := _, after := _, guard := _ }) (v := ?_) rfl (by kernel_rfl) (by kernel_rfl) (by kernel_rfl) (fun _ _ _ h => h) (Or.inl ⟨by rfl, ?_⟩) hH ?_
      rotate_left 1
      · intro W hSw
        (try dsimp only at hSw)
        go_simp
        (try with_reducible rfl)
      try simp only [Act.put, List.setIfInBounds_toArray, List.set_cons_zero, List.set_cons_succ]
      refine wpAnyH_take (i := 4) (oi := { dst := some 46, op := _, type := _, pos := _, after := _, guard := _ }) (v := ?_) rfl (by kernel_rfl) (by kernel_rfl) (by kernel_rfl) (fun _ _ _ h => h) (Or.inl ⟨by rfl, ?_⟩) hH ?_
      rotate_left 1
      · intro W hSw
        (try dsimp only at hSw)
        go_simp
        (try with_reducible rfl)
      try simp only [Act.put, List.setIfInBounds_toArray, List.set_cons_zero, List.set_cons_succ]
      refine wpAnyH_take (i := 5) (oi := { dst := some 47, op := _, type := _, pos := _, after := _, guard := _ }) (v := ?_) rfl (by kernel_rfl) (by kernel_rfl) (by kernel_rfl) (fun _ _ _ h => h) (Or.inl ⟨by rfl, ?_⟩) hH ?_
      rotate_left 1
      · intro W hSw
        (try dsimp only at hSw)
        go_simp
        (try with_reducible rfl)
      try simp only [Act.put, List.setIfInBounds_toArray, List.set_cons_zero, List.set_cons_succ]
      refine wpAnyH_take (i := 6) (oi := { dst := some 48, op := _, type := _, pos := _, after := _, guard := _ }) (v := ?_) rfl (by kernel_rfl) (by kernel_rfl) (by kernel_rfl) (fun _ _ _ h => h) (Or.inl ⟨by rfl, ?_⟩) hH ?_
      rotate_left 1
      · intro W hSw
        (try dsimp only at hSw)
        go_simp
        (try with_reducible rfl)
      try simp only [Act.put, List.setIfInBounds_toArray, List.set_cons_zero, List.set_cons_succ]
      refine wpAnyH_take (i := 7) (oi := { dst := some 49, op := _, type := _, pos := _, after := _, guard := _ }) (v := ?_) rfl (by kernel_rfl) (by kernel_rfl) (by kernel_rfl) (fun _ _ _ h => h) (Or.inl ⟨by rfl, ?_⟩) hH ?_
      rotate_left 1
      · intro W hSw
        (try dsimp only at hSw)
        go_simp
        (try with_reducible rfl)
      try simp only [Act.put, List.setIfInBounds_toArray, List.set_cons_zero, List.set_cons_succ]
      refine wpAnyH_take (i := 8) (oi := { dst := some 50, op := _, type := _, pos := _, after := _, guard := _ }) (v := ?_) rfl (by kernel_rfl) (by kernel_rfl) (by kernel_rfl) (fun _ _ _ h => h) (Or.inl ⟨by rfl, ?_⟩) hH ?_
      rotate_left 1
      · intro W hSw
        (try dsimp only at hSw)
        go_simp
        (try with_reducible rfl)
      try simp only [Act.put, List.setIfInBounds_toArray, List.set_cons_zero, List.set_cons_succ]
      refine wpAnyH_take (i := 9) (oi := { dst := some 51, op := _, type := _, pos := _, after := _, guard := _ }) (v := ?_) rfl (by kernel_rfl) (by kernel_rfl) (by kernel_rfl) (fun _ _ _ h => h) (Or.inl ⟨by rfl, ?_⟩) hH ?_
      rotate_left 1
      · intro W hSw
        (try dsimp only at hSw)
        go_simp
        (try with_reducible rfl)
      try simp only [Act.put, List.setIfInBounds_toArray, List.set_cons_zero, List.set_cons_succ]
      refine wpAnyH_take (i := 10) (oi := { dst := some 52, op := _, type := _, pos := _, after := _, guard := _ }) (v := ?_) rfl (by kernel_rfl) (by kernel_rfl) (by kernel_rfl) (fun _ _ _ h => h) (Or.inl ⟨by rfl, ?_⟩) hH ?_
      rotate_left 1
      · intro W hSw
        (try dsimp only at hSw)
        go_simp
        (try with_reducible rfl)
      try simp only [Act.put, List.setIfInBounds_toArray, List.set_cons_zero, List.set_cons_succ]
      refine wpAnyH_take (i := 11) (oi := { dst := some 53, op := _, type := _, pos := _, after := _, guard := _ }) (v := ?_) rfl (by kernel_rfl) (by kernel_rfl) (by kernel_rfl) (fun _ _ _ h => h) (Or.inl ⟨by rfl, ?_⟩) hH ?_
      rotate_left 1
      · intro W hSw
        (try dsimp only at hSw)
        go_simp
        (try with_reducible rfl)
      try simp only [Act.put, List.setIfInBounds_toArray, List.set_cons_zero, List.set_cons_succ]
      refine wpAnyH_take (i := 12) (oi := { dst := some 54, op := _, type := _, pos := _, after := _, guard := _ }) (v := ?_) rfl (by kernel_rfl) (by kernel_rfl) (by kernel_rfl) (fun _ _ _ h => h) (Or.inl ⟨by rfl, ?_⟩) hH ?_
      rotate_left 1
      · intro W hSw
        (try dsimp only at hSw)
        go_simp
        (try with_reducible rfl)
      try simp only [Act.put, List.setIfInBounds_toArray, List.set_cons_zero, List.set_cons_succ]
      refine wpAnyH_take (i := 13) (oi := { dst := some 55, op := _, type := _, pos := _, after := _, guard := _ }) (v := ?_) rfl (by kernel_rfl) (by kernel_rfl) (by kernel_rfl) (fun _ _ _ h => h) (Or.inl ⟨by rfl, ?_⟩) hH ?_
      rotate_left 1
      · intro W hSw
        (try dsimp only at hSw)
        go_simp
        (try with_reducible rfl)
      try simp only [Act.put, List.setIfInBounds_toArray, List.set_cons_zero, List.set_cons_succ]
      refine wpAnyH_take (i := 14) (oi := { dst := some 56, op := _, type := _, pos := _, after := _, guard := _ }) (v := ?_) rfl (by kernel_rfl) (by kernel_rfl) (by kernel_rfl) (fun _ _ _ h => h) (Or.inl ⟨by rfl, ?_⟩) hH ?_
      rotate_left 1
      · intro W hSw
        (try dsimp only at hSw)
        go_simp
        (try with_reducible rfl)
      try simp only [Act.put, List.setIfInBounds_toArray, List.set_cons_zero, List.set_cons_succ]
      refine wpAnyH_take (i := 15) (oi := { dst := some 57, op := _, type := _, pos := _, after := _, guard := _ }) (v := ?_) rfl (by kernel_rfl) (by kernel_rfl) (by kernel_rfl) (fun _ _ _ h => h) (Or.inl ⟨by rfl, ?_⟩) hH ?_
      rotate_left 1
      · intro W hSw
        (try dsimp only at hSw)
        go_simp
        (try with_reducible rfl)
      try simp only [Act.put, List.setIfInBounds_toArray, List.set_cons_zero, List.set_cons_succ]
      refine wpAnyH_take (i := 16) (oi := { dst := some 58, op := _, type := _, pos := _, after := _, guard := _ }) (v := ?_) rfl (by kernel_rfl) (by kernel_rfl) (by kernel_rfl) (fun _ _ _ h => h) (Or.inl ⟨by rfl, ?_⟩) hH ?_
      rotate_left 1
      · intro W hSw
        (try dsimp only at hSw)
        go_simp
        (try with_reducible rfl)
      try simp only [Act.put, List.setIfInBounds_toArray, List.set_cons_zero, List.set_cons_succ]
      refine wpAnyH_take (i := 17) (oi := { dst := some 59, op := _, type := _, pos := _, after := _, guard := _ }) (v := ?_) rfl (by kernel_rfl) (by kernel_rfl) (by kernel_rfl) (fun _ _ _ h => h) (Or.inl ⟨by rfl, ?_⟩) hH ?_
      rotate_left 1
      · intro W hSw
        (try dsimp only at hSw)
        go_simp
        (try with_reducible rfl)
      try simp only [Act.put, List.setIfInBounds_toArray, List.set_cons_zero, List.set_cons_succ]
      refine wpAnyH_take (i := 18) (oi := { dst := some 60, op := _, type := _, pos := _, after := _, guard := _ }) (v := ?_) rfl (by kernel_rfl) (by kernel_rfl) (by kernel_rfl) (fun _ _ _ h => h) (Or.inl ⟨by rfl, ?_⟩) hH ?_
      rotate_left 1
      · intro W hSw
        (try dsimp only at hSw)
        go_simp
        (try with_reducible rfl)
      try simp only [Act.put, List.setIfInBounds_toArray, List.set_cons_zero, List.set_cons_succ]
      refine wpAnyH_take (i := 19) (oi := { dst := some 61, op := _, type := _, pos := _, after := _, guard := _ }) (v := ?_) rfl (by kernel_rfl) (by kernel_rfl) (by kernel_rfl) (fun _ _ _ h => h) (Or.inl ⟨by rfl, ?_⟩) hH ?_
      rotate_left 1
      · intro W hSw
        (try dsimp only at hSw)
        go_simp
        (try with_reducible rfl)
      try simp only [Act.put, List.setIfInBounds_toArray, List.set_cons_zero, List.set_cons_succ]
      refine wpAnyH_take (i := 20) (oi := { dst := some 62, op := _, type := _, pos := _, after := _, guard := _ }) (v := ?_) rfl (by kernel_rfl) (by kernel_rfl) (by kernel_rfl) (fun _ _ _ h => h) (Or.inl ⟨by rfl, ?_⟩) hH ?_
      rotate_left 1
      · intro W hSw
        (try dsimp only at hSw)
        go_simp
        (try with_reducible rfl)
      try simp only [Act.put, List.setIfInBounds_toArray, List.set_cons_zero, List.set_cons_succ]
      refine wpAnyH_take (i := 21) (oi := { dst := some 63, op := _, type := _, pos := _, after := _, guard := _ }) (v := ?_) rfl (by kernel_rfl) (by kernel_rfl) (by kernel_rfl) (fun _ _ _ h => h) (Or.inl ⟨by rfl, ?_⟩) hH ?_
      rotate_left 1
      · intro W hSw
        (try dsimp only at hSw)
        go_simp
        (try with_reducible rfl)
      try simp only [Act.put, List.setIfInBounds_toArray, List.set_cons_zero, List.set_cons_succ]
      refine wpAnyH_ready (rs := [22]) (by kernel_rfl) (by simp) (AllReadyH.cons rfl (fun K hK => ?_) AllReadyH.nil)
      go_simp
      go_at_call 8; ((with_reducible refine (rigsL _ _ _ _ _ _ _ zs _ hl hq9 ((Y.out.below hH.2.2.2.2.2.2.2.2.2.2.2.2.2.2.2.2).more hH.2.2.2.2.2.2.2.2.2.2.2.2.2.2.2.2.size) ((Z.out.below hH.2.2.2.2.2.2.2.2.2.2.2.2.2.2.2.2).more hH.2.2.2.2.2.2.2.2.2.2.2.2.2.2.2.2.size)).mono ?_); rintro e9 r2 ⟨rfl, hb8⟩); go_wp2_with fail
      refine hK.out _ _ ?_ (fun hG => ?_)
      · exact ⟨cell_below hb8 hH.1, cell_below hb8 hH.2.1, cell_below hb8 hH.2.2.1, cell_below hb8 hH.2.2.2.1, cell_below hb8 hH.2.2.2.2.1, cell_below hb8 hH.2.2.2.2.2.1, cell_below hb8 hH.2.2.2.2.2.2.1, cell_below hb8 hH.2.2.2.2.2.2.2.1, cell_below hb8 hH.2.2.2.2.2.2.2.2.1, cell_below hb8 hH.2.2.2.2.2.2.2.2.2.1, cell_below hb8 hH.2.2.2.2.2.2.2.2.2.2.1, cell_below hb8 hH.2.2.2.2.2.2.2.2.2.2.2.1, cell_below hb8 hH.2.2.2.2.2.2.2.2.2.2.2.2.1, cell_below hb8 hH.2.2.2.2.2.2.2.2.2.2.2.2.2.1, cell_below hb8 hH.2.2.2.2.2.2.2.2.2.2.2.2.2.2.1, cell_below hb8 hH.2.2.2.2.2.2.2.2.2.2.2.2.2.2.2.1, hH.2.2.2.2.2.2.2.2.2.2.2.2.2.2.2.2.trans (hb8.mono hH.2.2.2.2.2.2.2.2.2.2.2.2.2.2.2.2.size)⟩
      replace hH := hG
      clear hK K hG
      try simp only [Act.put, List.setIfInBounds_toArray, List.set_cons_zero, List.set_cons_succ]
      refine wpAnyH_take (i := 23) (oi := { dst := some 65, op := _, type := _, pos := _, after := _, guard := _ }) (v := ?_) rfl (by kernel_rfl) (by kernel_rfl) (by kernel_rfl) (fun _ _ _ h => h) (Or.inl ⟨by rfl, ?_⟩) hH ?_
      rotate_left 1
      · intro W hSw
        (try dsimp only at hSw)
        go_simp
        (try with_reducible rfl)
      try simp only [Act.put, List.setIfInBounds_toArray, List.set_cons_zero, List.set_cons_succ]
      refine wpAnyH_take (i := 24) (oi := { dst := some 66, op := _, type := _, pos := _, after := _, guard := _ }) (v := ?_) rfl (by kernel_rfl) (by kernel_rfl) (by kernel_rfl) (fun _ _ _ h => h) (Or.inl ⟨by rfl, ?_⟩) hH ?_
      rotate_left 1
      · intro W hSw
        (try dsimp only at hSw)
        go_simp
        (try with_reducible rfl)
      try simp only [Act.put, List.setIfInBounds_toArray, List.set_cons_zero, List.set_cons_succ]
      refine wpAnyH_done (by kernel_rfl) ?_ _
      refine NoPanic.normal ?_
      have hb := hH.2.2.2.2.2.2.2.2.2.2.2.2.2.2.2.2
      clear hH a0 a1 a2 a3 a4 a5 a6 a7 EQ hki hk0 hkn Y Z X
      clear x0 x1 x2 x3 x4 x5 x6 x7
      have BBn := Lib.hid (BB.out.trans (hb.mono BB.out.size))
      have Mn := Lib.hid ((M.out.below hb).more hb.size)
      clear hb BB M
      have BB := BBn
      have M := Mn
      clear BBn Mn
      go_wp2_with fail
      go_loopw [10] (fun i wr => ∃ j : Nat, j ≤ p ∧ i = .int .i64 j ∧ Hid (Below w.heap.size w wr) ∧ Hid (Rd wr wr.heap.size (some ⟨gM, oM, none⟩) (dls L))) (fun i _ => p - (intOf i).toNat)
      case atStart => exact ⟨0, Nat.zero_le _, rfl, BB, M⟩
      case round =>
        clear BB M
        obtain ⟨j, hj, rfl, BB, M⟩ := hrel
        by_cases hlt : j < p
        · obtain ⟨d, hd⟩ : ∃ d, L[j]? = some d := ⟨_, List.getElem?_eq_getElem (by rw [PL.out]; exact hlt)⟩
          have HDJ := Lib.hid hd
          obtain ⟨c0, _, _⟩ := dcells M.out rfl hd
          have hji : (j : Int) < (p : Int) := by omega
          have MGo := may_go HRL.out hd
          obtain ⟨n9, hn9⟩ : ∃ n, (olV L d.nm L).length = n := ⟨_, rfl⟩
          have C1 := CX.out gM oM cM d.nm
          have C2 := CO.out gM oM cM d.nm
          rw [MGo, hn9] at C1
          rw [hn9] at C2
          have C1 := Lib.hid C1
          have C2 := Lib.hid C2
          clear hd MGo hn9
          go_wp2_with fail
          refine (C1.out _ M.out).mono ?_
          rintro e9 w6 ⟨g6, o6, c6, n6, rfl, hb⟩
          clear c0
          have BBn := Lib.hid (BB.out.trans (hb.mono BB.out.size))
          have Mn := Lib.hid ((M.out.below hb).more hb.size)
          clear hb BB M
          have BB := BBn
          have M := Mn
          clear BBn Mn
          obtain ⟨c0, _, _⟩ := dcells M.out rfl HDJ.out
          by_cases h0 : n9 = 0
          · have e1 : decide (n9 = 0) = true := decide_eq_true h0
            have e2 : ((n9 : Int) == 0) = true := by simp [h0]
            rw [e1]
            clear h0 e1
            go_wp2_with fail
            refine (C2.out _ M.out).mono ?_
            rintro e9 w7 ⟨g7, c7, rfl, hb⟩
            clear c0
            have BBn := Lib.hid (BB.out.trans (hb.mono BB.out.size))
            have Mn := Lib.hid ((M.out.below hb).more hb.size)
            clear hb BB M
            have BB := BBn
            have M := Mn
            clear BBn Mn
            go_wp2_with fail
            go_roundw
            case rel => first | exact ⟨j + 1, by omega, by go_num, BB, M⟩ | ((repeat apply Exists.intro); exact ⟨⟨j + 1, by omega, by go_num, BB, M⟩, rfl⟩)
            case measure => simp [intOf]; omega
          · have e1 : decide (n9 = 0) = false := decide_eq_false h0
            have e2 : ((n9 : Int) == 0) = false := by simp; omega
            rw [e1]
            clear e1
            go_wp2_with fail
            refine (C2.out _ M.out).mono ?_
            rintro e9 w7 ⟨g7, c7, rfl, hb⟩
            clear c0
            have BBn := Lib.hid (BB.out.trans (hb.mono BB.out.size))
            have Mn := Lib.hid ((M.out.below hb).more hb.size)
            clear hb BB M
            have BB := BBn
            have M := Mn
            clear BBn Mn
            go_wp2_with fail
            go_roundw
            case rel => first | exact ⟨j + 1, by omega, by go_num, BB, M⟩ | ((repeat apply Exists.intro); exact ⟨⟨j + 1, by omega, by go_num, BB, M⟩, rfl⟩)
            case measure => simp [intOf]; omega
        · obtain rfl : j = p := by omega
          go_wp2_with fail
          go_ret
          exact ⟨rfl, BB.out⟩
  · have hd : decide (4096 < n) = true := decide_eq_true (by omega)
    clear hn hm hr
    go_enter Try.func3, Try.ntmps3
    go_wp2_with (go_at_call 5; go_enter Try.func5, Try.ntmps5)
    go_returns
    exact ⟨rfl, Below.refl _ _⟩

set_option maxRecDepth 100000 in
theorem lifted (os : Os) (started : os.Started) (H : Type) (enc : TypeId × Value → H) :
    ReturnsInHanded {} Try.checked os 3 .any (Rows.fnRigSpec.pre6 enc Try.prog Try.f3 Rows.fnRigRow.domain false) (Rows.fnRigSpec.post enc Try.prog Try.f3 false true false false) := by
  refine returnsInHanded_of_change (C := Try.checked) own started (by kernel_rfl) Try.func3
    (ChangeSpec.witness6 (enc := enc) (C := Try.checked) false ⟨#[], #[.slice none 0 0], []⟩ 8 (by kernel_rfl) (by kernel_rfl) (by kernel_rfl) (by kernel_rfl)) ?_
  intro W base args ds gs before hval0 hW hcnd hsz
  have hval : ∀ (j : Nat) t v, Try.f3.params[j]? = some t → args[j]? = some v → Value.okWide Try.prog W .any base t v := hval0
  have hW' := hW
  obtain ⟨p, q, hA0, hV, rfl, hfz, hnd⟩ := hW
  have hA1 := hA0
  have hA : DataW.TrodAll enc Try.prog W 0 (fun _ => true) true Try.f3.params.toList args.toList ds p := hA0
  rw [Try.params3] at hA hval
  obtain ⟨v0, vs0, d0, ds0, p0, q0, hargs, rfl, rfl, h0, r0⟩ := trodAll_cons hA
  obtain ⟨rfl, rfl, rfl⟩ := trodAll_nil r0
  obtain rfl : args = #[v0] := by cases args; simp_all
  obtain ⟨rfl, rfl⟩ := trodVars_none hV
  obtain ⟨A0, n0, c0, a0, rfl, l0, m0, g0⟩ := RampFn.take_bytes Try.underlying22 Try.underlying5 (by kernel_rfl) (hval 0 22 v0 rfl rfl) h0
  clear hA0 hval0
  rw [List.append_nil] at hW'
  refine (walk A0 n0 c0 a0 l0 m0 W g0).mono fun e W' ⟨he, hb⟩ => ?_
  subst he
  exact ⟨_, rfl, post_law rfl hW' hA1 laidOut (by rw [Try.params3]; exact of_decide_eq_true (by kernel_rfl)) 4 (by kernel_rfl) Try.underlying4 rfl hb⟩

theorem over : Rows.fnRigRow.holds Try.pinned (OpenSpec.ofChange Rows.fnRigSpec) :=
  OpenClaim.holds_of_wide 3 Try.f3 rfl rfl rfl rfl rfl rfl rfl ⟨rfl, rfl, rfl, rfl, rfl⟩ rfl rfl rfl rfl rfl (by kernel_rfl) Try.func3 (by kernel_rfl)
    (of_decide_eq_true (by kernel_rfl)) (by unfold Func.isWrapper; first | (rw [if_pos (by decide +kernel)]; kernel_rfl) | (rw [if_neg (by decide +kernel)]; exact ⟨rfl, rfl⟩))
    (fun os started H enc _ => lifted os started H enc)

/-- The statement. -/
theorem proved : Rows.FnRigSaid :=
  over
#print axioms proved
end Go.Proofs.Ytgcheplneolonab.fnRig
