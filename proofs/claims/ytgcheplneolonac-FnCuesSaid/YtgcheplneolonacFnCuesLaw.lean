/- The law FnCues holds at every input. The step from the walk to the row follows the guide's own template. -/
import Derived.Test.YtgcheplneolonacMem
import Derived.Test.YtgcheplneolonacDr7c
import Derived.Test.YtgcheplneolonacFc7
import Derived.Test.YtgcheplneolonacMi7
import Derived.Test.YtgcheplneolonacVi7
import Derived.Test.YtgcheplneolonacSi7
import Derived.Test.YtgcheplneolonacLc7
import Derived.Test.YtgcheplneolonacTakeC
import Derived.Deep.RegionHeld3
import Derived.BigQuiet
namespace Go.Proofs.Ytgcheplneolonac.fnCues
open Go.ChangeShapes Go.WideShapes Go.ChangeAt Go.RowKit Go.WideMaps Go.WideElems Go.Proofs.Ytgcheplneolonac.Mem
open Go.ChangeMaps (open_string shut_string)
set_option linter.unusedVariables false
set_option linter.unusedSimpArgs false

theorem own : ownKnob Try.prog.godebug = none := by kernel_rfl
theorem laidOut : laidOutB Try.prog = true := by kernel_rfl

open Go.Proofs.Ytgcheplneolonac.Rw Go.Proofs.Ytgcheplneolonac.Cd Go.Proofs.Ytgcheplneolonac.Cl Go.Proofs.Ytgcheplneolonac.Cs Go.Proofs.Ytgcheplneolonac.Sd Go.Proofs.Ytgcheplneolonac.Oc Go.Proofs.Ytgcheplneolonac.Cq Go.Proofs.Ytgcheplneolonac.Ac Go.Proofs.Ytgcheplneolonac.Vd7 Go.Proofs.Ytgcheplneolonac.Fc7 Go.Proofs.Ytgcheplneolonac.P2 
open Go.Proofs.Ytgcheplneolonac.Rw (owns_below owns_grown owns_base)

set_option maxHeartbeats 4000000 in
set_option maxRecDepth 100000 in
theorem walk (A : Option Addr) (n c : Nat) (bs : List UInt8) (hn : bs.length = n) (hm : n ≤ maxLen) (w : World) (hr : Rd w w.heap.size A (Draw.u8s bs)) :
    Calls Try.prog 3 #[.slice A n c] w fun e w' => e = .returned (.bool true) ∧ Below w.heap.size w w' := by
  have hu : undef = Value.tuple #[] := rfl
  by_cases hbig : (n : Int) ≤ 4096
  · have D := Lib.hid (Dr7.drawAdd w A n c bs hn (by omega) hr)
    clear hm
    go_enter Try.func3, Try.ntmps3
    go_wp2_with (go_at_call 5; go_enter Try.func5, Try.ntmps5)
    refine D.out.mono ?_
    rintro e wd0 ⟨zs, q, gZ, oZ, cZ, t, sx, l, r, hl, hsh, hsx, rfl, hR, hB⟩
    have BB := Lib.hid hB
    have Z := Lib.hid hR
    have hq16 : q ≤ 16 := by have := hsh.1; omega
    have hq9 : q ≤ 1048576 := by omega
    have hsz := hsh.sizes
    have X := Lib.hid (Dr7.Bc.new wd0 t sx l r)
    have hb : Below wd0.heap.size wd0 (wd0.alloc (.cells (ca t sx l r) 26)) := (Below.refl _ _).alloc (Nat.le_refl _) _
    have BBn := Lib.hid (BB.out.trans (hb.mono BB.out.size))
    have Zn := Lib.hid ((Z.out.below hb).more hb.size)
    clear hb BB Z
    have BB := BBn
    have Z := Zn
    clear BBn Zn
    generalize hxb : wd0.heap.size = xb at *
    have hxlt : xb < (wd0.alloc (.cells (ca t sx l r) 26)).heap.size := by rw [← hxb]; simp
    clear hbig hR hB hn hr D
    obtain ⟨x0, x1, x2, x3⟩ := X.out.c
    obtain ⟨ag, hag⟩ : ∃ b, addG zs ⟨t, sx, l, r⟩ = b := ⟨_, rfl⟩
    obtain ⟨L, hL⟩ : ∃ L, addL zs ⟨t, sx, l, r⟩ = L := ⟨_, rfl⟩
    obtain ⟨p, hp⟩ : ∃ p, L.length = p := ⟨_, rfl⟩
    have CA := Lib.hid (show ∀ (W : World) (h : Rd W W.heap.size (some ⟨gZ, oZ, none⟩) (dls zs)), Calls Try.prog 7 #[.slice (some ⟨gZ, oZ, none⟩) q cZ, va t sx l r] W (fun e w' => ∃ g o c : Nat, e = .returned (.tuple #[.slice (some ⟨g, o, none⟩) p c, .bool ag]) ∧ Rd w' w'.heap.size (some ⟨g, o, none⟩) (dls L) ∧ Below W.heap.size W w') from fun W h =>
      (Mi7.addI ⟨gZ, oZ, none⟩ q cZ zs t sx l r W hl hq9 h).mono fun e w' ⟨g, c, h1, h2, h3⟩ => by rw [hag, hL, hp] at h1; rw [hL, hp] at h2; exact ⟨g, 0, c, h1, Rd.own h2, h3⟩)
    cases ag
    · have hLz : L = zs := by rw [← hL]; exact addL_no hag
      subst hLz
      obtain rfl : q = p := by omega
      go_wp2_with fail
      (try rw [hxb])
      refine (CA.out _ Z.out).mono ?_
      rintro e9 w2 ⟨gM, oM, cM, rfl, hM, hb⟩
      have M := Lib.hid hM
      clear hM x0 x1 x2 x3
      have BBn := Lib.hid (BB.out.trans (hb.mono BB.out.size))
      have Zn := Lib.hid ((Z.out.below hb).more hb.size)
      clear hb BB Z
      have BB := BBn
      have Z := Zn
      clear BBn Zn
      go_wp2_with fail
      refine (Lc7.cuesL _ _ _ _ _ L w2.heap.size _ hl hq9 Z.out M.out).mono ?_
      rintro e9 w3 ⟨rfl, hb⟩
      have BBn := Lib.hid (BB.out.trans (hb.mono BB.out.size))
      go_wp2_with fail
      go_ret
      exact ⟨rfl, BBn.out⟩
    · obtain ⟨hs, hf, hsc, hrg, hrl⟩ := added hag
      have hLi : insC zs ⟨t, sx, l, r⟩ = L := by rw [← hL]; exact (addL_yes hag).symm
      rw [hLi] at hsc hrg hrl
      have ho := (score_set.1 (score_of hs)).2.1
      obtain ⟨fr, hfr⟩ : ∃ k, front zs ⟨t, sx, l, r⟩ = k := ⟨_, rfl⟩
      have hfl : fr < p := by have h1 := front_le zs ⟨t, sx, l, r⟩; have h2 := ins_len zs ⟨t, sx, l, r⟩; rw [hLi, hp] at h2; omega
      have ST := Lib.hid (fun (j : Nat) (d : C) (hd : L[j]? = some d) => (by rw [← hLi] at hd; have := stands ho hf hd; rw [hfr] at this; exact this : eqB d.tk d.nm d.lv d.rp t sx l r = decide (j = fr)))
      have hp9 : p ≤ 1048576 := by have h2 := ins_len zs ⟨t, sx, l, r⟩; rw [hLi, hp] at h2; omega
      have PL := Lib.hid hp
      have CI := Lib.hid (show ∀ (g o c : Nat) (W : World) (h : Rd W W.heap.size (some ⟨g, o, none⟩) (dls L)), Calls Try.prog 10 #[.slice (some ⟨g, o, none⟩) p c] W (fun e w' => e = .returned (.bool true) ∧ Below W.heap.size W w') from fun g o c W h => by
        have := Si7.scoreI (some ⟨g, o, none⟩) p c L W hp hp9 h
        rw [hsc] at this; exact this)
      have CR := Lib.hid (show ∀ (g o c : Nat) (W : World) (h : Rd W W.heap.size (some ⟨g, o, none⟩) (dls L)), Calls Try.prog 9 #[.slice (some ⟨g, o, none⟩) p c, .int .i64 t, .string sx] W (fun e w' => ∃ g o c : Nat, e = .returned (.tuple #[.slice (some ⟨g, o, none⟩) q c, .bool true]) ∧ Rd w' w'.heap.size (some ⟨g, o, none⟩) (dls zs) ∧ Below W.heap.size W w') from fun g o c W h =>
        (Vi7.removeI ⟨g, o, none⟩ p c L t sx W hp hp9 h).mono fun e w' ⟨g, c, h1, h2, h3⟩ => by rw [hrg, hrl, hl] at h1; rw [hrl, hl] at h2; exact ⟨g, 0, c, h1, Rd.own h2, h3⟩)
      clear hs hf hsc hrg hrl ho hfr hLi hL hp
      go_wp2_with fail
      (try rw [hxb])
      refine (CA.out _ Z.out).mono ?_
      rintro e9 w2 ⟨gM, oM, cM, rfl, hM, hb⟩
      have M := Lib.hid hM
      have Xn := Lib.hid (X.out.below hb X.out.lt)
      clear hM x0 x1 x2 x3 X CA hxlt hxb
      have X := Xn
      clear Xn
      have BBn := Lib.hid (BB.out.trans (hb.mono BB.out.size))
      have Zn := Lib.hid ((Z.out.below hb).more hb.size)
      clear hb BB Z
      have BB := BBn
      have Z := Zn
      clear BBn Zn
      go_wp2_with fail
      obtain ⟨wo, rfl⟩ : ∃ wo, wo = w2 := ⟨_, rfl⟩
      go_loopw [7, 8] (fun nv i wr => ∃ k m9 m : Nat, k ≤ p ∧ i = .int .i64 k ∧ nv = .int .i64 m ∧ Hid (m = if fr < k then 1 else 0) ∧ m ≤ k ∧ wr = wo.drewN m9) (fun _ i _ => p - (intOf i).toNat)
      case atStart => exact ⟨0, 0, 0, Nat.zero_le _, rfl, rfl, Lib.hid rfl, Nat.le_refl _, rfl⟩
      case round =>
        obtain ⟨k, m9, m, hk, rfl, rfl, HM, hmk, rfl⟩ := hrel
        by_cases hlt : k < p
        · obtain ⟨d, hd⟩ : ∃ d, L[k]? = some d := ⟨_, List.getElem?_eq_getElem (by rw [PL.out]; exact hlt)⟩
          have hst := ST.out k d hd
          obtain ⟨dt, ds, dl, dr⟩ := d
          obtain ⟨z0, z1, z2, z3⟩ := dls_get hd
          obtain ⟨b1, o1, eA, _, g1⟩ := M.out.get (k := k * 4) (by rw [dls_len, PL.out]; omega)
          obtain ⟨rfl, rfl⟩ : gM = b1 ∧ oM = o1 := by cases eA; exact ⟨rfl, rfl⟩
          have c0 : wo.cell? ⟨gM, oM + k * 4, none⟩ = some (.int .i64 dt) := g1 _ _ z0
          have c1 : wo.cell? ⟨gM, oM + k * 4 + 1, none⟩ = some (.string ds) := g1 _ _ z1
          have c2 : wo.cell? ⟨gM, oM + k * 4 + 2, none⟩ = some (.int .i64 dl) := g1 _ _ z2
          have c3 : wo.cell? ⟨gM, oM + k * 4 + 3, none⟩ = some (.int .i64 dr) := g1 _ _ z3
          obtain ⟨x0, x1, x2, x3⟩ := X.out.c
          have hki : (k : Int) < (p : Int) := by omega
          have EQ := eqv dt ds dl dr t sx l r
          rw [show eqB dt ds dl dr t sx l r = decide (k = fr) from hst] at EQ
          clear g1 z0 z1 z2 z3 hd hst eA
          by_cases hkf : k = fr
          · rw [decide_eq_true hkf] at EQ
            have H2 := Lib.hid (show m + 1 = if fr < k + 1 then 1 else 0 by have := HM.out; rw [if_neg (by omega)] at this; rw [if_pos (by omega)]; omega)
            clear hkf
            go_wp2_with fail
            go_quiet (fail)
            go_wp2_with fail
            go_roundw
            case rel => exact ⟨k + 1, _, m + 1, by omega, by go_num, by go_num, H2, by omega, rfl⟩
            case measure => simp [intOf]; omega
          · rw [decide_eq_false hkf] at EQ
            have H2 := Lib.hid (show m = if fr < k + 1 then 1 else 0 by have := HM.out; split at this <;> split <;> omega)
            clear hkf
            go_wp2_with fail
            go_quiet (fail)
            go_wp2_with fail
            go_roundw
            case rel => exact ⟨k + 1, _, m, by omega, by go_num, rfl, H2, by omega, rfl⟩
            case measure => simp [intOf]; omega
        · obtain rfl : k = p := by omega
          obtain rfl : m = 1 := by have := HM.out; rw [if_pos hfl] at this; exact this
          obtain ⟨x0, x1, x2, x3⟩ := (show Dr7.Bc (wo.drewN m9) xb ⟨t, sx, l, r⟩ from X.out).c
          have hb := below_drewN (Below.refl wo.heap.size wo) m9
          have BBn := Lib.hid (BB.out.trans (hb.mono BB.out.size))
          have Zn := Lib.hid ((Z.out.below hb).more hb.size)
          have Mn := Lib.hid ((M.out.below hb).more hb.size)
          clear hb BB Z M
          have BB := BBn
          have Z := Zn
          have M := Mn
          clear BBn Zn Mn
          generalize wo.drewN m9 = W5 at *
          go_wp2_with fail
          refine (CR.out _ _ _ _ M.out).mono ?_
          rintro e9 w6 ⟨gY, oY, cY, rfl, hY, hb⟩
          have Y := Lib.hid hY
          clear hY x0 x1 x2 x3 X
          have BBn := Lib.hid (BB.out.trans (hb.mono BB.out.size))
          have Zn := Lib.hid ((Z.out.below hb).more hb.size)
          have Mn := Lib.hid ((M.out.below hb).more hb.size)
          clear hb BB Z M
          have BB := BBn
          have Z := Zn
          have M := Mn
          clear BBn Zn Mn
          go_wp2_with fail
          refine (CI.out _ _ _ _ M.out).mono ?_
          rintro e9 w7 ⟨rfl, hb⟩
          have BBn := Lib.hid (BB.out.trans (hb.mono BB.out.size))
          have Zn := Lib.hid ((Z.out.below hb).more hb.size)
          have Mn := Lib.hid ((M.out.below hb).more hb.size)
          have Yn := Lib.hid ((Y.out.below hb).more hb.size)
          clear hb BB Z M Y
          have BB := BBn
          have Z := Zn
          have M := Mn
          have Y := Yn
          clear BBn Zn Mn Yn
          go_wp2_with fail
          refine (Lc7.cuesL _ _ _ _ _ zs w7.heap.size _ hl hq9 Y.out Z.out).mono ?_
          rintro e9 w8 ⟨rfl, hb⟩
          have BBn := Lib.hid (BB.out.trans (hb.mono BB.out.size))
          go_wp2_with fail
          go_ret
          exact ⟨rfl, BBn.out⟩
  · have hd : decide (4096 < n) = true := decide_eq_true (by omega)
    clear hn hm hr
    go_enter Try.func3, Try.ntmps3
    go_wp2_with (go_at_call 5; go_enter Try.func5, Try.ntmps5)
    go_returns
    exact ⟨rfl, Below.refl _ _⟩

set_option maxRecDepth 100000 in
theorem lifted (os : Os) (started : os.Started) (H : Type) (enc : TypeId × Value → H) :
    ReturnsInHanded {} Try.checked os 3 .any (Rows.fnCuesSpec.pre6 enc Try.prog Try.f3 Rows.fnCuesRow.domain false) (Rows.fnCuesSpec.post enc Try.prog Try.f3 false true false false) := by
  refine returnsInHanded_of_change (C := Try.checked) own started (by kernel_rfl) Try.func3
    (ChangeSpec.witness6 (enc := enc) (C := Try.checked) false ⟨#[], #[.slice none 0 0], []⟩ 8 (by kernel_rfl) (by kernel_rfl) (by kernel_rfl) (by kernel_rfl)) ?_
  intro W base args ds gs before hval0 hW hcnd hsz
  have hval : ∀ (j : Nat) t v, Try.f3.params[j]? = some t → args[j]? = some v → Value.okWide Try.prog W .any base t v := hval0
  have hW' := hW
  obtain ⟨p, q, hA0, hV, rfl, hfz, hnd⟩ := hW
  have hA1 := hA0
  have hA : DataW.TrodAll enc Try.prog W 0 (fun _ => true) true Try.f3.params.toList args.toList ds p := hA0
  rw [Try.params3] at hA hval
  obtain ⟨v0, vs0, d0, ds0, p0, q0, hargs, rfl, rfl, h0, r0⟩ := trodAll_cons hA
  obtain ⟨rfl, rfl, rfl⟩ := trodAll_nil r0
  obtain rfl : args = #[v0] := by cases args; simp_all
  obtain ⟨rfl, rfl⟩ := trodVars_none hV
  obtain ⟨A0, n0, c0, a0, rfl, l0, m0, g0⟩ := RampFn.take_bytes Try.underlying22 Try.underlying5 (by kernel_rfl) (hval 0 22 v0 rfl rfl) h0
  clear hA0 hval0
  rw [List.append_nil] at hW'
  refine (walk A0 n0 c0 a0 l0 m0 W g0).mono fun e W' ⟨he, hb⟩ => ?_
  subst he
  exact ⟨_, rfl, post_law rfl hW' hA1 laidOut (by rw [Try.params3]; exact of_decide_eq_true (by kernel_rfl)) 4 (by kernel_rfl) Try.underlying4 rfl hb⟩

theorem over : Rows.fnCuesRow.holds Try.pinned (OpenSpec.ofChange Rows.fnCuesSpec) :=
  OpenClaim.holds_of_wide 3 Try.f3 rfl rfl rfl rfl rfl rfl rfl ⟨rfl, rfl, rfl, rfl, rfl⟩ rfl rfl rfl rfl rfl (by kernel_rfl) Try.func3 (by kernel_rfl)
    (of_decide_eq_true (by kernel_rfl)) (by unfold Func.isWrapper; first | (rw [if_pos (by decide +kernel)]; kernel_rfl) | (rw [if_neg (by decide +kernel)]; exact ⟨rfl, rfl⟩))
    (fun os started H enc _ => lifted os started H enc)

/-- The statement. -/
theorem proved : Rows.FnCuesSaid :=
  over
#print axioms proved
end Go.Proofs.Ytgcheplneolonac.fnCues
