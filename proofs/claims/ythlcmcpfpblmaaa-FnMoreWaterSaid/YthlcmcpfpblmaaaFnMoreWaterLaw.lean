/- The law FnMoreWater holds at every input. The step from the walk to the row follows the guide's own template. -/
import Derived.Test.YthlcmcpfpblmaaaMem
import Derived.Test.YthlcmcpfpblmaaaInts
import Derived.Test.YthlcmcpfpblmaaaTakeD
import Derived.Test.YthlcmcpfpblmaaaWu
import Derived.Test.YthlcmcpfpblmaaaWf5
import Derived.Test.YthlcmcpfpblmaaaDn
import Derived.Test.YthlcmcpfpblmaaaDv
import Derived.Test.YthlcmcpfpblmaaaLe5
import Derived.BigRegion
namespace Go.Proofs.Ythlcmcpfpblmaaa.fnMoreWater
open Go.ChangeShapes Go.WideShapes Go.ChangeAt Go.RowKit Go.WideMaps Go.WideElems Go.Proofs.Ythlcmcpfpblmaaa.Mem
open Go.ChangeMaps (open_string shut_string)
set_option linter.unusedVariables false
set_option linter.unusedSimpArgs false

theorem own : ownKnob Try.prog.godebug = none := by kernel_rfl
theorem laidOut : laidOutB Try.prog = true := by kernel_rfl

open Go.Proofs.Ythlcmcpfpblmaaa.Rw Go.Proofs.Ythlcmcpfpblmaaa.Dm Go.Proofs.Ythlcmcpfpblmaaa.Dn Go.Proofs.Ythlcmcpfpblmaaa.Ws Go.Proofs.Ythlcmcpfpblmaaa.Wp Go.Proofs.Ythlcmcpfpblmaaa.Wq Go.Proofs.Ythlcmcpfpblmaaa.Wf5
open Go.Proofs.Ythlcmcpfpblmaaa.Draw (u8s)
open Go.Proofs.Ythlcmcpfpblmaaa.Dq (Drawn drawShare drawTurn)
open Go.Proofs.Ythlcmcpfpblmaaa.Dv (big total drawFair Drawn3)

set_option maxRecDepth 100000 in
set_option maxHeartbeats 4000000 in
theorem walk (A : Option Addr) (n c : Nat) (bs : List UInt8) (hn : bs.length = n) (hm : n ≤ maxLen) (w : World) (hr : Rd w w.heap.size A (u8s bs)) :
    Calls Try.prog 13 #[.slice A n c] w fun e w' => e = .returned (.bool true) ∧ Below w.heap.size w w' := by
  unfold maxLen at hm
  by_cases hlen : 4096 < n
  · go_enter Try.func13, Try.ntmps13
    go_wp2
    go_ret
    exact ⟨rfl, Below.refl _ _⟩
  · have hb : n ≤ 4096 := by omega
    have D := Lib.hid (drawShare w A n c bs hn hb hr)
    have hu : undef = Value.tuple #[] := rfl
    clear hn hr hlen hm
    go_enter Try.func13, Try.ntmps13
    go_wp2_with fail
    refine (big A n c _ hb).mono ?_
    rintro e w' ⟨rfl, rfl⟩
    clear hb
    go_wp2_with fail
    refine D.out.mono ?_
    rintro e wd0 ⟨s, zs, q, gZ, cZ, hl, hq, rfl, ho, hb⟩
    have Z := Lib.hid ho
    have BB := Lib.hid hb
    have ZL := Lib.hid hl
    clear ho hb hl D
    have hq2 : q ≤ 1048576 := by omega
    obtain ⟨b, hbd⟩ : ∃ b, dm zs = b := ⟨_, rfl⟩
    have DI := Lib.hid (fun (W : World) (h : Rd W W.heap.size (some ⟨gZ, 0, none⟩) (ints zs)) => demI_of hbd (some ⟨gZ, 0, none⟩) q cZ _ W ZL.out hq2 h)
    have DS := Lib.hid (fun (W : World) (h : Rd W W.heap.size (some ⟨gZ, 0, none⟩) (ints zs)) => demS_of hbd (some ⟨gZ, 0, none⟩) q cZ _ W ZL.out hq2 h)
    cases b
    · clear hbd
      go_wp2_with fail
      refine (DI.out _ (Rd.own Z.out)).mono ?_
      rintro e w' ⟨rfl, rfl⟩
      go_wp2_with fail
      refine (DS.out _ (Rd.own Z.out)).mono ?_
      rintro e w' ⟨rfl, rfl⟩
      go_wp2_with fail
      refine (DI.out _ (Rd.own Z.out)).mono ?_
      rintro e w' ⟨rfl, rfl⟩
      go_wp2_with fail
      go_ret
      exact ⟨rfl, BB.out⟩
    · have hd := hbd
      by_cases h0 : s < 0
      · have d1 : decide (s < 0) = true := decide_eq_true h0
        clear hbd hd h0
        go_wp2_with fail
        refine (DI.out _ (Rd.own Z.out)).mono ?_
        rintro e w' ⟨rfl, rfl⟩
        go_wp2_with fail
        refine (DS.out _ (Rd.own Z.out)).mono ?_
        rintro e w' ⟨rfl, rfl⟩
        go_wp2_with fail
        refine (DI.out _ (Rd.own Z.out)).mono ?_
        rintro e w' ⟨rfl, rfl⟩
        go_wp2_with fail
        go_ret
        exact ⟨rfl, BB.out⟩
      have d1 : decide (s < 0) = false := decide_eq_false h0
      by_cases h5 : 512 ≤ s
      · have d2 : decide (512 ≤ s) = true := decide_eq_true h5
        clear hbd hd h0
        go_wp2_with fail
        refine (DI.out _ (Rd.own Z.out)).mono ?_
        rintro e w' ⟨rfl, rfl⟩
        go_wp2_with fail
        refine (DS.out _ (Rd.own Z.out)).mono ?_
        rintro e w' ⟨rfl, rfl⟩
        go_wp2_with fail
        refine (DI.out _ (Rd.own Z.out)).mono ?_
        rintro e w' ⟨rfl, rfl⟩
        go_wp2_with fail
        go_ret
        exact ⟨rfl, BB.out⟩
      have d2 : decide (512 ≤ s) = false := decide_eq_false h5
      have h1 : 0 ≤ s := by omega
      have h2 : s < 512 := by omega
      obtain ⟨za, hza⟩ : ∃ z, share s zs = z := ⟨_, rfl⟩
      obtain ⟨zb, hzb⟩ : ∃ z, share (s + 1) zs = z := ⟨_, rfl⟩
      have FA := Lib.hid (share_facts (n := s) hd h1 (by omega))
      have FB := Lib.hid (share_facts (n := s + 1) hd (by omega) (by omega))
      have MO := Lib.hid (fun j a b => share_mono (n := s) (j := j) (a := a) (b := b) hd h1 h2)
      have ALL := Lib.hid (share_all (n := s) hd h1 (by omega))
      rw [hza] at FA MO ALL
      rw [hzb] at FB MO
      have LA := Lib.hid (show za.length = q by rw [FA.out.1, ZL.out])
      have LB := Lib.hid (show zb.length = q by rw [FB.out.1, ZL.out])
      have CA := Lib.hid (fun (W : World) (h : Rd W W.heap.size (some ⟨gZ, 0, none⟩) (ints zs)) => (by have := Wu.shareI (some ⟨gZ, 0, none⟩) q cZ zs s W ZL.out hq2 h; unfold RowI at this; rw [hza, LA.out] at this; exact this : Calls Try.prog 28 #[.int .i64 s, .slice (some ⟨gZ, 0, none⟩) q cZ] W _))
      have CB := Lib.hid (fun (W : World) (h : Rd W W.heap.size (some ⟨gZ, 0, none⟩) (ints zs)) => (by have := Wu.shareI (some ⟨gZ, 0, none⟩) q cZ zs (s + 1) W ZL.out hq2 h; unfold RowI at this; rw [hzb, LB.out] at this; exact this : Calls Try.prog 28 #[.int .i64 (s + 1), .slice (some ⟨gZ, 0, none⟩) q cZ] W _))
      have FT := Lib.hid (totB_yes hd)
      obtain ⟨x, hx⟩ : ∃ x, tot zs = x := ⟨_, rfl⟩
      rw [hx] at FT ALL
      clear hbd hd hza hzb h0 h5 hx
      go_wp2_with fail
      refine (DI.out _ (Rd.own Z.out)).mono ?_
      rintro e w' ⟨rfl, rfl⟩
      go_wp2_with fail
      refine (DS.out _ (Rd.own Z.out)).mono ?_
      rintro e w' ⟨rfl, rfl⟩
      go_wp2_with fail
      refine (DI.out _ (Rd.own Z.out)).mono ?_
      rintro e w' ⟨rfl, rfl⟩
      go_wp2_with fail
      refine (CA.out _ (Rd.own Z.out)).mono ?_
      rintro e wd1 ⟨gS, cS, rfl, ho, hb⟩
      have wlS : w.heap.size ≤ gS := Nat.le_trans BB.out.size (own_base ho gS rfl)
      have ne_Z_S : gZ < gS := Nat.lt_of_lt_of_le (Z.out.lt _ rfl).2 (own_base ho gS rfl)
      have XN := Lib.hid (owns_base ho wlS)
      clear ho
      have BB2 := Lib.hid (BB.out.trans (hb.mono BB.out.size))
      have Zn := Lib.hid (owns_below Z.out hb)
      clear hb BB Z
      have BB := BB2
      clear BB2
      have Z := Zn
      clear Zn
      have S := XN
      clear XN
      go_wp2_with fail
      refine (CB.out _ (Rd.own Z.out)).mono ?_
      rintro e wd2 ⟨gT, cT, rfl, ho, hb⟩
      have wlT : w.heap.size ≤ gT := Nat.le_trans BB.out.size (own_base ho gT rfl)
      have ne_Z_T : gZ < gT := Nat.lt_of_lt_of_le (Z.out.lt _ rfl).2 (own_base ho gT rfl)
      have ne_S_T : gS < gT := Nat.lt_of_lt_of_le (S.out.lt _ rfl).2 (own_base ho gT rfl)
      have XN := Lib.hid (owns_base ho wlT)
      clear ho
      have BB2 := Lib.hid (BB.out.trans (hb.mono BB.out.size))
      have Zn := Lib.hid (owns_below Z.out hb)
      have Sn := Lib.hid (owns_below S.out hb)
      clear hb BB Z S
      have BB := BB2
      clear BB2
      have Z := Zn
      clear Zn
      have S := Sn
      clear Sn
      have T := XN
      clear XN
      go_wp2_with fail
      have RS := Lib.hid (Rd.own S.out)
      have RT := Lib.hid (Rd.own T.out)
      have RZ := Lib.hid (Rd.own Z.out)
      clear DI DS CA CB d1 d2
      go_loopw [7] (fun i wr => ∃ k p : Nat, k ≤ q ∧ i = .int .i64 k ∧ wr = wd2.drewN p) (fun i _ => q - (intOf i).toNat)
      case atStart => exact ⟨0, 0, Nat.zero_le _, rfl, rfl⟩
      case round =>
        obtain ⟨k, p, hk, rfl, rfl⟩ := hrel
        by_cases hlt : k < q
        · obtain ⟨a, ha⟩ : ∃ z, za[k]? = some z := ⟨_, List.getElem?_eq_getElem (by rw [LA.out]; exact hlt)⟩
          obtain ⟨b, hb⟩ : ∃ z, zb[k]? = some z := ⟨_, List.getElem?_eq_getElem (by rw [LB.out]; exact hlt)⟩
          have hab := MO.out k a b ha hb
          obtain ⟨b2, o2, eb, hb2, a2⟩ := rd_cell RS.out ha
          obtain ⟨b3, o3, ec, hb3, a3⟩ := rd_cell RT.out hb
          injection eb with eb; injection eb with eb eo; subst eb eo
          injection ec with ec; injection ec with ec eo; subst ec eo
          have c2 : (wd2.drewN p).cell? ⟨gS, 0 + k, none⟩ = some (.int .i64 a) := a2
          have c3 : (wd2.drewN p).cell? ⟨gT, 0 + k, none⟩ = some (.int .i64 b) := a3
          have t1 : decide (b < a) = false := decide_eq_false (by omega)
          have k0 : (0 : Int) ≤ (k : Int) := by omega
          have k1 : (k : Int) < (q : Int) := by omega
          obtain ⟨W, hW⟩ : ∃ W, W = wd2.drewN p := ⟨_, rfl⟩
          rw [← hW] at c2 c3 ⊢
          rw [Nat.zero_add] at c2 c3
          have HW := Lib.hid hW
          clear ha hb hab hb2 hb3 a2 a3 hW
          go_wp2_with fail
          go_quiet (fail)
          go_wp2_with fail
          go_roundw
          case rel => exact ⟨k + 1, p + nq, by omega, by go_num, by rw [HW.out, World.drewN_drewN]⟩
          case measure => simp [intOf]; omega
        · obtain rfl : k = q := by omega
          have hsz := (below_drewN (Below.refl wd2.heap.size wd2) p).size
          have RZ2 := Lib.hid ((RZ.out.drewN p).more hsz)
          have RS2 := Lib.hid ((RS.out.drewN p).more hsz)
          clear hsz
          have BB2 := Lib.hid (below_drewN BB.out p)
          generalize wd2.drewN p = v at *
          have TI := Lib.hid (totI (some ⟨gZ, 0, none⟩) k cZ zs v ZL.out hq2 RZ2.out)
          rw [FT.out] at TI
          go_wp2_with fail
          refine TI.out.mono ?_
          rintro e v2 ⟨rfl, hb⟩
          have RZ3 := Lib.hid ((RZ2.out.below hb).more hb.size)
          have RS3 := Lib.hid ((RS2.out.below hb).more hb.size)
          have BB3 := Lib.hid (BB2.out.trans (hb.mono BB2.out.size))
          clear hb TI RZ2 RS2 BB2
          by_cases hx : s < x
          · have d3 : decide (s < x) = true := decide_eq_true hx
            clear hx
            go_wp2_with fail
            go_ret
            exact ⟨rfl, BB3.out⟩
          · have d3 : decide (s < x) = false := decide_eq_false hx
            have EQ := ALL.out (by omega)
            subst EQ
            clear hx
            go_wp2_with fail
            refine (Le5.intsL _ _ k cS cZ _ _ v2 LA.out (by omega) RS3.out RZ3.out).mono ?_
            rintro e v3 ⟨rfl, p3, rfl⟩
            go_wp2_with fail
            go_ret
            exact ⟨rfl, below_drewN BB3.out p3⟩

set_option maxRecDepth 100000 in
theorem lifted (os : Os) (started : os.Started) (H : Type) (enc : TypeId × Value → H) :
    ReturnsInHanded {} Try.checked os 13 .any (Rows.fnMoreWaterSpec.pre6 enc Try.prog Try.f13 Rows.fnMoreWaterRow.domain false) (Rows.fnMoreWaterSpec.post enc Try.prog Try.f13 false true false false) := by
  refine returnsInHanded_of_change (C := Try.checked) own started (by kernel_rfl) Try.func13
    (ChangeSpec.witness6 (enc := enc) (C := Try.checked) false ⟨#[], #[.slice none 0 0], []⟩ 8 (by kernel_rfl) (by kernel_rfl) (by kernel_rfl) (by kernel_rfl)) ?_
  intro W base args ds gs before hval0 hW hcnd hsz
  have hval : ∀ (j : Nat) t v, Try.f13.params[j]? = some t → args[j]? = some v → Value.okWide Try.prog W .any base t v := hval0
  have hW' := hW
  obtain ⟨p, q, hA0, hV, rfl, hfz, hnd⟩ := hW
  have hA1 := hA0
  have hA : DataW.TrodAll enc Try.prog W 0 (fun _ => true) true Try.f13.params.toList args.toList ds p := hA0
  rw [Try.params13] at hA hval
  obtain ⟨v0, vs0, d0, ds0, p0, q0, hargs, rfl, rfl, h0, r0⟩ := trodAll_cons hA
  obtain ⟨rfl, rfl, rfl⟩ := trodAll_nil r0
  obtain rfl : args = #[v0] := by cases args; simp_all
  obtain ⟨rfl, rfl⟩ := trodVars_none hV
  obtain ⟨A0, n0, c0, a0, rfl, l0, m0, g0⟩ := RampFn.take_bytes Try.underlying35 Try.underlying5 (by kernel_rfl) (hval 0 35 v0 rfl rfl) h0
  clear hA0 hval0
  rw [List.append_nil] at hW'
  refine (walk A0 n0 c0 a0 l0 m0 W g0).mono fun e W' ⟨he, hb⟩ => ?_
  subst he
  exact ⟨_, rfl, post_law rfl hW' hA1 laidOut (by rw [Try.params13]; exact of_decide_eq_true (by kernel_rfl)) 4 (by kernel_rfl) Try.underlying4 rfl hb⟩

theorem over : Rows.fnMoreWaterRow.holds Try.pinned (OpenSpec.ofChange Rows.fnMoreWaterSpec) :=
  OpenClaim.holds_of_wide 13 Try.f13 rfl rfl rfl rfl rfl rfl rfl ⟨rfl, rfl, rfl, rfl, rfl⟩ rfl rfl rfl rfl rfl (by kernel_rfl) Try.func13 (by kernel_rfl)
    (of_decide_eq_true (by kernel_rfl)) (by unfold Func.isWrapper; first | (rw [if_pos (by decide +kernel)]; kernel_rfl) | (rw [if_neg (by decide +kernel)]; exact ⟨rfl, rfl⟩))
    (fun os started H enc _ => lifted os started H enc)

/-- The statement. -/
theorem proved : Rows.FnMoreWaterSaid :=
  over
#print axioms proved
end Go.Proofs.Ythlcmcpfpblmaaa.fnMoreWater
