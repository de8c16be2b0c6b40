/- The law FnFairAlike holds at every input. The step from the walk to the row follows the guide's own template. -/
import Derived.Test.YthlcmcpfpblmaaaMem
import Derived.Test.YthlcmcpfpblmaaaInts
import Derived.Test.YthlcmcpfpblmaaaTakeD
import Derived.Test.YthlcmcpfpblmaaaWu
import Derived.Test.YthlcmcpfpblmaaaWf5
import Derived.Test.YthlcmcpfpblmaaaWh5
import Derived.Test.YthlcmcpfpblmaaaDn
import Derived.Test.YthlcmcpfpblmaaaDv
import Derived.BigRegion
namespace Go.Proofs.Ythlcmcpfpblmaaa.fnFairAlike
open Go.ChangeShapes Go.WideShapes Go.ChangeAt Go.RowKit Go.WideMaps Go.WideElems Go.Proofs.Ythlcmcpfpblmaaa.Mem
open Go.ChangeMaps (open_string shut_string)
set_option linter.unusedVariables false
set_option linter.unusedSimpArgs false

theorem own : ownKnob Try.prog.godebug = none := by kernel_rfl
theorem laidOut : laidOutB Try.prog = true := by kernel_rfl

open Go.Proofs.Ythlcmcpfpblmaaa.Rw Go.Proofs.Ythlcmcpfpblmaaa.Dm Go.Proofs.Ythlcmcpfpblmaaa.Dn Go.Proofs.Ythlcmcpfpblmaaa.Ws Go.Proofs.Ythlcmcpfpblmaaa.Wp Go.Proofs.Ythlcmcpfpblmaaa.Wq Go.Proofs.Ythlcmcpfpblmaaa.Wf5
open Go.Proofs.Ythlcmcpfpblmaaa.Draw (u8s)
open Go.Proofs.Ythlcmcpfpblmaaa.Dq (Drawn drawShare drawTurn)
open Go.Proofs.Ythlcmcpfpblmaaa.Dv (big total drawFair Drawn3)

set_option maxRecDepth 100000 in
set_option maxHeartbeats 4000000 in
theorem walk (A : Option Addr) (n c : Nat) (bs : List UInt8) (hn : bs.length = n) (hm : n ≤ maxLen) (w : World) (hr : Rd w w.heap.size A (u8s bs)) :
    Calls Try.prog 12 #[.slice A n c] w fun e w' => e = .returned (.bool true) ∧ Below w.heap.size w w' := by
  unfold maxLen at hm
  by_cases hlen : 4096 < n
  · go_enter Try.func12, Try.ntmps12
    go_wp2
    go_ret
    exact ⟨rfl, Below.refl _ _⟩
  · have hb : n ≤ 4096 := by omega
    have D := Lib.hid (drawFair w A n c bs hn hb hr)
    have hu : undef = Value.tuple #[] := rfl
    clear hn hr hlen hm
    go_enter Try.func12, Try.ntmps12
    go_wp2_with fail
    refine (big A n c _ hb).mono ?_
    rintro e w' ⟨rfl, rfl⟩
    clear hb
    go_wp2_with fail
    refine D.out.mono ?_
    rintro e wd0 ⟨s, zs, ss, q, m, gZ, cZ, gY, cY, hl, hq, hl2, hq2, rfl, ho, ho2, hb⟩
    have Z := Lib.hid ho
    have Y := Lib.hid ho2
    have BB := Lib.hid hb
    have ZL := Lib.hid hl
    have YL := Lib.hid hl2
    clear ho ho2 hb hl hl2 D
    have hqb : q ≤ 1048576 := by omega
    have hmb : m ≤ 1048576 := by omega
    obtain ⟨zr, hzr⟩ : ∃ z, share s zs = z := ⟨_, rfl⟩
    obtain ⟨mr, hmr⟩ : ∃ m, zr.length = m := ⟨_, rfl⟩
    obtain ⟨b, hbf⟩ : ∃ b, fair s zs ss = b := ⟨_, rfl⟩
    have CI := Lib.hid (fun (W : World) (h : Rd W W.heap.size (some ⟨gZ, 0, none⟩) (ints zs)) => (by have := Wu.shareI (some ⟨gZ, 0, none⟩) q cZ zs s W ZL.out hqb h; unfold RowI at this; rw [hzr, hmr] at this; exact this : Calls Try.prog 28 #[.int .i64 s, .slice (some ⟨gZ, 0, none⟩) q cZ] W _))
    have FI := Lib.hid (fun (W : World) (h : Rd W W.heap.size (some ⟨gZ, 0, none⟩) (ints zs)) (k : Rd W W.heap.size (some ⟨gY, 0, none⟩) (ints ss)) => (by have := fairI (some ⟨gZ, 0, none⟩) (some ⟨gY, 0, none⟩) q m cZ cY zs ss W ZL.out YL.out hqb hmb h k s; rw [hbf] at this; exact this : Calls Try.prog 32 #[.int .i64 s, .slice (some ⟨gZ, 0, none⟩) q cZ, .slice (some ⟨gY, 0, none⟩) m cY] W (TellsN b W)))
    have FS := Lib.hid (fun (W : World) (h : Rd W W.heap.size (some ⟨gZ, 0, none⟩) (ints zs)) (k : Rd W W.heap.size (some ⟨gY, 0, none⟩) (ints ss)) => (by have := Wh5.fairS (some ⟨gZ, 0, none⟩) (some ⟨gY, 0, none⟩) q m cZ cY zs ss W ZL.out YL.out hqb hmb h k s; rw [hbf] at this; exact this : Calls Try.prog 31 #[.int .i64 s, .slice (some ⟨gZ, 0, none⟩) q cZ, .slice (some ⟨gY, 0, none⟩) m cY] W (TellsN b W)))
    cases b
    · clear hzr hmr hbf
      go_wp2_with fail
      refine (CI.out _ (Rd.own Z.out)).mono ?_
      rintro e wd1 ⟨gS, cS, rfl, ho, hb⟩
      have wlS : w.heap.size ≤ gS := Nat.le_trans BB.out.size (own_base ho gS rfl)
      have ne_Z_S : gZ < gS := Nat.lt_of_lt_of_le (Z.out.lt _ rfl).2 (own_base ho gS rfl)
      have ne_Y_S : gY < gS := Nat.lt_of_lt_of_le (Y.out.lt _ rfl).2 (own_base ho gS rfl)
      have XN := Lib.hid (owns_base ho wlS)
      clear ho
      have BB2 := Lib.hid (BB.out.trans (hb.mono BB.out.size))
      have Zn := Lib.hid (owns_below Z.out hb)
      have Yn := Lib.hid (owns_below Y.out hb)
      clear hb BB Z Y
      have BB := BB2
      clear BB2
      have Z := Zn
      clear Zn
      have Y := Yn
      clear Yn
      have S := XN
      clear XN
      go_wp2_with fail
      refine (FI.out _ (Rd.own Z.out) (Rd.own Y.out)).mono ?_
      rintro e wd2 ⟨rfl, hb⟩
      have BB2 := Lib.hid (BB.out.trans (hb.mono BB.out.size))
      have Zn := Lib.hid (owns_below Z.out hb)
      have Yn := Lib.hid (owns_below Y.out hb)
      have Sn := Lib.hid (owns_below S.out hb)
      clear hb BB Z Y S
      have BB := BB2
      clear BB2
      have Z := Zn
      clear Zn
      have Y := Yn
      clear Yn
      have S := Sn
      clear Sn
      go_wp2_with fail
      refine (FS.out _ (Rd.own Z.out) (Rd.own Y.out)).mono ?_
      rintro e wd3 ⟨rfl, hb⟩
      have BB2 := Lib.hid (BB.out.trans (hb.mono BB.out.size))
      have Zn := Lib.hid (owns_below Z.out hb)
      have Yn := Lib.hid (owns_below Y.out hb)
      have Sn := Lib.hid (owns_below S.out hb)
      clear hb BB Z Y S
      have BB := BB2
      clear BB2
      have Z := Zn
      clear Zn
      have Y := Yn
      clear Yn
      have S := Sn
      clear Sn
      go_wp2_with fail
      refine (FI.out _ (Rd.own Z.out) (Rd.own Y.out)).mono ?_
      rintro e wd4 ⟨rfl, hb⟩
      have BB2 := Lib.hid (BB.out.trans (hb.mono BB.out.size))
      have Zn := Lib.hid (owns_below Z.out hb)
      have Yn := Lib.hid (owns_below Y.out hb)
      have Sn := Lib.hid (owns_below S.out hb)
      clear hb BB Z Y S
      have BB := BB2
      clear BB2
      have Z := Zn
      clear Zn
      have Y := Yn
      clear Yn
      have S := Sn
      clear Sn
      go_wp2_with fail
      go_ret
      exact ⟨rfl, BB.out⟩
    · obtain ⟨⟨h1, h2⟩, hd, hs, _, _⟩ := fair_iff.1 hbf
      have FF := Lib.hid (share_fair hd h1 h2)
      rw [hzr] at FF
      have F1 := Lib.hid (fun i a b => fair_alike (i := i) (x := a) (y := b) hbf FF.out)
      have F2 := Lib.hid (fun i a b => fair_alike (i := i) (x := a) (y := b) FF.out hbf)
      have emq : q = m := by rw [← ZL.out, ← YL.out]; exact (sh_iff.1 hs).1.symm
      have S2 := (fair_iff.1 FF.out).2.2.1
      have emr : mr = m := by rw [← hmr, (sh_iff.1 S2).1, ZL.out, emq]
      subst emq
      subst emr
      have RL := Lib.hid hmr
      have OY := Lib.hid (sh_ok hs hd)
      have OS := Lib.hid (sh_ok S2 hd)
      have ET := Lib.hid (show tot ss = tot zr by rw [(fair_iff.1 hbf).2.2.2.1, (fair_iff.1 FF.out).2.2.2.1])
      have h8 : mr ≤ 8 := by rw [← YL.out]; exact OY.out.1
      clear hzr hmr hbf hd hs S2 FF
      go_wp2_with fail
      refine (CI.out _ (Rd.own Z.out)).mono ?_
      rintro e wd1 ⟨gS, cS, rfl, ho, hb⟩
      have wlS : w.heap.size ≤ gS := Nat.le_trans BB.out.size (own_base ho gS rfl)
      have ne_Z_S : gZ < gS := Nat.lt_of_lt_of_le (Z.out.lt _ rfl).2 (own_base ho gS rfl)
      have ne_Y_S : gY < gS := Nat.lt_of_lt_of_le (Y.out.lt _ rfl).2 (own_base ho gS rfl)
      have XN := Lib.hid (owns_base ho wlS)
      clear ho
      have BB2 := Lib.hid (BB.out.trans (hb.mono BB.out.size))
      have Zn := Lib.hid (owns_below Z.out hb)
      have Yn := Lib.hid (owns_below Y.out hb)
      clear hb BB Z Y
      have BB := BB2
      clear BB2
      have Z := Zn
      clear Zn
      have Y := Yn
      clear Yn
      have S := XN
      clear XN
      go_wp2_with fail
      refine (FI.out _ (Rd.own Z.out) (Rd.own Y.out)).mono ?_
      rintro e wd2 ⟨rfl, hb⟩
      have BB2 := Lib.hid (BB.out.trans (hb.mono BB.out.size))
      have Zn := Lib.hid (owns_below Z.out hb)
      have Yn := Lib.hid (owns_below Y.out hb)
      have Sn := Lib.hid (owns_below S.out hb)
      clear hb BB Z Y S
      have BB := BB2
      clear BB2
      have Z := Zn
      clear Zn
      have Y := Yn
      clear Yn
      have S := Sn
      clear Sn
      go_wp2_with fail
      refine (FS.out _ (Rd.own Z.out) (Rd.own Y.out)).mono ?_
      rintro e wd3 ⟨rfl, hb⟩
      have BB2 := Lib.hid (BB.out.trans (hb.mono BB.out.size))
      have Zn := Lib.hid (owns_below Z.out hb)
      have Yn := Lib.hid (owns_below Y.out hb)
      have Sn := Lib.hid (owns_below S.out hb)
      clear hb BB Z Y S
      have BB := BB2
      clear BB2
      have Z := Zn
      clear Zn
      have Y := Yn
      clear Yn
      have S := Sn
      clear Sn
      go_wp2_with fail
      refine (FI.out _ (Rd.own Z.out) (Rd.own Y.out)).mono ?_
      rintro e wd4 ⟨rfl, hb⟩
      have BB2 := Lib.hid (BB.out.trans (hb.mono BB.out.size))
      have Zn := Lib.hid (owns_below Z.out hb)
      have Yn := Lib.hid (owns_below Y.out hb)
      have Sn := Lib.hid (owns_below S.out hb)
      clear hb BB Z Y S
      have BB := BB2
      clear BB2
      have Z := Zn
      clear Zn
      have Y := Yn
      clear Yn
      have S := Sn
      clear Sn
      go_wp2_with fail
      have RS := Lib.hid (Rd.own S.out)
      have RY := Lib.hid (Rd.own Y.out)
      clear CI FI FS
      go_loopw [7] (fun i wr => ∃ k p : Nat, k ≤ mr ∧ i = .int .i64 k ∧ wr = wd4.drewN p) (fun i _ => mr - (intOf i).toNat)
      case atStart => exact ⟨0, 0, Nat.zero_le _, rfl, rfl⟩
      case round =>
        obtain ⟨k, p, hk, rfl, rfl⟩ := hrel
        by_cases hlt : k < mr
        · obtain ⟨a, ha⟩ : ∃ z, ss[k]? = some z := ⟨_, List.getElem?_eq_getElem (by rw [YL.out]; exact hlt)⟩
          obtain ⟨b, hb⟩ : ∃ z, zr[k]? = some z := ⟨_, List.getElem?_eq_getElem (by rw [RL.out]; exact hlt)⟩
          have l1 := F1.out k a b ha hb
          have l2 := F2.out k b a hb ha
          obtain ⟨a3, a4⟩ := OY.out.2 a (List.mem_of_getElem? ha)
          obtain ⟨b4, b5⟩ := OS.out.2 b (List.mem_of_getElem? hb)
          obtain ⟨b2, o2, eb, hb2, a2⟩ := rd_cell RY.out ha
          obtain ⟨b3, o3, ec, hb3, a5⟩ := rd_cell RS.out hb
          injection eb with eb; injection eb with eb eo; subst eb eo
          injection ec with ec; injection ec with ec eo; subst ec eo
          have c2 : (wd4.drewN p).cell? ⟨gY, 0 + k, none⟩ = some (.int .i64 a) := a2
          have c3 : (wd4.drewN p).cell? ⟨gS, 0 + k, none⟩ = some (.int .i64 b) := a5
          have e3 : IntKind.i64.wrap (b + 1) = b + 1 := IntWalk.i64_in _ (by omega)
          have e4 : IntKind.i64.wrap (a + 1) = a + 1 := IntWalk.i64_in _ (by omega)
          have t1 : decide (b + 1 < a) = false := decide_eq_false (by omega)
          have t2 : decide (a + 1 < b) = false := decide_eq_false (by omega)
          have k0 : (0 : Int) ≤ (k : Int) := by omega
          have k1 : (k : Int) < (mr : Int) := by omega
          obtain ⟨W, hW⟩ : ∃ W, W = wd4.drewN p := ⟨_, rfl⟩
          rw [← hW] at c2 c3 ⊢
          rw [Nat.zero_add] at c2 c3
          have HW := Lib.hid hW
          clear ha hb hb2 hb3 a2 a5 hW l1 l2 a3 a4 b4 b5
          go_wp2_with fail
          go_quiet (fail)
          clear e3 e4
          go_wp2_with fail
          go_roundw
          case rel => exact ⟨k + 1, p + nq, by omega, by go_num, by rw [HW.out, World.drewN_drewN]⟩
          case measure => simp [intOf]; omega
        · obtain rfl : k = mr := by omega
          have T1 := Lib.hid (total (some ⟨gY, 0, none⟩) k cY ss _ (wd4.drewN p) YL.out OY.out.1 OY.out.2 (RY.out.drewN p))
          have T2 := Lib.hid (total (some ⟨gS, 0, none⟩) k cS zr _ (wd4.drewN p) RL.out OS.out.1 OS.out.2 (RS.out.drewN p))
          rw [ET.out] at T1
          generalize tot zr = x at T1 T2
          have hxx : (x == x) = true := by simp
          go_wp2_with fail
          refine T1.out.mono ?_
          rintro e w' ⟨rfl, rfl⟩
          go_wp2_with fail
          refine T2.out.mono ?_
          rintro e w' ⟨rfl, rfl⟩
          go_wp2_with fail
          go_ret
          exact ⟨rfl, below_drewN BB.out p⟩

set_option maxRecDepth 100000 in
theorem lifted (os : Os) (started : os.Started) (H : Type) (enc : TypeId × Value → H) :
    ReturnsInHanded {} Try.checked os 12 .any (Rows.fnFairAlikeSpec.pre6 enc Try.prog Try.f12 Rows.fnFairAlikeRow.domain false) (Rows.fnFairAlikeSpec.post enc Try.prog Try.f12 false true false false) := by
  refine returnsInHanded_of_change (C := Try.checked) own started (by kernel_rfl) Try.func12
    (ChangeSpec.witness6 (enc := enc) (C := Try.checked) false ⟨#[], #[.slice none 0 0], []⟩ 8 (by kernel_rfl) (by kernel_rfl) (by kernel_rfl) (by kernel_rfl)) ?_
  intro W base args ds gs before hval0 hW hcnd hsz
  have hval : ∀ (j : Nat) t v, Try.f12.params[j]? = some t → args[j]? = some v → Value.okWide Try.prog W .any base t v := hval0
  have hW' := hW
  obtain ⟨p, q, hA0, hV, rfl, hfz, hnd⟩ := hW
  have hA1 := hA0
  have hA : DataW.TrodAll enc Try.prog W 0 (fun _ => true) true Try.f12.params.toList args.toList ds p := hA0
  rw [Try.params12] at hA hval
  obtain ⟨v0, vs0, d0, ds0, p0, q0, hargs, rfl, rfl, h0, r0⟩ := trodAll_cons hA
  obtain ⟨rfl, rfl, rfl⟩ := trodAll_nil r0
  obtain rfl : args = #[v0] := by cases args; simp_all
  obtain ⟨rfl, rfl⟩ := trodVars_none hV
  obtain ⟨A0, n0, c0, a0, rfl, l0, m0, g0⟩ := RampFn.take_bytes Try.underlying35 Try.underlying5 (by kernel_rfl) (hval 0 35 v0 rfl rfl) h0
  clear hA0 hval0
  rw [List.append_nil] at hW'
  refine (walk A0 n0 c0 a0 l0 m0 W g0).mono fun e W' ⟨he, hb⟩ => ?_
  subst he
  exact ⟨_, rfl, post_law rfl hW' hA1 laidOut (by rw [Try.params12]; exact of_decide_eq_true (by kernel_rfl)) 4 (by kernel_rfl) Try.underlying4 rfl hb⟩

theorem over : Rows.fnFairAlikeRow.holds Try.pinned (OpenSpec.ofChange Rows.fnFairAlikeSpec) :=
  OpenClaim.holds_of_wide 12 Try.f12 rfl rfl rfl rfl rfl rfl rfl ⟨rfl, rfl, rfl, rfl, rfl⟩ rfl rfl rfl rfl rfl (by kernel_rfl) Try.func12 (by kernel_rfl)
    (of_decide_eq_true (by kernel_rfl)) (by unfold Func.isWrapper; first | (rw [if_pos (by decide +kernel)]; kernel_rfl) | (rw [if_neg (by decide +kernel)]; exact ⟨rfl, rfl⟩))
    (fun os started H enc _ => lifted os started H enc)

/-- The statement. -/
theorem proved : Rows.FnFairAlikeSaid :=
  over
#print axioms proved
end Go.Proofs.Ythlcmcpfpblmaaa.fnFairAlike
