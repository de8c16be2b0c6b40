/- The law FnRoseSums holds at every input. The step from the walk to the row follows the guide's own template. -/
import Derived.Test.YtknanaapaipoeaaMem
import Derived.Test.YtknanaapaipoeaaRn
import Derived.Test.YtknanaapaipoeaaWf
import Derived.Test.YtknanaapaipoeaaTakeC
namespace Go.Proofs.Ytknanaapaipoeaa.fnRoseSums
open Go.ChangeShapes Go.WideShapes Go.ChangeAt Go.RowKit Go.WideMaps Go.WideElems Go.Proofs.Ytknanaapaipoeaa.Mem
open Go.ChangeMaps (open_string shut_string)
set_option linter.unusedVariables false
set_option linter.unusedSimpArgs false

theorem own : ownKnob Try.prog.godebug = none := by kernel_rfl
theorem laidOut : laidOutB Try.prog = true := by kernel_rfl

open Go.Proofs.Ytknanaapaipoeaa.Rw Go.Proofs.Ytknanaapaipoeaa.Bk Go.Proofs.Ytknanaapaipoeaa.Jt Go.Proofs.Ytknanaapaipoeaa.Str Go.Proofs.Ytknanaapaipoeaa.Pw Go.Proofs.Ytknanaapaipoeaa.P2 Go.Proofs.Ytknanaapaipoeaa.Gs Go.Proofs.Ytknanaapaipoeaa.Wm Go.Proofs.Ytknanaapaipoeaa.Wi Go.Proofs.Ytknanaapaipoeaa.Wa Go.Proofs.Ytknanaapaipoeaa.Dw Go.Proofs.Ytknanaapaipoeaa.Rs Go.Proofs.Ytknanaapaipoeaa.Rn Go.Proofs.Ytknanaapaipoeaa.Pls

set_option maxHeartbeats 4000000 in
set_option maxRecDepth 100000 in
theorem walk (A : Option Addr) (n c : Nat) (bs : List UInt8) (hn : bs.length = n) (hm : n ≤ maxLen) (w : World) (hr : Rd w w.heap.size A (Draw.u8s bs)) :
    Calls Try.prog 8 #[.slice A n c] w fun e w' => e = .returned (.bool true) ∧ Below w.heap.size w w' := by
  have hu : undef = Value.tuple #[] := rfl
  by_cases hbig : (n : Int) ≤ 4096
  · have D := Lib.hid (drawFitting w A n c bs hn (by omega) hr)
    clear hm
    go_enter Try.func8, Try.ntmps8
    go_wp2_with (go_at_call 15; go_enter Try.func15, Try.ntmps15)
    refine D.out.mono ?_
    rintro e u0 ⟨ps, zs, p0, d0, gr, cc, hq, hf, h6, rfl, hP, hZ, hB⟩
    have BB := Lib.hid hB
    have PP := Lib.hid hP
    have ZZ := Lib.hid hZ
    have hp4 := hq.2.1
    obtain ⟨np, hnp⟩ : ∃ k, k = ps.length := ⟨_, rfl⟩
    obtain ⟨nz, hnz⟩ : ∃ k, k = zs.length := ⟨_, rfl⟩
    rw [← hnp, ← hnz]
    have CR := Lib.hid (fun (W : World) (h : Rd W W.heap.size (some ⟨p0, 0, none⟩) (pls ps)) => by have := Wr.isRoseI (some ⟨p0, 0, none⟩) np d0 ps W.heap.size W hnp.symm (by omega) (Nat.le_refl _) h; rw [rosy_rs hq] at this; exact this)
    have CF := Lib.hid (fun (W : World) (h1 : Rd W W.heap.size (some ⟨gr, 0, none⟩) (gls zs)) (h2 : Rd W W.heap.size (some ⟨p0, 0, none⟩) (pls ps)) => by have := Wx.fitsI (some ⟨gr, 0, none⟩) (some ⟨p0, 0, none⟩) nz cc np d0 zs ps W.heap.size 128 W hnz.symm hnp.symm (by omega) (by omega) (Nat.le_refl _) h1 h2; rw [fitting_fr hq hf] at this; exact this)
    have CO := Lib.hid (fun (m : Nat) (hm : m ≤ 40) (x y : Int) (hs : sum2 (drs zs 0 m) = (x, y)) (W : World) (h1 : Rd W W.heap.size (some ⟨gr, 0, none⟩) (gls zs)) => (show Calls Try.prog 17 #[.slice (some ⟨gr, 0, none⟩) nz cc, .int .i64 0, .int .i64 (m : Int)] W (fun e w' => e = .returned (.tuple #[.agg #[.int .i64 x, .int .i64 y], .bool true]) ∧ Below W.heap.size W w') by
      have := We.driftOverI (some ⟨gr, 0, none⟩) nz cc zs W.heap.size ((0 : Nat) : Int) (((0 : Nat) : Int) + (m : Int)) W hnz.symm (by omega) (Nat.le_refl _) h1
      rw [We.over_yes hf.1 (by omega), hs, show ((0 : Nat) : Int) = 0 from rfl, Int.zero_add] at this
      exact this))
    have CB := Lib.hid (fun (m : Nat) (hm : m ≤ 40) (q1 q2 q3 q4 : Int) (hs : Wy.sq (m : Int) (Bo.boxA ps) = (q1, q2, q3, q4)) (W : World) (h1 : Rd W W.heap.size (some ⟨p0, 0, none⟩) (pls ps)) => (show Calls Try.prog 37 #[.slice (some ⟨p0, 0, none⟩) np d0, .int .i64 (m : Int)] W (fun e w' => e = .returned (.tuple #[.agg #[.int .i64 q1, .int .i64 q2, .int .i64 q3, .int .i64 q4], .bool true]) ∧ Below W.heap.size W w') by
      have := Wy.roseBoxI (some ⟨p0, 0, none⟩) np d0 ps (m : Int) W hnp.symm (by omega) h1
      rw [(Wy.r_yes (rosy_rs hq) (by omega)).1, (Wy.r_yes (rosy_rs hq) (by omega)).2, hs] at this
      exact this))
    have CI := Lib.hid (fun (m : Nat) (hm : m ≤ 40) => in_is hq hf m hm)
    clear D hbig hP hZ hB hn hr hq hf hp4 h6 hnp hnz
    go_wp2_with fail
    refine (CR.out _ PP.out).mono ?_
    rintro e u1 ⟨rfl, hb⟩
    have B1 := Lib.hid (below_in BB.out hb)
    have P1 := Lib.hid ((PP.out.below hb).more hb.size)
    have Z1 := Lib.hid ((ZZ.out.below hb).more hb.size)
    clear hb BB PP ZZ CR
    go_wp2_with fail
    refine (CF.out _ Z1.out P1.out).mono ?_
    rintro e u2 ⟨rfl, hb⟩
    have B2 := Lib.hid (below_in B1.out hb)
    have P2 := Lib.hid ((P1.out.below hb).more hb.size)
    have Z2 := Lib.hid ((Z1.out.below hb).more hb.size)
    clear hb B1 P1 Z1 CF
    go_wp2_with fail
    go_loopw [5] (fun i wr => ∃ k : Nat, k ≤ 41 ∧ i = .int .i64 (k : Int) ∧ Hid (Rd wr wr.heap.size (some ⟨p0, 0, none⟩) (pls ps)) ∧ Hid (Rd wr wr.heap.size (some ⟨gr, 0, none⟩) (gls zs)) ∧ Hid (Below w.heap.size w wr)) (fun i _ => 41 - (intOf i).toNat)
    case atStart => exact ⟨0, by omega, rfl, P2, Z2, B2⟩
    case round =>
      clear P2 Z2 B2
      obtain ⟨k, hk, rfl, PK, ZK, BK⟩ := hrel
      by_cases hlt : k ≤ 40
      · have kd : decide ((k : Int) ≤ 40) = true := decide_eq_true (by omega)
        have hki : (k : Int) ≤ 40 := by omega
        obtain ⟨⟨sx, sy⟩, hs⟩ : ∃ p, sum2 (drs zs 0 k) = p := ⟨_, rfl⟩
        obtain ⟨⟨q1, q2, q3, q4⟩, hq⟩ : ∃ p, Wy.sq (k : Int) (Bo.boxA ps) = p := ⟨_, rfl⟩
        have C1 := Lib.hid (CO.out k hlt sx sy hs)
        have C2 := Lib.hid (CB.out k hlt q1 q2 q3 q4 hq)
        have IB := CI.out k hlt
        rw [hs, hq] at IB
        have CX := Lib.hid (fun (W : World) => by have := Bxi.inBoxI q1 q2 q3 q4 sx sy W; rw [show Bxi.ib q1 q2 q3 q4 sx sy = true from IB] at this; exact this)
        clear hs hq IB
        go_wp2_with fail
        refine (C1.out _ ZK.out).mono ?_
        rintro e u3 ⟨rfl, hb⟩
        have B3 := Lib.hid (below_in BK.out hb)
        have P3 := Lib.hid ((PK.out.below hb).more hb.size)
        have Z3 := Lib.hid ((ZK.out.below hb).more hb.size)
        have Q1 := Lib.hid (Bk.new u3 (pc sx sy) 28)
        clear hb BK PK ZK C1
        go_wp2_with fail
        refine (C2.out _ (rd_more P3.out)).mono ?_
        rintro e u4 ⟨rfl, hb⟩
        have B4 := Lib.hid (below_in (B3.out.alloc B3.out.size (.cells (pc sx sy) 28)) hb)
        have P4 := Lib.hid ((rd_more P3.out (o := .cells (pc sx sy) 28)).below hb |>.more hb.size)
        have Z4 := Lib.hid ((rd_more Z3.out (o := .cells (pc sx sy) 28)).below hb |>.more hb.size)
        have Q2 := Lib.hid (Q1.out.below hb)
        clear hb B3 P3 Z3 C2 Q1
        have z0 := Q2.out.cell (i := 0) rfl
        have z1 := Q2.out.cell (i := 1) rfl
        have l1 := Q2.out.lt
        have l3 : ∀ j, u3.heap.size < u4.heap.size + j := fun j => by omega
        go_wp2_with fail
        refine (CX.out _).mono ?_
        rintro e u5 ⟨rfl, hb5⟩
        have BA := Lib.hid (B4.out.alloc B4.out.size (.cells #[.int .i64 q1, .int .i64 q2, .int .i64 q3, .int .i64 q4] 51))
        have B6 := Lib.hid (below_in BA.out hb5)
        have P6 := Lib.hid ((rd_more P4.out (o := .cells #[.int .i64 q1, .int .i64 q2, .int .i64 q3, .int .i64 q4] 51)).below hb5 |>.more hb5.size)
        have Z6 := Lib.hid ((rd_more Z4.out (o := .cells #[.int .i64 q1, .int .i64 q2, .int .i64 q3, .int .i64 q4] 51)).below hb5 |>.more hb5.size)
        clear hb5 z0 z1 l1 l3 BA B4 P4 Z4 Q2 CX
        go_wp2_with fail
        go_roundw
        case rel => exact ⟨k + 1, by omega, by go_num, P6, Z6, B6⟩
        case measure => simp [intOf]; omega
      · have kd : decide ((k : Int) ≤ 40) = false := decide_eq_false (by omega)
        have hki : ¬ (k : Int) ≤ 40 := by omega
        go_wp2_with fail
        go_ret
        exact ⟨rfl, BK.out⟩
  · have hd : decide (4096 < n) = true := decide_eq_true (by omega)
    clear hn hm hr
    go_enter Try.func8, Try.ntmps8
    go_wp2_with (go_at_call 15; go_enter Try.func15, Try.ntmps15)
    go_returns
    exact ⟨rfl, Below.refl _ _⟩

set_option maxRecDepth 100000 in
theorem lifted (os : Os) (started : os.Started) (H : Type) (enc : TypeId × Value → H) :
    ReturnsInHanded {} Try.checked os 8 .any (Rows.fnRoseSumsSpec.pre6 enc Try.prog Try.f8 Rows.fnRoseSumsRow.domain false) (Rows.fnRoseSumsSpec.post enc Try.prog Try.f8 false true false false) := by
  refine returnsInHanded_of_change (C := Try.checked) own started (by kernel_rfl) Try.func8
    (ChangeSpec.witness6 (enc := enc) (C := Try.checked) false ⟨#[], #[.slice none 0 0], []⟩ 8 (by kernel_rfl) (by kernel_rfl) (by kernel_rfl) (by kernel_rfl)) ?_
  intro W base args ds gs before hval0 hW hcnd hsz
  have hval : ∀ (j : Nat) t v, Try.f8.params[j]? = some t → args[j]? = some v → Value.okWide Try.prog W .any base t v := hval0
  have hW' := hW
  obtain ⟨p, q, hA0, hV, rfl, hfz, hnd⟩ := hW
  have hA1 := hA0
  have hA : DataW.TrodAll enc Try.prog W 0 (fun _ => true) true Try.f8.params.toList args.toList ds p := hA0
  rw [Try.params8] at hA hval
  obtain ⟨v0, vs0, d0, ds0, p0, q0, hargs, rfl, rfl, h0, r0⟩ := trodAll_cons hA
  obtain ⟨rfl, rfl, rfl⟩ := trodAll_nil r0
  obtain rfl : args = #[v0] := by cases args; simp_all
  obtain ⟨rfl, rfl⟩ := trodVars_none hV
  obtain ⟨A0, n0, c0, a0, rfl, l0, m0, g0⟩ := RampFn.take_bytes Try.underlying22 Try.underlying5 (by kernel_rfl) (hval 0 22 v0 rfl rfl) h0
  clear hA0 hval0
  rw [List.append_nil] at hW'
  refine (walk A0 n0 c0 a0 l0 m0 W g0).mono fun e W' ⟨he, hb⟩ => ?_
  subst he
  exact ⟨_, rfl, post_law rfl hW' hA1 laidOut (by rw [Try.params8]; exact of_decide_eq_true (by kernel_rfl)) 4 (by kernel_rfl) Try.underlying4 rfl hb⟩

theorem over : Rows.fnRoseSumsRow.holds Try.pinned (OpenSpec.ofChange Rows.fnRoseSumsSpec) :=
  OpenClaim.holds_of_wide 8 Try.f8 rfl rfl rfl rfl rfl rfl rfl ⟨rfl, rfl, rfl, rfl, rfl⟩ rfl rfl rfl rfl rfl (by kernel_rfl) Try.func8 (by kernel_rfl)
    (of_decide_eq_true (by kernel_rfl)) (by unfold Func.isWrapper; first | (rw [if_pos (by decide +kernel)]; kernel_rfl) | (rw [if_neg (by decide +kernel)]; exact ⟨rfl, rfl⟩))
    (fun os started H enc _ => lifted os started H enc)

/-- The statement. -/
theorem proved : Rows.FnRoseSumsSaid :=
  over
#print axioms proved
end Go.Proofs.Ytknanaapaipoeaa.fnRoseSums
