/- The law FnLaterScore holds at every input. The step from the walk to the row follows the guide's own template. -/
import Derived.Test.YtedijideojmmlaaMem
import Derived.Test.YtedijideojmmlaaDr7
import Derived.Test.YtedijideojmmlaaFe
import Derived.Test.YtedijideojmmlaaLi7
import Derived.Test.YtedijideojmmlaaTi7
import Derived.Test.YtedijideojmmlaaSi7
import Derived.Test.YtedijideojmmlaaTakeC
namespace Go.Proofs.Ytedijideojmmlaa.fnLaterScore
open Go.ChangeShapes Go.WideShapes Go.ChangeAt Go.RowKit Go.WideMaps Go.WideElems Go.Proofs.Ytedijideojmmlaa.Mem
open Go.ChangeMaps (open_string shut_string)
set_option linter.unusedVariables false
set_option linter.unusedSimpArgs false

theorem own : ownKnob Try.prog.godebug = none := by kernel_rfl
theorem laidOut : laidOutB Try.prog = true := by kernel_rfl

open Go.Proofs.Ytedijideojmmlaa.Rw Go.Proofs.Ytedijideojmmlaa.P2 Go.Proofs.Ytedijideojmmlaa.Cd Go.Proofs.Ytedijideojmmlaa.Cv Go.Proofs.Ytedijideojmmlaa.Cl Go.Proofs.Ytedijideojmmlaa.Cs Go.Proofs.Ytedijideojmmlaa.Sd Go.Proofs.Ytedijideojmmlaa.Oc Go.Proofs.Ytedijideojmmlaa.Cr Go.Proofs.Ytedijideojmmlaa.Ld Go.Proofs.Ytedijideojmmlaa.Cq Go.Proofs.Ytedijideojmmlaa.Ed Go.Proofs.Ytedijideojmmlaa.Td7 Go.Proofs.Ytedijideojmmlaa.Fe Go.Proofs.Ytedijideojmmlaa.Dr7 Go.Proofs.Ytedijideojmmlaa.Li7 Go.Proofs.Ytedijideojmmlaa.Ti7 Go.Proofs.Ytedijideojmmlaa.Si7
open Go.Proofs.Ytedijideojmmlaa.Rw (owns_below owns_grown owns_base)

set_option maxHeartbeats 4000000 in
set_option maxRecDepth 100000 in
theorem walk (A : Option Addr) (n c : Nat) (bs : List UInt8) (hn : bs.length = n) (hm : n ≤ maxLen) (w : World) (hr : Rd w w.heap.size A (Draw.u8s bs)) :
    Calls Try.prog 5 #[.slice A n c] w fun e w' => e = .returned (.bool true) ∧ Below w.heap.size w w' := by
  have hu : undef = Value.tuple #[] := rfl
  by_cases hbig : (n : Int) ≤ 4096
  · have D := Lib.hid (drawZ w A n c bs hn (by omega) hr)
    clear hm
    go_enter Try.func5, Try.ntmps5
    go_wp2_with (go_at_call 13; go_enter Try.func13, Try.ntmps13)
    refine D.out.mono ?_
    rintro e wd0 ⟨zs, q, gZ, cZ, s, hl, hs, hns, rfl, hR, hB⟩
    have BB := Lib.hid hB
    have hcap := owns_cap hR
    have Z := Lib.hid (Rd.own hR)
    have hq : q ≤ 7 := by have := hs.2.1; omega
    have hqb : q ≤ 1048576 := by omega
    have hsz := hs.sizes
    have hsc := hs.1
    obtain ⟨j, hj⟩ : ∃ j, n % 50 = j := ⟨_, rfl⟩
    have hj50 : j < 50 := by omega
    have hrem : ((n : Int) % 50) = (j : Int) := by omega
    have hrem2 : (n : Int).tmod 50 = (j : Int) := by rw [Int.tmod_eq_emod_of_nonneg (by omega)]; omega
    obtain ⟨l1, l2, l3⟩ := later_yes hsc (fun d hd => (hs.2.2 d hd).2.1) (show 0 ≤ (j : Int) by omega) (by omega)
    obtain ⟨ys, hys⟩ : ∃ ys, zs.map (shC j) = ys := ⟨_, rfl⟩
    have hyl : ys.length = q := by rw [← hys, List.length_map]; exact hl
    have hsh : ∀ t : Int, levV ys s (t + j) = levV zs s t := fun t => by rw [← hys]; exact lev_shift hsc l3 (by omega) s
    have hbf : ∀ t : Int, t < j → levV ys s t = 0 := fun t ht => by rw [← hys]; exact lev_before hsc l3 ht s
    rw [hys] at l2 l3
    have CT := Lib.hid (show ∀ (W : World) (h : Rd W W.heap.size (some ⟨gZ, 0, none⟩) (dls zs)), Calls Try.prog 19 #[.slice (some ⟨gZ, 0, none⟩) q cZ, .int .i64 j] W (fun e w' => ∃ g c, e = .returned (.tuple #[.slice (some ⟨g, 0, none⟩) q c, .bool true]) ∧ w'.ownsRow W.heap.size 28 4 (.slice (some ⟨g, 0, none⟩) q c) q (dls ys) ∧ Below W.heap.size W w') from fun W h => by
      have := laterI ⟨gZ, 0, none⟩ q cZ zs j W hl hqb (wf64 (by omega) (by omega)) h
      rw [l1, l2] at this
      unfold RowB at this
      rw [hyl] at this
      exact this)
    have CL := Lib.hid (fun (t : Nat) (h2 : t ≤ 200) (W : World) (h : Rd W W.heap.size (some ⟨gZ, 0, none⟩) (dls zs)) => levelI (some ⟨gZ, 0, none⟩) q cZ zs s t W hl hqb (wf64 (by omega) (by omega)) h)
    have CM := Lib.hid (fun (t : Nat) (h2 : t ≤ 100) (g c : Nat) (W : World) (h : Rd W W.heap.size (some ⟨g, 0, none⟩) (dls ys)) => (hsh t) ▸ levelI (some ⟨g, 0, none⟩) q c ys s ((t : Int) + j) W hyl hqb (wf64 (by omega) (by omega)) h)
    have CB := Lib.hid (fun (t : Nat) (h2 : t < j) (g c : Nat) (W : World) (h : Rd W W.heap.size (some ⟨g, 0, none⟩) (dls ys)) => (hbf t (by omega)) ▸ levelI (some ⟨g, 0, none⟩) q c ys s t W hyl hqb (wf64 (by omega) (by omega)) h)
    have CI := Lib.hid (fun (g c : Nat) (W : World) (h : Rd W W.heap.size (some ⟨g, 0, none⟩) (dls ys)) => l3 ▸ scoreI (some ⟨g, 0, none⟩) q c ys W hyl hqb h)
    clear D hbig hR hB hn hr hl hs hns hcap hsz hsc hys hyl hsh hbf l1 l2 l3
    go_wp2_with fail
    refine (CT.out _ Z.out).mono ?_
    rintro e wx ⟨gY, cY, rfl, ho, hb⟩
    have Y := Lib.hid (Rd.own ho)
    have BB2 := Lib.hid (BB.out.trans (hb.mono BB.out.size))
    have Zn := Lib.hid ((Z.out.below hb).more hb.size)
    clear hb ho BB Z
    have BB := BB2
    clear BB2
    have Z := Zn
    clear Zn
    go_wp2_with fail
    refine (CI.out _ _ _ Y.out).mono ?_
    rintro e wx ⟨rfl, hb⟩
    have BB2 := Lib.hid (BB.out.trans (hb.mono BB.out.size))
    have Zn := Lib.hid ((Z.out.below hb).more hb.size)
    have Yn := Lib.hid ((Y.out.below hb).more hb.size)
    clear hb BB Z Y
    have BB := BB2
    clear BB2
    have Z := Zn
    clear Zn
    have Y := Yn
    clear Yn
    go_wp2_with fail
    go_loopw [8] (fun i wr => ∃ k : Nat, k ≤ 40 ∧ i = .int .i64 k ∧ Hid (Rd wr wr.heap.size (some ⟨gZ, 0, none⟩) (dls zs)) ∧ Hid (Rd wr wr.heap.size (some ⟨gY, 0, none⟩) (dls ys)) ∧ Hid (Below w.heap.size w wr)) (fun i _ => 40 - (intOf i).toNat)
    case atStart => exact ⟨0, by omega, rfl, Z, Y, BB⟩
    case round =>
      clear Z Y BB
      obtain ⟨k, hk, rfl, Z, Y, BB⟩ := hrel
      by_cases hlt : k < 40
      · have C1 := CL.out k (by omega)
        have C2 := CM.out k (by omega) gY
        obtain ⟨v, hv⟩ : ∃ v, levV zs s k = v := ⟨_, rfl⟩
        rw [hv] at C1 C2
        have C1 := Lib.hid C1
        have C2 := Lib.hid C2
        have hvv : (v == v) = true := by simp
        have d3 : decide ((k : Int) < 40) = true := decide_eq_true (by omega)
        clear hv
        by_cases hkj : k < j
        · have C3 := Lib.hid (CB.out k hkj gY)
          have d4 : decide ((k : Int) < (j : Int)) = true := decide_eq_true (by omega)
          clear CL CM CB
          go_wp2_with fail
          refine (C2.out _ _ Y.out).mono ?_
          rintro e wx ⟨rfl, hb⟩
          have BB2 := Lib.hid (BB.out.trans (hb.mono BB.out.size))
          have Zn := Lib.hid ((Z.out.below hb).more hb.size)
          have Yn := Lib.hid ((Y.out.below hb).more hb.size)
          clear hb BB Z Y
          have BB := BB2
          clear BB2
          have Z := Zn
          clear Zn
          have Y := Yn
          clear Yn
          go_wp2_with fail
          refine (C1.out _ Z.out).mono ?_
          rintro e wx ⟨rfl, hb⟩
          have BB2 := Lib.hid (BB.out.trans (hb.mono BB.out.size))
          have Zn := Lib.hid ((Z.out.below hb).more hb.size)
          have Yn := Lib.hid ((Y.out.below hb).more hb.size)
          clear hb BB Z Y
          have BB := BB2
          clear BB2
          have Z := Zn
          clear Zn
          have Y := Yn
          clear Yn
          go_wp2_with fail
          refine (C3.out _ _ Y.out).mono ?_
          rintro e wx ⟨rfl, hb⟩
          have BB2 := Lib.hid (BB.out.trans (hb.mono BB.out.size))
          have Zn := Lib.hid ((Z.out.below hb).more hb.size)
          have Yn := Lib.hid ((Y.out.below hb).more hb.size)
          clear hb BB Z Y
          have BB := BB2
          clear BB2
          have Z := Zn
          clear Zn
          have Y := Yn
          clear Yn
          go_wp2_with fail
          go_roundw
          case rel => exact ⟨k + 1, by omega, by go_num, Z, Y, BB⟩
          case measure => simp [intOf]; omega
        · have d4 : decide ((k : Int) < (j : Int)) = false := decide_eq_false (by omega)
          clear CL CM CB
          go_wp2_with fail
          refine (C2.out _ _ Y.out).mono ?_
          rintro e wx ⟨rfl, hb⟩
          have BB2 := Lib.hid (BB.out.trans (hb.mono BB.out.size))
          have Zn := Lib.hid ((Z.out.below hb).more hb.size)
          have Yn := Lib.hid ((Y.out.below hb).more hb.size)
          clear hb BB Z Y
          have BB := BB2
          clear BB2
          have Z := Zn
          clear Zn
          have Y := Yn
          clear Yn
          go_wp2_with fail
          refine (C1.out _ Z.out).mono ?_
          rintro e wx ⟨rfl, hb⟩
          have BB2 := Lib.hid (BB.out.trans (hb.mono BB.out.size))
          have Zn := Lib.hid ((Z.out.below hb).more hb.size)
          have Yn := Lib.hid ((Y.out.below hb).more hb.size)
          clear hb BB Z Y
          have BB := BB2
          clear BB2
          have Z := Zn
          clear Zn
          have Y := Yn
          clear Yn
          go_wp2_with fail
          go_roundw
          case rel => exact ⟨k + 1, by omega, by go_num, Z, Y, BB⟩
          case measure => simp [intOf]; omega
      · have d3 : decide ((k : Int) < 40) = false := decide_eq_false (by omega)
        go_wp2_with fail
        go_ret
        exact ⟨rfl, BB.out⟩
  · have hd : decide (4096 < n) = true := decide_eq_true (by omega)
    clear hn hm hr
    go_enter Try.func5, Try.ntmps5
    go_wp2_with (go_at_call 13; go_enter Try.func13, Try.ntmps13)
    go_returns
    exact ⟨rfl, Below.refl _ _⟩

set_option maxRecDepth 100000 in
theorem lifted (os : Os) (started : os.Started) (H : Type) (enc : TypeId × Value → H) :
    ReturnsInHanded {} Try.checked os 5 .any (Rows.fnLaterScoreSpec.pre6 enc Try.prog Try.f5 Rows.fnLaterScoreRow.domain false) (Rows.fnLaterScoreSpec.post enc Try.prog Try.f5 false true false false) := by
  refine returnsInHanded_of_change (C := Try.checked) own started (by kernel_rfl) Try.func5
    (ChangeSpec.witness6 (enc := enc) (C := Try.checked) false ⟨#[], #[.slice none 0 0], []⟩ 8 (by kernel_rfl) (by kernel_rfl) (by kernel_rfl) (by kernel_rfl)) ?_
  intro W base args ds gs before hval0 hW hcnd hsz
  have hval : ∀ (j : Nat) t v, Try.f5.params[j]? = some t → args[j]? = some v → Value.okWide Try.prog W .any base t v := hval0
  have hW' := hW
  obtain ⟨p, q, hA0, hV, rfl, hfz, hnd⟩ := hW
  have hA1 := hA0
  have hA : DataW.TrodAll enc Try.prog W 0 (fun _ => true) true Try.f5.params.toList args.toList ds p := hA0
  rw [Try.params5] at hA hval
  obtain ⟨v0, vs0, d0, ds0, p0, q0, hargs, rfl, rfl, h0, r0⟩ := trodAll_cons hA
  obtain ⟨rfl, rfl, rfl⟩ := trodAll_nil r0
  obtain rfl : args = #[v0] := by cases args; simp_all
  obtain ⟨rfl, rfl⟩ := trodVars_none hV
  obtain ⟨A0, n0, c0, a0, rfl, l0, m0, g0⟩ := RampFn.take_bytes Try.underlying22 Try.underlying5 (by kernel_rfl) (hval 0 22 v0 rfl rfl) h0
  clear hA0 hval0
  rw [List.append_nil] at hW'
  refine (walk A0 n0 c0 a0 l0 m0 W g0).mono fun e W' ⟨he, hb⟩ => ?_
  subst he
  exact ⟨_, rfl, post_law rfl hW' hA1 laidOut (by rw [Try.params5]; exact of_decide_eq_true (by kernel_rfl)) 4 (by kernel_rfl) Try.underlying4 rfl hb⟩

theorem over : Rows.fnLaterScoreRow.holds Try.pinned (OpenSpec.ofChange Rows.fnLaterScoreSpec) :=
  OpenClaim.holds_of_wide 5 Try.f5 rfl rfl rfl rfl rfl rfl rfl ⟨rfl, rfl, rfl, rfl, rfl⟩ rfl rfl rfl rfl rfl (by kernel_rfl) Try.func5 (by kernel_rfl)
    (of_decide_eq_true (by kernel_rfl)) (by unfold Func.isWrapper; first | (rw [if_pos (by decide +kernel)]; kernel_rfl) | (rw [if_neg (by decide +kernel)]; exact ⟨rfl, rfl⟩))
    (fun os started H enc _ => lifted os started H enc)

/-- The statement. -/
theorem proved : Rows.FnLaterScoreSaid :=
  over
#print axioms proved
end Go.Proofs.Ytedijideojmmlaa.fnLaterScore
