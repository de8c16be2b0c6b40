/- The law FnEnd holds at every input. The step from the walk to the row follows the guide's own template. -/
import Derived.Test.YtedijideojmmlaaMem
import Derived.Test.YtedijideojmmlaaDr7
import Derived.Test.YtedijideojmmlaaFe
import Derived.Test.YtedijideojmmlaaLi7
import Derived.Test.YtedijideojmmlaaEm7
import Derived.Test.YtedijideojmmlaaEi7
import Derived.Test.YtedijideojmmlaaTakeC
namespace Go.Proofs.Ytedijideojmmlaa.fnEnd
open Go.ChangeShapes Go.WideShapes Go.ChangeAt Go.RowKit Go.WideMaps Go.WideElems Go.Proofs.Ytedijideojmmlaa.Mem
open Go.ChangeMaps (open_string shut_string)
set_option linter.unusedVariables false
set_option linter.unusedSimpArgs false

theorem own : ownKnob Try.prog.godebug = none := by kernel_rfl
theorem laidOut : laidOutB Try.prog = true := by kernel_rfl

open Go.Proofs.Ytedijideojmmlaa.Rw Go.Proofs.Ytedijideojmmlaa.P2 Go.Proofs.Ytedijideojmmlaa.Cd Go.Proofs.Ytedijideojmmlaa.Cv Go.Proofs.Ytedijideojmmlaa.Cl Go.Proofs.Ytedijideojmmlaa.Cs Go.Proofs.Ytedijideojmmlaa.Sd Go.Proofs.Ytedijideojmmlaa.Oc Go.Proofs.Ytedijideojmmlaa.Cr Go.Proofs.Ytedijideojmmlaa.Ld Go.Proofs.Ytedijideojmmlaa.Cq Go.Proofs.Ytedijideojmmlaa.Ed Go.Proofs.Ytedijideojmmlaa.Td7 Go.Proofs.Ytedijideojmmlaa.Fe Go.Proofs.Ytedijideojmmlaa.Dr7 Go.Proofs.Ytedijideojmmlaa.Li7 Go.Proofs.Ytedijideojmmlaa.Em7 Go.Proofs.Ytedijideojmmlaa.Ei7
open Go.Proofs.Ytedijideojmmlaa.Rw (owns_below owns_grown owns_base)

set_option maxHeartbeats 4000000 in
set_option maxRecDepth 100000 in
theorem walk (A : Option Addr) (n c : Nat) (bs : List UInt8) (hn : bs.length = n) (hm : n ≤ maxLen) (w : World) (hr : Rd w w.heap.size A (Draw.u8s bs)) :
    Calls Try.prog 6 #[.slice A n c] w fun e w' => e = .returned (.bool true) ∧ Below w.heap.size w w' := by
  have hu : undef = Value.tuple #[] := rfl
  by_cases hbig : (n : Int) ≤ 4096
  · have D := Lib.hid (drawZ w A n c bs hn (by omega) hr)
    clear hm
    go_enter Try.func6, Try.ntmps6
    go_wp2_with (go_at_call 13; go_enter Try.func13, Try.ntmps13)
    refine D.out.mono ?_
    rintro e wd0 ⟨zs, q, gZ, cZ, s, hl, hs, hns, rfl, hR, hB⟩
    have BB := Lib.hid hB
    have hcap := owns_cap hR
    have Z := Lib.hid (Rd.own hR)
    have hq : q ≤ 7 := by have := hs.2.1; omega
    have hqb : q ≤ 1048576 := by omega
    have hsz := hs.sizes
    have hsc := hs.1
    have CI := Lib.hid (fun (W : World) (h : Rd W W.heap.size (some ⟨gZ, 0, none⟩) (dls zs)) => endI (some ⟨gZ, 0, none⟩) q cZ zs W hl hqb h)
    have CS := Lib.hid (fun (W : World) (h : Rd W W.heap.size (some ⟨gZ, 0, none⟩) (dls zs)) => endS (some ⟨gZ, 0, none⟩) q cZ zs W hl hqb hcap.1 (by have := hcap.2; unfold maxLen at this; omega) hsz h)
    obtain ⟨v, hv⟩ := lev_late hsc s
    have hE := end_in hsc
    obtain ⟨k0, hk0⟩ : ∃ k : Nat, endV zs = (k : Int) := ⟨(endV zs).toNat, by omega⟩
    rw [hk0] at CI CS hv hE
    have CL := Lib.hid (fun (t : Nat) (h1 : k0 ≤ t) (h2 : t ≤ 200) (W : World) (h : Rd W W.heap.size (some ⟨gZ, 0, none⟩) (dls zs)) => (hv t (by omega)) ▸ levelI (some ⟨gZ, 0, none⟩) q cZ zs s t W hl hqb (wf64 (by omega) (by omega)) h)
    have hk80 : k0 ≤ 80 := by omega
    have hvv : (v == v) = true := by simp
    clear D hbig hR hB hn hr hl hs hns hcap hsz hsc hv hE hk0
    go_wp2_with fail
    refine (CI.out _ Z.out).mono ?_
    rintro e wx ⟨rfl, hb⟩
    have BB2 := Lib.hid (BB.out.trans (hb.mono BB.out.size))
    have Zn := Lib.hid ((Z.out.below hb).more hb.size)
    clear hb BB Z
    have BB := BB2
    clear BB2
    have Z := Zn
    clear Zn
    go_wp2_with fail
    refine (CS.out _ Z.out).mono ?_
    rintro e wx ⟨rfl, hb⟩
    have BB2 := Lib.hid (BB.out.trans (hb.mono BB.out.size))
    have Zn := Lib.hid ((Z.out.below hb).more hb.size)
    clear hb BB Z
    have BB := BB2
    clear BB2
    have Z := Zn
    clear Zn
    go_wp2_with fail
    go_loopw [6] (fun i wr => ∃ k : Nat, k0 ≤ k ∧ k ≤ k0 + 20 ∧ i = .int .i64 k ∧ Hid (Rd wr wr.heap.size (some ⟨gZ, 0, none⟩) (dls zs)) ∧ Hid (Below w.heap.size w wr)) (fun i _ => k0 + 20 - (intOf i).toNat)
    case atStart => exact ⟨k0, Nat.le_refl _, by omega, rfl, Z, BB⟩
    case round =>
      clear Z BB
      obtain ⟨k, hk1, hk2, rfl, Z, BB⟩ := hrel
      by_cases hlt : k < k0 + 20
      · have C1 := Lib.hid (CL.out k hk1 (by omega))
        have C2 := Lib.hid (CL.out k0 (Nat.le_refl _) (by omega))
        have d3 : decide ((k : Int) < (k0 : Int) + 20) = true := decide_eq_true (by omega)
        go_wp2_with fail
        refine (C1.out _ Z.out).mono ?_
        rintro e wx ⟨rfl, hb⟩
        have BB2 := Lib.hid (BB.out.trans (hb.mono BB.out.size))
        have Zn := Lib.hid ((Z.out.below hb).more hb.size)
        clear hb BB Z
        have BB := BB2
        clear BB2
        have Z := Zn
        clear Zn
        go_wp2_with fail
        refine (C2.out _ Z.out).mono ?_
        rintro e wx ⟨rfl, hb⟩
        have BB2 := Lib.hid (BB.out.trans (hb.mono BB.out.size))
        have Zn := Lib.hid ((Z.out.below hb).more hb.size)
        clear hb BB Z
        have BB := BB2
        clear BB2
        have Z := Zn
        clear Zn
        go_wp2_with fail
        go_roundw
        case rel => exact ⟨k + 1, by omega, by omega, by go_num, Z, BB⟩
        case measure => simp [intOf]; omega
      · have d3 : decide ((k : Int) < (k0 : Int) + 20) = false := decide_eq_false (by omega)
        go_wp2_with fail
        go_ret
        exact ⟨rfl, BB.out⟩
  · have hd : decide (4096 < n) = true := decide_eq_true (by omega)
    clear hn hm hr
    go_enter Try.func6, Try.ntmps6
    go_wp2_with (go_at_call 13; go_enter Try.func13, Try.ntmps13)
    go_returns
    exact ⟨rfl, Below.refl _ _⟩

set_option maxRecDepth 100000 in
theorem lifted (os : Os) (started : os.Started) (H : Type) (enc : TypeId × Value → H) :
    ReturnsInHanded {} Try.checked os 6 .any (Rows.fnEndSpec.pre6 enc Try.prog Try.f6 Rows.fnEndRow.domain false) (Rows.fnEndSpec.post enc Try.prog Try.f6 false true false false) := by
  refine returnsInHanded_of_change (C := Try.checked) own started (by kernel_rfl) Try.func6
    (ChangeSpec.witness6 (enc := enc) (C := Try.checked) false ⟨#[], #[.slice none 0 0], []⟩ 8 (by kernel_rfl) (by kernel_rfl) (by kernel_rfl) (by kernel_rfl)) ?_
  intro W base args ds gs before hval0 hW hcnd hsz
  have hval : ∀ (j : Nat) t v, Try.f6.params[j]? = some t → args[j]? = some v → Value.okWide Try.prog W .any base t v := hval0
  have hW' := hW
  obtain ⟨p, q, hA0, hV, rfl, hfz, hnd⟩ := hW
  have hA1 := hA0
  have hA : DataW.TrodAll enc Try.prog W 0 (fun _ => true) true Try.f6.params.toList args.toList ds p := hA0
  rw [Try.params6] at hA hval
  obtain ⟨v0, vs0, d0, ds0, p0, q0, hargs, rfl, rfl, h0, r0⟩ := trodAll_cons hA
  obtain ⟨rfl, rfl, rfl⟩ := trodAll_nil r0
  obtain rfl : args = #[v0] := by cases args; simp_all
  obtain ⟨rfl, rfl⟩ := trodVars_none hV
  obtain ⟨A0, n0, c0, a0, rfl, l0, m0, g0⟩ := RampFn.take_bytes Try.underlying22 Try.underlying5 (by kernel_rfl) (hval 0 22 v0 rfl rfl) h0
  clear hA0 hval0
  rw [List.append_nil] at hW'
  refine (walk A0 n0 c0 a0 l0 m0 W g0).mono fun e W' ⟨he, hb⟩ => ?_
  subst he
  exact ⟨_, rfl, post_law rfl hW' hA1 laidOut (by rw [Try.params6]; exact of_decide_eq_true (by kernel_rfl)) 4 (by kernel_rfl) Try.underlying4 rfl hb⟩

theorem over : Rows.fnEndRow.holds Try.pinned (OpenSpec.ofChange Rows.fnEndSpec) :=
  OpenClaim.holds_of_wide 6 Try.f6 rfl rfl rfl rfl rfl rfl rfl ⟨rfl, rfl, rfl, rfl, rfl⟩ rfl rfl rfl rfl rfl (by kernel_rfl) Try.func6 (by kernel_rfl)
    (of_decide_eq_true (by kernel_rfl)) (by unfold Func.isWrapper; first | (rw [if_pos (by decide +kernel)]; kernel_rfl) | (rw [if_neg (by decide +kernel)]; exact ⟨rfl, rfl⟩))
    (fun os started H enc _ => lifted os started H enc)

/-- The statement. -/
theorem proved : Rows.FnEndSaid :=
  over
#print axioms proved
end Go.Proofs.Ytedijideojmmlaa.fnEnd
