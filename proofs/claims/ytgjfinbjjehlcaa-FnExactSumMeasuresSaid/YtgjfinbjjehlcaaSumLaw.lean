/- The law FnExactSumMeasures holds at every input. The step from the walk to the row follows the guide's own template. -/
import Derived.Test.YtgjfinbjjehlcaaMem
import Derived.Test.YtgjfinbjjehlcaaInts
import Derived.Test.YtgjfinbjjehlcaaSum
namespace Go.Proofs.Ytgjfinbjjehlcaa.fnExactSumMeasures
open Go.ChangeShapes Go.WideShapes Go.ChangeAt Go.RowKit Go.WideMaps Go.WideElems Go.Proofs.Ytgjfinbjjehlcaa.Mem
open Go.ChangeMaps (open_string shut_string)
set_option linter.unusedVariables false

theorem own : ownKnob Try.prog.godebug = none := by kernel_rfl
theorem laidOut : laidOutB Try.prog = true := by kernel_rfl

set_option maxHeartbeats 1000000 in
theorem walk (A : Option Addr) (n c : Nat) (zs : List Int) (hn : zs.length = n) (hm : n ≤ maxLen) (w : World) (hr : Rd w w.heap.size A (ints zs)) (hwf : ∀ z ∈ zs, (Lit.int .i64 z).wf = true) :
    Calls Try.prog 8 #[.slice A n c] w fun e w' => e = .returned (.bool true) ∧ Below w.heap.size w w' := by
  unfold maxLen at hm
  by_cases hlen : 1048576 < n
  · go_enter Try.func8, Try.ntmps8
    go_wp2
    go_ret
    exact ⟨rfl, Below.refl _ _⟩
  · have hb : n ≤ 1048576 := by omega
    obtain ⟨v, hv⟩ : ∃ v, Sum.val zs = v := ⟨_, rfl⟩
    obtain ⟨b, hbb⟩ : ∃ b, Sum.goodB zs = b := ⟨_, rfl⟩
    have HR := Lib.hid hr
    have HN := Lib.hid hn
    have HV := Lib.hid hv
    have HG := Lib.hid hbb
    clear hr hn hwf hv hbb hlen
    go_enter Try.func8, Try.ntmps8
    go_wp2_with fail
    refine (Ints.toIntS A n c zs _ HN.out hb HR.out).mono ?_
    rintro e w1 ⟨g1, rfl, s1, o1, b1⟩
    have O1 := Lib.hid o1
    have B1 := Lib.hid b1
    clear o1 b1
    go_wp2_with fail
    refine (Sum.spec _ n n zs w1.heap.size _ HN.out hb (Rd.own O1.out)).mono ?_
    rintro e w' ⟨rfl, rfl⟩
    rw [HV.out, HG.out]
    go_wp2_with fail
    refine (Ints.toIntS A n c zs _ HN.out hb ((HR.out.below B1.out).more B1.out.size)).mono ?_
    rintro e w2 ⟨g2, rfl, s2, o2, b2⟩
    have O2 := Lib.hid o2
    have B2 := Lib.hid (B1.out.trans (b2.mono B1.out.size))
    clear o2 b2
    go_wp2_with fail
    refine (Sum.impl _ n n zs _ HN.out hb (Rd.own O2.out)).mono ?_
    rintro e w3 ⟨rfl, b3⟩
    rw [HV.out, HG.out]
    have R3 := Lib.hid ((Rd.own O2.out).below b3 |>.more b3.size)
    have B3 := Lib.hid (B2.out.trans (b3.mono B2.out.size))
    clear b3
    cases b
    all_goals
      go_wp2_with fail
      refine (Ints.toIntS A n c zs _ HN.out hb ((HR.out.below B3.out).more B3.out.size)).mono ?_
      rintro e w4 ⟨g4, rfl, s4, o4, b4⟩
      have R4 := Lib.hid ((R3.out.below b4).more b4.size)
      have O4 := Lib.hid (Rd.own o4)
      have B4 := Lib.hid (B3.out.trans (b4.mono B3.out.size))
      clear o4 b4
      go_wp2_with fail
      refine (Ints.eqIntS _ _ n n n zs w4.heap.size _ HN.out hb R4.out O4.out).mono ?_
      rintro e w5 ⟨rfl, m, rfl⟩
      go_wp2_with fail
      go_ret
      exact ⟨rfl, below_drewN B4.out m⟩

set_option maxRecDepth 100000 in
theorem lifted (os : Os) (started : os.Started) (H : Type) (enc : TypeId × Value → H) :
    ReturnsInHanded {} Try.checked os 8 .any (Rows.fnExactSumMeasuresSpec.pre6 enc Try.prog Try.f8 Rows.fnExactSumMeasuresRow.domain false) (Rows.fnExactSumMeasuresSpec.post enc Try.prog Try.f8 false true false false) := by
  refine returnsInHanded_of_change (C := Try.checked) own started (by kernel_rfl) Try.func8
    (ChangeSpec.witness6 (enc := enc) (C := Try.checked) false ⟨#[], #[.slice none 0 0], []⟩ 8 (by kernel_rfl) (by kernel_rfl) (by kernel_rfl) (by kernel_rfl)) ?_
  intro W base args ds gs before hval0 hW hcnd hsz
  have hval : ∀ (j : Nat) t v, Try.f8.params[j]? = some t → args[j]? = some v → Value.okWide Try.prog W .any base t v := hval0
  have hW' := hW
  obtain ⟨p, q, hA0, hV, rfl, hfz, hnd⟩ := hW
  have hA1 := hA0
  have hA : DataW.TrodAll enc Try.prog W 0 (fun _ => true) true Try.f8.params.toList args.toList ds p := hA0
  rw [Try.params8] at hA hval
  obtain ⟨v0, vs0, d0, ds0, p0, q0, hargs, rfl, rfl, h0, r0⟩ := trodAll_cons hA
  obtain ⟨rfl, rfl, rfl⟩ := trodAll_nil r0
  obtain rfl : args = #[v0] := by cases args; simp_all
  obtain ⟨rfl, rfl⟩ := trodVars_none hV
  obtain ⟨A0, n0, c0, a0, rfl, l0, m0, g0, w0⟩ := take_ints Try.underlying29 Try.underlying3 (by kernel_rfl) (hval 0 29 v0 rfl rfl) h0
  clear hA0 hval0
  rw [List.append_nil] at hW'
  refine (walk A0 n0 c0 a0 l0 m0 W g0 w0).mono fun e W' ⟨he, hb⟩ => ?_
  subst he
  exact ⟨_, rfl, post_law rfl hW' hA1 laidOut (by rw [Try.params8]; exact of_decide_eq_true (by kernel_rfl)) 4 (by kernel_rfl) Try.underlying4 rfl hb⟩

theorem over : Rows.fnExactSumMeasuresRow.holds Try.pinned (OpenSpec.ofChange Rows.fnExactSumMeasuresSpec) :=
  OpenClaim.holds_of_wide 8 Try.f8 rfl rfl rfl rfl rfl rfl rfl ⟨rfl, rfl, rfl, rfl, rfl⟩ rfl rfl rfl rfl rfl (by kernel_rfl) Try.func8 (by kernel_rfl)
    (of_decide_eq_true (by kernel_rfl)) (by unfold Func.isWrapper; first | (rw [if_pos (by decide +kernel)]; kernel_rfl) | (rw [if_neg (by decide +kernel)]; exact ⟨rfl, rfl⟩))
    (fun os started H enc _ => lifted os started H enc)

/-- The statement. -/
theorem proved : Rows.FnExactSumMeasuresSaid :=
  over
#print axioms proved
end Go.Proofs.Ytgjfinbjjehlcaa.fnExactSumMeasures
