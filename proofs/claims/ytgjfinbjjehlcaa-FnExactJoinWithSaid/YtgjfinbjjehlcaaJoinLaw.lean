/- The law FnExactJoinWith holds at every input. The step from the walk to the row follows the guide's own template. -/
import Derived.Test.YtgjfinbjjehlcaaMem
import Derived.Test.YtgjfinbjjehlcaaStrs
import Derived.Test.YtgjfinbjjehlcaaJoin
namespace Go.Proofs.Ytgjfinbjjehlcaa.fnExactJoinWith
open Go.ChangeShapes Go.WideShapes Go.ChangeAt Go.RowKit Go.WideMaps Go.WideElems Go.Proofs.Ytgjfinbjjehlcaa.Mem
open Go.ChangeMaps (open_string shut_string)
set_option linter.unusedVariables false

theorem own : ownKnob Try.prog.godebug = none := by kernel_rfl
theorem laidOut : laidOutB Try.prog = true := by kernel_rfl

set_option maxHeartbeats 1000000 in
theorem walk (A : Option Addr) (n c : Nat) (ss : List ByteArray) (hn : ss.length = n) (hm : n ≤ maxLen) (sep : ByteArray) (ws : sep.size ≤ maxLen) (w : World) (hr : Rd w w.heap.size A (Strs.strs ss)) (hwf : ∀ s ∈ ss, s.size ≤ maxLen) :
    Calls Try.prog 6 #[.slice A n c, .string sep] w fun e w' => e = .returned (.bool true) ∧ Below w.heap.size w w' := by
  unfold maxLen at hm ws hwf
  have hnb : n ≤ 9223372036854775807 := by omega
  by_cases hlen : 1048576 < sep.size
  · go_enter Try.func6, Try.ntmps6
    go_wp2
    go_ret
    exact ⟨rfl, Below.refl _ _⟩
  · have hsep : sep.size ≤ 1048576 := by omega
    have SZ := Lib.hid (Strs.szStringS A n c ss w.heap.size w hn hnb hwf hr)
    have HR := Lib.hid hr
    have HN := Lib.hid hn
    clear hr hn hwf hlen hm
    by_cases hb : ss.length + Strs.byteSum ss ≤ 1048576
    · have hl := Strs.left_yes hb
      have hl0 : 0 ≤ Strs.left ss := by omega
      have hnn : n ≤ 1048576 := by have := HN.out; omega
      have HB := Lib.hid hb
      obtain ⟨J, hJ⟩ : ∃ J, Join.joined ss sep = J := ⟨_, rfl⟩
      have HJ := Lib.hid hJ
      generalize Strs.left ss = lf at *
      clear hb hl hJ
      go_enter Try.func6, Try.ntmps6
      go_wp2_with fail
      refine (SZ.out).mono ?_
      rintro e w' ⟨rfl, rfl⟩
      go_wp2_with fail
      refine (Strs.toStringS A n c ss _ HN.out hnn HR.out).mono ?_
      rintro e w1 ⟨g1, rfl, s1, o1, b1⟩
      have O1 := Lib.hid o1
      have B1 := Lib.hid b1
      clear o1 b1
      go_wp2_with fail
      refine (Join.spec _ n n ss sep w1.heap.size _ HN.out HB.out hsep (Rd.own O1.out)).mono ?_
      rintro e w' ⟨rfl, rfl⟩
      rw [HJ.out]
      go_wp2_with fail
      refine (Strs.toStringS A n c ss _ HN.out hnn ((HR.out.below B1.out).more B1.out.size)).mono ?_
      rintro e w2 ⟨g2, rfl, s2, o2, b2⟩
      have O2 := Lib.hid o2
      have B2 := Lib.hid (B1.out.trans (b2.mono B1.out.size))
      clear o2 b2
      go_wp2_with fail
      refine (Join.impl _ n n ss sep _ HN.out (Nat.le_refl _) HB.out hsep (Rd.own O2.out)).mono ?_
      rintro e w3 ⟨rfl, b3⟩
      rw [HJ.out]
      have R3 := Lib.hid ((Rd.own O2.out).below b3 |>.more b3.size)
      have B3 := Lib.hid (B2.out.trans (b3.mono B2.out.size))
      clear b3
      go_wp2_with fail
      refine (Strs.toStringS A n c ss _ HN.out hnn ((HR.out.below B3.out).more B3.out.size)).mono ?_
      rintro e w4 ⟨g4, rfl, s4, o4, b4⟩
      have R4 := Lib.hid ((R3.out.below b4).more b4.size)
      have O4 := Lib.hid (Rd.own o4)
      have B4 := Lib.hid (B3.out.trans (b4.mono B3.out.size))
      clear o4 b4
      go_wp2_with fail
      refine (Strs.eqStringS _ _ n n n ss w4.heap.size _ HN.out hnb R4.out O4.out).mono ?_
      rintro e w5 ⟨rfl, m, rfl⟩
      go_wp2_with fail
      go_ret
      exact ⟨rfl, below_drewN B4.out m⟩
    · have hl := Strs.left_no (ss := ss) (by omega)
      have HL := Lib.hid hl
      clear hb hl
      go_enter Try.func6, Try.ntmps6
      go_wp2_with fail
      refine (SZ.out).mono ?_
      rintro e w' ⟨rfl, rfl⟩
      rw [HL.out]
      go_wp2_with fail
      go_ret
      exact ⟨rfl, Below.refl _ _⟩

set_option maxRecDepth 100000 in
theorem lifted (os : Os) (started : os.Started) (H : Type) (enc : TypeId × Value → H) :
    ReturnsInHanded {} Try.checked os 6 .any (Rows.fnExactJoinWithSpec.pre6 enc Try.prog Try.f6 Rows.fnExactJoinWithRow.domain false) (Rows.fnExactJoinWithSpec.post enc Try.prog Try.f6 false true false false) := by
  refine returnsInHanded_of_change (C := Try.checked) own started (by kernel_rfl) Try.func6
    (ChangeSpec.witness6 (enc := enc) (C := Try.checked) false ⟨#[], #[.slice none 0 0, .string ByteArray.empty], []⟩ 8 (by kernel_rfl) (by kernel_rfl) (by kernel_rfl) (by kernel_rfl)) ?_
  intro W base args ds gs before hval0 hW hcnd hsz
  have hval : ∀ (j : Nat) t v, Try.f6.params[j]? = some t → args[j]? = some v → Value.okWide Try.prog W .any base t v := hval0
  have hW' := hW
  obtain ⟨p, q, hA0, hV, rfl, hfz, hnd⟩ := hW
  have hA1 := hA0
  have hA : DataW.TrodAll enc Try.prog W 0 (fun _ => true) true Try.f6.params.toList args.toList ds p := hA0
  rw [Try.params6] at hA hval
  obtain ⟨v0, vs0, d0, ds0, p0, q0, hargs, rfl, rfl, h0, r0⟩ := trodAll_cons hA
  obtain ⟨v1, vs1, d1, ds1, p1, q1, rfl, rfl, rfl, h1, r1⟩ := trodAll_cons r0
  obtain ⟨rfl, rfl, rfl⟩ := trodAll_nil r1
  obtain rfl : args = #[v0, v1] := by cases args; simp_all
  obtain ⟨rfl, rfl⟩ := trodVars_none hV
  obtain ⟨A0, n0, c0, a0, rfl, l0, m0, g0, w0⟩ := take_strs Try.underlying36 Try.underlying9 (by kernel_rfl) (hval 0 36 v0 rfl rfl) h0
  obtain ⟨a1, rfl, rfl, rfl, w1⟩ := open_string Try.underlying9 (hval 1 9 v1 rfl rfl) h1
  clear hA0 hval0
  rw [List.append_nil] at hW'
  refine (walk A0 n0 c0 a0 l0 m0 a1 w1 W g0 w0).mono fun e W' ⟨he, hb⟩ => ?_
  subst he
  exact ⟨_, rfl, post_law rfl hW' hA1 laidOut (by rw [Try.params6]; exact of_decide_eq_true (by kernel_rfl)) 4 (by kernel_rfl) Try.underlying4 rfl hb⟩

theorem over : Rows.fnExactJoinWithRow.holds Try.pinned (OpenSpec.ofChange Rows.fnExactJoinWithSpec) :=
  OpenClaim.holds_of_wide 6 Try.f6 rfl rfl rfl rfl rfl rfl rfl ⟨rfl, rfl, rfl, rfl, rfl⟩ rfl rfl rfl rfl rfl (by kernel_rfl) Try.func6 (by kernel_rfl)
    (of_decide_eq_true (by kernel_rfl)) (by unfold Func.isWrapper; first | (rw [if_pos (by decide +kernel)]; kernel_rfl) | (rw [if_neg (by decide +kernel)]; exact ⟨rfl, rfl⟩))
    (fun os started H enc _ => lifted os started H enc)

/-- The statement. -/
theorem proved : Rows.FnExactJoinWithSaid :=
  over
#print axioms proved
end Go.Proofs.Ytgjfinbjjehlcaa.fnExactJoinWith
