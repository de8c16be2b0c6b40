/- The law FnExactStepOf holds at every input. The step from the walk to the row follows the guide's own template. -/
import Derived.Test.YtfhjngkcgdkoaaaMem
import Derived.Test.YtfhjngkcgdkoaaaInts
import Derived.Test.YtfhjngkcgdkoaaaIm
import Derived.Test.YtfhjngkcgdkoaaaFw8
import Derived.Test.YtfhjngkcgdkoaaaSt8
import Derived.Deep.SlicePairs
namespace Go.Proofs.Ytfhjngkcgdkoaaa.fnExactStepOf
open Go.ChangeShapes Go.WideShapes Go.ChangeAt Go.RowKit Go.WideMaps Go.WideElems Go.Proofs.Ytfhjngkcgdkoaaa.Mem
open Go.ChangeMaps (open_string shut_string)
set_option linter.unusedVariables false
set_option linter.unusedSimpArgs false

theorem own : ownKnob Try.prog.godebug = none := by kernel_rfl
theorem laidOut : laidOutB Try.prog = true := by kernel_rfl

open Go.Proofs.Ytfhjngkcgdkoaaa.Tk Go.Proofs.Ytfhjngkcgdkoaaa.Fw8 Go.Proofs.Ytfhjngkcgdkoaaa.St8
open Go.Proofs.Ytfhjngkcgdkoaaa.Rw (owns_below owns_grown owns_base)

theorem own_at {w : World} {base : Nat} {e : TypeId} {size g n c : Nat} {xs : List Value} (h : w.ownsRow base e size (.slice (some ⟨g, 0, none⟩) n c) n xs) : base ≤ g := (h.lt g rfl).1

set_option maxRecDepth 100000 in
set_option maxHeartbeats 4000000 in
theorem walk (A0 : Option Addr) (n0 c0 : Nat) (zs0 : List Int) (hn0 : zs0.length = n0) (hm0 : n0 ≤ maxLen) (w : World) (hr0 : Rd w w.heap.size A0 (ints zs0)) (hwf0 : ∀ z ∈ zs0, (Lit.int .i64 z).wf = true) :
    Calls Try.prog 12 #[.slice A0 n0 c0] w fun e w' => e = .returned (.bool true) ∧ Below w.heap.size w w' := by
  unfold maxLen at hm0
  by_cases hlen0 : 1048576 < n0
  · clear hr0 hwf0 hn0
    go_enter Try.func12, Try.ntmps12
    go_wp2_with fail
    go_ret
    exact ⟨rfl, Below.refl _ _⟩
  have hb0 : n0 ≤ 1048576 := by omega
  obtain ⟨zr, hzr⟩ : ∃ z, stV zs0 = z := ⟨_, rfl⟩
  have CS := Lib.hid (show ∀ (b0 : Nat) (W : World) (h0 : Rd W W.heap.size (some ⟨b0, 0, none⟩) (ints zs0)), Calls Try.prog 46 #[.slice (some ⟨b0, 0, none⟩) n0 n0] W (fun e w' => e = .returned (.int .i64 zr) ∧ Below W.heap.size W w') from fun b0 W h0 => by have := stepS _ n0 n0 zs0 W hn0 hb0 h0; rw [hzr] at this; exact this)
  have CI := Lib.hid (show ∀ (b0 : Nat) (W : World) (h0 : Rd W W.heap.size (some ⟨b0, 0, none⟩) (ints zs0)), Calls Try.prog 47 #[.slice (some ⟨b0, 0, none⟩) n0 n0] W (fun e w' => e = .returned (.int .i64 zr) ∧ Below W.heap.size W w') from fun b0 W h0 => by have := stepI _ n0 n0 zs0 W hn0 hb0 h0; rw [hzr] at this; exact this)
  have EA0 := Lib.hid (show ∀ (A B : Option Addr) (c d : Nat) (W : World), Rd W W.heap.size A (ints zs0) → Rd W W.heap.size B (ints zs0) → Calls Try.prog 17 #[.slice A n0 c, .slice B n0 d] W (fun e w' => e = .returned (.bool true) ∧ Below W.heap.size W w') from fun A B c d W h k => Im.eqI A B n0 c d zs0 W hn0 hb0 h k)
  have HR0 := Lib.hid hr0
  have HN0 := Lib.hid hn0
  have hu : undef = Value.tuple #[] := rfl
  have BB := Lib.hid (Below.refl w.heap.size w)
  have hbn : (zr != zr) = false := by simp
  clear hr0 hn0 hwf0 hm0 hzr
  go_enter Try.func12, Try.ntmps12
  go_wp2_with fail
  refine (Ints.toIntS A0 n0 c0 zs0 _ HN0.out hb0 ((HR0.out.below BB.out).more BB.out.size)).mono ?_
  rintro e u1 ⟨gP0, rfl, _, ho, hb⟩
  have wlP0 : w.heap.size ≤ gP0 := Nat.le_trans BB.out.size (own_at ho)
  have XN := Lib.hid (owns_base ho wlP0)
  clear ho
  have BB2 := Lib.hid (BB.out.trans (hb.mono BB.out.size))
  clear hb BB
  have BB := BB2
  clear BB2
  have P0 := XN
  clear XN
  go_wp2_with fail
  refine (CS.out _ _ (Rd.own P0.out)).mono ?_
  rintro e u2 ⟨rfl, hb⟩
  have BB2 := Lib.hid (BB.out.trans (hb.mono BB.out.size))
  have P0n := Lib.hid (owns_below P0.out hb)
  clear hb BB P0
  have BB := BB2
  clear BB2
  have P0 := P0n
  clear P0n
  clear P0
  go_wp2_with fail
  refine (Ints.toIntS A0 n0 c0 zs0 _ HN0.out hb0 ((HR0.out.below BB.out).more BB.out.size)).mono ?_
  rintro e u3 ⟨gX0, rfl, _, ho, hb⟩
  have wlX0 : w.heap.size ≤ gX0 := Nat.le_trans BB.out.size (own_at ho)
  have XN := Lib.hid (owns_base ho wlX0)
  clear ho
  have BB2 := Lib.hid (BB.out.trans (hb.mono BB.out.size))
  clear hb BB
  have BB := BB2
  clear BB2
  have X0 := XN
  clear XN
  go_wp2_with fail
  refine (CI.out _ _ (Rd.own X0.out)).mono ?_
  rintro e u4 ⟨rfl, hb⟩
  have BB2 := Lib.hid (BB.out.trans (hb.mono BB.out.size))
  have X0n := Lib.hid (owns_below X0.out hb)
  clear hb BB X0
  have BB := BB2
  clear BB2
  have X0 := X0n
  clear X0n
  go_wp2_with fail
  refine (Ints.toIntS A0 n0 c0 zs0 _ HN0.out hb0 ((HR0.out.below BB.out).more BB.out.size)).mono ?_
  rintro e u5 ⟨gY0, rfl, _, ho, hb⟩
  have wlY0 : w.heap.size ≤ gY0 := Nat.le_trans BB.out.size (own_at ho)
  have ne_X0_Y0 : gX0 < gY0 := Nat.lt_of_lt_of_le (X0.out.lt _ rfl).2 (own_at ho)
  have XN := Lib.hid (owns_base ho wlY0)
  clear ho
  have BB2 := Lib.hid (BB.out.trans (hb.mono BB.out.size))
  have X0n := Lib.hid (owns_below X0.out hb)
  clear hb BB X0
  have BB := BB2
  clear BB2
  have X0 := X0n
  clear X0n
  have Y0 := XN
  clear XN
  go_wp2_with fail
  refine (EA0.out _ _ _ _ _ (Rd.own X0.out) (Rd.own Y0.out)).mono ?_
  rintro e u6 ⟨rfl, hb⟩
  have BB2 := Lib.hid (BB.out.trans (hb.mono BB.out.size))
  have X0n := Lib.hid (owns_below X0.out hb)
  have Y0n := Lib.hid (owns_below Y0.out hb)
  clear hb BB X0 Y0
  have BB := BB2
  clear BB2
  have X0 := X0n
  clear X0n
  have Y0 := Y0n
  clear Y0n
  clear Y0
  go_wp2_with fail
  go_ret
  exact ⟨rfl, BB.out⟩

set_option maxRecDepth 100000 in
theorem lifted (os : Os) (started : os.Started) (H : Type) (enc : TypeId × Value → H) :
    ReturnsInHanded {} Try.checked os 12 .any (Rows.fnExactStepOfSpec.pre6 enc Try.prog Try.f12 Rows.fnExactStepOfRow.domain false) (Rows.fnExactStepOfSpec.post enc Try.prog Try.f12 false true false false) := by
  refine returnsInHanded_of_change (C := Try.checked) own started (by kernel_rfl) Try.func12
    (ChangeSpec.witness6 (enc := enc) (C := Try.checked) false ⟨#[], #[.slice none 0 0], []⟩ 8 (by kernel_rfl) (by kernel_rfl) (by kernel_rfl) (by kernel_rfl)) ?_
  intro W base args ds gs before hval0 hW hcnd hsz
  have hval : ∀ (j : Nat) t v, Try.f12.params[j]? = some t → args[j]? = some v → Value.okWide Try.prog W .any base t v := hval0
  have hW' := hW
  obtain ⟨p, q, hA0, hV, rfl, hfz, hnd⟩ := hW
  have hA1 := hA0
  have hA : DataW.TrodAll enc Try.prog W 0 (fun _ => true) true Try.f12.params.toList args.toList ds p := hA0
  rw [Try.params12] at hA hval
  obtain ⟨v0, vs0, d0, ds0, p0, q0, hargs, rfl, rfl, h0, r0⟩ := trodAll_cons hA
  obtain ⟨rfl, rfl, rfl⟩ := trodAll_nil r0
  obtain rfl : args = #[v0] := by cases args; simp_all
  obtain ⟨rfl, rfl⟩ := trodVars_none hV
  obtain ⟨A0, n0, c0, a0, rfl, l0, m0, g0, w0⟩ := take_ints Try.underlying22 Try.underlying3 (by kernel_rfl) (hval 0 22 v0 rfl rfl) h0
  clear hA0 hval0
  rw [List.append_nil] at hW'
  refine (walk A0 n0 c0 a0 l0 m0 W g0 w0).mono fun e W' ⟨he, hb⟩ => ?_
  subst he
  exact ⟨_, rfl, post_law rfl hW' hA1 laidOut (by rw [Try.params12]; exact of_decide_eq_true (by kernel_rfl)) 4 (by kernel_rfl) Try.underlying4 rfl hb⟩

theorem over : Rows.fnExactStepOfRow.holds Try.pinned (OpenSpec.ofChange Rows.fnExactStepOfSpec) :=
  OpenClaim.holds_of_wide 12 Try.f12 rfl rfl rfl rfl rfl rfl rfl ⟨rfl, rfl, rfl, rfl, rfl⟩ rfl rfl rfl rfl rfl (by kernel_rfl) Try.func12 (by kernel_rfl)
    (of_decide_eq_true (by kernel_rfl)) (by unfold Func.isWrapper; first | (rw [if_pos (by decide +kernel)]; kernel_rfl) | (rw [if_neg (by decide +kernel)]; exact ⟨rfl, rfl⟩))
    (fun os started H enc _ => lifted os started H enc)

/-- The statement. -/
theorem proved : Rows.FnExactStepOfSaid :=
  over
#print axioms proved
end Go.Proofs.Ytfhjngkcgdkoaaa.fnExactStepOf
