/- The law FnExactTotalOf holds at every input. The step from the walk to the row follows the guide's own template. -/
import Derived.Test.YthlcmcpfpblmaaaMem
import Derived.Test.YthlcmcpfpblmaaaInts
import Derived.Test.YthlcmcpfpblmaaaWs
import Derived.Test.YthlcmcpfpblmaaaIm
import Derived.Test.YthlcmcpfpblmaaaWq
namespace Go.Proofs.Ythlcmcpfpblmaaa.fnExactTotalOf
open Go.ChangeShapes Go.WideShapes Go.ChangeAt Go.RowKit Go.WideMaps Go.WideElems Go.Proofs.Ythlcmcpfpblmaaa.Mem
open Go.ChangeMaps (open_string shut_string)
set_option linter.unusedVariables false
set_option linter.unusedSimpArgs false

theorem own : ownKnob Try.prog.godebug = none := by kernel_rfl
theorem laidOut : laidOutB Try.prog = true := by kernel_rfl

open Go.Proofs.Ythlcmcpfpblmaaa.Rw Go.Proofs.Ythlcmcpfpblmaaa.Dm Go.Proofs.Ythlcmcpfpblmaaa.Ws Go.Proofs.Ythlcmcpfpblmaaa.Wp Go.Proofs.Ythlcmcpfpblmaaa.Wq Go.Proofs.Ythlcmcpfpblmaaa.Im

set_option maxRecDepth 100000 in
set_option maxHeartbeats 4000000 in
theorem walk (A0 : Option Addr) (n0 c0 : Nat) (zs0 : List Int) (hn0 : zs0.length = n0) (hm0 : n0 ≤ maxLen) (w : World) (hr0 : Rd w w.heap.size A0 (ints zs0)) (hwf0 : ∀ z ∈ zs0, (Lit.int .i64 z).wf = true) :
    Calls Try.prog 4 #[.slice A0 n0 c0] w fun e w' => e = .returned (.bool true) ∧ Below w.heap.size w w' := by
  unfold maxLen at hm0
  by_cases hlen0 : 1048576 < n0
  · go_enter Try.func4, Try.ntmps4
    go_wp2_with fail
    go_ret
    exact ⟨rfl, Below.refl _ _⟩
  have hb0 : n0 ≤ 1048576 := by omega
  have hq0 : ¬ 1048576 < n0 := by omega
  have HR0 := Lib.hid hr0
  have HN0 := Lib.hid hn0
  obtain ⟨b, hbv⟩ : ∃ b, totB zs0 = b := ⟨_, rfl⟩
  have CS := Lib.hid (show ∀ (W : World) (A0' : Option Addr) (h0 : Rd W W.heap.size A0' (ints zs0)), Calls Try.prog 19 #[.slice A0' n0 n0] W (fun e w' => e = .returned (.int .i64 b) ∧ W = w') from fun W A0' h0 => by have := totS A0' n0 n0 zs0 _ W HN0.out hb0 h0; rw [hbv] at this; exact this)
  have CI := Lib.hid (show ∀ (W : World) (A0' : Option Addr) (h0 : Rd W W.heap.size A0' (ints zs0)), Calls Try.prog 20 #[.slice A0' n0 n0] W (fun e w' => e = .returned (.int .i64 b) ∧ Below W.heap.size W w') from fun W A0' h0 => by have := totI A0' n0 n0 zs0 W HN0.out hb0 h0; rw [hbv] at this; exact this)
  clear hbv
  have hbn : (b != b) = false := by simp
  have hu : undef = Value.tuple #[] := rfl
  have BB := Lib.hid (Below.refl w.heap.size w)
  clear hr0 hn0 hwf0 hlen0 hm0
  go_enter Try.func4, Try.ntmps4
  go_wp2_with fail
  refine (Ints.toIntS A0 n0 c0 zs0 _ HN0.out hb0 ((HR0.out.below BB.out).more BB.out.size)).mono ?_
  rintro e u1 ⟨gX0, rfl, _, ho, hb⟩
  have wlX0 : w.heap.size ≤ gX0 := Nat.le_trans BB.out.size (own_base ho gX0 rfl)
  have XN := Lib.hid (owns_base ho wlX0)
  clear ho
  have BB2 := Lib.hid (BB.out.trans (hb.mono BB.out.size))
  clear hb BB
  have BB := BB2
  clear BB2
  have X0 := XN
  clear XN
  go_wp2_with fail
  refine (CS.out _ _ (Rd.own X0.out)).mono ?_
  rintro e w' ⟨rfl, rfl⟩
  clear X0
  go_wp2_with fail
  refine (Ints.toIntS A0 n0 c0 zs0 _ HN0.out hb0 ((HR0.out.below BB.out).more BB.out.size)).mono ?_
  rintro e u3 ⟨gY0, rfl, _, ho, hb⟩
  have wlY0 : w.heap.size ≤ gY0 := Nat.le_trans BB.out.size (own_base ho gY0 rfl)
  have XN := Lib.hid (owns_base ho wlY0)
  clear ho
  have BB2 := Lib.hid (BB.out.trans (hb.mono BB.out.size))
  clear hb BB
  have BB := BB2
  clear BB2
  have Y0 := XN
  clear XN
  go_wp2_with fail
  refine (CI.out _ _ (Rd.own Y0.out)).mono ?_
  rintro e u4 ⟨rfl, hb⟩
  have BB2 := Lib.hid (BB.out.trans (hb.mono BB.out.size))
  have Y0n := Lib.hid (owns_below Y0.out hb)
  clear hb BB Y0
  have BB := BB2
  clear BB2
  have Y0 := Y0n
  clear Y0n
  go_wp2_with fail
  refine (Ints.toIntS A0 n0 c0 zs0 _ HN0.out hb0 ((HR0.out.below BB.out).more BB.out.size)).mono ?_
  rintro e u5 ⟨gZ0, rfl, _, ho, hb⟩
  have wlZ0 : w.heap.size ≤ gZ0 := Nat.le_trans BB.out.size (own_base ho gZ0 rfl)
  have ne_Y0_Z0 : gY0 < gZ0 := Nat.lt_of_lt_of_le (Y0.out.lt _ rfl).2 (own_base ho gZ0 rfl)
  have XN := Lib.hid (owns_base ho wlZ0)
  clear ho
  have BB2 := Lib.hid (BB.out.trans (hb.mono BB.out.size))
  have Y0n := Lib.hid (owns_below Y0.out hb)
  clear hb BB Y0
  have BB := BB2
  clear BB2
  have Y0 := Y0n
  clear Y0n
  have Z0 := XN
  clear XN
  go_wp2_with fail
  refine (eqI _ _ n0 n0 n0 zs0 _ HN0.out hb0 (Rd.own Y0.out) (Rd.own Z0.out)).mono ?_
  rintro e u6 ⟨rfl, hb⟩
  have BB2 := Lib.hid (BB.out.trans (hb.mono BB.out.size))
  have Y0n := Lib.hid (owns_below Y0.out hb)
  have Z0n := Lib.hid (owns_below Z0.out hb)
  clear hb BB Y0 Z0
  have BB := BB2
  clear BB2
  have Y0 := Y0n
  clear Y0n
  have Z0 := Z0n
  clear Z0n
  clear Z0
  go_wp2_with fail
  go_ret
  exact ⟨rfl, BB.out⟩

set_option maxRecDepth 100000 in
theorem lifted (os : Os) (started : os.Started) (H : Type) (enc : TypeId × Value → H) :
    ReturnsInHanded {} Try.checked os 4 .any (Rows.fnExactTotalOfSpec.pre6 enc Try.prog Try.f4 Rows.fnExactTotalOfRow.domain false) (Rows.fnExactTotalOfSpec.post enc Try.prog Try.f4 false true false false) := by
  refine returnsInHanded_of_change (C := Try.checked) own started (by kernel_rfl) Try.func4
    (ChangeSpec.witness6 (enc := enc) (C := Try.checked) false ⟨#[], #[.slice none 0 0], []⟩ 8 (by kernel_rfl) (by kernel_rfl) (by kernel_rfl) (by kernel_rfl)) ?_
  intro W base args ds gs before hval0 hW hcnd hsz
  have hval : ∀ (j : Nat) t v, Try.f4.params[j]? = some t → args[j]? = some v → Value.okWide Try.prog W .any base t v := hval0
  have hW' := hW
  obtain ⟨p, q, hA0, hV, rfl, hfz, hnd⟩ := hW
  have hA1 := hA0
  have hA : DataW.TrodAll enc Try.prog W 0 (fun _ => true) true Try.f4.params.toList args.toList ds p := hA0
  rw [Try.params4] at hA hval
  obtain ⟨v0, vs0, d0, ds0, p0, q0, hargs, rfl, rfl, h0, r0⟩ := trodAll_cons hA
  obtain ⟨rfl, rfl, rfl⟩ := trodAll_nil r0
  obtain rfl : args = #[v0] := by cases args; simp_all
  obtain ⟨rfl, rfl⟩ := trodVars_none hV
  obtain ⟨A0, n0, c0, a0, rfl, l0, m0, g0, w0⟩ := take_ints Try.underlying22 Try.underlying3 (by kernel_rfl) (hval 0 22 v0 rfl rfl) h0
  clear hA0 hval0
  rw [List.append_nil] at hW'
  refine (walk A0 n0 c0 a0 l0 m0 W g0 w0).mono fun e W' ⟨he, hb⟩ => ?_
  subst he
  exact ⟨_, rfl, post_law rfl hW' hA1 laidOut (by rw [Try.params4]; exact of_decide_eq_true (by kernel_rfl)) 4 (by kernel_rfl) Try.underlying4 rfl hb⟩

theorem over : Rows.fnExactTotalOfRow.holds Try.pinned (OpenSpec.ofChange Rows.fnExactTotalOfSpec) :=
  OpenClaim.holds_of_wide 4 Try.f4 rfl rfl rfl rfl rfl rfl rfl ⟨rfl, rfl, rfl, rfl, rfl⟩ rfl rfl rfl rfl rfl (by kernel_rfl) Try.func4 (by kernel_rfl)
    (of_decide_eq_true (by kernel_rfl)) (by unfold Func.isWrapper; first | (rw [if_pos (by decide +kernel)]; kernel_rfl) | (rw [if_neg (by decide +kernel)]; exact ⟨rfl, rfl⟩))
    (fun os started H enc _ => lifted os started H enc)

/-- The statement. -/
theorem proved : Rows.FnExactTotalOfSaid :=
  over
#print axioms proved
end Go.Proofs.Ythlcmcpfpblmaaa.fnExactTotalOf
