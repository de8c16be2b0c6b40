/- The law FnExactLackOf holds at every input. The step from the walk to the row follows the guide's own template. -/
import Derived.Test.YthlcmcpfpblmaaaMem
import Derived.Test.YthlcmcpfpblmaaaInts
import Derived.Test.YthlcmcpfpblmaaaWs
import Derived.Test.YthlcmcpfpblmaaaIm
import Derived.Test.YthlcmcpfpblmaaaWf5
namespace Go.Proofs.Ythlcmcpfpblmaaa.fnExactLackOf
open Go.ChangeShapes Go.WideShapes Go.ChangeAt Go.RowKit Go.WideMaps Go.WideElems Go.Proofs.Ythlcmcpfpblmaaa.Mem
open Go.ChangeMaps (open_string shut_string)
set_option linter.unusedVariables false
set_option linter.unusedSimpArgs false

theorem own : ownKnob Try.prog.godebug = none := by kernel_rfl
theorem laidOut : laidOutB Try.prog = true := by kernel_rfl

open Go.Proofs.Ythlcmcpfpblmaaa.Rw Go.Proofs.Ythlcmcpfpblmaaa.Dm Go.Proofs.Ythlcmcpfpblmaaa.Ws Go.Proofs.Ythlcmcpfpblmaaa.Wp Go.Proofs.Ythlcmcpfpblmaaa.Wq Go.Proofs.Ythlcmcpfpblmaaa.Im Go.Proofs.Ythlcmcpfpblmaaa.Wf5

set_option maxRecDepth 100000 in
set_option maxHeartbeats 4000000 in
theorem walk (A0 : Option Addr) (n0 c0 : Nat) (zs0 : List Int) (hn0 : zs0.length = n0) (hm0 : n0 ≤ maxLen) (A1 : Option Addr) (n1 c1 : Nat) (zs1 : List Int) (hn1 : zs1.length = n1) (hm1 : n1 ≤ maxLen) (w : World) (hr0 : Rd w w.heap.size A0 (ints zs0)) (hwf0 : ∀ z ∈ zs0, (Lit.int .i64 z).wf = true) (hr1 : Rd w w.heap.size A1 (ints zs1)) (hwf1 : ∀ z ∈ zs1, (Lit.int .i64 z).wf = true) :
    Calls Try.prog 10 #[.slice A0 n0 c0, .slice A1 n1 c1] w fun e w' => e = .returned (.bool true) ∧ Below w.heap.size w w' := by
  unfold maxLen at hm0
  unfold maxLen at hm1
  by_cases hlen0 : 1048576 < n0
  · go_enter Try.func10, Try.ntmps10
    go_wp2_with fail
    go_ret
    exact ⟨rfl, Below.refl _ _⟩
  have hb0 : n0 ≤ 1048576 := by omega
  by_cases hlen1 : 1048576 < n1
  · have hq0 : ¬ 1048576 < n0 := by omega
    go_enter Try.func10, Try.ntmps10
    go_wp2_with fail
    go_ret
    exact ⟨rfl, Below.refl _ _⟩
  have hb1 : n1 ≤ 1048576 := by omega
  have hq0 : ¬ 1048576 < n0 := by omega
  have HR0 := Lib.hid hr0
  have HN0 := Lib.hid hn0
  have hq1 : ¬ 1048576 < n1 := by omega
  have HR1 := Lib.hid hr1
  have HN1 := Lib.hid hn1
  obtain ⟨b, hbv⟩ : ∃ b, lack zs0 zs1 = b := ⟨_, rfl⟩
  have CS := Lib.hid (show ∀ (W : World) (A0' : Option Addr) (h0 : Rd W W.heap.size A0' (ints zs0)) (A1' : Option Addr) (h1 : Rd W W.heap.size A1' (ints zs1)), Calls Try.prog 33 #[.slice A0' n0 n0, .slice A1' n1 n1] W (fun e w' => e = .returned (.int .i64 b) ∧ Below W.heap.size W w') from fun W A0' h0 A1' h1 => by have := lackS A0' A1' n0 n1 n0 n1 zs0 zs1 W HN0.out HN1.out hb0 hb1 h0 h1; rw [hbv] at this; exact this)
  have CI := Lib.hid (show ∀ (W : World) (A0' : Option Addr) (h0 : Rd W W.heap.size A0' (ints zs0)) (A1' : Option Addr) (h1 : Rd W W.heap.size A1' (ints zs1)), Calls Try.prog 34 #[.slice A0' n0 n0, .slice A1' n1 n1] W (fun e w' => e = .returned (.int .i64 b) ∧ Below W.heap.size W w') from fun W A0' h0 A1' h1 => by have := lackI A0' A1' n0 n1 n0 n1 zs0 zs1 W HN0.out HN1.out hb0 hb1 h0 h1; rw [hbv] at this; exact this)
  clear hbv
  have hbn : (b != b) = false := by simp
  have hu : undef = Value.tuple #[] := rfl
  have BB := Lib.hid (Below.refl w.heap.size w)
  clear hr0 hn0 hwf0 hlen0 hm0 hr1 hn1 hwf1 hlen1 hm1
  go_enter Try.func10, Try.ntmps10
  go_wp2_with fail
  refine (Ints.toIntS A0 n0 c0 zs0 _ HN0.out hb0 ((HR0.out.below BB.out).more BB.out.size)).mono ?_
  rintro e u1 ⟨gX0, rfl, _, ho, hb⟩
  have wlX0 : w.heap.size ≤ gX0 := Nat.le_trans BB.out.size (own_base ho gX0 rfl)
  have XN := Lib.hid (owns_base ho wlX0)
  clear ho
  have BB2 := Lib.hid (BB.out.trans (hb.mono BB.out.size))
  clear hb BB
  have BB := BB2
  clear BB2
  have X0 := XN
  clear XN
  go_wp2_with fail
  refine (Ints.toIntS A1 n1 c1 zs1 _ HN1.out hb1 ((HR1.out.below BB.out).more BB.out.size)).mono ?_
  rintro e u2 ⟨gX1, rfl, _, ho, hb⟩
  have wlX1 : w.heap.size ≤ gX1 := Nat.le_trans BB.out.size (own_base ho gX1 rfl)
  have ne_X0_X1 : gX0 < gX1 := Nat.lt_of_lt_of_le (X0.out.lt _ rfl).2 (own_base ho gX1 rfl)
  have XN := Lib.hid (owns_base ho wlX1)
  clear ho
  have BB2 := Lib.hid (BB.out.trans (hb.mono BB.out.size))
  have X0n := Lib.hid (owns_below X0.out hb)
  clear hb BB X0
  have BB := BB2
  clear BB2
  have X0 := X0n
  clear X0n
  have X1 := XN
  clear XN
  go_wp2_with fail
  refine (CS.out _ _ (Rd.own X0.out) _ (Rd.own X1.out)).mono ?_
  rintro e u3 ⟨rfl, hb⟩
  have BB2 := Lib.hid (BB.out.trans (hb.mono BB.out.size))
  have X0n := Lib.hid (owns_below X0.out hb)
  have X1n := Lib.hid (owns_below X1.out hb)
  clear hb BB X0 X1
  have BB := BB2
  clear BB2
  have X0 := X0n
  clear X0n
  have X1 := X1n
  clear X1n
  clear X0
  clear X1
  go_wp2_with fail
  refine (Ints.toIntS A0 n0 c0 zs0 _ HN0.out hb0 ((HR0.out.below BB.out).more BB.out.size)).mono ?_
  rintro e u4 ⟨gY0, rfl, _, ho, hb⟩
  have wlY0 : w.heap.size ≤ gY0 := Nat.le_trans BB.out.size (own_base ho gY0 rfl)
  have XN := Lib.hid (owns_base ho wlY0)
  clear ho
  have BB2 := Lib.hid (BB.out.trans (hb.mono BB.out.size))
  clear hb BB
  have BB := BB2
  clear BB2
  have Y0 := XN
  clear XN
  go_wp2_with fail
  refine (Ints.toIntS A1 n1 c1 zs1 _ HN1.out hb1 ((HR1.out.below BB.out).more BB.out.size)).mono ?_
  rintro e u5 ⟨gY1, rfl, _, ho, hb⟩
  have wlY1 : w.heap.size ≤ gY1 := Nat.le_trans BB.out.size (own_base ho gY1 rfl)
  have ne_Y0_Y1 : gY0 < gY1 := Nat.lt_of_lt_of_le (Y0.out.lt _ rfl).2 (own_base ho gY1 rfl)
  have XN := Lib.hid (owns_base ho wlY1)
  clear ho
  have BB2 := Lib.hid (BB.out.trans (hb.mono BB.out.size))
  have Y0n := Lib.hid (owns_below Y0.out hb)
  clear hb BB Y0
  have BB := BB2
  clear BB2
  have Y0 := Y0n
  clear Y0n
  have Y1 := XN
  clear XN
  go_wp2_with fail
  refine (CI.out _ _ (Rd.own Y0.out) _ (Rd.own Y1.out)).mono ?_
  rintro e u6 ⟨rfl, hb⟩
  have BB2 := Lib.hid (BB.out.trans (hb.mono BB.out.size))
  have Y0n := Lib.hid (owns_below Y0.out hb)
  have Y1n := Lib.hid (owns_below Y1.out hb)
  clear hb BB Y0 Y1
  have BB := BB2
  clear BB2
  have Y0 := Y0n
  clear Y0n
  have Y1 := Y1n
  clear Y1n
  go_wp2_with fail
  refine (Ints.toIntS A0 n0 c0 zs0 _ HN0.out hb0 ((HR0.out.below BB.out).more BB.out.size)).mono ?_
  rintro e u7 ⟨gZ0, rfl, _, ho, hb⟩
  have wlZ0 : w.heap.size ≤ gZ0 := Nat.le_trans BB.out.size (own_base ho gZ0 rfl)
  have ne_Y0_Z0 : gY0 < gZ0 := Nat.lt_of_lt_of_le (Y0.out.lt _ rfl).2 (own_base ho gZ0 rfl)
  have ne_Y1_Z0 : gY1 < gZ0 := Nat.lt_of_lt_of_le (Y1.out.lt _ rfl).2 (own_base ho gZ0 rfl)
  have XN := Lib.hid (owns_base ho wlZ0)
  clear ho
  have BB2 := Lib.hid (BB.out.trans (hb.mono BB.out.size))
  have Y0n := Lib.hid (owns_below Y0.out hb)
  have Y1n := Lib.hid (owns_below Y1.out hb)
  clear hb BB Y0 Y1
  have BB := BB2
  clear BB2
  have Y0 := Y0n
  clear Y0n
  have Y1 := Y1n
  clear Y1n
  have Z0 := XN
  clear XN
  go_wp2_with fail
  refine (eqI _ _ n0 n0 n0 zs0 _ HN0.out hb0 (Rd.own Y0.out) (Rd.own Z0.out)).mono ?_
  rintro e u8 ⟨rfl, hb⟩
  have BB2 := Lib.hid (BB.out.trans (hb.mono BB.out.size))
  have Y0n := Lib.hid (owns_below Y0.out hb)
  have Y1n := Lib.hid (owns_below Y1.out hb)
  have Z0n := Lib.hid (owns_below Z0.out hb)
  clear hb BB Y0 Y1 Z0
  have BB := BB2
  clear BB2
  have Y0 := Y0n
  clear Y0n
  have Y1 := Y1n
  clear Y1n
  have Z0 := Z0n
  clear Z0n
  clear Z0
  go_wp2_with fail
  refine (Ints.toIntS A1 n1 c1 zs1 _ HN1.out hb1 ((HR1.out.below BB.out).more BB.out.size)).mono ?_
  rintro e u9 ⟨gZ1, rfl, _, ho, hb⟩
  have wlZ1 : w.heap.size ≤ gZ1 := Nat.le_trans BB.out.size (own_base ho gZ1 rfl)
  have ne_Y0_Z1 : gY0 < gZ1 := Nat.lt_of_lt_of_le (Y0.out.lt _ rfl).2 (own_base ho gZ1 rfl)
  have ne_Y1_Z1 : gY1 < gZ1 := Nat.lt_of_lt_of_le (Y1.out.lt _ rfl).2 (own_base ho gZ1 rfl)
  have XN := Lib.hid (owns_base ho wlZ1)
  clear ho
  have BB2 := Lib.hid (BB.out.trans (hb.mono BB.out.size))
  have Y0n := Lib.hid (owns_below Y0.out hb)
  have Y1n := Lib.hid (owns_below Y1.out hb)
  clear hb BB Y0 Y1
  have BB := BB2
  clear BB2
  have Y0 := Y0n
  clear Y0n
  have Y1 := Y1n
  clear Y1n
  have Z1 := XN
  clear XN
  go_wp2_with fail
  refine (eqI _ _ n1 n1 n1 zs1 _ HN1.out hb1 (Rd.own Y1.out) (Rd.own Z1.out)).mono ?_
  rintro e u10 ⟨rfl, hb⟩
  have BB2 := Lib.hid (BB.out.trans (hb.mono BB.out.size))
  have Y0n := Lib.hid (owns_below Y0.out hb)
  have Y1n := Lib.hid (owns_below Y1.out hb)
  have Z1n := Lib.hid (owns_below Z1.out hb)
  clear hb BB Y0 Y1 Z1
  have BB := BB2
  clear BB2
  have Y0 := Y0n
  clear Y0n
  have Y1 := Y1n
  clear Y1n
  have Z1 := Z1n
  clear Z1n
  clear Z1
  go_wp2_with fail
  go_ret
  exact ⟨rfl, BB.out⟩

set_option maxRecDepth 100000 in
theorem lifted (os : Os) (started : os.Started) (H : Type) (enc : TypeId × Value → H) :
    ReturnsInHanded {} Try.checked os 10 .any (Rows.fnExactLackOfSpec.pre6 enc Try.prog Try.f10 Rows.fnExactLackOfRow.domain false) (Rows.fnExactLackOfSpec.post enc Try.prog Try.f10 false true false false) := by
  refine returnsInHanded_of_change (C := Try.checked) own started (by kernel_rfl) Try.func10
    (ChangeSpec.witness6 (enc := enc) (C := Try.checked) false ⟨#[], #[.slice none 0 0, .slice none 0 0], []⟩ 8 (by kernel_rfl) (by kernel_rfl) (by kernel_rfl) (by kernel_rfl)) ?_
  intro W base args ds gs before hval0 hW hcnd hsz
  have hval : ∀ (j : Nat) t v, Try.f10.params[j]? = some t → args[j]? = some v → Value.okWide Try.prog W .any base t v := hval0
  have hW' := hW
  obtain ⟨p, q, hA0, hV, rfl, hfz, hnd⟩ := hW
  have hA1 := hA0
  have hA : DataW.TrodAll enc Try.prog W 0 (fun _ => true) true Try.f10.params.toList args.toList ds p := hA0
  rw [Try.params10] at hA hval
  obtain ⟨v0, vs0, d0, ds0, p0, q0, hargs, rfl, rfl, h0, r0⟩ := trodAll_cons hA
  obtain ⟨v1, vs1, d1, ds1, p1, q1, rfl, rfl, rfl, h1, r1⟩ := trodAll_cons r0
  obtain ⟨rfl, rfl, rfl⟩ := trodAll_nil r1
  obtain rfl : args = #[v0, v1] := by cases args; simp_all
  obtain ⟨rfl, rfl⟩ := trodVars_none hV
  obtain ⟨A0, n0, c0, a0, rfl, l0, m0, g0, w0⟩ := take_ints Try.underlying22 Try.underlying3 (by kernel_rfl) (hval 0 22 v0 rfl rfl) h0
  obtain ⟨A1, n1, c1, a1, rfl, l1, m1, g1, w1⟩ := take_ints Try.underlying22 Try.underlying3 (by kernel_rfl) (hval 1 22 v1 rfl rfl) h1
  clear hA0 hval0
  rw [List.append_nil] at hW'
  refine (walk A0 n0 c0 a0 l0 m0 A1 n1 c1 a1 l1 m1 W g0 w0 g1 w1).mono fun e W' ⟨he, hb⟩ => ?_
  subst he
  exact ⟨_, rfl, post_law rfl hW' hA1 laidOut (by rw [Try.params10]; exact of_decide_eq_true (by kernel_rfl)) 4 (by kernel_rfl) Try.underlying4 rfl hb⟩

theorem over : Rows.fnExactLackOfRow.holds Try.pinned (OpenSpec.ofChange Rows.fnExactLackOfSpec) :=
  OpenClaim.holds_of_wide 10 Try.f10 rfl rfl rfl rfl rfl rfl rfl ⟨rfl, rfl, rfl, rfl, rfl⟩ rfl rfl rfl rfl rfl (by kernel_rfl) Try.func10 (by kernel_rfl)
    (of_decide_eq_true (by kernel_rfl)) (by unfold Func.isWrapper; first | (rw [if_pos (by decide +kernel)]; kernel_rfl) | (rw [if_neg (by decide +kernel)]; exact ⟨rfl, rfl⟩))
    (fun os started H enc _ => lifted os started H enc)

/-- The statement. -/
theorem proved : Rows.FnExactLackOfSaid :=
  over
#print axioms proved
end Go.Proofs.Ythlcmcpfpblmaaa.fnExactLackOf
