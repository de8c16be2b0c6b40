/- The law FnExactIsFair holds at every input. The step from the walk to the row follows the guide's own template. -/
import Derived.Test.YthlcmcpfpblmaaaMem
import Derived.Test.YthlcmcpfpblmaaaInts
import Derived.Test.YthlcmcpfpblmaaaWs
import Derived.Test.YthlcmcpfpblmaaaIm
import Derived.Test.YthlcmcpfpblmaaaWh5
namespace Go.Proofs.Ythlcmcpfpblmaaa.fnExactIsFair
open Go.ChangeShapes Go.WideShapes Go.ChangeAt Go.RowKit Go.WideMaps Go.WideElems Go.Proofs.Ythlcmcpfpblmaaa.Mem
open Go.ChangeMaps (open_string shut_string)
set_option linter.unusedVariables false
set_option linter.unusedSimpArgs false

theorem own : ownKnob Try.prog.godebug = none := by kernel_rfl
theorem laidOut : laidOutB Try.prog = true := by kernel_rfl

open Go.Proofs.Ythlcmcpfpblmaaa.Rw Go.Proofs.Ythlcmcpfpblmaaa.Dm Go.Proofs.Ythlcmcpfpblmaaa.Ws Go.Proofs.Ythlcmcpfpblmaaa.Wp Go.Proofs.Ythlcmcpfpblmaaa.Wq Go.Proofs.Ythlcmcpfpblmaaa.Im Go.Proofs.Ythlcmcpfpblmaaa.Wf5 Go.Proofs.Ythlcmcpfpblmaaa.Wh5

set_option maxRecDepth 100000 in
set_option maxHeartbeats 4000000 in
theorem walk (s : Int) (hws : (Lit.int .i64 s).wf = true) (A1 : Option Addr) (n1 c1 : Nat) (zs1 : List Int) (hn1 : zs1.length = n1) (hm1 : n1 ≤ maxLen) (A2 : Option Addr) (n2 c2 : Nat) (zs2 : List Int) (hn2 : zs2.length = n2) (hm2 : n2 ≤ maxLen) (w : World) (hr1 : Rd w w.heap.size A1 (ints zs1)) (hwf1 : ∀ z ∈ zs1, (Lit.int .i64 z).wf = true) (hr2 : Rd w w.heap.size A2 (ints zs2)) (hwf2 : ∀ z ∈ zs2, (Lit.int .i64 z).wf = true) :
    Calls Try.prog 9 #[.int .i64 s, .slice A1 n1 c1, .slice A2 n2 c2] w fun e w' => e = .returned (.bool true) ∧ Below w.heap.size w w' := by
  unfold maxLen at hm1
  unfold maxLen at hm2
  by_cases hlen1 : 1048576 < n1
  · go_enter Try.func9, Try.ntmps9
    go_wp2_with fail
    go_ret
    exact ⟨rfl, Below.refl _ _⟩
  have hb1 : n1 ≤ 1048576 := by omega
  by_cases hlen2 : 1048576 < n2
  · have hq1 : ¬ 1048576 < n1 := by omega
    go_enter Try.func9, Try.ntmps9
    go_wp2_with fail
    go_ret
    exact ⟨rfl, Below.refl _ _⟩
  have hb2 : n2 ≤ 1048576 := by omega
  have hq1 : ¬ 1048576 < n1 := by omega
  have HR1 := Lib.hid hr1
  have HN1 := Lib.hid hn1
  have hq2 : ¬ 1048576 < n2 := by omega
  have HR2 := Lib.hid hr2
  have HN2 := Lib.hid hn2
  obtain ⟨b, hbv⟩ : ∃ b, fair s zs1 zs2 = b := ⟨_, rfl⟩
  have CS := Lib.hid (show ∀ (W : World) (A1' : Option Addr) (h1 : Rd W W.heap.size A1' (ints zs1)) (A2' : Option Addr) (h2 : Rd W W.heap.size A2' (ints zs2)), Calls Try.prog 31 #[.int .i64 s, .slice A1' n1 n1, .slice A2' n2 n2] W (fun e w' => e = .returned (.bool b) ∧ Below W.heap.size W w') from fun W A1' h1 A2' h2 => by have := fairS A1' A2' n1 n2 n1 n2 zs1 zs2 W HN1.out HN2.out hb1 hb2 h1 h2 s; rw [hbv] at this; exact this)
  have CI := Lib.hid (show ∀ (W : World) (A1' : Option Addr) (h1 : Rd W W.heap.size A1' (ints zs1)) (A2' : Option Addr) (h2 : Rd W W.heap.size A2' (ints zs2)), Calls Try.prog 32 #[.int .i64 s, .slice A1' n1 n1, .slice A2' n2 n2] W (fun e w' => e = .returned (.bool b) ∧ Below W.heap.size W w') from fun W A1' h1 A2' h2 => by have := fairI A1' A2' n1 n2 n1 n2 zs1 zs2 W HN1.out HN2.out hb1 hb2 h1 h2 s; rw [hbv] at this; exact this)
  clear hbv
  have hu : undef = Value.tuple #[] := rfl
  have BB := Lib.hid (Below.refl w.heap.size w)
  clear hr1 hn1 hwf1 hlen1 hm1 hr2 hn2 hwf2 hlen2 hm2
  go_enter Try.func9, Try.ntmps9
  cases b
  all_goals
    go_wp2_with fail
    refine (Ints.toIntS A1 n1 c1 zs1 _ HN1.out hb1 ((HR1.out.below BB.out).more BB.out.size)).mono ?_
    rintro e u1 ⟨gX1, rfl, _, ho, hb⟩
    have wlX1 : w.heap.size ≤ gX1 := Nat.le_trans BB.out.size (own_base ho gX1 rfl)
    have XN := Lib.hid (owns_base ho wlX1)
    clear ho
    have BB2 := Lib.hid (BB.out.trans (hb.mono BB.out.size))
    clear hb BB
    have BB := BB2
    clear BB2
    have X1 := XN
    clear XN
    go_wp2_with fail
    refine (Ints.toIntS A2 n2 c2 zs2 _ HN2.out hb2 ((HR2.out.below BB.out).more BB.out.size)).mono ?_
    rintro e u2 ⟨gX2, rfl, _, ho, hb⟩
    have wlX2 : w.heap.size ≤ gX2 := Nat.le_trans BB.out.size (own_base ho gX2 rfl)
    have ne_X1_X2 : gX1 < gX2 := Nat.lt_of_lt_of_le (X1.out.lt _ rfl).2 (own_base ho gX2 rfl)
    have XN := Lib.hid (owns_base ho wlX2)
    clear ho
    have BB2 := Lib.hid (BB.out.trans (hb.mono BB.out.size))
    have X1n := Lib.hid (owns_below X1.out hb)
    clear hb BB X1
    have BB := BB2
    clear BB2
    have X1 := X1n
    clear X1n
    have X2 := XN
    clear XN
    go_wp2_with fail
    refine (CS.out _ _ (Rd.own X1.out) _ (Rd.own X2.out)).mono ?_
    rintro e u3 ⟨rfl, hb⟩
    have BB2 := Lib.hid (BB.out.trans (hb.mono BB.out.size))
    have X1n := Lib.hid (owns_below X1.out hb)
    have X2n := Lib.hid (owns_below X2.out hb)
    clear hb BB X1 X2
    have BB := BB2
    clear BB2
    have X1 := X1n
    clear X1n
    have X2 := X2n
    clear X2n
    clear X1
    clear X2
    go_wp2_with fail
    refine (Ints.toIntS A1 n1 c1 zs1 _ HN1.out hb1 ((HR1.out.below BB.out).more BB.out.size)).mono ?_
    rintro e u4 ⟨gY1, rfl, _, ho, hb⟩
    have wlY1 : w.heap.size ≤ gY1 := Nat.le_trans BB.out.size (own_base ho gY1 rfl)
    have XN := Lib.hid (owns_base ho wlY1)
    clear ho
    have BB2 := Lib.hid (BB.out.trans (hb.mono BB.out.size))
    clear hb BB
    have BB := BB2
    clear BB2
    have Y1 := XN
    clear XN
    go_wp2_with fail
    refine (Ints.toIntS A2 n2 c2 zs2 _ HN2.out hb2 ((HR2.out.below BB.out).more BB.out.size)).mono ?_
    rintro e u5 ⟨gY2, rfl, _, ho, hb⟩
    have wlY2 : w.heap.size ≤ gY2 := Nat.le_trans BB.out.size (own_base ho gY2 rfl)
    have ne_Y1_Y2 : gY1 < gY2 := Nat.lt_of_lt_of_le (Y1.out.lt _ rfl).2 (own_base ho gY2 rfl)
    have XN := Lib.hid (owns_base ho wlY2)
    clear ho
    have BB2 := Lib.hid (BB.out.trans (hb.mono BB.out.size))
    have Y1n := Lib.hid (owns_below Y1.out hb)
    clear hb BB Y1
    have BB := BB2
    clear BB2
    have Y1 := Y1n
    clear Y1n
    have Y2 := XN
    clear XN
    go_wp2_with fail
    refine (CI.out _ _ (Rd.own Y1.out) _ (Rd.own Y2.out)).mono ?_
    rintro e u6 ⟨rfl, hb⟩
    have BB2 := Lib.hid (BB.out.trans (hb.mono BB.out.size))
    have Y1n := Lib.hid (owns_below Y1.out hb)
    have Y2n := Lib.hid (owns_below Y2.out hb)
    clear hb BB Y1 Y2
    have BB := BB2
    clear BB2
    have Y1 := Y1n
    clear Y1n
    have Y2 := Y2n
    clear Y2n
    go_wp2_with fail
    refine (Ints.toIntS A1 n1 c1 zs1 _ HN1.out hb1 ((HR1.out.below BB.out).more BB.out.size)).mono ?_
    rintro e u7 ⟨gZ1, rfl, _, ho, hb⟩
    have wlZ1 : w.heap.size ≤ gZ1 := Nat.le_trans BB.out.size (own_base ho gZ1 rfl)
    have ne_Y1_Z1 : gY1 < gZ1 := Nat.lt_of_lt_of_le (Y1.out.lt _ rfl).2 (own_base ho gZ1 rfl)
    have ne_Y2_Z1 : gY2 < gZ1 := Nat.lt_of_lt_of_le (Y2.out.lt _ rfl).2 (own_base ho gZ1 rfl)
    have XN := Lib.hid (owns_base ho wlZ1)
    clear ho
    have BB2 := Lib.hid (BB.out.trans (hb.mono BB.out.size))
    have Y1n := Lib.hid (owns_below Y1.out hb)
    have Y2n := Lib.hid (owns_below Y2.out hb)
    clear hb BB Y1 Y2
    have BB := BB2
    clear BB2
    have Y1 := Y1n
    clear Y1n
    have Y2 := Y2n
    clear Y2n
    have Z1 := XN
    clear XN
    go_wp2_with fail
    refine (eqI _ _ n1 n1 n1 zs1 _ HN1.out hb1 (Rd.own Y1.out) (Rd.own Z1.out)).mono ?_
    rintro e u8 ⟨rfl, hb⟩
    have BB2 := Lib.hid (BB.out.trans (hb.mono BB.out.size))
    have Y1n := Lib.hid (owns_below Y1.out hb)
    have Y2n := Lib.hid (owns_below Y2.out hb)
    have Z1n := Lib.hid (owns_below Z1.out hb)
    clear hb BB Y1 Y2 Z1
    have BB := BB2
    clear BB2
    have Y1 := Y1n
    clear Y1n
    have Y2 := Y2n
    clear Y2n
    have Z1 := Z1n
    clear Z1n
    clear Z1
    go_wp2_with fail
    refine (Ints.toIntS A2 n2 c2 zs2 _ HN2.out hb2 ((HR2.out.below BB.out).more BB.out.size)).mono ?_
    rintro e u9 ⟨gZ2, rfl, _, ho, hb⟩
    have wlZ2 : w.heap.size ≤ gZ2 := Nat.le_trans BB.out.size (own_base ho gZ2 rfl)
    have ne_Y1_Z2 : gY1 < gZ2 := Nat.lt_of_lt_of_le (Y1.out.lt _ rfl).2 (own_base ho gZ2 rfl)
    have ne_Y2_Z2 : gY2 < gZ2 := Nat.lt_of_lt_of_le (Y2.out.lt _ rfl).2 (own_base ho gZ2 rfl)
    have XN := Lib.hid (owns_base ho wlZ2)
    clear ho
    have BB2 := Lib.hid (BB.out.trans (hb.mono BB.out.size))
    have Y1n := Lib.hid (owns_below Y1.out hb)
    have Y2n := Lib.hid (owns_below Y2.out hb)
    clear hb BB Y1 Y2
    have BB := BB2
    clear BB2
    have Y1 := Y1n
    clear Y1n
    have Y2 := Y2n
    clear Y2n
    have Z2 := XN
    clear XN
    go_wp2_with fail
    refine (eqI _ _ n2 n2 n2 zs2 _ HN2.out hb2 (Rd.own Y2.out) (Rd.own Z2.out)).mono ?_
    rintro e u10 ⟨rfl, hb⟩
    have BB2 := Lib.hid (BB.out.trans (hb.mono BB.out.size))
    have Y1n := Lib.hid (owns_below Y1.out hb)
    have Y2n := Lib.hid (owns_below Y2.out hb)
    have Z2n := Lib.hid (owns_below Z2.out hb)
    clear hb BB Y1 Y2 Z2
    have BB := BB2
    clear BB2
    have Y1 := Y1n
    clear Y1n
    have Y2 := Y2n
    clear Y2n
    have Z2 := Z2n
    clear Z2n
    clear Z2
    go_wp2_with fail
    go_ret
    exact ⟨rfl, BB.out⟩

set_option maxRecDepth 100000 in
theorem lifted (os : Os) (started : os.Started) (H : Type) (enc : TypeId × Value → H) :
    ReturnsInHanded {} Try.checked os 9 .any (Rows.fnExactIsFairSpec.pre6 enc Try.prog Try.f9 Rows.fnExactIsFairRow.domain false) (Rows.fnExactIsFairSpec.post enc Try.prog Try.f9 false true false false) := by
  refine returnsInHanded_of_change (C := Try.checked) own started (by kernel_rfl) Try.func9
    (ChangeSpec.witness6 (enc := enc) (C := Try.checked) false ⟨#[], #[.int .i64 0, .slice none 0 0, .slice none 0 0], []⟩ 8 (by kernel_rfl) (by kernel_rfl) (by kernel_rfl) (by kernel_rfl)) ?_
  intro W base args ds gs before hval0 hW hcnd hsz
  have hval : ∀ (j : Nat) t v, Try.f9.params[j]? = some t → args[j]? = some v → Value.okWide Try.prog W .any base t v := hval0
  have hW' := hW
  obtain ⟨p, q, hA0, hV, rfl, hfz, hnd⟩ := hW
  have hA1 := hA0
  have hA : DataW.TrodAll enc Try.prog W 0 (fun _ => true) true Try.f9.params.toList args.toList ds p := hA0
  rw [Try.params9] at hA hval
  obtain ⟨v0, vs0, d0, ds0, p0, q0, hargs, rfl, rfl, h0, r0⟩ := trodAll_cons hA
  obtain ⟨v1, vs1, d1, ds1, p1, q1, rfl, rfl, rfl, h1, r1⟩ := trodAll_cons r0
  obtain ⟨v2, vs2, d2, ds2, p2, q2, rfl, rfl, rfl, h2, r2⟩ := trodAll_cons r1
  obtain ⟨rfl, rfl, rfl⟩ := trodAll_nil r2
  obtain rfl : args = #[v0, v1, v2] := by cases args; simp_all
  obtain ⟨rfl, rfl⟩ := trodVars_none hV
  obtain ⟨a0, rfl, rfl, rfl, w0⟩ := open_int Try.underlying3 (hval 0 3 v0 rfl rfl) h0
  obtain ⟨A1, n1, c1, a1, rfl, l1, m1, g1, w1⟩ := take_ints Try.underlying22 Try.underlying3 (by kernel_rfl) (hval 1 22 v1 rfl rfl) h1
  obtain ⟨A2, n2, c2, a2, rfl, l2, m2, g2, w2⟩ := take_ints Try.underlying22 Try.underlying3 (by kernel_rfl) (hval 2 22 v2 rfl rfl) h2
  clear hA0 hval0
  rw [List.append_nil] at hW'
  refine (walk a0 w0 A1 n1 c1 a1 l1 m1 A2 n2 c2 a2 l2 m2 W g1 w1 g2 w2).mono fun e W' ⟨he, hb⟩ => ?_
  subst he
  exact ⟨_, rfl, post_law rfl hW' hA1 laidOut (by rw [Try.params9]; exact of_decide_eq_true (by kernel_rfl)) 4 (by kernel_rfl) Try.underlying4 rfl hb⟩

theorem over : Rows.fnExactIsFairRow.holds Try.pinned (OpenSpec.ofChange Rows.fnExactIsFairSpec) :=
  OpenClaim.holds_of_wide 9 Try.f9 rfl rfl rfl rfl rfl rfl rfl ⟨rfl, rfl, rfl, rfl, rfl⟩ rfl rfl rfl rfl rfl (by kernel_rfl) Try.func9 (by kernel_rfl)
    (of_decide_eq_true (by kernel_rfl)) (by unfold Func.isWrapper; first | (rw [if_pos (by decide +kernel)]; kernel_rfl) | (rw [if_neg (by decide +kernel)]; exact ⟨rfl, rfl⟩))
    (fun os started H enc _ => lifted os started H enc)

/-- The statement. -/
theorem proved : Rows.FnExactIsFairSaid :=
  over
#print axioms proved
end Go.Proofs.Ythlcmcpfpblmaaa.fnExactIsFair
