/- The law FnExactShareInTurn holds at every input. The step from the walk to the row follows the guide's own template. -/
import Derived.Test.YthlcmcpfpblmaaaMem
import Derived.Test.YthlcmcpfpblmaaaInts
import Derived.Test.YthlcmcpfpblmaaaWs
import Derived.Test.YthlcmcpfpblmaaaIm
import Derived.Test.YthlcmcpfpblmaaaWv
namespace Go.Proofs.Ythlcmcpfpblmaaa.fnExactShareInTurn
open Go.ChangeShapes Go.WideShapes Go.ChangeAt Go.RowKit Go.WideMaps Go.WideElems Go.Proofs.Ythlcmcpfpblmaaa.Mem
open Go.ChangeMaps (open_string shut_string)
set_option linter.unusedVariables false
set_option linter.unusedSimpArgs false

theorem own : ownKnob Try.prog.godebug = none := by kernel_rfl
theorem laidOut : laidOutB Try.prog = true := by kernel_rfl

open Go.Proofs.Ythlcmcpfpblmaaa.Rw Go.Proofs.Ythlcmcpfpblmaaa.Dm Go.Proofs.Ythlcmcpfpblmaaa.Ws Go.Proofs.Ythlcmcpfpblmaaa.Wp Go.Proofs.Ythlcmcpfpblmaaa.Wq Go.Proofs.Ythlcmcpfpblmaaa.Im Go.Proofs.Ythlcmcpfpblmaaa.Wv

set_option maxRecDepth 100000 in
set_option maxHeartbeats 4000000 in
theorem walk (s : Int) (hws : (Lit.int .i64 s).wf = true) (A1 : Option Addr) (n1 c1 : Nat) (zs1 : List Int) (hn1 : zs1.length = n1) (hm1 : n1 ≤ maxLen) (w : World) (hr1 : Rd w w.heap.size A1 (ints zs1)) (hwf1 : ∀ z ∈ zs1, (Lit.int .i64 z).wf = true) :
    Calls Try.prog 8 #[.int .i64 s, .slice A1 n1 c1] w fun e w' => e = .returned (.bool true) ∧ Below w.heap.size w w' := by
  unfold maxLen at hm1
  by_cases hlen1 : 1048576 < n1
  · go_enter Try.func8, Try.ntmps8
    go_wp2_with fail
    go_ret
    exact ⟨rfl, Below.refl _ _⟩
  have hb1 : n1 ≤ 1048576 := by omega
  have hq1 : ¬ 1048576 < n1 := by omega
  have HR1 := Lib.hid hr1
  have HN1 := Lib.hid hn1
  obtain ⟨zr, hzr⟩ : ∃ z, inTurn s zs1 = z := ⟨_, rfl⟩
  obtain ⟨m, hm⟩ : ∃ m, zr.length = m := ⟨_, rfl⟩
  have hbm : m ≤ 1048576 := by rw [← hm, ← hzr]; exact Nat.le_trans (inTurn_len _ _) (by decide)
  have HM := Lib.hid hm
  have CS := Lib.hid (show ∀ (W : World) (A : Option Addr) (h : Rd W W.heap.size A (ints zs1)), Calls Try.prog 29 #[.int .i64 s, .slice A n1 n1] W (fun e w' => ∃ g c, e = .returned (.slice (some ⟨g, 0, none⟩) m c) ∧ w'.ownsRow W.heap.size 3 1 (.slice (some ⟨g, 0, none⟩) m c) m (ints zr) ∧ Below W.heap.size W w') from fun W A h => by have := serveS A n1 n1 zs1 s W HN1.out hb1 h; rw [hzr] at this; unfold RowI at this; rw [hm] at this; exact this)
  have CI := Lib.hid (show ∀ (W : World) (A : Option Addr) (h : Rd W W.heap.size A (ints zs1)), Calls Try.prog 30 #[.int .i64 s, .slice A n1 n1] W (fun e w' => ∃ g c, e = .returned (.slice (some ⟨g, 0, none⟩) m c) ∧ w'.ownsRow W.heap.size 3 1 (.slice (some ⟨g, 0, none⟩) m c) m (ints zr) ∧ Below W.heap.size W w') from fun W A h => by have := serveI A n1 n1 zs1 s W HN1.out hb1 h; rw [hzr] at this; unfold RowI at this; rw [hm] at this; exact this)
  obtain ⟨K1, hK1⟩ : ∃ K : Int, 1 + (n1 : Int) = K := ⟨_, rfl⟩
  have pK1 : ¬ K1 < 0 := by omega
  obtain ⟨K2, hK2⟩ : ∃ K : Int, 1 + (m : Int) = K := ⟨_, rfl⟩
  have pK2 : ¬ K2 < 0 := by omega
  have MX := Lib.hid (show ∀ (B g c : Nat) (W : World), W.ownsRow B 3 1 (.slice (some ⟨g, 0, none⟩) n1 c) n1 (ints zs1) → Calls Try.prog 23 #[.slice (some ⟨g, 0, none⟩) n1 c, .int .i64 1] W (fun e w' => e = .returned (.int .i64 K1) ∧ w'.ownsRow B 3 1 (.slice (some ⟨g, 0, none⟩) n1 c) n1 (mk 1 n1) ∧ W.grownBy w' (some g)) from fun B g c W h => by have := markIntS B g n1 c 1 (ints zs1) W (by rw [ints_len, HN1.out]) hb1 (by omega) h; unfold Laid at this; rw [show (((1 : Nat) : Int) + (n1 : Int)) = K1 by omega, show ((1 : Nat) : Int) = 1 by omega] at this; exact this)
  have MG := Lib.hid (show ∀ (B g c : Nat) (W : World), W.ownsRow B 3 1 (.slice (some ⟨g, 0, none⟩) m c) m (ints zr) → Calls Try.prog 23 #[.slice (some ⟨g, 0, none⟩) m c, .int .i64 1] W (fun e w' => e = .returned (.int .i64 K2) ∧ w'.ownsRow B 3 1 (.slice (some ⟨g, 0, none⟩) m c) m (mk 1 m) ∧ W.grownBy w' (some g)) from fun B g c W h => by have := markIntS B g m c 1 (ints zr) W (by rw [ints_len, HM.out]) hbm (by omega) h; unfold Laid at this; rw [show (((1 : Nat) : Int) + (m : Int)) = K2 by omega, show ((1 : Nat) : Int) = 1 by omega] at this; exact this)
  have HG := Lib.hid (show ∀ (A : Option Addr) (c : Nat) (W : World), Rd W W.heap.size A (mk 1 m) → Calls Try.prog 24 #[.slice A m c, .int .i64 1] W fun e w' => e = .returned (.int .i64 K2) ∧ W = w' from fun A c W h => by have := heldIntS A m c 1 W.heap.size W hbm (by omega) h; rw [show (((1 : Nat) : Int) + (m : Int)) = K2 by omega, show ((1 : Nat) : Int) = 1 by omega] at this; exact this)
  clear hzr hm hK1 hK2
  have hu : undef = Value.tuple #[] := rfl
  have BB := Lib.hid (Below.refl w.heap.size w)
  clear hr1 hn1 hwf1 hlen1 hm1
  go_enter Try.func8, Try.ntmps8
  go_wp2_with fail
  refine (Ints.toIntS A1 n1 c1 zs1 _ HN1.out hb1 ((HR1.out.below BB.out).more BB.out.size)).mono ?_
  rintro e u1 ⟨gX0, rfl, _, ho, hb⟩
  have wlX0 : w.heap.size ≤ gX0 := Nat.le_trans BB.out.size (own_base ho gX0 rfl)
  have XN := Lib.hid (owns_base ho wlX0)
  clear ho
  have BB2 := Lib.hid (BB.out.trans (hb.mono BB.out.size))
  clear hb BB
  have BB := BB2
  clear BB2
  have X0 := XN
  clear XN
  go_wp2_with fail
  refine (CS.out _ _ (Rd.own X0.out)).mono ?_
  rintro e u2 ⟨gW0, cW0, rfl, ho, hb⟩
  have wlW0 : w.heap.size ≤ gW0 := Nat.le_trans BB.out.size (own_base ho gW0 rfl)
  have ne_X0_W0 : gX0 < gW0 := Nat.lt_of_lt_of_le (X0.out.lt _ rfl).2 (own_base ho gW0 rfl)
  have XN := Lib.hid (owns_base ho wlW0)
  clear ho
  have BB2 := Lib.hid (BB.out.trans (hb.mono BB.out.size))
  have X0n := Lib.hid (owns_below X0.out hb)
  clear hb BB X0
  have BB := BB2
  clear BB2
  have X0 := X0n
  clear X0n
  have W0 := XN
  clear XN
  clear X0
  go_wp2_with fail
  refine (Ints.toIntS A1 n1 c1 zs1 _ HN1.out hb1 ((HR1.out.below BB.out).more BB.out.size)).mono ?_
  rintro e u3 ⟨gX1, rfl, _, ho, hb⟩
  have wlX1 : w.heap.size ≤ gX1 := Nat.le_trans BB.out.size (own_base ho gX1 rfl)
  have ne_W0_X1 : gW0 < gX1 := Nat.lt_of_lt_of_le (W0.out.lt _ rfl).2 (own_base ho gX1 rfl)
  have XN := Lib.hid (owns_base ho wlX1)
  clear ho
  have BB2 := Lib.hid (BB.out.trans (hb.mono BB.out.size))
  have W0n := Lib.hid (owns_below W0.out hb)
  clear hb BB W0
  have BB := BB2
  clear BB2
  have W0 := W0n
  clear W0n
  have X1 := XN
  clear XN
  go_wp2_with fail
  refine (CI.out _ _ (Rd.own X1.out)).mono ?_
  rintro e u4 ⟨gG0, cG0, rfl, ho, hb⟩
  have wlG0 : w.heap.size ≤ gG0 := Nat.le_trans BB.out.size (own_base ho gG0 rfl)
  have ne_W0_G0 : gW0 < gG0 := Nat.lt_of_lt_of_le (W0.out.lt _ rfl).2 (own_base ho gG0 rfl)
  have ne_X1_G0 : gX1 < gG0 := Nat.lt_of_lt_of_le (X1.out.lt _ rfl).2 (own_base ho gG0 rfl)
  have XN := Lib.hid (owns_base ho wlG0)
  clear ho
  have BB2 := Lib.hid (BB.out.trans (hb.mono BB.out.size))
  have W0n := Lib.hid (owns_below W0.out hb)
  have X1n := Lib.hid (owns_below X1.out hb)
  clear hb BB W0 X1
  have BB := BB2
  clear BB2
  have W0 := W0n
  clear W0n
  have X1 := X1n
  clear X1n
  have G0 := XN
  clear XN
  go_wp2_with fail
  refine (eqI _ _ m cG0 cW0 zr _ HM.out hbm (Rd.own G0.out) (Rd.own W0.out)).mono ?_
  rintro e u5 ⟨rfl, hb⟩
  have BB2 := Lib.hid (BB.out.trans (hb.mono BB.out.size))
  have W0n := Lib.hid (owns_below W0.out hb)
  have X1n := Lib.hid (owns_below X1.out hb)
  have G0n := Lib.hid (owns_below G0.out hb)
  clear hb BB W0 X1 G0
  have BB := BB2
  clear BB2
  have W0 := W0n
  clear W0n
  have X1 := X1n
  clear X1n
  have G0 := G0n
  clear G0n
  go_wp2_with fail
  refine (Ints.toIntS A1 n1 c1 zs1 _ HN1.out hb1 ((HR1.out.below BB.out).more BB.out.size)).mono ?_
  rintro e u6 ⟨gX2, rfl, _, ho, hb⟩
  have wlX2 : w.heap.size ≤ gX2 := Nat.le_trans BB.out.size (own_base ho gX2 rfl)
  have ne_W0_X2 : gW0 < gX2 := Nat.lt_of_lt_of_le (W0.out.lt _ rfl).2 (own_base ho gX2 rfl)
  have ne_X1_X2 : gX1 < gX2 := Nat.lt_of_lt_of_le (X1.out.lt _ rfl).2 (own_base ho gX2 rfl)
  have ne_G0_X2 : gG0 < gX2 := Nat.lt_of_lt_of_le (G0.out.lt _ rfl).2 (own_base ho gX2 rfl)
  have XN := Lib.hid (owns_base ho wlX2)
  clear ho
  have BB2 := Lib.hid (BB.out.trans (hb.mono BB.out.size))
  have W0n := Lib.hid (owns_below W0.out hb)
  have X1n := Lib.hid (owns_below X1.out hb)
  have G0n := Lib.hid (owns_below G0.out hb)
  clear hb BB W0 X1 G0
  have BB := BB2
  clear BB2
  have W0 := W0n
  clear W0n
  have X1 := X1n
  clear X1n
  have G0 := G0n
  clear G0n
  have X2 := XN
  clear XN
  go_wp2_with fail
  refine (eqI _ _ n1 n1 n1 zs1 _ HN1.out hb1 (Rd.own X1.out) (Rd.own X2.out)).mono ?_
  rintro e u7 ⟨rfl, hb⟩
  have BB2 := Lib.hid (BB.out.trans (hb.mono BB.out.size))
  have W0n := Lib.hid (owns_below W0.out hb)
  have X1n := Lib.hid (owns_below X1.out hb)
  have G0n := Lib.hid (owns_below G0.out hb)
  have X2n := Lib.hid (owns_below X2.out hb)
  clear hb BB W0 X1 G0 X2
  have BB := BB2
  clear BB2
  have W0 := W0n
  clear W0n
  have X1 := X1n
  clear X1n
  have G0 := G0n
  clear G0n
  have X2 := X2n
  clear X2n
  clear X2
  go_wp2_with fail
  refine (MX.out _ _ _ _ X1.out).mono ?_
  rintro e u8 ⟨rfl, ho, hg⟩
  have BB2 := Lib.hid (BB.out.grown hg BB.out.size (fun k hk => by cases hk; exact wlX1))
  have W0n := Lib.hid (owns_grown W0.out hg (fun k hk => by cases hk; intro hk2; cases hk2; exact absurd ne_W0_X1 (Nat.lt_irrefl _)))
  have G0n := Lib.hid (owns_grown G0.out hg (fun k hk => by cases hk; intro hk2; cases hk2; exact absurd ne_X1_G0 (Nat.lt_irrefl _)))
  have X1n := Lib.hid ho
  clear ho hg BB W0 X1 G0
  have BB := BB2
  clear BB2
  have W0 := W0n
  clear W0n
  have X1 := X1n
  clear X1n
  have G0 := G0n
  clear G0n
  go_wp2_with fail
  refine (eqI _ _ m cG0 cW0 zr _ HM.out hbm (Rd.own G0.out) (Rd.own W0.out)).mono ?_
  rintro e u9 ⟨rfl, hb⟩
  have BB2 := Lib.hid (BB.out.trans (hb.mono BB.out.size))
  have W0n := Lib.hid (owns_below W0.out hb)
  have X1n := Lib.hid (owns_below X1.out hb)
  have G0n := Lib.hid (owns_below G0.out hb)
  clear hb BB W0 X1 G0
  have BB := BB2
  clear BB2
  have W0 := W0n
  clear W0n
  have X1 := X1n
  clear X1n
  have G0 := G0n
  clear G0n
  go_wp2_with fail
  refine (MG.out _ _ _ _ G0.out).mono ?_
  rintro e u10 ⟨rfl, ho, hg⟩
  have BB2 := Lib.hid (BB.out.grown hg BB.out.size (fun k hk => by cases hk; exact wlG0))
  have W0n := Lib.hid (owns_grown W0.out hg (fun k hk => by cases hk; intro hk2; cases hk2; exact absurd ne_W0_G0 (Nat.lt_irrefl _)))
  have X1n := Lib.hid (owns_grown X1.out hg (fun k hk => by cases hk; intro hk2; cases hk2; exact absurd ne_X1_G0 (Nat.lt_irrefl _)))
  have G0n := Lib.hid ho
  clear ho hg BB W0 X1 G0
  have BB := BB2
  clear BB2
  have W0 := W0n
  clear W0n
  have X1 := X1n
  clear X1n
  have G0 := G0n
  clear G0n
  clear X1
  go_wp2_with fail
  refine (HG.out _ _ _ (Rd.own G0.out)).mono ?_
  rintro e w' ⟨rfl, rfl⟩
  go_wp2_with fail
  refine (Ints.toIntS A1 n1 c1 zs1 _ HN1.out hb1 ((HR1.out.below BB.out).more BB.out.size)).mono ?_
  rintro e u11 ⟨gX3, rfl, _, ho, hb⟩
  have wlX3 : w.heap.size ≤ gX3 := Nat.le_trans BB.out.size (own_base ho gX3 rfl)
  have ne_W0_X3 : gW0 < gX3 := Nat.lt_of_lt_of_le (W0.out.lt _ rfl).2 (own_base ho gX3 rfl)
  have ne_G0_X3 : gG0 < gX3 := Nat.lt_of_lt_of_le (G0.out.lt _ rfl).2 (own_base ho gX3 rfl)
  have XN := Lib.hid (owns_base ho wlX3)
  clear ho
  have BB2 := Lib.hid (BB.out.trans (hb.mono BB.out.size))
  have W0n := Lib.hid (owns_below W0.out hb)
  have G0n := Lib.hid (owns_below G0.out hb)
  clear hb BB W0 G0
  have BB := BB2
  clear BB2
  have W0 := W0n
  clear W0n
  have G0 := G0n
  clear G0n
  have X3 := XN
  clear XN
  go_wp2_with fail
  refine (CI.out _ _ (Rd.own X3.out)).mono ?_
  rintro e u12 ⟨gH0, cH0, rfl, ho, hb⟩
  have wlH0 : w.heap.size ≤ gH0 := Nat.le_trans BB.out.size (own_base ho gH0 rfl)
  have ne_W0_H0 : gW0 < gH0 := Nat.lt_of_lt_of_le (W0.out.lt _ rfl).2 (own_base ho gH0 rfl)
  have ne_G0_H0 : gG0 < gH0 := Nat.lt_of_lt_of_le (G0.out.lt _ rfl).2 (own_base ho gH0 rfl)
  have ne_X3_H0 : gX3 < gH0 := Nat.lt_of_lt_of_le (X3.out.lt _ rfl).2 (own_base ho gH0 rfl)
  have XN := Lib.hid (owns_base ho wlH0)
  clear ho
  have BB2 := Lib.hid (BB.out.trans (hb.mono BB.out.size))
  have W0n := Lib.hid (owns_below W0.out hb)
  have G0n := Lib.hid (owns_below G0.out hb)
  have X3n := Lib.hid (owns_below X3.out hb)
  clear hb BB W0 G0 X3
  have BB := BB2
  clear BB2
  have W0 := W0n
  clear W0n
  have G0 := G0n
  clear G0n
  have X3 := X3n
  clear X3n
  have H0 := XN
  clear XN
  clear X3
  go_wp2_with fail
  refine (eqI _ _ m cH0 cW0 zr _ HM.out hbm (Rd.own H0.out) (Rd.own W0.out)).mono ?_
  rintro e u13 ⟨rfl, hb⟩
  have BB2 := Lib.hid (BB.out.trans (hb.mono BB.out.size))
  have W0n := Lib.hid (owns_below W0.out hb)
  have G0n := Lib.hid (owns_below G0.out hb)
  have H0n := Lib.hid (owns_below H0.out hb)
  clear hb BB W0 G0 H0
  have BB := BB2
  clear BB2
  have W0 := W0n
  clear W0n
  have G0 := G0n
  clear G0n
  have H0 := H0n
  clear H0n
  go_wp2_with fail
  refine (HG.out _ _ _ (Rd.own G0.out)).mono ?_
  rintro e w' ⟨rfl, rfl⟩
  go_wp2_with fail
  go_ret
  exact ⟨rfl, BB.out⟩

set_option maxRecDepth 100000 in
theorem lifted (os : Os) (started : os.Started) (H : Type) (enc : TypeId × Value → H) :
    ReturnsInHanded {} Try.checked os 8 .any (Rows.fnExactShareInTurnSpec.pre6 enc Try.prog Try.f8 Rows.fnExactShareInTurnRow.domain false) (Rows.fnExactShareInTurnSpec.post enc Try.prog Try.f8 false true false false) := by
  refine returnsInHanded_of_change (C := Try.checked) own started (by kernel_rfl) Try.func8
    (ChangeSpec.witness6 (enc := enc) (C := Try.checked) false ⟨#[], #[.int .i64 0, .slice none 0 0], []⟩ 8 (by kernel_rfl) (by kernel_rfl) (by kernel_rfl) (by kernel_rfl)) ?_
  intro W base args ds gs before hval0 hW hcnd hsz
  have hval : ∀ (j : Nat) t v, Try.f8.params[j]? = some t → args[j]? = some v → Value.okWide Try.prog W .any base t v := hval0
  have hW' := hW
  obtain ⟨p, q, hA0, hV, rfl, hfz, hnd⟩ := hW
  have hA1 := hA0
  have hA : DataW.TrodAll enc Try.prog W 0 (fun _ => true) true Try.f8.params.toList args.toList ds p := hA0
  rw [Try.params8] at hA hval
  obtain ⟨v0, vs0, d0, ds0, p0, q0, hargs, rfl, rfl, h0, r0⟩ := trodAll_cons hA
  obtain ⟨v1, vs1, d1, ds1, p1, q1, rfl, rfl, rfl, h1, r1⟩ := trodAll_cons r0
  obtain ⟨rfl, rfl, rfl⟩ := trodAll_nil r1
  obtain rfl : args = #[v0, v1] := by cases args; simp_all
  obtain ⟨rfl, rfl⟩ := trodVars_none hV
  obtain ⟨a0, rfl, rfl, rfl, w0⟩ := open_int Try.underlying3 (hval 0 3 v0 rfl rfl) h0
  obtain ⟨A1, n1, c1, a1, rfl, l1, m1, g1, w1⟩ := take_ints Try.underlying22 Try.underlying3 (by kernel_rfl) (hval 1 22 v1 rfl rfl) h1
  clear hA0 hval0
  rw [List.append_nil] at hW'
  refine (walk a0 w0 A1 n1 c1 a1 l1 m1 W g1 w1).mono fun e W' ⟨he, hb⟩ => ?_
  subst he
  exact ⟨_, rfl, post_law rfl hW' hA1 laidOut (by rw [Try.params8]; exact of_decide_eq_true (by kernel_rfl)) 4 (by kernel_rfl) Try.underlying4 rfl hb⟩

theorem over : Rows.fnExactShareInTurnRow.holds Try.pinned (OpenSpec.ofChange Rows.fnExactShareInTurnSpec) :=
  OpenClaim.holds_of_wide 8 Try.f8 rfl rfl rfl rfl rfl rfl rfl ⟨rfl, rfl, rfl, rfl, rfl⟩ rfl rfl rfl rfl rfl (by kernel_rfl) Try.func8 (by kernel_rfl)
    (of_decide_eq_true (by kernel_rfl)) (by unfold Func.isWrapper; first | (rw [if_pos (by decide +kernel)]; kernel_rfl) | (rw [if_neg (by decide +kernel)]; exact ⟨rfl, rfl⟩))
    (fun os started H enc _ => lifted os started H enc)

/-- The statement. -/
theorem proved : Rows.FnExactShareInTurnSaid :=
  over
#print axioms proved
end Go.Proofs.Ythlcmcpfpblmaaa.fnExactShareInTurn
