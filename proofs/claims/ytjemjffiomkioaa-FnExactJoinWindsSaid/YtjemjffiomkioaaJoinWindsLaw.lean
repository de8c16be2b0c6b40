/- The law FnExactJoinWinds holds at every input. The step from the walk to the row follows the guide's own template. -/
import Derived.Test.YtjemjffiomkioaaMem
import Derived.Test.YtjemjffiomkioaaGs
import Derived.Test.YtjemjffiomkioaaWe
import Derived.Test.YtjemjffiomkioaaWg
import Derived.Test.YtjemjffiomkioaaWh
import Derived.Test.YtjemjffiomkioaaSzG
namespace Go.Proofs.Ytjemjffiomkioaa.fnExactJoinWinds
open Go.ChangeShapes Go.WideShapes Go.ChangeAt Go.RowKit Go.WideMaps Go.WideElems Go.Proofs.Ytjemjffiomkioaa.Mem
open Go.ChangeMaps (open_string shut_string)
set_option linter.unusedVariables false
set_option linter.unusedSimpArgs false

theorem own : ownKnob Try.prog.godebug = none := by kernel_rfl
theorem laidOut : laidOutB Try.prog = true := by kernel_rfl

open Go.Proofs.Ytjemjffiomkioaa.Rw Go.Proofs.Ytjemjffiomkioaa.Bk Go.Proofs.Ytjemjffiomkioaa.Str Go.Proofs.Ytjemjffiomkioaa.Pw Go.Proofs.Ytjemjffiomkioaa.P2 Go.Proofs.Ytjemjffiomkioaa.Gs Go.Proofs.Ytjemjffiomkioaa.Wm Go.Proofs.Ytjemjffiomkioaa.Wi Go.Proofs.Ytjemjffiomkioaa.Wa Go.Proofs.Ytjemjffiomkioaa.Wb Go.Proofs.Ytjemjffiomkioaa.Wc Go.Proofs.Ytjemjffiomkioaa.We Go.Proofs.Ytjemjffiomkioaa.Wg Go.Proofs.Ytjemjffiomkioaa.Wh

set_option maxRecDepth 100000 in
set_option maxHeartbeats 4000000 in
theorem walk (A0 : Option Addr) (n0 c0 : Nat) (zs0 : List G) (hn0 : zs0.length = n0) (hm0 : n0 ≤ maxLen) (A1 : Option Addr) (n1 c1 : Nat) (zs1 : List G) (hn1 : zs1.length = n1) (hm1 : n1 ≤ maxLen) (t : Int) (hwt : (Lit.int .i64 t).wf = true) (w : World) (hr0 : Rd w w.heap.size A0 (gls zs0)) (hwf0 : ∀ z ∈ zs0, Gok z) (hr1 : Rd w w.heap.size A1 (gls zs1)) (hwf1 : ∀ z ∈ zs1, Gok z) :
    Calls Try.prog 8 #[.slice A0 n0 c0, .slice A1 n1 c1, .int .i64 t] w fun e w' => e = .returned (.bool true) ∧ Below w.heap.size w w' := by
  unfold maxLen at hm0
  unfold maxLen at hm1
  by_cases hlen0 : 1048576 < n0
  · go_enter Try.func8, Try.ntmps8
    go_wp2_with fail
    go_wp2
    go_ret
    exact ⟨rfl, Below.refl _ _⟩
  have hb0 : n0 ≤ 1048576 := by omega
  obtain ⟨L1, hL1⟩ : ∃ L : Int, 1048576 - (n0 : Int) = L := ⟨_, rfl⟩
  have hL0 : ¬ L1 < 0 := by omega
  have S0 := Lib.hid (SzG.yes A0 n0 c0 1048576 L1 (by omega) (by omega) hL1)
  by_cases hlen1 : L1 - (n1 : Int) < 0
  · have S1 := Lib.hid (SzG.no A1 n1 c1 L1 (by omega) (by omega) (by unfold maxLen; omega) hlen1)
    clear hL1 hlen1
    go_enter Try.func8, Try.ntmps8
    go_wp2_with fail
    refine (S0.out _).mono ?_
    rintro e w' ⟨rfl, rfl⟩
    go_wp2_with fail
    refine (S1.out _).mono ?_
    rintro e w' ⟨rfl, rfl⟩
    go_wp2_with fail
    go_ret
    exact ⟨rfl, Below.refl _ _⟩
  have hb1 : n1 ≤ 1048576 := by omega
  obtain ⟨L2, hL2⟩ : ∃ L : Int, L1 - (n1 : Int) = L := ⟨_, rfl⟩
  have hL9 : ¬ L2 < 0 := by omega
  have S1 := Lib.hid (SzG.yes A1 n1 c1 L1 L2 (by omega) (by omega) hL2)
  clear hL1 hL2
  have HR0 := Lib.hid hr0
  have HN0 := Lib.hid hn0
  have HR1 := Lib.hid hr1
  have HN1 := Lib.hid hn1
  obtain ⟨zr, hzr⟩ : ∃ z, jR zs0 zs1 t = z := ⟨_, rfl⟩
  obtain ⟨r, hrr⟩ : ∃ r, jB zs0 zs1 t = r := ⟨_, rfl⟩
  obtain ⟨m, hm⟩ : ∃ m, zr.length = m := ⟨_, rfl⟩
  have hbm : m ≤ 1048576 := by (rw [← hm, ← hzr]; have := jR_len zs0 zs1 t; omega)
  have HM := Lib.hid hm
  have CS := Lib.hid (show ∀ (A B : Option Addr) (W : World) (h : Rd W W.heap.size A (gls zs0)) (h2 : Rd W W.heap.size B (gls zs1)), Calls Try.prog 30 #[.slice A n0 n0, .slice B n1 n1, .int .i64 t] W (fun e w' => ∃ g c, e = .returned (.tuple #[.slice (some ⟨g, 0, none⟩) m c, .bool r]) ∧ w'.ownsRow W.heap.size 60 3 (.slice (some ⟨g, 0, none⟩) m c) m (gls zr) ∧ Below W.heap.size W w') from fun A B W h h2 => by have := joinS A B n0 n0 n1 n1 zs0 zs1 _ t W HN0.out HN1.out hb0 hb1 (Nat.le_refl _) h h2; rw [hzr, hrr] at this; unfold RowB at this; rw [hm] at this; exact this)
  have CI := Lib.hid (show ∀ (A B : Option Addr) (W : World) (h : Rd W W.heap.size A (gls zs0)) (h2 : Rd W W.heap.size B (gls zs1)), Calls Try.prog 31 #[.slice A n0 n0, .slice B n1 n1, .int .i64 t] W (fun e w' => ∃ g c, e = .returned (.tuple #[.slice (some ⟨g, 0, none⟩) m c, .bool r]) ∧ w'.ownsRow W.heap.size 60 3 (.slice (some ⟨g, 0, none⟩) m c) m (gls zr) ∧ Below W.heap.size W w') from fun A B W h h2 => by have := joinI A B n0 n0 n1 n1 zs0 zs1 _ t W HN0.out HN1.out hb0 hb1 (Nat.le_refl _) h h2; rw [hzr, hrr] at this; unfold RowB at this; rw [hm] at this; exact this)
  obtain ⟨K0, hK0⟩ : ∃ K : Int, 1 + ((n0 * 3 : Nat) : Int) = K := ⟨_, rfl⟩
  have pK0 : ¬ K0 < 0 := by omega
  obtain ⟨K1, hK1⟩ : ∃ K : Int, K0 + ((n1 * 3 : Nat) : Int) = K := ⟨_, rfl⟩
  have pK1 : ¬ K1 < 0 := by omega
  obtain ⟨K2, hK2⟩ : ∃ K : Int, 1 + ((m * 3 : Nat) : Int) = K := ⟨_, rfl⟩
  have pK2 : ¬ K2 < 0 := by omega
  have MX := Lib.hid (show ∀ (B g c : Nat) (W : World), W.ownsRow B 60 3 (.slice (some ⟨g, 0, none⟩) n0 c) n0 (gls zs0) → Calls Try.prog 26 #[.slice (some ⟨g, 0, none⟩) n0 c, .int .i64 1] W (fun e w' => e = .returned (.int .i64 K0) ∧ w'.ownsRow B 60 3 (.slice (some ⟨g, 0, none⟩) n0 c) n0 (mk (1) (n0 * 3)) ∧ W.grownBy w' (some g)) from fun B g c W h => by have := markGustS B g n0 c (1) (gls zs0) W (by rw [gls_len, HN0.out]) hb0 (by omega) h; unfold Laid at this; rw [show (((1 : Nat) : Int) + ((n0 * 3 : Nat) : Int)) = K0 by omega, show ((1 : Nat) : Int) = 1 by omega] at this; exact this)
  have MY := Lib.hid (show ∀ (B g c : Nat) (W : World), W.ownsRow B 60 3 (.slice (some ⟨g, 0, none⟩) n1 c) n1 (gls zs1) → Calls Try.prog 26 #[.slice (some ⟨g, 0, none⟩) n1 c, .int .i64 K0] W (fun e w' => e = .returned (.int .i64 K1) ∧ w'.ownsRow B 60 3 (.slice (some ⟨g, 0, none⟩) n1 c) n1 (mk (1 + n0 * 3) (n1 * 3)) ∧ W.grownBy w' (some g)) from fun B g c W h => by have := markGustS B g n1 c (1 + n0 * 3) (gls zs1) W (by rw [gls_len, HN1.out]) hb1 (by omega) h; unfold Laid at this; rw [show (((1 + n0 * 3 : Nat) : Int) + ((n1 * 3 : Nat) : Int)) = K1 by omega, show ((1 + n0 * 3 : Nat) : Int) = K0 by omega] at this; exact this)
  have MG := Lib.hid (show ∀ (B g c : Nat) (W : World), W.ownsRow B 60 3 (.slice (some ⟨g, 0, none⟩) m c) m (gls zr) → Calls Try.prog 26 #[.slice (some ⟨g, 0, none⟩) m c, .int .i64 1] W (fun e w' => e = .returned (.int .i64 K2) ∧ w'.ownsRow B 60 3 (.slice (some ⟨g, 0, none⟩) m c) m (mk (1) (m * 3)) ∧ W.grownBy w' (some g)) from fun B g c W h => by have := markGustS B g m c (1) (gls zr) W (by rw [gls_len, HM.out]) hbm (by omega) h; unfold Laid at this; rw [show (((1 : Nat) : Int) + ((m * 3 : Nat) : Int)) = K2 by omega, show ((1 : Nat) : Int) = 1 by omega] at this; exact this)
  have HG := Lib.hid (show ∀ (A : Option Addr) (c : Nat) (W : World), Rd W W.heap.size A (mk (1) (m * 3)) → Calls Try.prog 27 #[.slice A m c, .int .i64 1] W fun e w' => e = .returned (.int .i64 K2) ∧ W = w' from fun A c W h => by have := heldGustS A m c (1) W.heap.size W hbm (by omega) h; rw [show (((1 : Nat) : Int) + ((m * 3 : Nat) : Int)) = K2 by omega, show ((1 : Nat) : Int) = 1 by omega] at this; exact this)
  have hu : undef = Value.tuple #[] := rfl
  have BB := Lib.hid (Below.refl w.heap.size w)
  clear hr0 hn0 hwf0 hlen0 hm0 hr1 hn1 hwf1 hlen1 hm1 hzr hrr hm hK0 hK1 hK2
  go_enter Try.func8, Try.ntmps8
  cases r
  all_goals
    go_wp2_with fail
    refine (S0.out _).mono ?_
    rintro e w' ⟨rfl, rfl⟩
    go_wp2_with fail
    refine (S1.out _).mono ?_
    rintro e w' ⟨rfl, rfl⟩
    go_wp2_with fail
    refine (toGustS A0 n0 c0 zs0 _ HN0.out hb0 ((HR0.out.below BB.out).more BB.out.size)).mono ?_
    rintro e u1 ⟨gX0, rfl, _, ho, hb⟩
    have wlX0 : w.heap.size ≤ gX0 := Nat.le_trans BB.out.size (own_base ho gX0 rfl)
    have XN := Lib.hid (owns_base ho wlX0)
    clear ho
    have BB2 := Lib.hid (BB.out.trans (hb.mono BB.out.size))
    clear hb BB
    have BB := BB2
    clear BB2
    have X0 := XN
    clear XN
    go_wp2_with fail
    refine (toGustS A1 n1 c1 zs1 _ HN1.out hb1 ((HR1.out.below BB.out).more BB.out.size)).mono ?_
    rintro e u2 ⟨gY0, rfl, _, ho, hb⟩
    have wlY0 : w.heap.size ≤ gY0 := Nat.le_trans BB.out.size (own_base ho gY0 rfl)
    have ne_X0_Y0 : gX0 < gY0 := Nat.lt_of_lt_of_le (X0.out.lt _ rfl).2 (own_base ho gY0 rfl)
    have XN := Lib.hid (owns_base ho wlY0)
    clear ho
    have BB2 := Lib.hid (BB.out.trans (hb.mono BB.out.size))
    have X0n := Lib.hid (owns_below X0.out hb)
    clear hb BB X0
    have BB := BB2
    clear BB2
    have X0 := X0n
    clear X0n
    have Y0 := XN
    clear XN
    go_wp2_with fail
    refine (CS.out _ _ _ (Rd.own X0.out) (Rd.own Y0.out)).mono ?_
    rintro e u3 ⟨gW0, cW0, rfl, ho, hb⟩
    have wlW0 : w.heap.size ≤ gW0 := Nat.le_trans BB.out.size (own_base ho gW0 rfl)
    have ne_X0_W0 : gX0 < gW0 := Nat.lt_of_lt_of_le (X0.out.lt _ rfl).2 (own_base ho gW0 rfl)
    have ne_Y0_W0 : gY0 < gW0 := Nat.lt_of_lt_of_le (Y0.out.lt _ rfl).2 (own_base ho gW0 rfl)
    have XN := Lib.hid (owns_base ho wlW0)
    clear ho
    have BB2 := Lib.hid (BB.out.trans (hb.mono BB.out.size))
    have X0n := Lib.hid (owns_below X0.out hb)
    have Y0n := Lib.hid (owns_below Y0.out hb)
    clear hb BB X0 Y0
    have BB := BB2
    clear BB2
    have X0 := X0n
    clear X0n
    have Y0 := Y0n
    clear Y0n
    have W0 := XN
    clear XN
    clear X0
    clear Y0
    go_wp2_with fail
    refine (toGustS A0 n0 c0 zs0 _ HN0.out hb0 ((HR0.out.below BB.out).more BB.out.size)).mono ?_
    rintro e u4 ⟨gX1, rfl, _, ho, hb⟩
    have wlX1 : w.heap.size ≤ gX1 := Nat.le_trans BB.out.size (own_base ho gX1 rfl)
    have ne_W0_X1 : gW0 < gX1 := Nat.lt_of_lt_of_le (W0.out.lt _ rfl).2 (own_base ho gX1 rfl)
    have XN := Lib.hid (owns_base ho wlX1)
    clear ho
    have BB2 := Lib.hid (BB.out.trans (hb.mono BB.out.size))
    have W0n := Lib.hid (owns_below W0.out hb)
    clear hb BB W0
    have BB := BB2
    clear BB2
    have W0 := W0n
    clear W0n
    have X1 := XN
    clear XN
    go_wp2_with fail
    refine (toGustS A1 n1 c1 zs1 _ HN1.out hb1 ((HR1.out.below BB.out).more BB.out.size)).mono ?_
    rintro e u5 ⟨gY1, rfl, _, ho, hb⟩
    have wlY1 : w.heap.size ≤ gY1 := Nat.le_trans BB.out.size (own_base ho gY1 rfl)
    have ne_W0_Y1 : gW0 < gY1 := Nat.lt_of_lt_of_le (W0.out.lt _ rfl).2 (own_base ho gY1 rfl)
    have ne_X1_Y1 : gX1 < gY1 := Nat.lt_of_lt_of_le (X1.out.lt _ rfl).2 (own_base ho gY1 rfl)
    have XN := Lib.hid (owns_base ho wlY1)
    clear ho
    have BB2 := Lib.hid (BB.out.trans (hb.mono BB.out.size))
    have W0n := Lib.hid (owns_below W0.out hb)
    have X1n := Lib.hid (owns_below X1.out hb)
    clear hb BB W0 X1
    have BB := BB2
    clear BB2
    have W0 := W0n
    clear W0n
    have X1 := X1n
    clear X1n
    have Y1 := XN
    clear XN
    go_wp2_with fail
    refine (CI.out _ _ _ (Rd.own X1.out) (Rd.own Y1.out)).mono ?_
    rintro e u6 ⟨gG0, cG0, rfl, ho, hb⟩
    have wlG0 : w.heap.size ≤ gG0 := Nat.le_trans BB.out.size (own_base ho gG0 rfl)
    have ne_W0_G0 : gW0 < gG0 := Nat.lt_of_lt_of_le (W0.out.lt _ rfl).2 (own_base ho gG0 rfl)
    have ne_X1_G0 : gX1 < gG0 := Nat.lt_of_lt_of_le (X1.out.lt _ rfl).2 (own_base ho gG0 rfl)
    have ne_Y1_G0 : gY1 < gG0 := Nat.lt_of_lt_of_le (Y1.out.lt _ rfl).2 (own_base ho gG0 rfl)
    have XN := Lib.hid (owns_base ho wlG0)
    clear ho
    have BB2 := Lib.hid (BB.out.trans (hb.mono BB.out.size))
    have W0n := Lib.hid (owns_below W0.out hb)
    have X1n := Lib.hid (owns_below X1.out hb)
    have Y1n := Lib.hid (owns_below Y1.out hb)
    clear hb BB W0 X1 Y1
    have BB := BB2
    clear BB2
    have W0 := W0n
    clear W0n
    have X1 := X1n
    clear X1n
    have Y1 := Y1n
    clear Y1n
    have G0 := XN
    clear XN
    go_wp2_with fail
    refine (eqGustS _ _ m cG0 cW0 zr _ _ HM.out hbm (Nat.le_refl _) (Rd.own G0.out) (Rd.own W0.out)).mono ?_
    rintro e u7 ⟨rfl, hb⟩
    have BB2 := Lib.hid (BB.out.trans (hb.mono BB.out.size))
    have W0n := Lib.hid (owns_below W0.out hb)
    have X1n := Lib.hid (owns_below X1.out hb)
    have Y1n := Lib.hid (owns_below Y1.out hb)
    have G0n := Lib.hid (owns_below G0.out hb)
    clear hb BB W0 X1 Y1 G0
    have BB := BB2
    clear BB2
    have W0 := W0n
    clear W0n
    have X1 := X1n
    clear X1n
    have Y1 := Y1n
    clear Y1n
    have G0 := G0n
    clear G0n
    go_wp2_with fail
    refine (toGustS A0 n0 c0 zs0 _ HN0.out hb0 ((HR0.out.below BB.out).more BB.out.size)).mono ?_
    rintro e u8 ⟨gX2, rfl, _, ho, hb⟩
    have wlX2 : w.heap.size ≤ gX2 := Nat.le_trans BB.out.size (own_base ho gX2 rfl)
    have ne_W0_X2 : gW0 < gX2 := Nat.lt_of_lt_of_le (W0.out.lt _ rfl).2 (own_base ho gX2 rfl)
    have ne_X1_X2 : gX1 < gX2 := Nat.lt_of_lt_of_le (X1.out.lt _ rfl).2 (own_base ho gX2 rfl)
    have ne_Y1_X2 : gY1 < gX2 := Nat.lt_of_lt_of_le (Y1.out.lt _ rfl).2 (own_base ho gX2 rfl)
    have ne_G0_X2 : gG0 < gX2 := Nat.lt_of_lt_of_le (G0.out.lt _ rfl).2 (own_base ho gX2 rfl)
    have XN := Lib.hid (owns_base ho wlX2)
    clear ho
    have BB2 := Lib.hid (BB.out.trans (hb.mono BB.out.size))
    have W0n := Lib.hid (owns_below W0.out hb)
    have X1n := Lib.hid (owns_below X1.out hb)
    have Y1n := Lib.hid (owns_below Y1.out hb)
    have G0n := Lib.hid (owns_below G0.out hb)
    clear hb BB W0 X1 Y1 G0
    have BB := BB2
    clear BB2
    have W0 := W0n
    clear W0n
    have X1 := X1n
    clear X1n
    have Y1 := Y1n
    clear Y1n
    have G0 := G0n
    clear G0n
    have X2 := XN
    clear XN
    go_wp2_with fail
    refine (eqGustS _ _ n0 n0 n0 zs0 _ _ HN0.out hb0 (Nat.le_refl _) (Rd.own X1.out) (Rd.own X2.out)).mono ?_
    rintro e u9 ⟨rfl, hb⟩
    have BB2 := Lib.hid (BB.out.trans (hb.mono BB.out.size))
    have W0n := Lib.hid (owns_below W0.out hb)
    have X1n := Lib.hid (owns_below X1.out hb)
    have Y1n := Lib.hid (owns_below Y1.out hb)
    have G0n := Lib.hid (owns_below G0.out hb)
    have X2n := Lib.hid (owns_below X2.out hb)
    clear hb BB W0 X1 Y1 G0 X2
    have BB := BB2
    clear BB2
    have W0 := W0n
    clear W0n
    have X1 := X1n
    clear X1n
    have Y1 := Y1n
    clear Y1n
    have G0 := G0n
    clear G0n
    have X2 := X2n
    clear X2n
    clear X2
    go_wp2_with fail
    refine (toGustS A1 n1 c1 zs1 _ HN1.out hb1 ((HR1.out.below BB.out).more BB.out.size)).mono ?_
    rintro e u10 ⟨gY2, rfl, _, ho, hb⟩
    have wlY2 : w.heap.size ≤ gY2 := Nat.le_trans BB.out.size (own_base ho gY2 rfl)
    have ne_W0_Y2 : gW0 < gY2 := Nat.lt_of_lt_of_le (W0.out.lt _ rfl).2 (own_base ho gY2 rfl)
    have ne_X1_Y2 : gX1 < gY2 := Nat.lt_of_lt_of_le (X1.out.lt _ rfl).2 (own_base ho gY2 rfl)
    have ne_Y1_Y2 : gY1 < gY2 := Nat.lt_of_lt_of_le (Y1.out.lt _ rfl).2 (own_base ho gY2 rfl)
    have ne_G0_Y2 : gG0 < gY2 := Nat.lt_of_lt_of_le (G0.out.lt _ rfl).2 (own_base ho gY2 rfl)
    have XN := Lib.hid (owns_base ho wlY2)
    clear ho
    have BB2 := Lib.hid (BB.out.trans (hb.mono BB.out.size))
    have W0n := Lib.hid (owns_below W0.out hb)
    have X1n := Lib.hid (owns_below X1.out hb)
    have Y1n := Lib.hid (owns_below Y1.out hb)
    have G0n := Lib.hid (owns_below G0.out hb)
    clear hb BB W0 X1 Y1 G0
    have BB := BB2
    clear BB2
    have W0 := W0n
    clear W0n
    have X1 := X1n
    clear X1n
    have Y1 := Y1n
    clear Y1n
    have G0 := G0n
    clear G0n
    have Y2 := XN
    clear XN
    go_wp2_with fail
    refine (eqGustS _ _ n1 n1 n1 zs1 _ _ HN1.out hb1 (Nat.le_refl _) (Rd.own Y1.out) (Rd.own Y2.out)).mono ?_
    rintro e u11 ⟨rfl, hb⟩
    have BB2 := Lib.hid (BB.out.trans (hb.mono BB.out.size))
    have W0n := Lib.hid (owns_below W0.out hb)
    have X1n := Lib.hid (owns_below X1.out hb)
    have Y1n := Lib.hid (owns_below Y1.out hb)
    have G0n := Lib.hid (owns_below G0.out hb)
    have Y2n := Lib.hid (owns_below Y2.out hb)
    clear hb BB W0 X1 Y1 G0 Y2
    have BB := BB2
    clear BB2
    have W0 := W0n
    clear W0n
    have X1 := X1n
    clear X1n
    have Y1 := Y1n
    clear Y1n
    have G0 := G0n
    clear G0n
    have Y2 := Y2n
    clear Y2n
    clear Y2
    go_wp2_with fail
    refine (MX.out _ _ _ _ X1.out).mono ?_
    rintro e u12 ⟨rfl, ho, hg⟩
    have BB2 := Lib.hid (BB.out.grown hg BB.out.size (fun k hk => by cases hk; exact wlX1))
    have W0n := Lib.hid (owns_grown W0.out hg (fun k hk => by cases hk; intro hk2; cases hk2; exact absurd ne_W0_X1 (Nat.lt_irrefl _)))
    have Y1n := Lib.hid (owns_grown Y1.out hg (fun k hk => by cases hk; intro hk2; cases hk2; exact absurd ne_X1_Y1 (Nat.lt_irrefl _)))
    have G0n := Lib.hid (owns_grown G0.out hg (fun k hk => by cases hk; intro hk2; cases hk2; exact absurd ne_X1_G0 (Nat.lt_irrefl _)))
    have X1n := Lib.hid ho
    clear ho hg BB W0 X1 Y1 G0
    have BB := BB2
    clear BB2
    have W0 := W0n
    clear W0n
    have X1 := X1n
    clear X1n
    have Y1 := Y1n
    clear Y1n
    have G0 := G0n
    clear G0n
    go_wp2_with fail
    refine (MY.out _ _ _ _ Y1.out).mono ?_
    rintro e u13 ⟨rfl, ho, hg⟩
    have BB2 := Lib.hid (BB.out.grown hg BB.out.size (fun k hk => by cases hk; exact wlY1))
    have W0n := Lib.hid (owns_grown W0.out hg (fun k hk => by cases hk; intro hk2; cases hk2; exact absurd ne_W0_Y1 (Nat.lt_irrefl _)))
    have X1n := Lib.hid (owns_grown X1.out hg (fun k hk => by cases hk; intro hk2; cases hk2; exact absurd ne_X1_Y1 (Nat.lt_irrefl _)))
    have G0n := Lib.hid (owns_grown G0.out hg (fun k hk => by cases hk; intro hk2; cases hk2; exact absurd ne_Y1_G0 (Nat.lt_irrefl _)))
    have Y1n := Lib.hid ho
    clear ho hg BB W0 X1 Y1 G0
    have BB := BB2
    clear BB2
    have W0 := W0n
    clear W0n
    have X1 := X1n
    clear X1n
    have Y1 := Y1n
    clear Y1n
    have G0 := G0n
    clear G0n
    go_wp2_with fail
    refine (eqGustS _ _ m cG0 cW0 zr _ _ HM.out hbm (Nat.le_refl _) (Rd.own G0.out) (Rd.own W0.out)).mono ?_
    rintro e u14 ⟨rfl, hb⟩
    have BB2 := Lib.hid (BB.out.trans (hb.mono BB.out.size))
    have W0n := Lib.hid (owns_below W0.out hb)
    have X1n := Lib.hid (owns_below X1.out hb)
    have Y1n := Lib.hid (owns_below Y1.out hb)
    have G0n := Lib.hid (owns_below G0.out hb)
    clear hb BB W0 X1 Y1 G0
    have BB := BB2
    clear BB2
    have W0 := W0n
    clear W0n
    have X1 := X1n
    clear X1n
    have Y1 := Y1n
    clear Y1n
    have G0 := G0n
    clear G0n
    go_wp2_with fail
    refine (MG.out _ _ _ _ G0.out).mono ?_
    rintro e u15 ⟨rfl, ho, hg⟩
    have BB2 := Lib.hid (BB.out.grown hg BB.out.size (fun k hk => by cases hk; exact wlG0))
    have W0n := Lib.hid (owns_grown W0.out hg (fun k hk => by cases hk; intro hk2; cases hk2; exact absurd ne_W0_G0 (Nat.lt_irrefl _)))
    have X1n := Lib.hid (owns_grown X1.out hg (fun k hk => by cases hk; intro hk2; cases hk2; exact absurd ne_X1_G0 (Nat.lt_irrefl _)))
    have Y1n := Lib.hid (owns_grown Y1.out hg (fun k hk => by cases hk; intro hk2; cases hk2; exact absurd ne_Y1_G0 (Nat.lt_irrefl _)))
    have G0n := Lib.hid ho
    clear ho hg BB W0 X1 Y1 G0
    have BB := BB2
    clear BB2
    have W0 := W0n
    clear W0n
    have X1 := X1n
    clear X1n
    have Y1 := Y1n
    clear Y1n
    have G0 := G0n
    clear G0n
    clear X1
    clear Y1
    go_wp2_with fail
    refine (HG.out _ _ _ (Rd.own G0.out)).mono ?_
    rintro e w' ⟨rfl, rfl⟩
    go_wp2_with fail
    refine (toGustS A0 n0 c0 zs0 _ HN0.out hb0 ((HR0.out.below BB.out).more BB.out.size)).mono ?_
    rintro e u16 ⟨gX3, rfl, _, ho, hb⟩
    have wlX3 : w.heap.size ≤ gX3 := Nat.le_trans BB.out.size (own_base ho gX3 rfl)
    have ne_W0_X3 : gW0 < gX3 := Nat.lt_of_lt_of_le (W0.out.lt _ rfl).2 (own_base ho gX3 rfl)
    have ne_G0_X3 : gG0 < gX3 := Nat.lt_of_lt_of_le (G0.out.lt _ rfl).2 (own_base ho gX3 rfl)
    have XN := Lib.hid (owns_base ho wlX3)
    clear ho
    have BB2 := Lib.hid (BB.out.trans (hb.mono BB.out.size))
    have W0n := Lib.hid (owns_below W0.out hb)
    have G0n := Lib.hid (owns_below G0.out hb)
    clear hb BB W0 G0
    have BB := BB2
    clear BB2
    have W0 := W0n
    clear W0n
    have G0 := G0n
    clear G0n
    have X3 := XN
    clear XN
    go_wp2_with fail
    refine (toGustS A1 n1 c1 zs1 _ HN1.out hb1 ((HR1.out.below BB.out).more BB.out.size)).mono ?_
    rintro e u17 ⟨gY3, rfl, _, ho, hb⟩
    have wlY3 : w.heap.size ≤ gY3 := Nat.le_trans BB.out.size (own_base ho gY3 rfl)
    have ne_W0_Y3 : gW0 < gY3 := Nat.lt_of_lt_of_le (W0.out.lt _ rfl).2 (own_base ho gY3 rfl)
    have ne_G0_Y3 : gG0 < gY3 := Nat.lt_of_lt_of_le (G0.out.lt _ rfl).2 (own_base ho gY3 rfl)
    have ne_X3_Y3 : gX3 < gY3 := Nat.lt_of_lt_of_le (X3.out.lt _ rfl).2 (own_base ho gY3 rfl)
    have XN := Lib.hid (owns_base ho wlY3)
    clear ho
    have BB2 := Lib.hid (BB.out.trans (hb.mono BB.out.size))
    have W0n := Lib.hid (owns_below W0.out hb)
    have G0n := Lib.hid (owns_below G0.out hb)
    have X3n := Lib.hid (owns_below X3.out hb)
    clear hb BB W0 G0 X3
    have BB := BB2
    clear BB2
    have W0 := W0n
    clear W0n
    have G0 := G0n
    clear G0n
    have X3 := X3n
    clear X3n
    have Y3 := XN
    clear XN
    go_wp2_with fail
    refine (CI.out _ _ _ (Rd.own X3.out) (Rd.own Y3.out)).mono ?_
    rintro e u18 ⟨gH0, cH0, rfl, ho, hb⟩
    have wlH0 : w.heap.size ≤ gH0 := Nat.le_trans BB.out.size (own_base ho gH0 rfl)
    have ne_W0_H0 : gW0 < gH0 := Nat.lt_of_lt_of_le (W0.out.lt _ rfl).2 (own_base ho gH0 rfl)
    have ne_G0_H0 : gG0 < gH0 := Nat.lt_of_lt_of_le (G0.out.lt _ rfl).2 (own_base ho gH0 rfl)
    have ne_X3_H0 : gX3 < gH0 := Nat.lt_of_lt_of_le (X3.out.lt _ rfl).2 (own_base ho gH0 rfl)
    have ne_Y3_H0 : gY3 < gH0 := Nat.lt_of_lt_of_le (Y3.out.lt _ rfl).2 (own_base ho gH0 rfl)
    have XN := Lib.hid (owns_base ho wlH0)
    clear ho
    have BB2 := Lib.hid (BB.out.trans (hb.mono BB.out.size))
    have W0n := Lib.hid (owns_below W0.out hb)
    have G0n := Lib.hid (owns_below G0.out hb)
    have X3n := Lib.hid (owns_below X3.out hb)
    have Y3n := Lib.hid (owns_below Y3.out hb)
    clear hb BB W0 G0 X3 Y3
    have BB := BB2
    clear BB2
    have W0 := W0n
    clear W0n
    have G0 := G0n
    clear G0n
    have X3 := X3n
    clear X3n
    have Y3 := Y3n
    clear Y3n
    have H0 := XN
    clear XN
    clear X3
    clear Y3
    go_wp2_with fail
    refine (eqGustS _ _ m cH0 cW0 zr _ _ HM.out hbm (Nat.le_refl _) (Rd.own H0.out) (Rd.own W0.out)).mono ?_
    rintro e u19 ⟨rfl, hb⟩
    have BB2 := Lib.hid (BB.out.trans (hb.mono BB.out.size))
    have W0n := Lib.hid (owns_below W0.out hb)
    have G0n := Lib.hid (owns_below G0.out hb)
    have H0n := Lib.hid (owns_below H0.out hb)
    clear hb BB W0 G0 H0
    have BB := BB2
    clear BB2
    have W0 := W0n
    clear W0n
    have G0 := G0n
    clear G0n
    have H0 := H0n
    clear H0n
    go_wp2_with fail
    refine (HG.out _ _ _ (Rd.own G0.out)).mono ?_
    rintro e w' ⟨rfl, rfl⟩
    go_wp2_with fail
    go_ret
    exact ⟨rfl, BB.out⟩

set_option maxRecDepth 100000 in
theorem lifted (os : Os) (started : os.Started) (H : Type) (enc : TypeId × Value → H) :
    ReturnsInHanded {} Try.checked os 8 .any (Rows.fnExactJoinWindsSpec.pre6 enc Try.prog Try.f8 Rows.fnExactJoinWindsRow.domain false) (Rows.fnExactJoinWindsSpec.post enc Try.prog Try.f8 false true false false) := by
  refine returnsInHanded_of_change (C := Try.checked) own started (by kernel_rfl) Try.func8
    (ChangeSpec.witness6 (enc := enc) (C := Try.checked) false ⟨#[], #[.slice none 0 0, .slice none 0 0, .int .i64 0], []⟩ 8 (by kernel_rfl) (by kernel_rfl) (by kernel_rfl) (by kernel_rfl)) ?_
  intro W base args ds gs before hval0 hW hcnd hsz
  have hval : ∀ (j : Nat) t v, Try.f8.params[j]? = some t → args[j]? = some v → Value.okWide Try.prog W .any base t v := hval0
  have hW' := hW
  obtain ⟨p, q, hA0, hV, rfl, hfz, hnd⟩ := hW
  have hA1 := hA0
  have hA : DataW.TrodAll enc Try.prog W 0 (fun _ => true) true Try.f8.params.toList args.toList ds p := hA0
  rw [Try.params8] at hA hval
  obtain ⟨v0, vs0, d0, ds0, p0, q0, hargs, rfl, rfl, h0, r0⟩ := trodAll_cons hA
  obtain ⟨v1, vs1, d1, ds1, p1, q1, rfl, rfl, rfl, h1, r1⟩ := trodAll_cons r0
  obtain ⟨v2, vs2, d2, ds2, p2, q2, rfl, rfl, rfl, h2, r2⟩ := trodAll_cons r1
  obtain ⟨rfl, rfl, rfl⟩ := trodAll_nil r2
  obtain rfl : args = #[v0, v1, v2] := by cases args; simp_all
  obtain ⟨rfl, rfl⟩ := trodVars_none hV
  obtain ⟨A0, n0, c0, a0, rfl, l0, m0, g0, w0⟩ := Gs.take_gusts Try.underlying22 Try.underlying66 (by kernel_rfl) rfl rfl (by kernel_rfl) Try.underlying3 rfl Try.underlying64 (by kernel_rfl) rfl rfl (by kernel_rfl) (by kernel_rfl) Try.underlying3 Try.underlying3 (hval 0 22 v0 rfl rfl) h0
  obtain ⟨A1, n1, c1, a1, rfl, l1, m1, g1, w1⟩ := Gs.take_gusts Try.underlying22 Try.underlying66 (by kernel_rfl) rfl rfl (by kernel_rfl) Try.underlying3 rfl Try.underlying64 (by kernel_rfl) rfl rfl (by kernel_rfl) (by kernel_rfl) Try.underlying3 Try.underlying3 (hval 1 22 v1 rfl rfl) h1
  obtain ⟨a2, rfl, rfl, rfl, w2⟩ := open_int Try.underlying3 (hval 2 3 v2 rfl rfl) h2
  clear hA0 hval0
  rw [List.append_nil] at hW'
  refine (walk A0 n0 c0 a0 l0 m0 A1 n1 c1 a1 l1 m1 a2 w2 W g0 w0 g1 w1).mono fun e W' ⟨he, hb⟩ => ?_
  subst he
  exact ⟨_, rfl, post_law rfl hW' hA1 laidOut (by rw [Try.params8]; exact of_decide_eq_true (by kernel_rfl)) 4 (by kernel_rfl) Try.underlying4 rfl hb⟩

theorem over : Rows.fnExactJoinWindsRow.holds Try.pinned (OpenSpec.ofChange Rows.fnExactJoinWindsSpec) :=
  OpenClaim.holds_of_wide 8 Try.f8 rfl rfl rfl rfl rfl rfl rfl ⟨rfl, rfl, rfl, rfl, rfl⟩ rfl rfl rfl rfl rfl (by kernel_rfl) Try.func8 (by kernel_rfl)
    (of_decide_eq_true (by kernel_rfl)) (by unfold Func.isWrapper; first | (rw [if_pos (by decide +kernel)]; kernel_rfl) | (rw [if_neg (by decide +kernel)]; exact ⟨rfl, rfl⟩))
    (fun os started H enc _ => lifted os started H enc)

/-- The statement. -/
theorem proved : Rows.FnExactJoinWindsSaid :=
  over
#print axioms proved
end Go.Proofs.Ytjemjffiomkioaa.fnExactJoinWinds
