/- The law FnExactRemoveDevice holds at every input. The step from the walk to the row follows the guide's own template. -/
import Derived.Test.YtobdidfoamfnoaaMem
import Derived.Test.YtobdidfoamfnoaaDl
import Derived.Test.YtobdidfoamfnoaaDs
import Derived.Test.YtobdidfoamfnoaaDmk
import Derived.Test.YtobdidfoamfnoaaMarkM
import Derived.Test.YtobdidfoamfnoaaRk
import Derived.Deep.SlicePairs
namespace Go.Proofs.Ytobdidfoamfnoaa.fnExactRemoveDevice
open Go.ChangeShapes Go.WideShapes Go.ChangeAt Go.RowKit Go.WideMaps Go.WideElems Go.Proofs.Ytobdidfoamfnoaa.Mem
open Go.ChangeMaps (open_string shut_string)
set_option linter.unusedVariables false
set_option linter.unusedSimpArgs false

theorem own : ownKnob Try.prog.godebug = none := by kernel_rfl
theorem laidOut : laidOutB Try.prog = true := by kernel_rfl

open Go.Proofs.Ytobdidfoamfnoaa.Pw Go.Proofs.Ytobdidfoamfnoaa.P2 Go.Proofs.Ytobdidfoamfnoaa.Dd Go.Proofs.Ytobdidfoamfnoaa.Dv Go.Proofs.Ytobdidfoamfnoaa.Dl Go.Proofs.Ytobdidfoamfnoaa.Ds Go.Proofs.Ytobdidfoamfnoaa.Dmk Go.Proofs.Ytobdidfoamfnoaa.Ig Go.Proofs.Ytobdidfoamfnoaa.Mo Go.Proofs.Ytobdidfoamfnoaa.Rm Go.Proofs.Ytobdidfoamfnoaa.Rk
open Go.Proofs.Ytobdidfoamfnoaa.Rw (owns_below owns_grown owns_base)

theorem owns_far {w w' : World} {base : Nat} {e : TypeId} {size g n c B : Nat} {xs : List Value} (h : w.ownsRow base e size (.slice (some ⟨g, 0, none⟩) n c) n xs) (hb : Below B w w') (hl : g < B) : w'.ownsRow base e size (.slice (some ⟨g, 0, none⟩) n c) n xs := by
  refine ⟨h.1, h.2.imp id fun ⟨g', cap, cur, e1, e2, e3, e4⟩ => ⟨g', cap, cur, e1, e2, (hb.block g' ?_).trans e3, e4⟩⟩
  injection e1 with e1; injection e1 with e1; injection e1 with e1
  omega
theorem own_at {w : World} {base : Nat} {e : TypeId} {size g n c : Nat} {xs : List Value} (h : w.ownsRow base e size (.slice (some ⟨g, 0, none⟩) n c) n xs) : base ≤ g := (h.lt g rfl).1

set_option maxRecDepth 100000 in
set_option maxHeartbeats 4000000 in
theorem walk (A0 : Option Addr) (n0 c0 : Nat) (zs : List D) (hn0 : zs.length = n0) (hm0 : n0 ≤ maxLen) (s1 : ByteArray) (ws1 : s1.size ≤ maxLen) (w : World) (hr0 : Rd w w.heap.size A0 (dls zs)) (hwf : ∀ z ∈ zs, Dok z) :
    Calls Try.prog 7 #[.slice A0 n0 c0, .string s1] w fun e w' => e = .returned (.bool true) ∧ Below w.heap.size w w' := by
  unfold maxLen at ws1
  by_cases hs1 : 1048576 < s1.size
  · go_enter Try.func7, Try.ntmps7
    go_wp2
    all_goals go_returns
    all_goals exact ⟨rfl, Below.refl _ _⟩
  have hs1' : s1.size ≤ 1048576 := by omega
  have SZ := Lib.hid (szDeviceS A0 n0 c0 zs w hn0 hm0 hr0 hwf)
  by_cases hz : szV n0 zs < 0
  · generalize szV n0 zs = R at *
    clear hn0 hm0 hr0 hwf
    go_enter Try.func7, Try.ntmps7
    go_wp2_with fail
    refine SZ.out.mono ?_
    rintro e w1 ⟨rfl, hb⟩
    have BB := Lib.hid hb
    clear hb SZ
    go_wp2_with fail
    go_returns
    exact ⟨rfl, BB.out⟩
  have hb : n0 ≤ 1048576 ∧ bulk zs ≤ 1048576 := by unfold szV at hz; split at hz <;> omega
  obtain ⟨hb0, hbk⟩ := hb
  have hsz : ∀ z ∈ zs, z.nm.size ≤ 1048576 ∧ z.ln.size ≤ 1048576 := fun z hm => by
    obtain ⟨k, hk, rfl⟩ := List.getElem_of_mem hm
    have h1 := bulk_take (List.getElem?_eq_getElem hk)
    have h2 := bulk_le zs (k + 1)
    omega
  obtain ⟨R, hR⟩ : ∃ R, szV n0 zs = R := ⟨_, rfl⟩
  rw [hR] at hz SZ
  clear hR
  obtain ⟨zr, hzr⟩ : ∃ z, rmL zs s1 = z := ⟨_, rfl⟩
  obtain ⟨m, hm⟩ : ∃ m, zr.length = m := ⟨_, rfl⟩
  have hbm : m ≤ 1048576 := by (rw [← hm, ← hzr]; have := rmL_len zs s1; omega)
  have HM := Lib.hid hm
  obtain ⟨r, hrr⟩ : ∃ r, rmG zs s1 = r := ⟨_, rfl⟩
  have CS := Lib.hid (show ∀ (b : Nat) (W : World) (h : Rd W W.heap.size (some ⟨b, 0, none⟩) (dls zs)), Calls Try.prog 30 #[.slice (some ⟨b, 0, none⟩) n0 n0, .string s1] W (fun e w' => ∃ g c, e = .returned (.tuple #[.slice (some ⟨g, 0, none⟩) m c, .bool r]) ∧ w'.ownsRow W.heap.size 30 8 (.slice (some ⟨g, 0, none⟩) m c) m (dls zr) ∧ Below W.heap.size W w') from fun b W h => by have := removeS b n0 n0 zs s1 W hn0 hb0 (Nat.le_refl _) hsz h; rw [hzr, hrr] at this; unfold RowB at this; rw [hm] at this; exact this)
  have CI := Lib.hid (show ∀ (ad : Addr) (W : World) (h : Rd W W.heap.size (some ad) (dls zs)), Calls Try.prog 31 #[.slice (some ad) n0 n0, .string s1] W (fun e w' => ∃ g c, e = .returned (.tuple #[.slice (some ⟨g, 0, none⟩) m c, .bool r]) ∧ w'.ownsRow W.heap.size 30 8 (.slice (some ⟨g, 0, none⟩) m c) m (dls zr) ∧ Below W.heap.size W w') from fun ad W h => by have := removeI ad n0 n0 zs s1 W hn0 hb0 h; rw [hzr, hrr] at this; unfold RowB at this; rw [hm] at this; exact this)
  obtain ⟨K1, hK1⟩ : ∃ K : Int, 1 + ((n0 * 8 : Nat) : Int) = K := ⟨_, rfl⟩
  have pK1 : ¬ K1 < 0 := by omega
  have MX := Lib.hid (show ∀ (B g c : Nat) (W : World), W.ownsRow B 30 8 (.slice (some ⟨g, 0, none⟩) n0 c) n0 (dls zs) → Calls Try.prog 27 #[.slice (some ⟨g, 0, none⟩) n0 c, .int .i64 1] W (fun e w' => e = .returned (.int .i64 K1) ∧ w'.ownsRow B 30 8 (.slice (some ⟨g, 0, none⟩) n0 c) n0 (dls (mkd 1 n0)) ∧ W.grownBy w' (some g)) from fun B g c W h => by have := markDeviceS B g n0 c 1 zs W hn0 hb0 (by omega) (by omega) h; unfold Dmk.Laid at this; rw [show (((1 : Nat) : Int) + ((n0 * 8 : Nat) : Int)) = K1 by omega, show ((1 : Nat) : Int) = 1 by omega] at this; exact this)
  obtain ⟨K2, hK2⟩ : ∃ K : Int, 1 + ((m * 8 : Nat) : Int) = K := ⟨_, rfl⟩
  have pK2 : ¬ K2 < 0 := by omega
  have MG := Lib.hid (show ∀ (B g c : Nat) (W : World), W.ownsRow B 30 8 (.slice (some ⟨g, 0, none⟩) m c) m (dls zr) → Calls Try.prog 27 #[.slice (some ⟨g, 0, none⟩) m c, .int .i64 1] W (fun e w' => e = .returned (.int .i64 K2) ∧ w'.ownsRow B 30 8 (.slice (some ⟨g, 0, none⟩) m c) m (dls (mkd 1 m)) ∧ W.grownBy w' (some g)) from fun B g c W h => by have := markDeviceS B g m c 1 zr W hm hbm (by omega) (by omega) h; unfold Dmk.Laid at this; rw [show (((1 : Nat) : Int) + ((m * 8 : Nat) : Int)) = K2 by omega, show ((1 : Nat) : Int) = 1 by omega] at this; exact this)
  have HG := Lib.hid (show ∀ (A : Option Addr) (c : Nat) (W : World), Rd W W.heap.size A (dls (mkd 1 m)) → Calls Try.prog 32 #[.slice A m c, .int .i64 1] W (fun e w' => e = .returned (.int .i64 K2) ∧ Below W.heap.size W w') from fun A c W h => by have := heldDeviceS A m c 1 W hbm (by omega) (by omega) h; rw [show (((1 : Nat) : Int) + ((m * 8 : Nat) : Int)) = K2 by omega, show ((1 : Nat) : Int) = 1 by omega] at this; exact this)
  have EQ := Lib.hid (show ∀ (A B : Option Addr) (c d : Nat) (W : World), Rd W W.heap.size A (dls zr) → Rd W W.heap.size B (dls zr) → Calls Try.prog 21 #[.slice A m c, .slice B m d] W (fun e w' => e = .returned (.bool true) ∧ Below W.heap.size W w') from fun A B c d W h k => eqDeviceS A B m c d zr _ W hm hbm (Nat.le_refl _) h k)
  have HR0 := Lib.hid hr0
  have HN0 := Lib.hid hn0
  have hu : undef = Value.tuple #[] := rfl
  have BB := Lib.hid (Below.refl w.heap.size w)
  clear hr0 hn0 hwf hm0 hsz hbk hzr hm hK1 hK2 hrr
  clear ws1
  cases r
  all_goals
    go_enter Try.func7, Try.ntmps7
    go_wp2_with fail
    refine (SZ.out).mono ?_
    rintro e u1 ⟨rfl, hb⟩
    have BB2 := Lib.hid (BB.out.trans (hb.mono BB.out.size))
    clear hb BB
    have BB := BB2
    clear BB2
    clear SZ
    go_wp2_with fail
    refine (toDeviceS A0 n0 c0 zs _ HN0.out hb0 ((HR0.out.below BB.out).more BB.out.size)).mono ?_
    rintro e u2 ⟨gX0, rfl, _, ho, hb⟩
    have wlX0 : w.heap.size ≤ gX0 := Nat.le_trans BB.out.size (own_at ho)
    have XN := Lib.hid (owns_base ho wlX0)
    clear ho
    have BB2 := Lib.hid (BB.out.trans (hb.mono BB.out.size))
    clear hb BB
    have BB := BB2
    clear BB2
    have X0 := XN
    clear XN
    go_wp2_with fail
    refine (CS.out _ _ (Rd.own X0.out)).mono ?_
    rintro e u3 ⟨gW0, cW0, rfl, ho, hb⟩
    have wlW0 : w.heap.size ≤ gW0 := Nat.le_trans BB.out.size (own_at ho)
    have ne_X0_W0 : gX0 < gW0 := Nat.lt_of_lt_of_le (X0.out.lt _ rfl).2 (own_at ho)
    have XN := Lib.hid (owns_base ho wlW0)
    clear ho
    have BB2 := Lib.hid (BB.out.trans (hb.mono BB.out.size))
    have X0n := Lib.hid (owns_below X0.out hb)
    clear hb BB X0
    have BB := BB2
    clear BB2
    have X0 := X0n
    clear X0n
    have W0 := XN
    clear XN
    clear X0
    go_wp2_with fail
    refine (toDeviceS A0 n0 c0 zs _ HN0.out hb0 ((HR0.out.below BB.out).more BB.out.size)).mono ?_
    rintro e u4 ⟨gX1, rfl, _, ho, hb⟩
    have wlX1 : w.heap.size ≤ gX1 := Nat.le_trans BB.out.size (own_at ho)
    have ne_W0_X1 : gW0 < gX1 := Nat.lt_of_lt_of_le (W0.out.lt _ rfl).2 (own_at ho)
    have XN := Lib.hid (owns_base ho wlX1)
    clear ho
    have BB2 := Lib.hid (BB.out.trans (hb.mono BB.out.size))
    have W0n := Lib.hid (owns_below W0.out hb)
    clear hb BB W0
    have BB := BB2
    clear BB2
    have W0 := W0n
    clear W0n
    have X1 := XN
    clear XN
    go_wp2_with fail
    refine (CI.out _ _ (Rd.own X1.out)).mono ?_
    rintro e u5 ⟨gG0, cG0, rfl, ho, hb⟩
    have wlG0 : w.heap.size ≤ gG0 := Nat.le_trans BB.out.size (own_at ho)
    have ne_W0_G0 : gW0 < gG0 := Nat.lt_of_lt_of_le (W0.out.lt _ rfl).2 (own_at ho)
    have ne_X1_G0 : gX1 < gG0 := Nat.lt_of_lt_of_le (X1.out.lt _ rfl).2 (own_at ho)
    have XN := Lib.hid (owns_base ho wlG0)
    clear ho
    have BB2 := Lib.hid (BB.out.trans (hb.mono BB.out.size))
    have W0n := Lib.hid (owns_below W0.out hb)
    have X1n := Lib.hid (owns_below X1.out hb)
    clear hb BB W0 X1
    have BB := BB2
    clear BB2
    have W0 := W0n
    clear W0n
    have X1 := X1n
    clear X1n
    have G0 := XN
    clear XN
    go_wp2_with fail
    refine (EQ.out _ _ _ _ _ (Rd.own G0.out) (Rd.own W0.out)).mono ?_
    rintro e u6 ⟨rfl, hb⟩
    have BB2 := Lib.hid (BB.out.trans (hb.mono BB.out.size))
    have W0n := Lib.hid (owns_below W0.out hb)
    have X1n := Lib.hid (owns_below X1.out hb)
    have G0n := Lib.hid (owns_below G0.out hb)
    clear hb BB W0 X1 G0
    have BB := BB2
    clear BB2
    have W0 := W0n
    clear W0n
    have X1 := X1n
    clear X1n
    have G0 := G0n
    clear G0n
    go_wp2_with fail
    refine (toDeviceS A0 n0 c0 zs _ HN0.out hb0 ((HR0.out.below BB.out).more BB.out.size)).mono ?_
    rintro e u7 ⟨gX2, rfl, _, ho, hb⟩
    have wlX2 : w.heap.size ≤ gX2 := Nat.le_trans BB.out.size (own_at ho)
    have ne_W0_X2 : gW0 < gX2 := Nat.lt_of_lt_of_le (W0.out.lt _ rfl).2 (own_at ho)
    have ne_X1_X2 : gX1 < gX2 := Nat.lt_of_lt_of_le (X1.out.lt _ rfl).2 (own_at ho)
    have ne_G0_X2 : gG0 < gX2 := Nat.lt_of_lt_of_le (G0.out.lt _ rfl).2 (own_at ho)
    have XN := Lib.hid (owns_base ho wlX2)
    clear ho
    have BB2 := Lib.hid (BB.out.trans (hb.mono BB.out.size))
    have W0n := Lib.hid (owns_below W0.out hb)
    have X1n := Lib.hid (owns_below X1.out hb)
    have G0n := Lib.hid (owns_below G0.out hb)
    clear hb BB W0 X1 G0
    have BB := BB2
    clear BB2
    have W0 := W0n
    clear W0n
    have X1 := X1n
    clear X1n
    have G0 := G0n
    clear G0n
    have X2 := XN
    clear XN
    go_wp2_with fail
    refine (eqDeviceS _ _ n0 n0 n0 zs _ _ HN0.out hb0 (Nat.le_refl _) (Rd.own X1.out) (Rd.own X2.out)).mono ?_
    rintro e u8 ⟨rfl, hb⟩
    have BB2 := Lib.hid (BB.out.trans (hb.mono BB.out.size))
    have W0n := Lib.hid (owns_below W0.out hb)
    have X1n := Lib.hid (owns_below X1.out hb)
    have G0n := Lib.hid (owns_below G0.out hb)
    have X2n := Lib.hid (owns_below X2.out hb)
    clear hb BB W0 X1 G0 X2
    have BB := BB2
    clear BB2
    have W0 := W0n
    clear W0n
    have X1 := X1n
    clear X1n
    have G0 := G0n
    clear G0n
    have X2 := X2n
    clear X2n
    clear X2
    go_wp2_with fail
    refine (MX.out _ _ _ _ X1.out).mono ?_
    rintro e u9 ⟨rfl, ho, hg⟩
    have BB2 := Lib.hid (BB.out.grown hg BB.out.size (fun k hk => by cases hk; exact wlX1))
    have W0n := Lib.hid (owns_grown W0.out hg (fun k hk => by cases hk; intro hk2; cases hk2; exact absurd ne_W0_X1 (Nat.lt_irrefl _)))
    have G0n := Lib.hid (owns_grown G0.out hg (fun k hk => by cases hk; intro hk2; cases hk2; exact absurd ne_X1_G0 (Nat.lt_irrefl _)))
    have X1n := Lib.hid ho
    clear ho hg BB W0 X1 G0
    have BB := BB2
    clear BB2
    have W0 := W0n
    clear W0n
    have X1 := X1n
    clear X1n
    have G0 := G0n
    clear G0n
    go_wp2_with fail
    refine (EQ.out _ _ _ _ _ (Rd.own G0.out) (Rd.own W0.out)).mono ?_
    rintro e u10 ⟨rfl, hb⟩
    have BB2 := Lib.hid (BB.out.trans (hb.mono BB.out.size))
    have W0n := Lib.hid (owns_below W0.out hb)
    have X1n := Lib.hid (owns_below X1.out hb)
    have G0n := Lib.hid (owns_below G0.out hb)
    clear hb BB W0 X1 G0
    have BB := BB2
    clear BB2
    have W0 := W0n
    clear W0n
    have X1 := X1n
    clear X1n
    have G0 := G0n
    clear G0n
    go_wp2_with fail
    refine (MG.out _ _ _ _ G0.out).mono ?_
    rintro e u11 ⟨rfl, ho, hg⟩
    have BB2 := Lib.hid (BB.out.grown hg BB.out.size (fun k hk => by cases hk; exact wlG0))
    have W0n := Lib.hid (owns_grown W0.out hg (fun k hk => by cases hk; intro hk2; cases hk2; exact absurd ne_W0_G0 (Nat.lt_irrefl _)))
    have X1n := Lib.hid (owns_grown X1.out hg (fun k hk => by cases hk; intro hk2; cases hk2; exact absurd ne_X1_G0 (Nat.lt_irrefl _)))
    have G0n := Lib.hid ho
    clear ho hg BB W0 X1 G0
    have BB := BB2
    clear BB2
    have W0 := W0n
    clear W0n
    have X1 := X1n
    clear X1n
    have G0 := G0n
    clear G0n
    clear X1
    go_wp2_with fail
    refine (HG.out _ _ _ (Rd.own G0.out)).mono ?_
    rintro e u12 ⟨rfl, hb⟩
    have BB2 := Lib.hid (BB.out.trans (hb.mono BB.out.size))
    have W0n := Lib.hid (owns_below W0.out hb)
    have G0n := Lib.hid (owns_below G0.out hb)
    clear hb BB W0 G0
    have BB := BB2
    clear BB2
    have W0 := W0n
    clear W0n
    have G0 := G0n
    clear G0n
    go_wp2_with fail
    refine (toDeviceS A0 n0 c0 zs _ HN0.out hb0 ((HR0.out.below BB.out).more BB.out.size)).mono ?_
    rintro e u13 ⟨gX3, rfl, _, ho, hb⟩
    have wlX3 : w.heap.size ≤ gX3 := Nat.le_trans BB.out.size (own_at ho)
    have ne_W0_X3 : gW0 < gX3 := Nat.lt_of_lt_of_le (W0.out.lt _ rfl).2 (own_at ho)
    have ne_G0_X3 : gG0 < gX3 := Nat.lt_of_lt_of_le (G0.out.lt _ rfl).2 (own_at ho)
    have XN := Lib.hid (owns_base ho wlX3)
    clear ho
    have BB2 := Lib.hid (BB.out.trans (hb.mono BB.out.size))
    have W0n := Lib.hid (owns_below W0.out hb)
    have G0n := Lib.hid (owns_below G0.out hb)
    clear hb BB W0 G0
    have BB := BB2
    clear BB2
    have W0 := W0n
    clear W0n
    have G0 := G0n
    clear G0n
    have X3 := XN
    clear XN
    go_wp2_with fail
    refine (CI.out _ _ (Rd.own X3.out)).mono ?_
    rintro e u14 ⟨gH0, cH0, rfl, ho, hb⟩
    have wlH0 : w.heap.size ≤ gH0 := Nat.le_trans BB.out.size (own_at ho)
    have ne_W0_H0 : gW0 < gH0 := Nat.lt_of_lt_of_le (W0.out.lt _ rfl).2 (own_at ho)
    have ne_G0_H0 : gG0 < gH0 := Nat.lt_of_lt_of_le (G0.out.lt _ rfl).2 (own_at ho)
    have ne_X3_H0 : gX3 < gH0 := Nat.lt_of_lt_of_le (X3.out.lt _ rfl).2 (own_at ho)
    have XN := Lib.hid (owns_base ho wlH0)
    clear ho
    have BB2 := Lib.hid (BB.out.trans (hb.mono BB.out.size))
    have W0n := Lib.hid (owns_below W0.out hb)
    have G0n := Lib.hid (owns_below G0.out hb)
    have X3n := Lib.hid (owns_below X3.out hb)
    clear hb BB W0 G0 X3
    have BB := BB2
    clear BB2
    have W0 := W0n
    clear W0n
    have G0 := G0n
    clear G0n
    have X3 := X3n
    clear X3n
    have H0 := XN
    clear XN
    clear X3
    go_wp2_with fail
    refine (EQ.out _ _ _ _ _ (Rd.own H0.out) (Rd.own W0.out)).mono ?_
    rintro e u15 ⟨rfl, hb⟩
    have BB2 := Lib.hid (BB.out.trans (hb.mono BB.out.size))
    have W0n := Lib.hid (owns_below W0.out hb)
    have G0n := Lib.hid (owns_below G0.out hb)
    have H0n := Lib.hid (owns_below H0.out hb)
    clear hb BB W0 G0 H0
    have BB := BB2
    clear BB2
    have W0 := W0n
    clear W0n
    have G0 := G0n
    clear G0n
    have H0 := H0n
    clear H0n
    go_wp2_with fail
    refine (HG.out _ _ _ (Rd.own G0.out)).mono ?_
    rintro e u16 ⟨rfl, hb⟩
    have BB2 := Lib.hid (BB.out.trans (hb.mono BB.out.size))
    have W0n := Lib.hid (owns_below W0.out hb)
    have G0n := Lib.hid (owns_below G0.out hb)
    have H0n := Lib.hid (owns_below H0.out hb)
    clear hb BB W0 G0 H0
    have BB := BB2
    clear BB2
    have W0 := W0n
    clear W0n
    have G0 := G0n
    clear G0n
    have H0 := H0n
    clear H0n
    go_wp2_with fail
    go_ret
    exact ⟨rfl, BB.out⟩

set_option maxRecDepth 100000 in
theorem lifted (os : Os) (started : os.Started) (H : Type) (enc : TypeId × Value → H) :
    ReturnsInHanded {} Try.checked os 7 .any (Rows.fnExactRemoveDeviceSpec.pre6 enc Try.prog Try.f7 Rows.fnExactRemoveDeviceRow.domain false) (Rows.fnExactRemoveDeviceSpec.post enc Try.prog Try.f7 false true false false) := by
  refine returnsInHanded_of_change (C := Try.checked) own started (by kernel_rfl) Try.func7
    (ChangeSpec.witness6 (enc := enc) (C := Try.checked) false ⟨#[], #[.slice none 0 0, .string ByteArray.empty], []⟩ 8 (by kernel_rfl) (by kernel_rfl) (by kernel_rfl) (by kernel_rfl)) ?_
  intro W base args ds gs before hval0 hW hcnd hsz
  have hval : ∀ (j : Nat) t v, Try.f7.params[j]? = some t → args[j]? = some v → Value.okWide Try.prog W .any base t v := hval0
  have hW' := hW
  obtain ⟨p, q, hA0, hV, rfl, hfz, hnd⟩ := hW
  have hA1 := hA0
  have hA : DataW.TrodAll enc Try.prog W 0 (fun _ => true) true Try.f7.params.toList args.toList ds p := hA0
  rw [Try.params7] at hA hval
  obtain ⟨v0, vs0, d0, ds0, p0, q0, hargs, rfl, rfl, h0, r0⟩ := trodAll_cons hA
  obtain ⟨v1, vs1, d1, ds1, p1, q1, rfl, rfl, rfl, h1, r1⟩ := trodAll_cons r0
  obtain ⟨rfl, rfl, rfl⟩ := trodAll_nil r1
  obtain rfl : args = #[v0, v1] := by cases args; simp_all
  obtain ⟨rfl, rfl⟩ := trodVars_none hV
  obtain ⟨A0, n0, c0, a0, rfl, l0, m0, g0, w0⟩ := Dd.take_devices Try.underlying33 (by kernel_rfl) Dd.read_this (hval 0 33 v0 rfl rfl) h0
  obtain ⟨a1, rfl, rfl, rfl, w1⟩ := open_string Try.underlying9 (hval 1 9 v1 rfl rfl) h1
  clear hA0 hval0
  rw [List.append_nil] at hW'
  refine (walk A0 n0 c0 a0 l0 m0 a1 w1 W g0 w0).mono fun e W' ⟨he, hb⟩ => ?_
  subst he
  exact ⟨_, rfl, post_law rfl hW' hA1 laidOut (by rw [Try.params7]; exact of_decide_eq_true (by kernel_rfl)) 4 (by kernel_rfl) Try.underlying4 rfl hb⟩

theorem over : Rows.fnExactRemoveDeviceRow.holds Try.pinned (OpenSpec.ofChange Rows.fnExactRemoveDeviceSpec) :=
  OpenClaim.holds_of_wide 7 Try.f7 rfl rfl rfl rfl rfl rfl rfl ⟨rfl, rfl, rfl, rfl, rfl⟩ rfl rfl rfl rfl rfl (by kernel_rfl) Try.func7 (by kernel_rfl)
    (of_decide_eq_true (by kernel_rfl)) (by unfold Func.isWrapper; first | (rw [if_pos (by decide +kernel)]; kernel_rfl) | (rw [if_neg (by decide +kernel)]; exact ⟨rfl, rfl⟩))
    (fun os started H enc _ => lifted os started H enc)

/-- The statement. -/
theorem proved : Rows.FnExactRemoveDeviceSaid :=
  over
#print axioms proved
end Go.Proofs.Ytobdidfoamfnoaa.fnExactRemoveDevice
