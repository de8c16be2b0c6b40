/- The law FnExactDropsAt holds at every input. The step from the walk to the row follows the guide's own template. -/
import Derived.Test.YtejeikfgmiadhaaGreatM1
import Derived.Test.YtejeikfgmiadhaaGreatM5
import Derived.Test.YtejeikfgmiadhaaGreatMk9
import Derived.Test.YtejeikfgmiadhaaGreatDp9
import Derived.Test.YtejeikfgmiadhaaGreatLw9
import Derived.Test.YtejeikfgmiadhaaGreatPk9
import Derived.Test.YtejeikfgmiadhaaGreatM6
import Derived.Deep.RegionHeld3
namespace Go.Proofs.YtejeikfgmiadhaaGreat.fnExactDropsAt
open Go.ChangeShapes Go.WideShapes Go.ChangeAt Go.RowKit Go.WideMaps Go.WideElems Go.Proofs.YtejeikfgmiadhaaGreat.Mem
open Go.ChangeMaps (open_string shut_string)
set_option linter.unusedVariables false
set_option linter.unusedSimpArgs false

theorem own : ownKnob Tryz.prog.godebug = none := by kernel_rfl
theorem laidOut : laidOutB Tryz.prog = true := by kernel_rfl

open Go.Proofs.YtejeikfgmiadhaaGreat.P2 Go.Proofs.YtejeikfgmiadhaaGreat.Bk Go.Proofs.YtejeikfgmiadhaaGreat.Sp Go.Proofs.YtejeikfgmiadhaaGreat.Sq Go.Proofs.YtejeikfgmiadhaaGreat.St9 Go.Proofs.YtejeikfgmiadhaaGreat.Pl9
open Go.Proofs.YtejeikfgmiadhaaGreat.Rw (owns_below owns_grown owns_base)

set_option maxRecDepth 100000 in
set_option maxHeartbeats 8000000 in
theorem walk (A0 : Option Addr) (n0 c0 : Nat) (A1 : Option Addr) (n1 c1 : Nat) (A2 : Option Addr) (n2 c2 : Nat) (T : Int) (ds : List D) (cs : List C) (gs : List G) (hn0 : ds.length = n0) (hm0 : n0 ≤ maxLen) (hn1 : cs.length = n1) (hm1 : n1 ≤ maxLen) (hn2 : gs.length = n2) (hm2 : n2 ≤ maxLen) (wT : (Lit.int .i64 T).wf = true) (i1 : Int) (wi1 : (Lit.int .i64 i1).wf = true) (w : World) (hr0 : Rd w w.heap.size A0 (Dd.dls ds)) (h0 : ∀ z ∈ ds, Dd.Dok z) (hr1 : Rd w w.heap.size A1 (Cd.dls cs)) (h1 : ∀ z ∈ cs, Cd.Dok z) (hr2 : Rd w w.heap.size A2 (Gs.gls gs)) :
    Calls Tryz.prog 4 #[sv A0 n0 c0 A1 n1 c1 A2 n2 c2 T, .int .i64 i1] w fun e w' => e = .returned (.bool true) ∧ Below w.heap.size w w' := by
  have hz0 : (w.alloc (.cells (sc A0 n0 c0 A1 n1 c1 A2 n2 c2 T) 26)).heap.size = w.heap.size + 1 := by simp [go_sem]
  have B0 := (Below.refl w.heap.size w).alloc (Nat.le_refl _) (.cells (sc A0 n0 c0 A1 n1 c1 A2 n2 c2 T) 26)
  have K0 := Lib.hid (Bk.new w (sc A0 n0 c0 A1 n1 c1 A2 n2 c2 T) 26)
  have SZ := Lib.hid (szShow A0 n0 c0 A1 n1 c1 A2 n2 c2 T ds cs gs (w.alloc (.cells (sc A0 n0 c0 A1 n1 c1 A2 n2 c2 T) 26)) hn0 hm0 hn1 hm1 hm2 (SR.below (show SR w A0 A1 A2 ds cs gs from ⟨hr0, hr1, hr2⟩) B0) h0 h1)
  obtain ⟨R, hR⟩ : ∃ R, szA n0 ds n1 cs n2 = R := ⟨_, rfl⟩
  by_cases hz : R < 0
  · rw [hR] at SZ
    have BB := Lib.hid B0
    clear hn0 hm0 hn1 hm1 hn2 hm2 hr0 hr1 hr2 h0 h1 hR B0
    go_enter Tryz.func4, Tryz.ntmps4
    go_wp2_with fail
    refine SZ.out.mono ?_
    rintro e w1 ⟨rfl, hb⟩
    have B2 := BB.out.trans (hb.mono BB.out.size)
    clear hb SZ BB
    go_wp2_with fail
    go_returns
    exact ⟨rfl, B2⟩
  have hfit := sz_fit (n0 := n0) (ds := ds) (n1 := n1) (cs := cs) (n2 := n2) (by rw [hR]; exact hz)
  rw [hR] at SZ
  clear hR
  have hsz : ∀ z ∈ ds, z.nm.size ≤ 1048576 ∧ z.ln.size ≤ 1048576 := fun z hm => by
    obtain ⟨k, hk, rfl⟩ := List.getElem_of_mem hm
    have h1 := Dl.bulk_take (List.getElem?_eq_getElem hk)
    have h2 := Dl.bulk_le ds (k + 1)
    omega
  have hsc : ∀ z ∈ cs, z.nm.size ≤ 1048576 := fun z hm => by
    obtain ⟨k, hk, rfl⟩ := List.getElem_of_mem hm
    have h1 := Cl.bulk_take (List.getElem?_eq_getElem hk)
    have h2 := Cl.bulk_le cs (k + 1)
    omega
  have HF := Lib.hid (show Fit n0 n1 n2 ds cs gs from ⟨⟨hn0, by omega⟩, ⟨hn1, by omega⟩, hn2, by omega⟩)
  have HS := Lib.hid (show SR w A0 A1 A2 ds cs gs from ⟨hr0, hr1, hr2⟩)
  obtain ⟨zr, hzr⟩ : ∃ z, Lw9.dpV ds cs gs T i1 = z := ⟨_, rfl⟩
  obtain ⟨m, hm⟩ : ∃ m, zr.length = m := ⟨_, rfl⟩
  have hbm : m ≤ 1048576 := by (have := Lw9.dp_len ds cs gs T i1; rw [hzr, hm] at this; omega)
  have CS := Lib.hid (show ∀ (g0 g1 g2 : Nat) (W : World) (h : SR W (some ⟨g0, 0, none⟩) (some ⟨g1, 0, none⟩) (some ⟨g2, 0, none⟩) ds cs gs), Calls Tryz.prog 17 #[sv (some ⟨g0, 0, none⟩) n0 n0 (some ⟨g1, 0, none⟩) n1 n1 (some ⟨g2, 0, none⟩) n2 n2 T, .int .i64 i1] W (fun e w' => ∃ g c, e = .returned (.slice (some ⟨g, 0, none⟩) m c) ∧ w'.ownsRow W.heap.size 69 5 (.slice (some ⟨g, 0, none⟩) m c) m (Pl9.pls zr) ∧ Below W.heap.size W w') from fun g0 g1 g2 W h => by have := Lw9.dropsS _ n0 n0 _ n1 n1 _ n2 n2 T ds cs gs i1 W HF.out h hsz hsc; rw [hzr] at this; unfold RowP at this; rw [hm] at this; exact this)
  have CI := Lib.hid (show ∀ (g0 g1 g2 : Nat) (W : World) (h : SR W (some ⟨g0, 0, none⟩) (some ⟨g1, 0, none⟩) (some ⟨g2, 0, none⟩) ds cs gs), Calls Tryz.prog 18 #[sv (some ⟨g0, 0, none⟩) n0 n0 (some ⟨g1, 0, none⟩) n1 n1 (some ⟨g2, 0, none⟩) n2 n2 T, .int .i64 i1] W (fun e w' => ∃ g c, e = .returned (.slice (some ⟨g, 0, none⟩) m c) ∧ w'.ownsRow W.heap.size 69 5 (.slice (some ⟨g, 0, none⟩) m c) m (Pl9.pls zr) ∧ Below W.heap.size W w') from fun g0 g1 g2 W h => by have := Dp9.dropsI _ n0 n0 _ n1 n1 _ n2 n2 T ds cs gs i1 W HF.out h; rw [hzr] at this; unfold RowP at this; rw [hm] at this; exact this)
  have TO := Lib.hid (fun (W : World) (h : SR W A0 A1 A2 ds cs gs) => toShow A0 n0 c0 A1 n1 c1 A2 n2 c2 T ds cs gs W HF.out h)
  have EQW := Lib.hid (fun (g0 g1 g2 k0 k1 k2 : Nat) (W : World) (h : SR W (some ⟨g0, 0, none⟩) (some ⟨g1, 0, none⟩) (some ⟨g2, 0, none⟩) ds cs gs) (k : SR W (some ⟨k0, 0, none⟩) (some ⟨k1, 0, none⟩) (some ⟨k2, 0, none⟩) ds cs gs) => eqShow (some ⟨g0, 0, none⟩) n0 n0 (some ⟨g1, 0, none⟩) n1 n1 (some ⟨g2, 0, none⟩) n2 n2 T (some ⟨k0, 0, none⟩) n0 (some ⟨k1, 0, none⟩) n1 (some ⟨k2, 0, none⟩) n2 ds cs gs W HF.out h k)
  obtain ⟨K9, hK9⟩ : ∃ K : Nat, 1 + n0 * 8 + n1 * 4 + n2 * 3 = K := ⟨_, rfl⟩
  have pK9 : ¬ (K9 : Int) < 0 := by omega
  have MS := Lib.hid (fun (g0 g1 g2 : Nat) (h01 : g0 < g1) (h12 : g1 < g2) (W : World) o0 o1 o2 => (by have := Mk9.markShow w.heap.size n0 n1 n2 g0 g1 g2 n0 n1 n2 T ds cs gs W HF.out (by omega) h01 h12 o0 o1 o2; rw [hK9] at this; exact this : Calls Tryz.prog 14 #[sv (some ⟨g0, 0, none⟩) n0 n0 (some ⟨g1, 0, none⟩) n1 n1 (some ⟨g2, 0, none⟩) n2 n2 T, .int .i64 1] W _))
  obtain ⟨KR, hKR⟩ : ∃ K : Int, 1 + ((m * 5 : Nat) : Int) = K := ⟨_, rfl⟩
  have pKR : ¬ KR < 0 := by omega
  have MG := Lib.hid (show ∀ (B g c : Nat) (W : World), W.ownsRow B 69 5 (.slice (some ⟨g, 0, none⟩) m c) m (Pl9.pls zr) → Calls Tryz.prog 15 #[.slice (some ⟨g, 0, none⟩) m c, .int .i64 1] W (fun e w' => e = .returned (.int .i64 KR) ∧ w'.ownsRow B 69 5 (.slice (some ⟨g, 0, none⟩) m c) m (Pl9.pls (Pk9.mkd 1 m)) ∧ W.grownBy w' (some g)) from fun B g c W h => by have := Pk9.markDropS B g m c 1 zr W hm hbm (by omega) (by omega) h; unfold Pk9.Laid at this; rw [show (((1 : Nat) : Int) + ((m * 5 : Nat) : Int)) = KR by omega, show ((1 : Nat) : Int) = 1 by omega] at this; exact this)
  have HG := Lib.hid (show ∀ (A : Option Addr) (c : Nat) (W : World), Rd W W.heap.size A (Pl9.pls (Pk9.mkd 1 m)) → Calls Tryz.prog 16 #[.slice A m c, .int .i64 1] W (fun e w' => e = .returned (.int .i64 KR) ∧ Below W.heap.size W w') from fun A c W h => by have := Pk9.heldDropS A m c 1 W hbm (by omega) (by omega) h; rw [show (((1 : Nat) : Int) + ((m * 5 : Nat) : Int)) = KR by omega, show ((1 : Nat) : Int) = 1 by omega] at this; exact this)
  have EQ := Lib.hid (show ∀ (A B : Option Addr) (c d : Nat) (W : World), Rd W W.heap.size A (Pl9.pls zr) → Rd W W.heap.size B (Pl9.pls zr) → Calls Tryz.prog 12 #[.slice A m c, .slice B m d] W (fun e w' => e = .returned (.bool true) ∧ Below W.heap.size W w') from fun A B c d W h k => Pl9.eqDropS A B m c d zr _ W hm hbm (Nat.le_refl _) h k)
  have BB := Lib.hid B0
  have hu : undef = Value.tuple #[] := rfl
  clear hn0 hm0 hn1 hm1 hn2 hm2 hr0 hr1 hr2 h0 h1 B0 hfit hsz hsc hzr hm hKR hK9 wT wi1
  go_enter Tryz.func4, Tryz.ntmps4
  have b0 := K0.out.cell (i := 0) rfl
  have b1 := K0.out.cell (i := 1) rfl
  have b2 := K0.out.cell (i := 2) rfl
  have b3 := K0.out.cell (i := 3) rfl
  go_wp2_with fail
  clear b0 b1 b2 b3
  refine (SZ.out).mono ?_
  rintro e u1 ⟨rfl, hb⟩
  have K1 := Lib.hid (K0.out.below hb)
  have B2 := Lib.hid (BB.out.trans (hb.mono BB.out.size))
  clear hb K0 BB
  have K0 := K1
  clear K1
  have BB := B2
  clear B2
  have b0 := K0.out.cell (i := 0) rfl
  have b1 := K0.out.cell (i := 1) rfl
  have b2 := K0.out.cell (i := 2) rfl
  have b3 := K0.out.cell (i := 3) rfl
  clear SZ
  go_wp2_with fail
  clear b0 b1 b2 b3
  refine (TO.out _ (HS.out.below BB.out)).mono ?_
  rintro e u2 ⟨p0, p1, p2, rfl, o0, o1, o2, _, _, hb⟩
  have RS := Lib.hid (SR.own o0 o1 o2)
  clear o0 o1 o2
  have K1 := Lib.hid (K0.out.below hb)
  have B2 := Lib.hid (BB.out.trans (hb.mono BB.out.size))
  clear hb K0 BB
  have K0 := K1
  clear K1
  have BB := B2
  clear B2
  have b0 := K0.out.cell (i := 0) rfl
  have b1 := K0.out.cell (i := 1) rfl
  have b2 := K0.out.cell (i := 2) rfl
  have b3 := K0.out.cell (i := 3) rfl
  go_wp2_with fail
  clear b0 b1 b2 b3
  refine (CS.out _ _ _ _ RS.out).mono ?_
  rintro e u3 ⟨gW0, cW0, rfl, ho, hb⟩
  have lwW0 : w.heap.size < gW0 := Nat.lt_of_lt_of_le K0.out.lt (own_at ho)
  have XN_W0 := Lib.hid (owns_base ho (Nat.le_of_lt lwW0))
  clear ho
  have K1 := Lib.hid (K0.out.below hb)
  have B2 := Lib.hid (BB.out.trans (hb.mono BB.out.size))
  clear hb K0 BB
  have K0 := K1
  clear K1
  have BB := B2
  clear B2
  have W0 := XN_W0
  clear XN_W0
  have b0 := K0.out.cell (i := 0) rfl
  have b1 := K0.out.cell (i := 1) rfl
  have b2 := K0.out.cell (i := 2) rfl
  have b3 := K0.out.cell (i := 3) rfl
  clear RS
  go_wp2_with fail
  clear b0 b1 b2 b3
  refine (TO.out _ (HS.out.below BB.out)).mono ?_
  rintro e u4 ⟨gx0, gx1, gx2, rfl, o0, o1, o2, l01, l12, hb⟩
  have lwx0 : w.heap.size < gx0 := Nat.lt_of_lt_of_le K0.out.lt (own_at o0)
  have ne_W0_x0 : gW0 < gx0 := Nat.lt_of_lt_of_le (own_lt W0.out) (own_at o0)
  have XN_x0 := Lib.hid (owns_base o0 (Nat.le_of_lt lwx0))
  have lwx1 : w.heap.size < gx1 := Nat.lt_of_lt_of_le K0.out.lt (own_at o1)
  have ne_W0_x1 : gW0 < gx1 := Nat.lt_of_lt_of_le (own_lt W0.out) (own_at o1)
  have XN_x1 := Lib.hid (owns_base o1 (Nat.le_of_lt lwx1))
  have lwx2 : w.heap.size < gx2 := Nat.lt_of_lt_of_le K0.out.lt (own_at o2)
  have ne_W0_x2 : gW0 < gx2 := Nat.lt_of_lt_of_le (own_lt W0.out) (own_at o2)
  have XN_x2 := Lib.hid (owns_base o2 (Nat.le_of_lt lwx2))
  have ne_x0_x1 := l01
  have ne_x1_x2 := l12
  have ne_x0_x2 := Nat.lt_trans l01 l12
  clear o0 o1 o2
  have K1 := Lib.hid (K0.out.below hb)
  have B2 := Lib.hid (BB.out.trans (hb.mono BB.out.size))
  have W0n := Lib.hid (owns_below W0.out hb)
  clear hb K0 BB
  clear W0
  have K0 := K1
  clear K1
  have BB := B2
  clear B2
  have W0 := W0n
  clear W0n
  have x0 := XN_x0
  clear XN_x0
  have x1 := XN_x1
  clear XN_x1
  have x2 := XN_x2
  clear XN_x2
  have b0 := K0.out.cell (i := 0) rfl
  have b1 := K0.out.cell (i := 1) rfl
  have b2 := K0.out.cell (i := 2) rfl
  have b3 := K0.out.cell (i := 3) rfl
  have hb := (Below.refl u4.heap.size u4).alloc (Nat.le_refl _) (.cells (#[.slice (some ⟨gx0, 0, none⟩) n0 n0, .slice (some ⟨gx1, 0, none⟩) n1 n1, .slice (some ⟨gx2, 0, none⟩) n2 n2, .int .i64 T]) 34)
  have KXn := Lib.hid (Bk.new u4 (#[.slice (some ⟨gx0, 0, none⟩) n0 n0, .slice (some ⟨gx1, 0, none⟩) n1 n1, .slice (some ⟨gx2, 0, none⟩) n2 n2, .int .i64 T]) 34)
  have hlt : w.heap.size < u4.heap.size := K0.out.lt
  have nk_x0 : gx0 < u4.heap.size := own_lt x0.out
  have nk_x1 : gx1 < u4.heap.size := own_lt x1.out
  have nk_x2 : gx2 < u4.heap.size := own_lt x2.out
  clear b0 b1 b2 b3
  have K1 := Lib.hid (K0.out.below hb)
  have B2 := Lib.hid (BB.out.trans (hb.mono BB.out.size))
  have W0n := Lib.hid (owns_below W0.out hb)
  have x0n := Lib.hid (owns_below x0.out hb)
  have x1n := Lib.hid (owns_below x1.out hb)
  have x2n := Lib.hid (owns_below x2.out hb)
  clear hb K0 BB
  clear W0 x0 x1 x2
  have K0 := K1
  clear K1
  have BB := B2
  clear B2
  have W0 := W0n
  clear W0n
  have x0 := x0n
  clear x0n
  have x1 := x1n
  clear x1n
  have x2 := x2n
  clear x2n
  have KX := KXn
  clear KXn
  go_wp2_with fail
  refine (CI.out _ _ _ _ (SR.own x0.out x1.out x2.out)).mono ?_
  rintro e u5 ⟨gG0, cG0, rfl, ho, hb⟩
  have lwG0 : w.heap.size < gG0 := Nat.lt_of_lt_of_le K0.out.lt (own_at ho)
  have ne_W0_G0 : gW0 < gG0 := Nat.lt_of_lt_of_le (own_lt W0.out) (own_at ho)
  have ne_x0_G0 : gx0 < gG0 := Nat.lt_of_lt_of_le (own_lt x0.out) (own_at ho)
  have ne_x1_G0 : gx1 < gG0 := Nat.lt_of_lt_of_le (own_lt x1.out) (own_at ho)
  have ne_x2_G0 : gx2 < gG0 := Nat.lt_of_lt_of_le (own_lt x2.out) (own_at ho)
  have nk_G0 : u4.heap.size < gG0 := Nat.lt_of_lt_of_le KX.out.lt (own_at ho)
  have XN_G0 := Lib.hid (owns_base ho (Nat.le_of_lt lwG0))
  clear ho
  have K1 := Lib.hid (K0.out.below hb)
  have KX1 := Lib.hid (KX.out.below hb)
  have B2 := Lib.hid (BB.out.trans (hb.mono BB.out.size))
  have W0n := Lib.hid (owns_below W0.out hb)
  have x0n := Lib.hid (owns_below x0.out hb)
  have x1n := Lib.hid (owns_below x1.out hb)
  have x2n := Lib.hid (owns_below x2.out hb)
  clear hb K0 BB KX
  clear W0 x0 x1 x2
  have K0 := K1
  clear K1
  have BB := B2
  clear B2
  have KX := KX1
  clear KX1
  have W0 := W0n
  clear W0n
  have x0 := x0n
  clear x0n
  have x1 := x1n
  clear x1n
  have x2 := x2n
  clear x2n
  have G0 := XN_G0
  clear XN_G0
  have b0 := K0.out.cell (i := 0) rfl
  have b1 := K0.out.cell (i := 1) rfl
  have b2 := K0.out.cell (i := 2) rfl
  have b3 := K0.out.cell (i := 3) rfl
  have k0 := KX.out.cell (i := 0) rfl
  have k1 := KX.out.cell (i := 1) rfl
  have k2 := KX.out.cell (i := 2) rfl
  have k3 := KX.out.cell (i := 3) rfl
  go_wp2_with fail
  clear b0 b1 b2 b3
  clear k0 k1 k2 k3
  refine (EQ.out _ _ _ _ _ (Rd.own G0.out) (Rd.own W0.out)).mono ?_
  rintro e u6 ⟨rfl, hb⟩
  have K1 := Lib.hid (K0.out.below hb)
  have KX1 := Lib.hid (KX.out.below hb)
  have B2 := Lib.hid (BB.out.trans (hb.mono BB.out.size))
  have W0n := Lib.hid (owns_below W0.out hb)
  have x0n := Lib.hid (owns_below x0.out hb)
  have x1n := Lib.hid (owns_below x1.out hb)
  have x2n := Lib.hid (owns_below x2.out hb)
  have G0n := Lib.hid (owns_below G0.out hb)
  clear hb K0 BB KX
  clear W0 x0 x1 x2 G0
  have K0 := K1
  clear K1
  have BB := B2
  clear B2
  have KX := KX1
  clear KX1
  have W0 := W0n
  clear W0n
  have x0 := x0n
  clear x0n
  have x1 := x1n
  clear x1n
  have x2 := x2n
  clear x2n
  have G0 := G0n
  clear G0n
  have b0 := K0.out.cell (i := 0) rfl
  have b1 := K0.out.cell (i := 1) rfl
  have b2 := K0.out.cell (i := 2) rfl
  have b3 := K0.out.cell (i := 3) rfl
  have k0 := KX.out.cell (i := 0) rfl
  have k1 := KX.out.cell (i := 1) rfl
  have k2 := KX.out.cell (i := 2) rfl
  have k3 := KX.out.cell (i := 3) rfl
  go_wp2_with fail
  refine wp_region_noPanic ?_
  refine wp_region_held_drew (S := (fun w' => w'.cell? ⟨w.heap.size, 0, none⟩ = some (.slice A0 n0 c0) ∧ w'.cell? ⟨w.heap.size, 1, none⟩ = some (.slice A1 n1 c1) ∧ w'.cell? ⟨w.heap.size, 2, none⟩ = some (.slice A2 n2 c2) ∧ w'.cell? ⟨w.heap.size, 3, none⟩ = some (.int .i64 T) ∧ w'.cell? ⟨u4.heap.size, 0, none⟩ = some (.slice (some ⟨gx0, 0, none⟩) n0 n0) ∧ w'.cell? ⟨u4.heap.size, 1, none⟩ = some (.slice (some ⟨gx1, 0, none⟩) n1 n1) ∧ w'.cell? ⟨u4.heap.size, 2, none⟩ = some (.slice (some ⟨gx2, 0, none⟩) n2 n2) ∧ w'.cell? ⟨u4.heap.size, 3, none⟩ = some (.int .i64 T) ∧ Below u6.heap.size u6 w')) (by kernel_rfl) ?_ (fun hH => ?_)
  · exact ⟨b0, b1, b2, b3, k0, k1, k2, k3, (Below.refl _ _).drew⟩
  refine wpAnyH_take (i := 0) (oi := { dst := some 31, op := _, type := _, pos := _, after := _, guard := _ }) (v := ?_) rfl (by kernel_rfl) (by kernel_rfl) (by kernel_rfl) (fun _ _ _ h => h) (Or.inl ⟨by rfl, ?_⟩) hH ?_
  rotate_left 1
  · intro W hSw
    (try dsimp only at hSw)
    go_simp
    (try with_reducible rfl)
  try simp only [Act.put, List.setIfInBounds_toArray, List.set_cons_zero, List.set_cons_succ]
  refine wpAnyH_take (i := 1) (oi := { dst := some 32, op := _, type := _, pos := _, after := _, guard := _ }) (v := ?_) rfl (by kernel_rfl) (by kernel_rfl) (by kernel_rfl) (fun _ _ _ h => h) (Or.inl ⟨by rfl, ?_⟩) hH ?_
  rotate_left 1
  · intro W hSw
    (try dsimp only at hSw)
    go_simp
    (try with_reducible rfl)
  try simp only [Act.put, List.setIfInBounds_toArray, List.set_cons_zero, List.set_cons_succ]
  refine wpAnyH_ready (rs := [2]) (by kernel_rfl) (by simp) (AllReadyH.cons rfl (fun K hK => ?_) AllReadyH.nil)
  go_simp
  go_at_call 10; ((with_reducible refine (TO.out _ (HS.out.below (BB.out.trans (hH.2.2.2.2.2.2.2.2.mono BB.out.size)))).mono ?_); rintro e r1 ⟨y0, y1, y2, rfl, oa, ob, oc, _, _, hb1⟩); go_wp2_with fail
  refine hK.out _ _ ?_ (fun hG => ?_)
  · exact ⟨cell_below hb1 hH.1, cell_below hb1 hH.2.1, cell_below hb1 hH.2.2.1, cell_below hb1 hH.2.2.2.1, cell_below hb1 hH.2.2.2.2.1, cell_below hb1 hH.2.2.2.2.2.1, cell_below hb1 hH.2.2.2.2.2.2.1, cell_below hb1 hH.2.2.2.2.2.2.2.1, hH.2.2.2.2.2.2.2.2.trans (hb1.mono hH.2.2.2.2.2.2.2.2.size)⟩
  replace hH := hG
  clear hK K hG
  try simp only [Act.put, List.setIfInBounds_toArray, List.set_cons_zero, List.set_cons_succ]
  refine wpAnyH_ready (rs := [3]) (by kernel_rfl) (by simp) (AllReadyH.cons rfl (fun K hK => ?_) AllReadyH.nil)
  go_simp
  go_at_call 13; ((with_reducible refine (EQW.out _ _ _ _ _ _ _ ((SR.own x0.out x1.out x2.out).below hH.2.2.2.2.2.2.2.2) (SR.own oa ob oc)).mono ?_); rintro e r2 ⟨rfl, hb2⟩); go_wp2_with fail
  refine hK.out _ _ ?_ (fun hG => ?_)
  · exact ⟨cell_below hb2 hH.1, cell_below hb2 hH.2.1, cell_below hb2 hH.2.2.1, cell_below hb2 hH.2.2.2.1, cell_below hb2 hH.2.2.2.2.1, cell_below hb2 hH.2.2.2.2.2.1, cell_below hb2 hH.2.2.2.2.2.2.1, cell_below hb2 hH.2.2.2.2.2.2.2.1, hH.2.2.2.2.2.2.2.2.trans (hb2.mono hH.2.2.2.2.2.2.2.2.size)⟩
  replace hH := hG
  clear hK K hG
  try simp only [Act.put, List.setIfInBounds_toArray, List.set_cons_zero, List.set_cons_succ]
  refine wpAnyH_take (i := 4) (oi := { dst := some 35, op := _, type := _, pos := _, after := _, guard := _ }) (v := ?_) rfl (by kernel_rfl) (by kernel_rfl) (by kernel_rfl) (fun _ _ _ h => h) (Or.inl ⟨by rfl, ?_⟩) hH ?_
  rotate_left 1
  · intro W hSw
    (try dsimp only at hSw)
    go_simp
    (try with_reducible rfl)
  try simp only [Act.put, List.setIfInBounds_toArray, List.set_cons_zero, List.set_cons_succ]
  refine wpAnyH_done (by kernel_rfl) ?_ _
  refine NoPanic.normal ?_
  have hb := hH.2.2.2.2.2.2.2.2
  clear hH oa ob oc hb1 hb2
  clear b0 b1 b2 b3
  clear k0 k1 k2 k3
  have K1 := Lib.hid (K0.out.below hb)
  have KX1 := Lib.hid (KX.out.below hb)
  have B2 := Lib.hid (BB.out.trans (hb.mono BB.out.size))
  have W0n := Lib.hid (owns_below W0.out hb)
  have x0n := Lib.hid (owns_below x0.out hb)
  have x1n := Lib.hid (owns_below x1.out hb)
  have x2n := Lib.hid (owns_below x2.out hb)
  have G0n := Lib.hid (owns_below G0.out hb)
  clear hb K0 BB KX
  clear W0 x0 x1 x2 G0
  have K0 := K1
  clear K1
  have BB := B2
  clear B2
  have KX := KX1
  clear KX1
  have W0 := W0n
  clear W0n
  have x0 := x0n
  clear x0n
  have x1 := x1n
  clear x1n
  have x2 := x2n
  clear x2n
  have G0 := G0n
  clear G0n
  have b0 := K0.out.cell (i := 0) rfl
  have b1 := K0.out.cell (i := 1) rfl
  have b2 := K0.out.cell (i := 2) rfl
  have b3 := K0.out.cell (i := 3) rfl
  have k0 := KX.out.cell (i := 0) rfl
  have k1 := KX.out.cell (i := 1) rfl
  have k2 := KX.out.cell (i := 2) rfl
  have k3 := KX.out.cell (i := 3) rfl
  go_wp2_with fail
  clear b0 b1 b2 b3
  clear k0 k1 k2 k3
  refine (MS.out _ _ _ ne_x0_x1 ne_x1_x2 _ x0.out x1.out x2.out).mono ?_
  rintro e u7 ⟨rfl, _, _, _, hg⟩
  clear x0 x1 x2
  have K1 := Lib.hid (hg.bk K0.out (Nat.ne_of_gt lwx0) (Nat.ne_of_gt lwx1) (Nat.ne_of_gt lwx2))
  have KX1 := Lib.hid (hg.bk KX.out (Nat.ne_of_lt nk_x0) (Nat.ne_of_lt nk_x1) (Nat.ne_of_lt nk_x2))
  have B2 := Lib.hid (hg.below BB.out (Nat.le_of_lt lwx0) (Nat.le_of_lt lwx1) (Nat.le_of_lt lwx2))
  have W0n := Lib.hid (hg.own W0.out (Nat.ne_of_gt ne_W0_x0) (Nat.ne_of_gt ne_W0_x1) (Nat.ne_of_gt ne_W0_x2))
  have G0n := Lib.hid (hg.own G0.out (Nat.ne_of_lt ne_x0_G0) (Nat.ne_of_lt ne_x1_G0) (Nat.ne_of_lt ne_x2_G0))
  clear hg K0 BB KX
  clear W0 G0
  have K0 := K1
  clear K1
  have BB := B2
  clear B2
  have KX := KX1
  clear KX1
  have W0 := W0n
  clear W0n
  have G0 := G0n
  clear G0n
  have b0 := K0.out.cell (i := 0) rfl
  have b1 := K0.out.cell (i := 1) rfl
  have b2 := K0.out.cell (i := 2) rfl
  have b3 := K0.out.cell (i := 3) rfl
  have k0 := KX.out.cell (i := 0) rfl
  have k1 := KX.out.cell (i := 1) rfl
  have k2 := KX.out.cell (i := 2) rfl
  have k3 := KX.out.cell (i := 3) rfl
  go_wp2_with fail
  clear b0 b1 b2 b3
  clear k0 k1 k2 k3
  refine (EQ.out _ _ _ _ _ (Rd.own G0.out) (Rd.own W0.out)).mono ?_
  rintro e u8 ⟨rfl, hb⟩
  have K1 := Lib.hid (K0.out.below hb)
  have KX1 := Lib.hid (KX.out.below hb)
  have B2 := Lib.hid (BB.out.trans (hb.mono BB.out.size))
  have W0n := Lib.hid (owns_below W0.out hb)
  have G0n := Lib.hid (owns_below G0.out hb)
  clear hb K0 BB KX
  clear W0 G0
  have K0 := K1
  clear K1
  have BB := B2
  clear B2
  have KX := KX1
  clear KX1
  have W0 := W0n
  clear W0n
  have G0 := G0n
  clear G0n
  have b0 := K0.out.cell (i := 0) rfl
  have b1 := K0.out.cell (i := 1) rfl
  have b2 := K0.out.cell (i := 2) rfl
  have b3 := K0.out.cell (i := 3) rfl
  have k0 := KX.out.cell (i := 0) rfl
  have k1 := KX.out.cell (i := 1) rfl
  have k2 := KX.out.cell (i := 2) rfl
  have k3 := KX.out.cell (i := 3) rfl
  go_wp2_with fail
  clear b0 b1 b2 b3
  clear k0 k1 k2 k3
  refine (MG.out _ _ _ _ G0.out).mono ?_
  rintro e u9 ⟨rfl, ho, hg⟩
  have XN := Lib.hid ho
  have K1 := Lib.hid (K0.out.grown hg (fun e => by have e := Option.some.inj e; have := lwG0; have := nk_G0; omega))
  have KX1 := Lib.hid (KX.out.grown hg (fun e => by have e := Option.some.inj e; have := lwG0; have := nk_G0; omega))
  have B2 := Lib.hid (BB.out.grown hg BB.out.size (fun k e => by have e := Option.some.inj e; have := lwG0; omega))
  have W0n := Lib.hid (owns_grown W0.out hg (Mk9.ne_blk (Nat.ne_of_gt ne_W0_G0)))
  clear hg ho G0 K0 BB KX
  clear W0
  have K0 := K1
  clear K1
  have BB := B2
  clear B2
  have KX := KX1
  clear KX1
  have W0 := W0n
  clear W0n
  have G0 := XN
  clear XN
  have b0 := K0.out.cell (i := 0) rfl
  have b1 := K0.out.cell (i := 1) rfl
  have b2 := K0.out.cell (i := 2) rfl
  have b3 := K0.out.cell (i := 3) rfl
  have k0 := KX.out.cell (i := 0) rfl
  have k1 := KX.out.cell (i := 1) rfl
  have k2 := KX.out.cell (i := 2) rfl
  have k3 := KX.out.cell (i := 3) rfl
  go_wp2_with fail
  clear b0 b1 b2 b3
  clear k0 k1 k2 k3
  refine (HG.out _ _ _ (Rd.own G0.out)).mono ?_
  rintro e u10 ⟨rfl, hb⟩
  have K1 := Lib.hid (K0.out.below hb)
  have KX1 := Lib.hid (KX.out.below hb)
  have B2 := Lib.hid (BB.out.trans (hb.mono BB.out.size))
  have W0n := Lib.hid (owns_below W0.out hb)
  have G0n := Lib.hid (owns_below G0.out hb)
  clear hb K0 BB KX
  clear W0 G0
  have K0 := K1
  clear K1
  have BB := B2
  clear B2
  have KX := KX1
  clear KX1
  have W0 := W0n
  clear W0n
  have G0 := G0n
  clear G0n
  have b0 := K0.out.cell (i := 0) rfl
  have b1 := K0.out.cell (i := 1) rfl
  have b2 := K0.out.cell (i := 2) rfl
  have b3 := K0.out.cell (i := 3) rfl
  have k0 := KX.out.cell (i := 0) rfl
  have k1 := KX.out.cell (i := 1) rfl
  have k2 := KX.out.cell (i := 2) rfl
  have k3 := KX.out.cell (i := 3) rfl
  go_wp2_with fail
  clear b0 b1 b2 b3
  clear k0 k1 k2 k3
  refine (TO.out _ (HS.out.below BB.out)).mono ?_
  rintro e u11 ⟨p0, p1, p2, rfl, o0, o1, o2, _, _, hb⟩
  have RS := Lib.hid (SR.own o0 o1 o2)
  clear o0 o1 o2
  have K1 := Lib.hid (K0.out.below hb)
  have KX1 := Lib.hid (KX.out.below hb)
  have B2 := Lib.hid (BB.out.trans (hb.mono BB.out.size))
  have W0n := Lib.hid (owns_below W0.out hb)
  have G0n := Lib.hid (owns_below G0.out hb)
  clear hb K0 BB KX
  clear W0 G0
  have K0 := K1
  clear K1
  have BB := B2
  clear B2
  have KX := KX1
  clear KX1
  have W0 := W0n
  clear W0n
  have G0 := G0n
  clear G0n
  have b0 := K0.out.cell (i := 0) rfl
  have b1 := K0.out.cell (i := 1) rfl
  have b2 := K0.out.cell (i := 2) rfl
  have b3 := K0.out.cell (i := 3) rfl
  have k0 := KX.out.cell (i := 0) rfl
  have k1 := KX.out.cell (i := 1) rfl
  have k2 := KX.out.cell (i := 2) rfl
  have k3 := KX.out.cell (i := 3) rfl
  go_wp2_with fail
  clear b0 b1 b2 b3
  clear k0 k1 k2 k3
  refine (CI.out _ _ _ _ RS.out).mono ?_
  rintro e u12 ⟨gH0, cH0, rfl, ho, hb⟩
  have lwH0 : w.heap.size < gH0 := Nat.lt_of_lt_of_le K0.out.lt (own_at ho)
  have ne_W0_H0 : gW0 < gH0 := Nat.lt_of_lt_of_le (own_lt W0.out) (own_at ho)
  have ne_G0_H0 : gG0 < gH0 := Nat.lt_of_lt_of_le (own_lt G0.out) (own_at ho)
  have nk_H0 : u4.heap.size < gH0 := Nat.lt_of_lt_of_le KX.out.lt (own_at ho)
  have XN_H0 := Lib.hid (owns_base ho (Nat.le_of_lt lwH0))
  clear ho
  have K1 := Lib.hid (K0.out.below hb)
  have KX1 := Lib.hid (KX.out.below hb)
  have B2 := Lib.hid (BB.out.trans (hb.mono BB.out.size))
  have W0n := Lib.hid (owns_below W0.out hb)
  have G0n := Lib.hid (owns_below G0.out hb)
  clear hb K0 BB KX
  clear W0 G0
  have K0 := K1
  clear K1
  have BB := B2
  clear B2
  have KX := KX1
  clear KX1
  have W0 := W0n
  clear W0n
  have G0 := G0n
  clear G0n
  have H0 := XN_H0
  clear XN_H0
  have b0 := K0.out.cell (i := 0) rfl
  have b1 := K0.out.cell (i := 1) rfl
  have b2 := K0.out.cell (i := 2) rfl
  have b3 := K0.out.cell (i := 3) rfl
  have k0 := KX.out.cell (i := 0) rfl
  have k1 := KX.out.cell (i := 1) rfl
  have k2 := KX.out.cell (i := 2) rfl
  have k3 := KX.out.cell (i := 3) rfl
  clear RS
  go_wp2_with fail
  clear b0 b1 b2 b3
  clear k0 k1 k2 k3
  refine (EQ.out _ _ _ _ _ (Rd.own H0.out) (Rd.own W0.out)).mono ?_
  rintro e u13 ⟨rfl, hb⟩
  have K1 := Lib.hid (K0.out.below hb)
  have KX1 := Lib.hid (KX.out.below hb)
  have B2 := Lib.hid (BB.out.trans (hb.mono BB.out.size))
  have W0n := Lib.hid (owns_below W0.out hb)
  have G0n := Lib.hid (owns_below G0.out hb)
  have H0n := Lib.hid (owns_below H0.out hb)
  clear hb K0 BB KX
  clear W0 G0 H0
  have K0 := K1
  clear K1
  have BB := B2
  clear B2
  have KX := KX1
  clear KX1
  have W0 := W0n
  clear W0n
  have G0 := G0n
  clear G0n
  have H0 := H0n
  clear H0n
  have b0 := K0.out.cell (i := 0) rfl
  have b1 := K0.out.cell (i := 1) rfl
  have b2 := K0.out.cell (i := 2) rfl
  have b3 := K0.out.cell (i := 3) rfl
  have k0 := KX.out.cell (i := 0) rfl
  have k1 := KX.out.cell (i := 1) rfl
  have k2 := KX.out.cell (i := 2) rfl
  have k3 := KX.out.cell (i := 3) rfl
  go_wp2_with fail
  clear b0 b1 b2 b3
  clear k0 k1 k2 k3
  refine (HG.out _ _ _ (Rd.own G0.out)).mono ?_
  rintro e u14 ⟨rfl, hb⟩
  have K1 := Lib.hid (K0.out.below hb)
  have KX1 := Lib.hid (KX.out.below hb)
  have B2 := Lib.hid (BB.out.trans (hb.mono BB.out.size))
  have W0n := Lib.hid (owns_below W0.out hb)
  have G0n := Lib.hid (owns_below G0.out hb)
  have H0n := Lib.hid (owns_below H0.out hb)
  clear hb K0 BB KX
  clear W0 G0 H0
  have K0 := K1
  clear K1
  have BB := B2
  clear B2
  have KX := KX1
  clear KX1
  have W0 := W0n
  clear W0n
  have G0 := G0n
  clear G0n
  have H0 := H0n
  clear H0n
  have b0 := K0.out.cell (i := 0) rfl
  have b1 := K0.out.cell (i := 1) rfl
  have b2 := K0.out.cell (i := 2) rfl
  have b3 := K0.out.cell (i := 3) rfl
  have k0 := KX.out.cell (i := 0) rfl
  have k1 := KX.out.cell (i := 1) rfl
  have k2 := KX.out.cell (i := 2) rfl
  have k3 := KX.out.cell (i := 3) rfl
  go_wp2_with fail
  go_ret
  exact ⟨rfl, BB.out⟩

set_option maxRecDepth 100000 in
theorem lifted (os : Os) (started : os.Started) (H : Type) (enc : TypeId × Value → H) :
    ReturnsInHanded {} Tryz.checked os 4 .any (Rows.fnExactDropsAtSpec.pre6 enc Tryz.prog Tryz.f4 Rows.fnExactDropsAtRow.domain false) (Rows.fnExactDropsAtSpec.post enc Tryz.prog Tryz.f4 false true false false) := by
  refine returnsInHanded_of_change (C := Tryz.checked) own started (by kernel_rfl) Tryz.func4
    (ChangeSpec.witness6 (enc := enc) (C := Tryz.checked) false ⟨#[], #[.agg #[.slice none 0 0, .slice none 0 0, .slice none 0 0, .int .i64 0], .int .i64 0], []⟩ 8 (by kernel_rfl) (by kernel_rfl) (by kernel_rfl) (by kernel_rfl)) ?_
  intro W base args ds gs before hval0 hW hcnd hsz
  have hval : ∀ (j : Nat) t v, Tryz.f4.params[j]? = some t → args[j]? = some v → Value.okWide Tryz.prog W .any base t v := hval0
  have hW' := hW
  obtain ⟨p, q, hA0, hV, rfl, hfz, hnd⟩ := hW
  have hA1 := hA0
  have hA : DataW.TrodAll enc Tryz.prog W 0 (fun _ => true) true Tryz.f4.params.toList args.toList ds p := hA0
  rw [Tryz.params4] at hA hval
  obtain ⟨v0, vs0, d0, ds0, p0, q0, hargs, rfl, rfl, h0, r0⟩ := trodAll_cons hA
  obtain ⟨v1, vs1, d1, ds1, p1, q1, rfl, rfl, rfl, h1, r1⟩ := trodAll_cons r0
  obtain ⟨rfl, rfl, rfl⟩ := trodAll_nil r1
  obtain rfl : args = #[v0, v1] := by cases args; simp_all
  obtain ⟨rfl, rfl⟩ := trodVars_none hV
  obtain ⟨A0, n0, c0, ds, A1, n1, c1, cs, A2, n2, c2, gs, T, rfl, ⟨l0, m0⟩, ⟨l1, m1⟩, ⟨l2, m2⟩, wT, ⟨g0, z0⟩, ⟨g1, z1⟩, g2, _⟩ := Sp.take_show (hval 0 26 v0 rfl rfl) h0
  obtain ⟨a1, rfl, rfl, rfl, w1⟩ := open_int Tryz.underlying3 (hval 1 3 v1 rfl rfl) h1
  clear hA0 hval0
  rw [List.append_nil] at hW'
  refine (walk A0 n0 c0 A1 n1 c1 A2 n2 c2 T ds cs gs l0 m0 l1 m1 l2 m2 wT a1 w1 W g0 z0 g1 z1 g2).mono fun e W' ⟨he, hb⟩ => ?_
  subst he
  exact ⟨_, rfl, post_law rfl hW' hA1 laidOut (by rw [Tryz.params4]; exact of_decide_eq_true (by kernel_rfl)) 4 (by kernel_rfl) Tryz.underlying4 rfl hb⟩

theorem over : Rows.fnExactDropsAtRow.holds Tryz.pinned (OpenSpec.ofChange Rows.fnExactDropsAtSpec) :=
  OpenClaim.holds_of_wide 4 Tryz.f4 rfl rfl rfl rfl rfl rfl rfl ⟨rfl, rfl, rfl, rfl, rfl⟩ rfl rfl rfl rfl rfl (by kernel_rfl) Tryz.func4 (by kernel_rfl)
    (of_decide_eq_true (by kernel_rfl)) (by unfold Func.isWrapper; first | (rw [if_pos (by decide +kernel)]; kernel_rfl) | (rw [if_neg (by decide +kernel)]; exact ⟨rfl, rfl⟩))
    (fun os started H enc _ => lifted os started H enc)

/-- The statement. -/
theorem proved : Rows.FnExactDropsAtSaid :=
  over
#print axioms proved
end Go.Proofs.YtejeikfgmiadhaaGreat.fnExactDropsAt
