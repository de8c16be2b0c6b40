/- The law FnExactTurnShow holds at every input. The step from the walk to the row follows the guide's own template. -/
import Derived.Test.YtkndejjfndjcoaaGreatM1
import Derived.Test.YtkndejjfndjcoaaGreatM8
import Derived.Test.YtkndejjfndjcoaaGreatM9
import Derived.Test.YtkndejjfndjcoaaGreatTa9
import Derived.Test.YtkndejjfndjcoaaGreatMn9
import Derived.Deep.RegionHeld3
namespace Go.Proofs.YtkndejjfndjcoaaGreat.fnExactTurnShow
open Go.ChangeShapes Go.WideShapes Go.ChangeAt Go.RowKit Go.WideMaps Go.WideElems Go.Proofs.YtkndejjfndjcoaaGreat.Mem
open Go.ChangeMaps (open_string shut_string)
set_option linter.unusedVariables false
set_option linter.unusedSimpArgs false

theorem own : ownKnob Tryz.prog.godebug = none := by kernel_rfl
theorem laidOut : laidOutB Tryz.prog = true := by kernel_rfl

open Go.Proofs.YtkndejjfndjcoaaGreat.P2 Go.Proofs.YtkndejjfndjcoaaGreat.Bk Go.Proofs.YtkndejjfndjcoaaGreat.Sp Go.Proofs.YtkndejjfndjcoaaGreat.Sq Go.Proofs.YtkndejjfndjcoaaGreat.St9 Go.Proofs.YtkndejjfndjcoaaGreat.Ta9
open Go.Proofs.YtkndejjfndjcoaaGreat.Rw (owns_below owns_grown owns_base)

set_option maxRecDepth 100000 in
set_option maxHeartbeats 8000000 in
theorem walk (A0 : Option Addr) (n0 c0 : Nat) (A1 : Option Addr) (n1 c1 : Nat) (A2 : Option Addr) (n2 c2 : Nat) (T : Int) (ds : List D) (cs : List C) (gs : List G) (hn0 : ds.length = n0) (hm0 : n0 ≤ maxLen) (hn1 : cs.length = n1) (hm1 : n1 ≤ maxLen) (hn2 : gs.length = n2) (hm2 : n2 ≤ maxLen) (wT : (Lit.int .i64 T).wf = true) (i1 : Int) (wi1 : (Lit.int .i64 i1).wf = true) (w : World) (hr0 : Rd w w.heap.size A0 (Dd.dls ds)) (h0 : ∀ z ∈ ds, Dd.Dok z) (hr1 : Rd w w.heap.size A1 (Cd.dls cs)) (h1 : ∀ z ∈ cs, Cd.Dok z) (hr2 : Rd w w.heap.size A2 (Gs.gls gs)) :
    Calls Tryz.prog 4 #[sv A0 n0 c0 A1 n1 c1 A2 n2 c2 T, .int .i64 i1] w fun e w' => e = .returned (.bool true) ∧ Below w.heap.size w w' := by
  have hz0 : (w.alloc (.cells (sc A0 n0 c0 A1 n1 c1 A2 n2 c2 T) 26)).heap.size = w.heap.size + 1 := by simp [go_sem]
  have B0 := (Below.refl w.heap.size w).alloc (Nat.le_refl _) (.cells (sc A0 n0 c0 A1 n1 c1 A2 n2 c2 T) 26)
  have K0 := Lib.hid (Bk.new w (sc A0 n0 c0 A1 n1 c1 A2 n2 c2 T) 26)
  have SZ := Lib.hid (szShow A0 n0 c0 A1 n1 c1 A2 n2 c2 T ds cs gs (w.alloc (.cells (sc A0 n0 c0 A1 n1 c1 A2 n2 c2 T) 26)) hn0 hm0 hn1 hm1 hm2 (SR.below (show SR w A0 A1 A2 ds cs gs from ⟨hr0, hr1, hr2⟩) B0) h0 h1)
  obtain ⟨R, hR⟩ : ∃ R, szA n0 ds n1 cs n2 = R := ⟨_, rfl⟩
  by_cases hz : R < 0
  · rw [hR] at SZ
    have BB := Lib.hid B0
    clear hn0 hm0 hn1 hm1 hn2 hm2 hr0 hr1 hr2 h0 h1 hR B0
    go_enter Tryz.func4, Tryz.ntmps4
    go_wp2_with fail
    refine SZ.out.mono ?_
    rintro e w1 ⟨rfl, hb⟩
    have B2 := BB.out.trans (hb.mono BB.out.size)
    clear hb SZ BB
    go_wp2_with fail
    go_returns
    exact ⟨rfl, B2⟩
  have hfit := sz_fit (n0 := n0) (ds := ds) (n1 := n1) (cs := cs) (n2 := n2) (by rw [hR]; exact hz)
  rw [hR] at SZ
  clear hR
  have hsz : ∀ z ∈ ds, z.nm.size ≤ 1048576 ∧ z.ln.size ≤ 1048576 := fun z hm => by
    obtain ⟨k, hk, rfl⟩ := List.getElem_of_mem hm
    have h1 := Dl.bulk_take (List.getElem?_eq_getElem hk)
    have h2 := Dl.bulk_le ds (k + 1)
    omega
  have hsc : ∀ z ∈ cs, z.nm.size ≤ 1048576 := fun z hm => by
    obtain ⟨k, hk, rfl⟩ := List.getElem_of_mem hm
    have h1 := Cl.bulk_take (List.getElem?_eq_getElem hk)
    have h2 := Cl.bulk_le cs (k + 1)
    omega
  have HF := Lib.hid (show Fit n0 n1 n2 ds cs gs from ⟨⟨hn0, by omega⟩, ⟨hn1, by omega⟩, hn2, by omega⟩)
  have HS := Lib.hid (show SR w A0 A1 A2 ds cs gs from ⟨hr0, hr1, hr2⟩)
  have TO := Lib.hid (fun (W : World) (h : SR W A0 A1 A2 ds cs gs) => toShow A0 n0 c0 A1 n1 c1 A2 n2 c2 T ds cs gs W HF.out h)
  have EQW := Lib.hid (fun (g0 g1 g2 k0 k1 k2 : Nat) (W : World) (h : SR W (some ⟨g0, 0, none⟩) (some ⟨g1, 0, none⟩) (some ⟨g2, 0, none⟩) ds cs gs) (k : SR W (some ⟨k0, 0, none⟩) (some ⟨k1, 0, none⟩) (some ⟨k2, 0, none⟩) ds cs gs) => eqShow (some ⟨g0, 0, none⟩) n0 n0 (some ⟨g1, 0, none⟩) n1 n1 (some ⟨g2, 0, none⟩) n2 n2 T (some ⟨k0, 0, none⟩) n0 (some ⟨k1, 0, none⟩) n1 (some ⟨k2, 0, none⟩) n2 ds cs gs W HF.out h k)
  obtain ⟨K9, hK9⟩ : ∃ K : Nat, 1 + n0 * 8 + n1 * 4 + n2 * 3 = K := ⟨_, rfl⟩
  have pK9 : ¬ (K9 : Int) < 0 := by omega
  have MS := Lib.hid (fun (g0 g1 g2 : Nat) (h01 : g0 < g1) (h12 : g1 < g2) (W : World) o0 o1 o2 => (by have := Mk9.markShow w.heap.size n0 n1 n2 g0 g1 g2 n0 n1 n2 T ds cs gs W HF.out (by omega) h01 h12 o0 o1 o2; rw [hK9] at this; exact this : Calls Tryz.prog 14 #[sv (some ⟨g0, 0, none⟩) n0 n0 (some ⟨g1, 0, none⟩) n1 n1 (some ⟨g2, 0, none⟩) n2 n2 T, .int .i64 1] W _))
  have hu : undef = Value.tuple #[] := rfl
  have BB := Lib.hid B0
  cases hrr : Sv.show9 ds cs gs T
  · have CS := Lib.hid (show ∀ (g0 g1 g2 : Nat) (W : World) (h : SR W (some ⟨g0, 0, none⟩) (some ⟨g1, 0, none⟩) (some ⟨g2, 0, none⟩) ds cs gs), Calls Tryz.prog 17 #[sv (some ⟨g0, 0, none⟩) n0 n0 (some ⟨g1, 0, none⟩) n1 n1 (some ⟨g2, 0, none⟩) n2 n2 T, .int .i64 i1] W (fun e w' => e = .returned (.agg #[.slice none 0 0, .slice none 0 0, .slice none 0 0, .int .i64 0]) ∧ Below W.heap.size W w') from fun g0 g1 g2 W h => turnNoS _ n0 n0 _ n1 n1 _ n2 n2 T ds cs gs i1 W HF.out h hsz hsc hrr)
    have CI := Lib.hid (show ∀ (g0 g1 g2 : Nat) (W : World) (h : SR W (some ⟨g0, 0, none⟩) (some ⟨g1, 0, none⟩) (some ⟨g2, 0, none⟩) ds cs gs), Calls Tryz.prog 18 #[sv (some ⟨g0, 0, none⟩) n0 n0 (some ⟨g1, 0, none⟩) n1 n1 (some ⟨g2, 0, none⟩) n2 n2 T, .int .i64 i1] W (fun e w' => e = .returned (.agg #[.slice none 0 0, .slice none 0 0, .slice none 0 0, .int .i64 0]) ∧ Below W.heap.size W w') from fun g0 g1 g2 W h => turnNoI _ n0 n0 _ n1 n1 _ n2 n2 T ds cs gs i1 W HF.out h hrr)
    have EN := Lib.hid (fun (W : World) => eqShow none 0 0 none 0 0 none 0 0 0 none 0 none 0 none 0 [] [] [] W ⟨⟨rfl, by omega⟩, ⟨rfl, by omega⟩, rfl, by omega⟩ ⟨Rd.nil _ _ _, Rd.nil _ _ _, Rd.nil _ _ _⟩ ⟨Rd.nil _ _ _, Rd.nil _ _ _, Rd.nil _ _ _⟩)
    have MN := Lib.hid (fun (W : World) => Mn9.markNil W)
    have HN := Lib.hid (fun (W : World) => Mk9.heldShow 0 0 0 0 0 0 none none none 0 W (by omega) (by omega) (by omega) (by omega) (Rd.nil _ _ _) (Rd.nil _ _ _) (Rd.nil _ _ _))
    clear hn0 hm0 hn1 hm1 hn2 hm2 hr0 hr1 hr2 h0 h1 B0 hfit hsz hsc hK9 wT wi1 hrr
    go_enter Tryz.func4, Tryz.ntmps4
    have b0 := K0.out.cell (i := 0) rfl
    have b1 := K0.out.cell (i := 1) rfl
    have b2 := K0.out.cell (i := 2) rfl
    have b3 := K0.out.cell (i := 3) rfl
    go_wp2_with fail
    clear b0 b1 b2 b3
    refine (SZ.out).mono ?_
    rintro e u1 ⟨rfl, hb⟩
    have K01 := Lib.hid (K0.out.below hb)
    have B2 := Lib.hid (BB.out.trans (hb.mono BB.out.size))
    clear hb K0 BB 
    have K0 := K01
    clear K01
    have BB := B2
    clear B2
    have b0 := K0.out.cell (i := 0) rfl
    have b1 := K0.out.cell (i := 1) rfl
    have b2 := K0.out.cell (i := 2) rfl
    have b3 := K0.out.cell (i := 3) rfl
    clear SZ
    go_wp2_with fail
    clear b0 b1 b2 b3
    refine (TO.out _ (HS.out.below BB.out)).mono ?_
    rintro e u2 ⟨p0, p1, p2, rfl, o0, o1, o2, _, _, hb⟩
    have RS := Lib.hid (SR.own o0 o1 o2)
    clear o0 o1 o2
    have K01 := Lib.hid (K0.out.below hb)
    have B2 := Lib.hid (BB.out.trans (hb.mono BB.out.size))
    clear hb K0 BB 
    have K0 := K01
    clear K01
    have BB := B2
    clear B2
    have b0 := K0.out.cell (i := 0) rfl
    have b1 := K0.out.cell (i := 1) rfl
    have b2 := K0.out.cell (i := 2) rfl
    have b3 := K0.out.cell (i := 3) rfl
    go_wp2_with fail
    clear b0 b1 b2 b3
    refine (CS.out _ _ _ _ RS.out).mono ?_
    rintro e u3 ⟨rfl, hb⟩
    clear RS
    have K01 := Lib.hid (K0.out.below hb)
    have B2 := Lib.hid (BB.out.trans (hb.mono BB.out.size))
    clear hb K0 BB 
    have K0 := K01
    clear K01
    have BB := B2
    clear B2
    have hb := (Below.refl u3.heap.size u3).alloc (Nat.le_refl _) (.cells (#[.slice none 0 0, .slice none 0 0, .slice none 0 0, .int .i64 0]) 34)
    have KWn := Lib.hid (Bk.new u3 (#[.slice none 0 0, .slice none 0 0, .slice none 0 0, .int .i64 0]) 34)
    have ch_KW : w.heap.size < u3.heap.size := K0.out.lt
    have K01 := Lib.hid (K0.out.below hb)
    have B2 := Lib.hid (BB.out.trans (hb.mono BB.out.size))
    clear hb K0 BB 
    have K0 := K01
    clear K01
    have BB := B2
    clear B2
    have KW := KWn
    clear KWn
    have b0 := K0.out.cell (i := 0) rfl
    have b1 := K0.out.cell (i := 1) rfl
    have b2 := K0.out.cell (i := 2) rfl
    have b3 := K0.out.cell (i := 3) rfl
    have KW_0 := KW.out.cell (i := 0) rfl
    have KW_1 := KW.out.cell (i := 1) rfl
    have KW_2 := KW.out.cell (i := 2) rfl
    have KW_3 := KW.out.cell (i := 3) rfl
    go_wp2_with fail
    clear b0 b1 b2 b3
    clear KW_0 KW_1 KW_2 KW_3
    refine (TO.out _ (HS.out.below BB.out)).mono ?_
    rintro e u4 ⟨gx0, gx1, gx2, rfl, o0, o1, o2, l01, l12, hb⟩
    have ch_x0 : u3.heap.size < gx0 := Nat.lt_of_lt_of_le KW.out.lt (own_at o0)
    have ch_x1 := l01
    have ch_x2 := l12
    have chw_x : w.heap.size < gx0 := Nat.lt_of_lt_of_le K0.out.lt (own_at o0)
    have XN_x0 := Lib.hid (owns_base o0 (show w.heap.size ≤ gx0 by omega))
    have XN_x1 := Lib.hid (owns_base o1 (show w.heap.size ≤ gx1 by omega))
    have XN_x2 := Lib.hid (owns_base o2 (show w.heap.size ≤ gx2 by omega))
    clear o0 o1 o2
    have K01 := Lib.hid (K0.out.below hb)
    have B2 := Lib.hid (BB.out.trans (hb.mono BB.out.size))
    have KW1 := Lib.hid (KW.out.below hb)
    clear hb K0 BB KW
    have K0 := K01
    clear K01
    have BB := B2
    clear B2
    have KW := KW1
    clear KW1
    have x0 := XN_x0
    clear XN_x0
    have x1 := XN_x1
    clear XN_x1
    have x2 := XN_x2
    clear XN_x2
    have hb := (Below.refl u4.heap.size u4).alloc (Nat.le_refl _) (.cells (#[.slice (some ⟨gx0, 0, none⟩) n0 n0, .slice (some ⟨gx1, 0, none⟩) n1 n1, .slice (some ⟨gx2, 0, none⟩) n2 n2, .int .i64 T]) 34)
    have KXn := Lib.hid (Bk.new u4 (#[.slice (some ⟨gx0, 0, none⟩) n0 n0, .slice (some ⟨gx1, 0, none⟩) n1 n1, .slice (some ⟨gx2, 0, none⟩) n2 n2, .int .i64 T]) 34)
    have ch_KX : gx2 < u4.heap.size := (own_lt x2.out)
    have K01 := Lib.hid (K0.out.below hb)
    have B2 := Lib.hid (BB.out.trans (hb.mono BB.out.size))
    have KW1 := Lib.hid (KW.out.below hb)
    have x01 := Lib.hid (owns_below x0.out hb)
    have x11 := Lib.hid (owns_below x1.out hb)
    have x21 := Lib.hid (owns_below x2.out hb)
    clear hb K0 BB KW x0 x1 x2
    have K0 := K01
    clear K01
    have BB := B2
    clear B2
    have KW := KW1
    clear KW1
    have x0 := x01
    clear x01
    have x1 := x11
    clear x11
    have x2 := x21
    clear x21
    have KX := KXn
    clear KXn
    have b0 := K0.out.cell (i := 0) rfl
    have b1 := K0.out.cell (i := 1) rfl
    have b2 := K0.out.cell (i := 2) rfl
    have b3 := K0.out.cell (i := 3) rfl
    have KW_0 := KW.out.cell (i := 0) rfl
    have KW_1 := KW.out.cell (i := 1) rfl
    have KW_2 := KW.out.cell (i := 2) rfl
    have KW_3 := KW.out.cell (i := 3) rfl
    have KX_0 := KX.out.cell (i := 0) rfl
    have KX_1 := KX.out.cell (i := 1) rfl
    have KX_2 := KX.out.cell (i := 2) rfl
    have KX_3 := KX.out.cell (i := 3) rfl
    go_wp2_with fail
    clear b0 b1 b2 b3
    clear KW_0 KW_1 KW_2 KW_3
    clear KX_0 KX_1 KX_2 KX_3
    refine (CI.out _ _ _ _ (SR.own x0.out x1.out x2.out)).mono ?_
    rintro e u5 ⟨rfl, hb⟩
    have K01 := Lib.hid (K0.out.below hb)
    have B2 := Lib.hid (BB.out.trans (hb.mono BB.out.size))
    have KW1 := Lib.hid (KW.out.below hb)
    have x01 := Lib.hid (owns_below x0.out hb)
    have x11 := Lib.hid (owns_below x1.out hb)
    have x21 := Lib.hid (owns_below x2.out hb)
    have KX1 := Lib.hid (KX.out.below hb)
    clear hb K0 BB KW x0 x1 x2 KX
    have K0 := K01
    clear K01
    have BB := B2
    clear B2
    have KW := KW1
    clear KW1
    have x0 := x01
    clear x01
    have x1 := x11
    clear x11
    have x2 := x21
    clear x21
    have KX := KX1
    clear KX1
    have hb := (Below.refl u5.heap.size u5).alloc (Nat.le_refl _) (.cells (#[.slice none 0 0, .slice none 0 0, .slice none 0 0, .int .i64 0]) 34)
    have KGn := Lib.hid (Bk.new u5 (#[.slice none 0 0, .slice none 0 0, .slice none 0 0, .int .i64 0]) 34)
    have ch_KG : u4.heap.size < u5.heap.size := KX.out.lt
    have K01 := Lib.hid (K0.out.below hb)
    have B2 := Lib.hid (BB.out.trans (hb.mono BB.out.size))
    have KW1 := Lib.hid (KW.out.below hb)
    have x01 := Lib.hid (owns_below x0.out hb)
    have x11 := Lib.hid (owns_below x1.out hb)
    have x21 := Lib.hid (owns_below x2.out hb)
    have KX1 := Lib.hid (KX.out.below hb)
    clear hb K0 BB KW x0 x1 x2 KX
    have K0 := K01
    clear K01
    have BB := B2
    clear B2
    have KW := KW1
    clear KW1
    have x0 := x01
    clear x01
    have x1 := x11
    clear x11
    have x2 := x21
    clear x21
    have KX := KX1
    clear KX1
    have KG := KGn
    clear KGn
    have b0 := K0.out.cell (i := 0) rfl
    have b1 := K0.out.cell (i := 1) rfl
    have b2 := K0.out.cell (i := 2) rfl
    have b3 := K0.out.cell (i := 3) rfl
    have KW_0 := KW.out.cell (i := 0) rfl
    have KW_1 := KW.out.cell (i := 1) rfl
    have KW_2 := KW.out.cell (i := 2) rfl
    have KW_3 := KW.out.cell (i := 3) rfl
    have KX_0 := KX.out.cell (i := 0) rfl
    have KX_1 := KX.out.cell (i := 1) rfl
    have KX_2 := KX.out.cell (i := 2) rfl
    have KX_3 := KX.out.cell (i := 3) rfl
    have KG_0 := KG.out.cell (i := 0) rfl
    have KG_1 := KG.out.cell (i := 1) rfl
    have KG_2 := KG.out.cell (i := 2) rfl
    have KG_3 := KG.out.cell (i := 3) rfl
    go_wp2_with fail
    clear b0 b1 b2 b3
    clear KW_0 KW_1 KW_2 KW_3
    clear KX_0 KX_1 KX_2 KX_3
    clear KG_0 KG_1 KG_2 KG_3
    refine (EN.out _).mono ?_
    rintro e u6 ⟨rfl, hb⟩
    have K01 := Lib.hid (K0.out.below hb)
    have B2 := Lib.hid (BB.out.trans (hb.mono BB.out.size))
    have KW1 := Lib.hid (KW.out.below hb)
    have x01 := Lib.hid (owns_below x0.out hb)
    have x11 := Lib.hid (owns_below x1.out hb)
    have x21 := Lib.hid (owns_below x2.out hb)
    have KX1 := Lib.hid (KX.out.below hb)
    have KG1 := Lib.hid (KG.out.below hb)
    clear hb K0 BB KW x0 x1 x2 KX KG
    have K0 := K01
    clear K01
    have BB := B2
    clear B2
    have KW := KW1
    clear KW1
    have x0 := x01
    clear x01
    have x1 := x11
    clear x11
    have x2 := x21
    clear x21
    have KX := KX1
    clear KX1
    have KG := KG1
    clear KG1
    have b0 := K0.out.cell (i := 0) rfl
    have b1 := K0.out.cell (i := 1) rfl
    have b2 := K0.out.cell (i := 2) rfl
    have b3 := K0.out.cell (i := 3) rfl
    have KW_0 := KW.out.cell (i := 0) rfl
    have KW_1 := KW.out.cell (i := 1) rfl
    have KW_2 := KW.out.cell (i := 2) rfl
    have KW_3 := KW.out.cell (i := 3) rfl
    have KX_0 := KX.out.cell (i := 0) rfl
    have KX_1 := KX.out.cell (i := 1) rfl
    have KX_2 := KX.out.cell (i := 2) rfl
    have KX_3 := KX.out.cell (i := 3) rfl
    have KG_0 := KG.out.cell (i := 0) rfl
    have KG_1 := KG.out.cell (i := 1) rfl
    have KG_2 := KG.out.cell (i := 2) rfl
    have KG_3 := KG.out.cell (i := 3) rfl
    go_wp2_with fail
    refine wp_region_noPanic ?_
    refine wp_region_held_drew (S := (fun w' => w'.cell? ⟨w.heap.size, 0, none⟩ = some (.slice A0 n0 c0) ∧ w'.cell? ⟨w.heap.size, 1, none⟩ = some (.slice A1 n1 c1) ∧ w'.cell? ⟨w.heap.size, 2, none⟩ = some (.slice A2 n2 c2) ∧ w'.cell? ⟨w.heap.size, 3, none⟩ = some (.int .i64 T) ∧ w'.cell? ⟨u4.heap.size, 0, none⟩ = some (.slice (some ⟨gx0, 0, none⟩) n0 n0) ∧ w'.cell? ⟨u4.heap.size, 1, none⟩ = some (.slice (some ⟨gx1, 0, none⟩) n1 n1) ∧ w'.cell? ⟨u4.heap.size, 2, none⟩ = some (.slice (some ⟨gx2, 0, none⟩) n2 n2) ∧ w'.cell? ⟨u4.heap.size, 3, none⟩ = some (.int .i64 T) ∧ Below u6.heap.size u6 w')) (by kernel_rfl) ?_ (fun hH => ?_)
    · exact ⟨b0, b1, b2, b3, KX_0, KX_1, KX_2, KX_3, (Below.refl _ _).drew⟩
    refine wpAnyH_take (i := 0) (oi := { dst := some 31, op := _, type := _, pos := _, after := _, guard := _ }) (v := ?_) rfl (by kernel_rfl) (by kernel_rfl) (by kernel_rfl) (fun _ _ _ h => h) (Or.inl ⟨by rfl, ?_⟩) hH ?_
    rotate_left 1
    · intro W hSw
      (try dsimp only at hSw)
      go_simp
      (try with_reducible rfl)
    try simp only [Act.put, List.setIfInBounds_toArray, List.set_cons_zero, List.set_cons_succ]
    refine wpAnyH_take (i := 1) (oi := { dst := some 32, op := _, type := _, pos := _, after := _, guard := _ }) (v := ?_) rfl (by kernel_rfl) (by kernel_rfl) (by kernel_rfl) (fun _ _ _ h => h) (Or.inl ⟨by rfl, ?_⟩) hH ?_
    rotate_left 1
    · intro W hSw
      (try dsimp only at hSw)
      go_simp
      (try with_reducible rfl)
    try simp only [Act.put, List.setIfInBounds_toArray, List.set_cons_zero, List.set_cons_succ]
    refine wpAnyH_ready (rs := [2]) (by kernel_rfl) (by simp) (AllReadyH.cons rfl (fun K hK => ?_) AllReadyH.nil)
    go_simp
    go_at_call 10; ((with_reducible refine (TO.out _ (HS.out.below (BB.out.trans (hH.2.2.2.2.2.2.2.2.mono BB.out.size)))).mono ?_); rintro e r1 ⟨y0, y1, y2, rfl, oa, ob, oc, _, _, hb1⟩); go_wp2_with fail
    refine hK.out _ _ ?_ (fun hG => ?_)
    · exact ⟨cell_below hb1 hH.1, cell_below hb1 hH.2.1, cell_below hb1 hH.2.2.1, cell_below hb1 hH.2.2.2.1, cell_below hb1 hH.2.2.2.2.1, cell_below hb1 hH.2.2.2.2.2.1, cell_below hb1 hH.2.2.2.2.2.2.1, cell_below hb1 hH.2.2.2.2.2.2.2.1, hH.2.2.2.2.2.2.2.2.trans (hb1.mono hH.2.2.2.2.2.2.2.2.size)⟩
    replace hH := hG
    clear hK K hG
    try simp only [Act.put, List.setIfInBounds_toArray, List.set_cons_zero, List.set_cons_succ]
    refine wpAnyH_ready (rs := [3]) (by kernel_rfl) (by simp) (AllReadyH.cons rfl (fun K hK => ?_) AllReadyH.nil)
    go_simp
    go_at_call 13; ((with_reducible refine (EQW.out _ _ _ _ _ _ _ ((SR.own x0.out x1.out x2.out).below hH.2.2.2.2.2.2.2.2) (SR.own oa ob oc)).mono ?_); rintro e r2 ⟨rfl, hb2⟩); go_wp2_with fail
    refine hK.out _ _ ?_ (fun hG => ?_)
    · exact ⟨cell_below hb2 hH.1, cell_below hb2 hH.2.1, cell_below hb2 hH.2.2.1, cell_below hb2 hH.2.2.2.1, cell_below hb2 hH.2.2.2.2.1, cell_below hb2 hH.2.2.2.2.2.1, cell_below hb2 hH.2.2.2.2.2.2.1, cell_below hb2 hH.2.2.2.2.2.2.2.1, hH.2.2.2.2.2.2.2.2.trans (hb2.mono hH.2.2.2.2.2.2.2.2.size)⟩
    replace hH := hG
    clear hK K hG
    try simp only [Act.put, List.setIfInBounds_toArray, List.set_cons_zero, List.set_cons_succ]
    refine wpAnyH_take (i := 4) (oi := { dst := some 35, op := _, type := _, pos := _, after := _, guard := _ }) (v := ?_) rfl (by kernel_rfl) (by kernel_rfl) (by kernel_rfl) (fun _ _ _ h => h) (Or.inl ⟨by rfl, ?_⟩) hH ?_
    rotate_left 1
    · intro W hSw
      (try dsimp only at hSw)
      go_simp
      (try with_reducible rfl)
    try simp only [Act.put, List.setIfInBounds_toArray, List.set_cons_zero, List.set_cons_succ]
    refine wpAnyH_done (by kernel_rfl) ?_ _
    refine NoPanic.normal ?_
    have hb := hH.2.2.2.2.2.2.2.2
    clear hH oa ob oc hb1 hb2
    clear b0 b1 b2 b3
    clear KW_0 KW_1 KW_2 KW_3
    clear KX_0 KX_1 KX_2 KX_3
    clear KG_0 KG_1 KG_2 KG_3
    have K01 := Lib.hid (K0.out.below hb)
    have B2 := Lib.hid (BB.out.trans (hb.mono BB.out.size))
    have KW1 := Lib.hid (KW.out.below hb)
    have x01 := Lib.hid (owns_below x0.out hb)
    have x11 := Lib.hid (owns_below x1.out hb)
    have x21 := Lib.hid (owns_below x2.out hb)
    have KX1 := Lib.hid (KX.out.below hb)
    have KG1 := Lib.hid (KG.out.below hb)
    clear hb K0 BB KW x0 x1 x2 KX KG
    have K0 := K01
    clear K01
    have BB := B2
    clear B2
    have KW := KW1
    clear KW1
    have x0 := x01
    clear x01
    have x1 := x11
    clear x11
    have x2 := x21
    clear x21
    have KX := KX1
    clear KX1
    have KG := KG1
    clear KG1
    have b0 := K0.out.cell (i := 0) rfl
    have b1 := K0.out.cell (i := 1) rfl
    have b2 := K0.out.cell (i := 2) rfl
    have b3 := K0.out.cell (i := 3) rfl
    have KW_0 := KW.out.cell (i := 0) rfl
    have KW_1 := KW.out.cell (i := 1) rfl
    have KW_2 := KW.out.cell (i := 2) rfl
    have KW_3 := KW.out.cell (i := 3) rfl
    have KX_0 := KX.out.cell (i := 0) rfl
    have KX_1 := KX.out.cell (i := 1) rfl
    have KX_2 := KX.out.cell (i := 2) rfl
    have KX_3 := KX.out.cell (i := 3) rfl
    have KG_0 := KG.out.cell (i := 0) rfl
    have KG_1 := KG.out.cell (i := 1) rfl
    have KG_2 := KG.out.cell (i := 2) rfl
    have KG_3 := KG.out.cell (i := 3) rfl
    go_wp2_with fail
    clear b0 b1 b2 b3
    clear KW_0 KW_1 KW_2 KW_3
    clear KX_0 KX_1 KX_2 KX_3
    clear KG_0 KG_1 KG_2 KG_3
    refine (MS.out _ _ _ ch_x1 ch_x2 _ x0.out x1.out x2.out).mono ?_
    rintro e u7 ⟨rfl, _, _, _, hg⟩
    have K01 := Lib.hid (hg.bk K0.out (by omega) (by omega) (by omega))
    have B2 := Lib.hid (hg.below BB.out (by omega) (by omega) (by omega))
    have KW1 := Lib.hid (hg.bk KW.out (by omega) (by omega) (by omega))
    have KX1 := Lib.hid (hg.bk KX.out (by omega) (by omega) (by omega))
    have KG1 := Lib.hid (hg.bk KG.out (by omega) (by omega) (by omega))
    clear hg K0 BB KW KX KG
    have K0 := K01
    clear K01
    have BB := B2
    clear B2
    have KW := KW1
    clear KW1
    have KX := KX1
    clear KX1
    have KG := KG1
    clear KG1
    clear x0
    clear x1
    clear x2
    have b0 := K0.out.cell (i := 0) rfl
    have b1 := K0.out.cell (i := 1) rfl
    have b2 := K0.out.cell (i := 2) rfl
    have b3 := K0.out.cell (i := 3) rfl
    have KW_0 := KW.out.cell (i := 0) rfl
    have KW_1 := KW.out.cell (i := 1) rfl
    have KW_2 := KW.out.cell (i := 2) rfl
    have KW_3 := KW.out.cell (i := 3) rfl
    have KX_0 := KX.out.cell (i := 0) rfl
    have KX_1 := KX.out.cell (i := 1) rfl
    have KX_2 := KX.out.cell (i := 2) rfl
    have KX_3 := KX.out.cell (i := 3) rfl
    have KG_0 := KG.out.cell (i := 0) rfl
    have KG_1 := KG.out.cell (i := 1) rfl
    have KG_2 := KG.out.cell (i := 2) rfl
    have KG_3 := KG.out.cell (i := 3) rfl
    go_wp2_with fail
    clear b0 b1 b2 b3
    clear KW_0 KW_1 KW_2 KW_3
    clear KX_0 KX_1 KX_2 KX_3
    clear KG_0 KG_1 KG_2 KG_3
    refine (EN.out _).mono ?_
    rintro e u8 ⟨rfl, hb⟩
    have K01 := Lib.hid (K0.out.below hb)
    have B2 := Lib.hid (BB.out.trans (hb.mono BB.out.size))
    have KW1 := Lib.hid (KW.out.below hb)
    have KX1 := Lib.hid (KX.out.below hb)
    have KG1 := Lib.hid (KG.out.below hb)
    clear hb K0 BB KW KX KG
    have K0 := K01
    clear K01
    have BB := B2
    clear B2
    have KW := KW1
    clear KW1
    have KX := KX1
    clear KX1
    have KG := KG1
    clear KG1
    have b0 := K0.out.cell (i := 0) rfl
    have b1 := K0.out.cell (i := 1) rfl
    have b2 := K0.out.cell (i := 2) rfl
    have b3 := K0.out.cell (i := 3) rfl
    have KW_0 := KW.out.cell (i := 0) rfl
    have KW_1 := KW.out.cell (i := 1) rfl
    have KW_2 := KW.out.cell (i := 2) rfl
    have KW_3 := KW.out.cell (i := 3) rfl
    have KX_0 := KX.out.cell (i := 0) rfl
    have KX_1 := KX.out.cell (i := 1) rfl
    have KX_2 := KX.out.cell (i := 2) rfl
    have KX_3 := KX.out.cell (i := 3) rfl
    have KG_0 := KG.out.cell (i := 0) rfl
    have KG_1 := KG.out.cell (i := 1) rfl
    have KG_2 := KG.out.cell (i := 2) rfl
    have KG_3 := KG.out.cell (i := 3) rfl
    go_wp2_with fail
    clear b0 b1 b2 b3
    clear KW_0 KW_1 KW_2 KW_3
    clear KX_0 KX_1 KX_2 KX_3
    clear KG_0 KG_1 KG_2 KG_3
    refine (MN.out _).mono ?_
    rintro e u9 ⟨rfl, hb⟩
    have K01 := Lib.hid (K0.out.below hb)
    have B2 := Lib.hid (BB.out.trans (hb.mono BB.out.size))
    have KW1 := Lib.hid (KW.out.below hb)
    have KX1 := Lib.hid (KX.out.below hb)
    have KG1 := Lib.hid (KG.out.below hb)
    clear hb K0 BB KW KX KG
    have K0 := K01
    clear K01
    have BB := B2
    clear B2
    have KW := KW1
    clear KW1
    have KX := KX1
    clear KX1
    have KG := KG1
    clear KG1
    have b0 := K0.out.cell (i := 0) rfl
    have b1 := K0.out.cell (i := 1) rfl
    have b2 := K0.out.cell (i := 2) rfl
    have b3 := K0.out.cell (i := 3) rfl
    have KW_0 := KW.out.cell (i := 0) rfl
    have KW_1 := KW.out.cell (i := 1) rfl
    have KW_2 := KW.out.cell (i := 2) rfl
    have KW_3 := KW.out.cell (i := 3) rfl
    have KX_0 := KX.out.cell (i := 0) rfl
    have KX_1 := KX.out.cell (i := 1) rfl
    have KX_2 := KX.out.cell (i := 2) rfl
    have KX_3 := KX.out.cell (i := 3) rfl
    have KG_0 := KG.out.cell (i := 0) rfl
    have KG_1 := KG.out.cell (i := 1) rfl
    have KG_2 := KG.out.cell (i := 2) rfl
    have KG_3 := KG.out.cell (i := 3) rfl
    go_wp2_with fail
    clear b0 b1 b2 b3
    clear KW_0 KW_1 KW_2 KW_3
    clear KX_0 KX_1 KX_2 KX_3
    clear KG_0 KG_1 KG_2 KG_3
    refine (HN.out _).mono ?_
    rintro e u10 ⟨rfl, hb⟩
    have K01 := Lib.hid (K0.out.below hb)
    have B2 := Lib.hid (BB.out.trans (hb.mono BB.out.size))
    have KW1 := Lib.hid (KW.out.below hb)
    have KX1 := Lib.hid (KX.out.below hb)
    have KG1 := Lib.hid (KG.out.below hb)
    clear hb K0 BB KW KX KG
    have K0 := K01
    clear K01
    have BB := B2
    clear B2
    have KW := KW1
    clear KW1
    have KX := KX1
    clear KX1
    have KG := KG1
    clear KG1
    have b0 := K0.out.cell (i := 0) rfl
    have b1 := K0.out.cell (i := 1) rfl
    have b2 := K0.out.cell (i := 2) rfl
    have b3 := K0.out.cell (i := 3) rfl
    have KW_0 := KW.out.cell (i := 0) rfl
    have KW_1 := KW.out.cell (i := 1) rfl
    have KW_2 := KW.out.cell (i := 2) rfl
    have KW_3 := KW.out.cell (i := 3) rfl
    have KX_0 := KX.out.cell (i := 0) rfl
    have KX_1 := KX.out.cell (i := 1) rfl
    have KX_2 := KX.out.cell (i := 2) rfl
    have KX_3 := KX.out.cell (i := 3) rfl
    have KG_0 := KG.out.cell (i := 0) rfl
    have KG_1 := KG.out.cell (i := 1) rfl
    have KG_2 := KG.out.cell (i := 2) rfl
    have KG_3 := KG.out.cell (i := 3) rfl
    go_wp2_with fail
    clear b0 b1 b2 b3
    clear KW_0 KW_1 KW_2 KW_3
    clear KX_0 KX_1 KX_2 KX_3
    clear KG_0 KG_1 KG_2 KG_3
    refine (TO.out _ (HS.out.below BB.out)).mono ?_
    rintro e u11 ⟨p0, p1, p2, rfl, o0, o1, o2, _, _, hb⟩
    have RS := Lib.hid (SR.own o0 o1 o2)
    clear o0 o1 o2
    have K01 := Lib.hid (K0.out.below hb)
    have B2 := Lib.hid (BB.out.trans (hb.mono BB.out.size))
    have KW1 := Lib.hid (KW.out.below hb)
    have KX1 := Lib.hid (KX.out.below hb)
    have KG1 := Lib.hid (KG.out.below hb)
    clear hb K0 BB KW KX KG
    have K0 := K01
    clear K01
    have BB := B2
    clear B2
    have KW := KW1
    clear KW1
    have KX := KX1
    clear KX1
    have KG := KG1
    clear KG1
    have b0 := K0.out.cell (i := 0) rfl
    have b1 := K0.out.cell (i := 1) rfl
    have b2 := K0.out.cell (i := 2) rfl
    have b3 := K0.out.cell (i := 3) rfl
    have KW_0 := KW.out.cell (i := 0) rfl
    have KW_1 := KW.out.cell (i := 1) rfl
    have KW_2 := KW.out.cell (i := 2) rfl
    have KW_3 := KW.out.cell (i := 3) rfl
    have KX_0 := KX.out.cell (i := 0) rfl
    have KX_1 := KX.out.cell (i := 1) rfl
    have KX_2 := KX.out.cell (i := 2) rfl
    have KX_3 := KX.out.cell (i := 3) rfl
    have KG_0 := KG.out.cell (i := 0) rfl
    have KG_1 := KG.out.cell (i := 1) rfl
    have KG_2 := KG.out.cell (i := 2) rfl
    have KG_3 := KG.out.cell (i := 3) rfl
    go_wp2_with fail
    clear b0 b1 b2 b3
    clear KW_0 KW_1 KW_2 KW_3
    clear KX_0 KX_1 KX_2 KX_3
    clear KG_0 KG_1 KG_2 KG_3
    refine (CI.out _ _ _ _ RS.out).mono ?_
    rintro e u12 ⟨rfl, hb⟩
    clear RS
    have K01 := Lib.hid (K0.out.below hb)
    have B2 := Lib.hid (BB.out.trans (hb.mono BB.out.size))
    have KW1 := Lib.hid (KW.out.below hb)
    have KX1 := Lib.hid (KX.out.below hb)
    have KG1 := Lib.hid (KG.out.below hb)
    clear hb K0 BB KW KX KG
    have K0 := K01
    clear K01
    have BB := B2
    clear B2
    have KW := KW1
    clear KW1
    have KX := KX1
    clear KX1
    have KG := KG1
    clear KG1
    have hb := (Below.refl u12.heap.size u12).alloc (Nat.le_refl _) (.cells (#[.slice none 0 0, .slice none 0 0, .slice none 0 0, .int .i64 0]) 34)
    have KHn := Lib.hid (Bk.new u12 (#[.slice none 0 0, .slice none 0 0, .slice none 0 0, .int .i64 0]) 34)
    have ch_KH : u5.heap.size < u12.heap.size := KG.out.lt
    have K01 := Lib.hid (K0.out.below hb)
    have B2 := Lib.hid (BB.out.trans (hb.mono BB.out.size))
    have KW1 := Lib.hid (KW.out.below hb)
    have KX1 := Lib.hid (KX.out.below hb)
    have KG1 := Lib.hid (KG.out.below hb)
    clear hb K0 BB KW KX KG
    have K0 := K01
    clear K01
    have BB := B2
    clear B2
    have KW := KW1
    clear KW1
    have KX := KX1
    clear KX1
    have KG := KG1
    clear KG1
    have KH := KHn
    clear KHn
    have b0 := K0.out.cell (i := 0) rfl
    have b1 := K0.out.cell (i := 1) rfl
    have b2 := K0.out.cell (i := 2) rfl
    have b3 := K0.out.cell (i := 3) rfl
    have KW_0 := KW.out.cell (i := 0) rfl
    have KW_1 := KW.out.cell (i := 1) rfl
    have KW_2 := KW.out.cell (i := 2) rfl
    have KW_3 := KW.out.cell (i := 3) rfl
    have KX_0 := KX.out.cell (i := 0) rfl
    have KX_1 := KX.out.cell (i := 1) rfl
    have KX_2 := KX.out.cell (i := 2) rfl
    have KX_3 := KX.out.cell (i := 3) rfl
    have KG_0 := KG.out.cell (i := 0) rfl
    have KG_1 := KG.out.cell (i := 1) rfl
    have KG_2 := KG.out.cell (i := 2) rfl
    have KG_3 := KG.out.cell (i := 3) rfl
    have KH_0 := KH.out.cell (i := 0) rfl
    have KH_1 := KH.out.cell (i := 1) rfl
    have KH_2 := KH.out.cell (i := 2) rfl
    have KH_3 := KH.out.cell (i := 3) rfl
    go_wp2_with fail
    clear b0 b1 b2 b3
    clear KW_0 KW_1 KW_2 KW_3
    clear KX_0 KX_1 KX_2 KX_3
    clear KG_0 KG_1 KG_2 KG_3
    clear KH_0 KH_1 KH_2 KH_3
    refine (EN.out _).mono ?_
    rintro e u13 ⟨rfl, hb⟩
    have K01 := Lib.hid (K0.out.below hb)
    have B2 := Lib.hid (BB.out.trans (hb.mono BB.out.size))
    have KW1 := Lib.hid (KW.out.below hb)
    have KX1 := Lib.hid (KX.out.below hb)
    have KG1 := Lib.hid (KG.out.below hb)
    have KH1 := Lib.hid (KH.out.below hb)
    clear hb K0 BB KW KX KG KH
    have K0 := K01
    clear K01
    have BB := B2
    clear B2
    have KW := KW1
    clear KW1
    have KX := KX1
    clear KX1
    have KG := KG1
    clear KG1
    have KH := KH1
    clear KH1
    have b0 := K0.out.cell (i := 0) rfl
    have b1 := K0.out.cell (i := 1) rfl
    have b2 := K0.out.cell (i := 2) rfl
    have b3 := K0.out.cell (i := 3) rfl
    have KW_0 := KW.out.cell (i := 0) rfl
    have KW_1 := KW.out.cell (i := 1) rfl
    have KW_2 := KW.out.cell (i := 2) rfl
    have KW_3 := KW.out.cell (i := 3) rfl
    have KX_0 := KX.out.cell (i := 0) rfl
    have KX_1 := KX.out.cell (i := 1) rfl
    have KX_2 := KX.out.cell (i := 2) rfl
    have KX_3 := KX.out.cell (i := 3) rfl
    have KG_0 := KG.out.cell (i := 0) rfl
    have KG_1 := KG.out.cell (i := 1) rfl
    have KG_2 := KG.out.cell (i := 2) rfl
    have KG_3 := KG.out.cell (i := 3) rfl
    have KH_0 := KH.out.cell (i := 0) rfl
    have KH_1 := KH.out.cell (i := 1) rfl
    have KH_2 := KH.out.cell (i := 2) rfl
    have KH_3 := KH.out.cell (i := 3) rfl
    go_wp2_with fail
    clear b0 b1 b2 b3
    clear KW_0 KW_1 KW_2 KW_3
    clear KX_0 KX_1 KX_2 KX_3
    clear KG_0 KG_1 KG_2 KG_3
    clear KH_0 KH_1 KH_2 KH_3
    refine (HN.out _).mono ?_
    rintro e u14 ⟨rfl, hb⟩
    have K01 := Lib.hid (K0.out.below hb)
    have B2 := Lib.hid (BB.out.trans (hb.mono BB.out.size))
    have KW1 := Lib.hid (KW.out.below hb)
    have KX1 := Lib.hid (KX.out.below hb)
    have KG1 := Lib.hid (KG.out.below hb)
    have KH1 := Lib.hid (KH.out.below hb)
    clear hb K0 BB KW KX KG KH
    have K0 := K01
    clear K01
    have BB := B2
    clear B2
    have KW := KW1
    clear KW1
    have KX := KX1
    clear KX1
    have KG := KG1
    clear KG1
    have KH := KH1
    clear KH1
    have b0 := K0.out.cell (i := 0) rfl
    have b1 := K0.out.cell (i := 1) rfl
    have b2 := K0.out.cell (i := 2) rfl
    have b3 := K0.out.cell (i := 3) rfl
    have KW_0 := KW.out.cell (i := 0) rfl
    have KW_1 := KW.out.cell (i := 1) rfl
    have KW_2 := KW.out.cell (i := 2) rfl
    have KW_3 := KW.out.cell (i := 3) rfl
    have KX_0 := KX.out.cell (i := 0) rfl
    have KX_1 := KX.out.cell (i := 1) rfl
    have KX_2 := KX.out.cell (i := 2) rfl
    have KX_3 := KX.out.cell (i := 3) rfl
    have KG_0 := KG.out.cell (i := 0) rfl
    have KG_1 := KG.out.cell (i := 1) rfl
    have KG_2 := KG.out.cell (i := 2) rfl
    have KG_3 := KG.out.cell (i := 3) rfl
    have KH_0 := KH.out.cell (i := 0) rfl
    have KH_1 := KH.out.cell (i := 1) rfl
    have KH_2 := KH.out.cell (i := 2) rfl
    have KH_3 := KH.out.cell (i := 3) rfl
    go_wp2_with fail
    go_ret
    exact ⟨rfl, BB.out⟩
  · have LEN0 : (Tr.trV ds i1).length = n0 := (tr_len (Sv.show_iff.1 hrr).1 i1).trans hn0
    have LEN2 : (Wt.tws gs i1).length = n2 := (tw_len (Sv.show_iff.1 hrr).2.2.1 i1).trans hn2
    obtain ⟨l0, hl0⟩ : ∃ l, Tr.trV ds i1 = l := ⟨_, rfl⟩
    obtain ⟨l2, hl2⟩ : ∃ l, Wt.tws gs i1 = l := ⟨_, rfl⟩
    have CS := Lib.hid (show ∀ (g0 g1 g2 : Nat) (W : World) (h : SR W (some ⟨g0, 0, none⟩) (some ⟨g1, 0, none⟩) (some ⟨g2, 0, none⟩) ds cs gs), Calls Tryz.prog 17 #[sv (some ⟨g0, 0, none⟩) n0 n0 (some ⟨g1, 0, none⟩) n1 n1 (some ⟨g2, 0, none⟩) n2 n2 T, .int .i64 i1] W (fun e w' => ∃ g0 c0 g1 c1 g2 c2, e = .returned (sv (some ⟨g0, 0, none⟩) n0 c0 (some ⟨g1, 0, none⟩) n1 c1 (some ⟨g2, 0, none⟩) n2 c2 T) ∧ w'.ownsRow W.heap.size 86 8 (.slice (some ⟨g0, 0, none⟩) n0 c0) n0 (Dd.dls l0) ∧ w'.ownsRow W.heap.size 76 4 (.slice (some ⟨g1, 0, none⟩) n1 c1) n1 (Cd.dls cs) ∧ w'.ownsRow W.heap.size 82 3 (.slice (some ⟨g2, 0, none⟩) n2 c2) n2 (Gs.gls l2) ∧ g0 < g1 ∧ g1 < g2 ∧ Below W.heap.size W w') from fun g0 g1 g2 W h => by have := turnShowS _ n0 n0 _ n1 n1 _ n2 n2 T ds cs gs i1 W HF.out h hsz hsc hrr; rw [hl0, hl2] at this; exact this)
    have CI := Lib.hid (show ∀ (g0 g1 g2 : Nat) (W : World) (h : SR W (some ⟨g0, 0, none⟩) (some ⟨g1, 0, none⟩) (some ⟨g2, 0, none⟩) ds cs gs), Calls Tryz.prog 18 #[sv (some ⟨g0, 0, none⟩) n0 n0 (some ⟨g1, 0, none⟩) n1 n1 (some ⟨g2, 0, none⟩) n2 n2 T, .int .i64 i1] W (fun e w' => ∃ g0 c0 g1 c1 g2 c2, e = .returned (sv (some ⟨g0, 0, none⟩) n0 c0 (some ⟨g1, 0, none⟩) n1 c1 (some ⟨g2, 0, none⟩) n2 c2 T) ∧ w'.ownsRow W.heap.size 86 8 (.slice (some ⟨g0, 0, none⟩) n0 c0) n0 (Dd.dls l0) ∧ w'.ownsRow W.heap.size 76 4 (.slice (some ⟨g1, 0, none⟩) n1 c1) n1 (Cd.dls cs) ∧ w'.ownsRow W.heap.size 82 3 (.slice (some ⟨g2, 0, none⟩) n2 c2) n2 (Gs.gls l2) ∧ g0 < g1 ∧ g1 < g2 ∧ Below W.heap.size W w') from fun g0 g1 g2 W h => by have := turnShowI _ n0 n0 _ n1 n1 _ n2 n2 T ds cs gs i1 W HF.out h hrr; rw [hl0, hl2] at this; exact this)
    have HFL := Lib.hid (show Fit n0 n1 n2 l0 cs l2 from ⟨⟨by rw [← hl0]; exact LEN0, HF.out.1.2⟩, HF.out.2.1, by rw [← hl2]; exact LEN2, HF.out.2.2.2⟩)
    have EA := Lib.hid (fun (g0 g1 g2 k0 k1 k2 e0 e1 e2 f0 f1 f2 : Nat) (W : World) (h : SR W (some ⟨g0, 0, none⟩) (some ⟨g1, 0, none⟩) (some ⟨g2, 0, none⟩) l0 cs l2) (k : SR W (some ⟨k0, 0, none⟩) (some ⟨k1, 0, none⟩) (some ⟨k2, 0, none⟩) l0 cs l2) => eqShow (some ⟨g0, 0, none⟩) n0 e0 (some ⟨g1, 0, none⟩) n1 e1 (some ⟨g2, 0, none⟩) n2 e2 T (some ⟨k0, 0, none⟩) f0 (some ⟨k1, 0, none⟩) f1 (some ⟨k2, 0, none⟩) f2 l0 cs l2 W HFL.out h k)
    have MR := Lib.hid (fun (g0 g1 g2 e0 e1 e2 : Nat) (h01 : g0 < g1) (h12 : g1 < g2) (W : World) o0 o1 o2 => (by have := Mk9.markShow w.heap.size n0 n1 n2 g0 g1 g2 e0 e1 e2 T l0 cs l2 W HFL.out (by omega) h01 h12 o0 o1 o2; rw [hK9] at this; exact this : Calls Tryz.prog 14 #[sv (some ⟨g0, 0, none⟩) n0 e0 (some ⟨g1, 0, none⟩) n1 e1 (some ⟨g2, 0, none⟩) n2 e2 T, .int .i64 1] W _))
    have HR := Lib.hid (fun (g0 g1 g2 e0 e1 e2 : Nat) (W : World) r0 r1 r2 => (by have := Mk9.heldShow n0 n1 n2 e0 e1 e2 (some ⟨g0, 0, none⟩) (some ⟨g1, 0, none⟩) (some ⟨g2, 0, none⟩) T W (by omega) (by omega) (by omega) (by omega) r0 r1 r2; rw [hK9] at this; exact this : Calls Tryz.prog 19 #[sv (some ⟨g0, 0, none⟩) n0 e0 (some ⟨g1, 0, none⟩) n1 e1 (some ⟨g2, 0, none⟩) n2 e2 T, .int .i64 1] W _))
    clear hn0 hm0 hn1 hm1 hn2 hm2 hr0 hr1 hr2 h0 h1 B0 hfit hsz hsc hK9 wT wi1 hrr LEN0 LEN2 hl0 hl2
    go_enter Tryz.func4, Tryz.ntmps4
    have b0 := K0.out.cell (i := 0) rfl
    have b1 := K0.out.cell (i := 1) rfl
    have b2 := K0.out.cell (i := 2) rfl
    have b3 := K0.out.cell (i := 3) rfl
    go_wp2_with fail
    clear b0 b1 b2 b3
    refine (SZ.out).mono ?_
    rintro e u1 ⟨rfl, hb⟩
    have K01 := Lib.hid (K0.out.below hb)
    have B2 := Lib.hid (BB.out.trans (hb.mono BB.out.size))
    clear hb K0 BB 
    have K0 := K01
    clear K01
    have BB := B2
    clear B2
    have b0 := K0.out.cell (i := 0) rfl
    have b1 := K0.out.cell (i := 1) rfl
    have b2 := K0.out.cell (i := 2) rfl
    have b3 := K0.out.cell (i := 3) rfl
    clear SZ
    go_wp2_with fail
    clear b0 b1 b2 b3
    refine (TO.out _ (HS.out.below BB.out)).mono ?_
    rintro e u2 ⟨p0, p1, p2, rfl, o0, o1, o2, _, _, hb⟩
    have RS := Lib.hid (SR.own o0 o1 o2)
    clear o0 o1 o2
    have K01 := Lib.hid (K0.out.below hb)
    have B2 := Lib.hid (BB.out.trans (hb.mono BB.out.size))
    clear hb K0 BB 
    have K0 := K01
    clear K01
    have BB := B2
    clear B2
    have b0 := K0.out.cell (i := 0) rfl
    have b1 := K0.out.cell (i := 1) rfl
    have b2 := K0.out.cell (i := 2) rfl
    have b3 := K0.out.cell (i := 3) rfl
    go_wp2_with fail
    clear b0 b1 b2 b3
    refine (CS.out _ _ _ _ RS.out).mono ?_
    rintro e u3 ⟨gW0, dW0, gW1, dW1, gW2, dW2, rfl, o0, o1, o2, l01, l12, hb⟩
    have ch_W0 : w.heap.size < gW0 := Nat.lt_of_lt_of_le K0.out.lt (own_at o0)
    have ch_W1 := l01
    have ch_W2 := l12
    have chw_W : w.heap.size < gW0 := Nat.lt_of_lt_of_le K0.out.lt (own_at o0)
    have XN_W0 := Lib.hid (owns_base o0 (show w.heap.size ≤ gW0 by omega))
    have XN_W1 := Lib.hid (owns_base o1 (show w.heap.size ≤ gW1 by omega))
    have XN_W2 := Lib.hid (owns_base o2 (show w.heap.size ≤ gW2 by omega))
    clear o0 o1 o2
    have K01 := Lib.hid (K0.out.below hb)
    have B2 := Lib.hid (BB.out.trans (hb.mono BB.out.size))
    clear hb K0 BB 
    have K0 := K01
    clear K01
    have BB := B2
    clear B2
    have W0 := XN_W0
    clear XN_W0
    have W1 := XN_W1
    clear XN_W1
    have W2 := XN_W2
    clear XN_W2
    have hb := (Below.refl u3.heap.size u3).alloc (Nat.le_refl _) (.cells (#[.slice (some ⟨gW0, 0, none⟩) n0 dW0, .slice (some ⟨gW1, 0, none⟩) n1 dW1, .slice (some ⟨gW2, 0, none⟩) n2 dW2, .int .i64 T]) 34)
    have KWn := Lib.hid (Bk.new u3 (#[.slice (some ⟨gW0, 0, none⟩) n0 dW0, .slice (some ⟨gW1, 0, none⟩) n1 dW1, .slice (some ⟨gW2, 0, none⟩) n2 dW2, .int .i64 T]) 34)
    have ch_KW : gW2 < u3.heap.size := (own_lt W2.out)
    have K01 := Lib.hid (K0.out.below hb)
    have B2 := Lib.hid (BB.out.trans (hb.mono BB.out.size))
    have W01 := Lib.hid (owns_below W0.out hb)
    have W11 := Lib.hid (owns_below W1.out hb)
    have W21 := Lib.hid (owns_below W2.out hb)
    clear hb K0 BB W0 W1 W2
    have K0 := K01
    clear K01
    have BB := B2
    clear B2
    have W0 := W01
    clear W01
    have W1 := W11
    clear W11
    have W2 := W21
    clear W21
    have KW := KWn
    clear KWn
    have b0 := K0.out.cell (i := 0) rfl
    have b1 := K0.out.cell (i := 1) rfl
    have b2 := K0.out.cell (i := 2) rfl
    have b3 := K0.out.cell (i := 3) rfl
    have KW_0 := KW.out.cell (i := 0) rfl
    have KW_1 := KW.out.cell (i := 1) rfl
    have KW_2 := KW.out.cell (i := 2) rfl
    have KW_3 := KW.out.cell (i := 3) rfl
    clear RS
    go_wp2_with fail
    clear b0 b1 b2 b3
    clear KW_0 KW_1 KW_2 KW_3
    refine (TO.out _ (HS.out.below BB.out)).mono ?_
    rintro e u4 ⟨gx0, gx1, gx2, rfl, o0, o1, o2, l01, l12, hb⟩
    have ch_x0 : u3.heap.size < gx0 := Nat.lt_of_lt_of_le KW.out.lt (own_at o0)
    have ch_x1 := l01
    have ch_x2 := l12
    have chw_x : w.heap.size < gx0 := Nat.lt_of_lt_of_le K0.out.lt (own_at o0)
    have XN_x0 := Lib.hid (owns_base o0 (show w.heap.size ≤ gx0 by omega))
    have XN_x1 := Lib.hid (owns_base o1 (show w.heap.size ≤ gx1 by omega))
    have XN_x2 := Lib.hid (owns_base o2 (show w.heap.size ≤ gx2 by omega))
    clear o0 o1 o2
    have K01 := Lib.hid (K0.out.below hb)
    have B2 := Lib.hid (BB.out.trans (hb.mono BB.out.size))
    have W01 := Lib.hid (owns_below W0.out hb)
    have W11 := Lib.hid (owns_below W1.out hb)
    have W21 := Lib.hid (owns_below W2.out hb)
    have KW1 := Lib.hid (KW.out.below hb)
    clear hb K0 BB W0 W1 W2 KW
    have K0 := K01
    clear K01
    have BB := B2
    clear B2
    have W0 := W01
    clear W01
    have W1 := W11
    clear W11
    have W2 := W21
    clear W21
    have KW := KW1
    clear KW1
    have x0 := XN_x0
    clear XN_x0
    have x1 := XN_x1
    clear XN_x1
    have x2 := XN_x2
    clear XN_x2
    have hb := (Below.refl u4.heap.size u4).alloc (Nat.le_refl _) (.cells (#[.slice (some ⟨gx0, 0, none⟩) n0 n0, .slice (some ⟨gx1, 0, none⟩) n1 n1, .slice (some ⟨gx2, 0, none⟩) n2 n2, .int .i64 T]) 34)
    have KXn := Lib.hid (Bk.new u4 (#[.slice (some ⟨gx0, 0, none⟩) n0 n0, .slice (some ⟨gx1, 0, none⟩) n1 n1, .slice (some ⟨gx2, 0, none⟩) n2 n2, .int .i64 T]) 34)
    have ch_KX : gx2 < u4.heap.size := (own_lt x2.out)
    have K01 := Lib.hid (K0.out.below hb)
    have B2 := Lib.hid (BB.out.trans (hb.mono BB.out.size))
    have W01 := Lib.hid (owns_below W0.out hb)
    have W11 := Lib.hid (owns_below W1.out hb)
    have W21 := Lib.hid (owns_below W2.out hb)
    have KW1 := Lib.hid (KW.out.below hb)
    have x01 := Lib.hid (owns_below x0.out hb)
    have x11 := Lib.hid (owns_below x1.out hb)
    have x21 := Lib.hid (owns_below x2.out hb)
    clear hb K0 BB W0 W1 W2 KW x0 x1 x2
    have K0 := K01
    clear K01
    have BB := B2
    clear B2
    have W0 := W01
    clear W01
    have W1 := W11
    clear W11
    have W2 := W21
    clear W21
    have KW := KW1
    clear KW1
    have x0 := x01
    clear x01
    have x1 := x11
    clear x11
    have x2 := x21
    clear x21
    have KX := KXn
    clear KXn
    have b0 := K0.out.cell (i := 0) rfl
    have b1 := K0.out.cell (i := 1) rfl
    have b2 := K0.out.cell (i := 2) rfl
    have b3 := K0.out.cell (i := 3) rfl
    have KW_0 := KW.out.cell (i := 0) rfl
    have KW_1 := KW.out.cell (i := 1) rfl
    have KW_2 := KW.out.cell (i := 2) rfl
    have KW_3 := KW.out.cell (i := 3) rfl
    have KX_0 := KX.out.cell (i := 0) rfl
    have KX_1 := KX.out.cell (i := 1) rfl
    have KX_2 := KX.out.cell (i := 2) rfl
    have KX_3 := KX.out.cell (i := 3) rfl
    go_wp2_with fail
    clear b0 b1 b2 b3
    clear KW_0 KW_1 KW_2 KW_3
    clear KX_0 KX_1 KX_2 KX_3
    refine (CI.out _ _ _ _ (SR.own x0.out x1.out x2.out)).mono ?_
    rintro e u5 ⟨gG0, dG0, gG1, dG1, gG2, dG2, rfl, o0, o1, o2, l01, l12, hb⟩
    have ch_G0 : u4.heap.size < gG0 := Nat.lt_of_lt_of_le KX.out.lt (own_at o0)
    have ch_G1 := l01
    have ch_G2 := l12
    have chw_G : w.heap.size < gG0 := Nat.lt_of_lt_of_le K0.out.lt (own_at o0)
    have XN_G0 := Lib.hid (owns_base o0 (show w.heap.size ≤ gG0 by omega))
    have XN_G1 := Lib.hid (owns_base o1 (show w.heap.size ≤ gG1 by omega))
    have XN_G2 := Lib.hid (owns_base o2 (show w.heap.size ≤ gG2 by omega))
    clear o0 o1 o2
    have K01 := Lib.hid (K0.out.below hb)
    have B2 := Lib.hid (BB.out.trans (hb.mono BB.out.size))
    have W01 := Lib.hid (owns_below W0.out hb)
    have W11 := Lib.hid (owns_below W1.out hb)
    have W21 := Lib.hid (owns_below W2.out hb)
    have KW1 := Lib.hid (KW.out.below hb)
    have x01 := Lib.hid (owns_below x0.out hb)
    have x11 := Lib.hid (owns_below x1.out hb)
    have x21 := Lib.hid (owns_below x2.out hb)
    have KX1 := Lib.hid (KX.out.below hb)
    clear hb K0 BB W0 W1 W2 KW x0 x1 x2 KX
    have K0 := K01
    clear K01
    have BB := B2
    clear B2
    have W0 := W01
    clear W01
    have W1 := W11
    clear W11
    have W2 := W21
    clear W21
    have KW := KW1
    clear KW1
    have x0 := x01
    clear x01
    have x1 := x11
    clear x11
    have x2 := x21
    clear x21
    have KX := KX1
    clear KX1
    have G0 := XN_G0
    clear XN_G0
    have G1 := XN_G1
    clear XN_G1
    have G2 := XN_G2
    clear XN_G2
    have hb := (Below.refl u5.heap.size u5).alloc (Nat.le_refl _) (.cells (#[.slice (some ⟨gG0, 0, none⟩) n0 dG0, .slice (some ⟨gG1, 0, none⟩) n1 dG1, .slice (some ⟨gG2, 0, none⟩) n2 dG2, .int .i64 T]) 34)
    have KGn := Lib.hid (Bk.new u5 (#[.slice (some ⟨gG0, 0, none⟩) n0 dG0, .slice (some ⟨gG1, 0, none⟩) n1 dG1, .slice (some ⟨gG2, 0, none⟩) n2 dG2, .int .i64 T]) 34)
    have ch_KG : gG2 < u5.heap.size := (own_lt G2.out)
    have K01 := Lib.hid (K0.out.below hb)
    have B2 := Lib.hid (BB.out.trans (hb.mono BB.out.size))
    have W01 := Lib.hid (owns_below W0.out hb)
    have W11 := Lib.hid (owns_below W1.out hb)
    have W21 := Lib.hid (owns_below W2.out hb)
    have KW1 := Lib.hid (KW.out.below hb)
    have x01 := Lib.hid (owns_below x0.out hb)
    have x11 := Lib.hid (owns_below x1.out hb)
    have x21 := Lib.hid (owns_below x2.out hb)
    have KX1 := Lib.hid (KX.out.below hb)
    have G01 := Lib.hid (owns_below G0.out hb)
    have G11 := Lib.hid (owns_below G1.out hb)
    have G21 := Lib.hid (owns_below G2.out hb)
    clear hb K0 BB W0 W1 W2 KW x0 x1 x2 KX G0 G1 G2
    have K0 := K01
    clear K01
    have BB := B2
    clear B2
    have W0 := W01
    clear W01
    have W1 := W11
    clear W11
    have W2 := W21
    clear W21
    have KW := KW1
    clear KW1
    have x0 := x01
    clear x01
    have x1 := x11
    clear x11
    have x2 := x21
    clear x21
    have KX := KX1
    clear KX1
    have G0 := G01
    clear G01
    have G1 := G11
    clear G11
    have G2 := G21
    clear G21
    have KG := KGn
    clear KGn
    have b0 := K0.out.cell (i := 0) rfl
    have b1 := K0.out.cell (i := 1) rfl
    have b2 := K0.out.cell (i := 2) rfl
    have b3 := K0.out.cell (i := 3) rfl
    have KW_0 := KW.out.cell (i := 0) rfl
    have KW_1 := KW.out.cell (i := 1) rfl
    have KW_2 := KW.out.cell (i := 2) rfl
    have KW_3 := KW.out.cell (i := 3) rfl
    have KX_0 := KX.out.cell (i := 0) rfl
    have KX_1 := KX.out.cell (i := 1) rfl
    have KX_2 := KX.out.cell (i := 2) rfl
    have KX_3 := KX.out.cell (i := 3) rfl
    have KG_0 := KG.out.cell (i := 0) rfl
    have KG_1 := KG.out.cell (i := 1) rfl
    have KG_2 := KG.out.cell (i := 2) rfl
    have KG_3 := KG.out.cell (i := 3) rfl
    go_wp2_with fail
    clear b0 b1 b2 b3
    clear KW_0 KW_1 KW_2 KW_3
    clear KX_0 KX_1 KX_2 KX_3
    clear KG_0 KG_1 KG_2 KG_3
    refine (EA.out _ _ _ _ _ _ _ _ _ _ _ _ _ (SR.own G0.out G1.out G2.out) (SR.own W0.out W1.out W2.out)).mono ?_
    rintro e u6 ⟨rfl, hb⟩
    have K01 := Lib.hid (K0.out.below hb)
    have B2 := Lib.hid (BB.out.trans (hb.mono BB.out.size))
    have W01 := Lib.hid (owns_below W0.out hb)
    have W11 := Lib.hid (owns_below W1.out hb)
    have W21 := Lib.hid (owns_below W2.out hb)
    have KW1 := Lib.hid (KW.out.below hb)
    have x01 := Lib.hid (owns_below x0.out hb)
    have x11 := Lib.hid (owns_below x1.out hb)
    have x21 := Lib.hid (owns_below x2.out hb)
    have KX1 := Lib.hid (KX.out.below hb)
    have G01 := Lib.hid (owns_below G0.out hb)
    have G11 := Lib.hid (owns_below G1.out hb)
    have G21 := Lib.hid (owns_below G2.out hb)
    have KG1 := Lib.hid (KG.out.below hb)
    clear hb K0 BB W0 W1 W2 KW x0 x1 x2 KX G0 G1 G2 KG
    have K0 := K01
    clear K01
    have BB := B2
    clear B2
    have W0 := W01
    clear W01
    have W1 := W11
    clear W11
    have W2 := W21
    clear W21
    have KW := KW1
    clear KW1
    have x0 := x01
    clear x01
    have x1 := x11
    clear x11
    have x2 := x21
    clear x21
    have KX := KX1
    clear KX1
    have G0 := G01
    clear G01
    have G1 := G11
    clear G11
    have G2 := G21
    clear G21
    have KG := KG1
    clear KG1
    have b0 := K0.out.cell (i := 0) rfl
    have b1 := K0.out.cell (i := 1) rfl
    have b2 := K0.out.cell (i := 2) rfl
    have b3 := K0.out.cell (i := 3) rfl
    have KW_0 := KW.out.cell (i := 0) rfl
    have KW_1 := KW.out.cell (i := 1) rfl
    have KW_2 := KW.out.cell (i := 2) rfl
    have KW_3 := KW.out.cell (i := 3) rfl
    have KX_0 := KX.out.cell (i := 0) rfl
    have KX_1 := KX.out.cell (i := 1) rfl
    have KX_2 := KX.out.cell (i := 2) rfl
    have KX_3 := KX.out.cell (i := 3) rfl
    have KG_0 := KG.out.cell (i := 0) rfl
    have KG_1 := KG.out.cell (i := 1) rfl
    have KG_2 := KG.out.cell (i := 2) rfl
    have KG_3 := KG.out.cell (i := 3) rfl
    go_wp2_with fail
    refine wp_region_noPanic ?_
    refine wp_region_held_drew (S := (fun w' => w'.cell? ⟨w.heap.size, 0, none⟩ = some (.slice A0 n0 c0) ∧ w'.cell? ⟨w.heap.size, 1, none⟩ = some (.slice A1 n1 c1) ∧ w'.cell? ⟨w.heap.size, 2, none⟩ = some (.slice A2 n2 c2) ∧ w'.cell? ⟨w.heap.size, 3, none⟩ = some (.int .i64 T) ∧ w'.cell? ⟨u4.heap.size, 0, none⟩ = some (.slice (some ⟨gx0, 0, none⟩) n0 n0) ∧ w'.cell? ⟨u4.heap.size, 1, none⟩ = some (.slice (some ⟨gx1, 0, none⟩) n1 n1) ∧ w'.cell? ⟨u4.heap.size, 2, none⟩ = some (.slice (some ⟨gx2, 0, none⟩) n2 n2) ∧ w'.cell? ⟨u4.heap.size, 3, none⟩ = some (.int .i64 T) ∧ Below u6.heap.size u6 w')) (by kernel_rfl) ?_ (fun hH => ?_)
    · exact ⟨b0, b1, b2, b3, KX_0, KX_1, KX_2, KX_3, (Below.refl _ _).drew⟩
    refine wpAnyH_take (i := 0) (oi := { dst := some 31, op := _, type := _, pos := _, after := _, guard := _ }) (v := ?_) rfl (by kernel_rfl) (by kernel_rfl) (by kernel_rfl) (fun _ _ _ h => h) (Or.inl ⟨by rfl, ?_⟩) hH ?_
    rotate_left 1
    · intro W hSw
      (try dsimp only at hSw)
      go_simp
      (try with_reducible rfl)
    try simp only [Act.put, List.setIfInBounds_toArray, List.set_cons_zero, List.set_cons_succ]
    refine wpAnyH_take (i := 1) (oi := { dst := some 32, op := _, type := _, pos := _, after := _, guard := _ }) (v := ?_) rfl (by kernel_rfl) (by kernel_rfl) (by kernel_rfl) (fun _ _ _ h => h) (Or.inl ⟨by rfl, ?_⟩) hH ?_
    rotate_left 1
    · intro W hSw
      (try dsimp only at hSw)
      go_simp
      (try with_reducible rfl)
    try simp only [Act.put, List.setIfInBounds_toArray, List.set_cons_zero, List.set_cons_succ]
    refine wpAnyH_ready (rs := [2]) (by kernel_rfl) (by simp) (AllReadyH.cons rfl (fun K hK => ?_) AllReadyH.nil)
    go_simp
    go_at_call 10; ((with_reducible refine (TO.out _ (HS.out.below (BB.out.trans (hH.2.2.2.2.2.2.2.2.mono BB.out.size)))).mono ?_); rintro e r1 ⟨y0, y1, y2, rfl, oa, ob, oc, _, _, hb1⟩); go_wp2_with fail
    refine hK.out _ _ ?_ (fun hG => ?_)
    · exact ⟨cell_below hb1 hH.1, cell_below hb1 hH.2.1, cell_below hb1 hH.2.2.1, cell_below hb1 hH.2.2.2.1, cell_below hb1 hH.2.2.2.2.1, cell_below hb1 hH.2.2.2.2.2.1, cell_below hb1 hH.2.2.2.2.2.2.1, cell_below hb1 hH.2.2.2.2.2.2.2.1, hH.2.2.2.2.2.2.2.2.trans (hb1.mono hH.2.2.2.2.2.2.2.2.size)⟩
    replace hH := hG
    clear hK K hG
    try simp only [Act.put, List.setIfInBounds_toArray, List.set_cons_zero, List.set_cons_succ]
    refine wpAnyH_ready (rs := [3]) (by kernel_rfl) (by simp) (AllReadyH.cons rfl (fun K hK => ?_) AllReadyH.nil)
    go_simp
    go_at_call 13; ((with_reducible refine (EQW.out _ _ _ _ _ _ _ ((SR.own x0.out x1.out x2.out).below hH.2.2.2.2.2.2.2.2) (SR.own oa ob oc)).mono ?_); rintro e r2 ⟨rfl, hb2⟩); go_wp2_with fail
    refine hK.out _ _ ?_ (fun hG => ?_)
    · exact ⟨cell_below hb2 hH.1, cell_below hb2 hH.2.1, cell_below hb2 hH.2.2.1, cell_below hb2 hH.2.2.2.1, cell_below hb2 hH.2.2.2.2.1, cell_below hb2 hH.2.2.2.2.2.1, cell_below hb2 hH.2.2.2.2.2.2.1, cell_below hb2 hH.2.2.2.2.2.2.2.1, hH.2.2.2.2.2.2.2.2.trans (hb2.mono hH.2.2.2.2.2.2.2.2.size)⟩
    replace hH := hG
    clear hK K hG
    try simp only [Act.put, List.setIfInBounds_toArray, List.set_cons_zero, List.set_cons_succ]
    refine wpAnyH_take (i := 4) (oi := { dst := some 35, op := _, type := _, pos := _, after := _, guard := _ }) (v := ?_) rfl (by kernel_rfl) (by kernel_rfl) (by kernel_rfl) (fun _ _ _ h => h) (Or.inl ⟨by rfl, ?_⟩) hH ?_
    rotate_left 1
    · intro W hSw
      (try dsimp only at hSw)
      go_simp
      (try with_reducible rfl)
    try simp only [Act.put, List.setIfInBounds_toArray, List.set_cons_zero, List.set_cons_succ]
    refine wpAnyH_done (by kernel_rfl) ?_ _
    refine NoPanic.normal ?_
    have hb := hH.2.2.2.2.2.2.2.2
    clear hH oa ob oc hb1 hb2
    clear b0 b1 b2 b3
    clear KW_0 KW_1 KW_2 KW_3
    clear KX_0 KX_1 KX_2 KX_3
    clear KG_0 KG_1 KG_2 KG_3
    have K01 := Lib.hid (K0.out.below hb)
    have B2 := Lib.hid (BB.out.trans (hb.mono BB.out.size))
    have W01 := Lib.hid (owns_below W0.out hb)
    have W11 := Lib.hid (owns_below W1.out hb)
    have W21 := Lib.hid (owns_below W2.out hb)
    have KW1 := Lib.hid (KW.out.below hb)
    have x01 := Lib.hid (owns_below x0.out hb)
    have x11 := Lib.hid (owns_below x1.out hb)
    have x21 := Lib.hid (owns_below x2.out hb)
    have KX1 := Lib.hid (KX.out.below hb)
    have G01 := Lib.hid (owns_below G0.out hb)
    have G11 := Lib.hid (owns_below G1.out hb)
    have G21 := Lib.hid (owns_below G2.out hb)
    have KG1 := Lib.hid (KG.out.below hb)
    clear hb K0 BB W0 W1 W2 KW x0 x1 x2 KX G0 G1 G2 KG
    have K0 := K01
    clear K01
    have BB := B2
    clear B2
    have W0 := W01
    clear W01
    have W1 := W11
    clear W11
    have W2 := W21
    clear W21
    have KW := KW1
    clear KW1
    have x0 := x01
    clear x01
    have x1 := x11
    clear x11
    have x2 := x21
    clear x21
    have KX := KX1
    clear KX1
    have G0 := G01
    clear G01
    have G1 := G11
    clear G11
    have G2 := G21
    clear G21
    have KG := KG1
    clear KG1
    have b0 := K0.out.cell (i := 0) rfl
    have b1 := K0.out.cell (i := 1) rfl
    have b2 := K0.out.cell (i := 2) rfl
    have b3 := K0.out.cell (i := 3) rfl
    have KW_0 := KW.out.cell (i := 0) rfl
    have KW_1 := KW.out.cell (i := 1) rfl
    have KW_2 := KW.out.cell (i := 2) rfl
    have KW_3 := KW.out.cell (i := 3) rfl
    have KX_0 := KX.out.cell (i := 0) rfl
    have KX_1 := KX.out.cell (i := 1) rfl
    have KX_2 := KX.out.cell (i := 2) rfl
    have KX_3 := KX.out.cell (i := 3) rfl
    have KG_0 := KG.out.cell (i := 0) rfl
    have KG_1 := KG.out.cell (i := 1) rfl
    have KG_2 := KG.out.cell (i := 2) rfl
    have KG_3 := KG.out.cell (i := 3) rfl
    go_wp2_with fail
    clear b0 b1 b2 b3
    clear KW_0 KW_1 KW_2 KW_3
    clear KX_0 KX_1 KX_2 KX_3
    clear KG_0 KG_1 KG_2 KG_3
    refine (MS.out _ _ _ ch_x1 ch_x2 _ x0.out x1.out x2.out).mono ?_
    rintro e u7 ⟨rfl, _, _, _, hg⟩
    have K01 := Lib.hid (hg.bk K0.out (by omega) (by omega) (by omega))
    have B2 := Lib.hid (hg.below BB.out (by omega) (by omega) (by omega))
    have W01 := Lib.hid (hg.own W0.out (by omega) (by omega) (by omega))
    have W11 := Lib.hid (hg.own W1.out (by omega) (by omega) (by omega))
    have W21 := Lib.hid (hg.own W2.out (by omega) (by omega) (by omega))
    have KW1 := Lib.hid (hg.bk KW.out (by omega) (by omega) (by omega))
    have KX1 := Lib.hid (hg.bk KX.out (by omega) (by omega) (by omega))
    have G01 := Lib.hid (hg.own G0.out (by omega) (by omega) (by omega))
    have G11 := Lib.hid (hg.own G1.out (by omega) (by omega) (by omega))
    have G21 := Lib.hid (hg.own G2.out (by omega) (by omega) (by omega))
    have KG1 := Lib.hid (hg.bk KG.out (by omega) (by omega) (by omega))
    clear hg K0 BB W0 W1 W2 KW KX G0 G1 G2 KG
    have K0 := K01
    clear K01
    have BB := B2
    clear B2
    have W0 := W01
    clear W01
    have W1 := W11
    clear W11
    have W2 := W21
    clear W21
    have KW := KW1
    clear KW1
    have KX := KX1
    clear KX1
    have G0 := G01
    clear G01
    have G1 := G11
    clear G11
    have G2 := G21
    clear G21
    have KG := KG1
    clear KG1
    clear x0
    clear x1
    clear x2
    have b0 := K0.out.cell (i := 0) rfl
    have b1 := K0.out.cell (i := 1) rfl
    have b2 := K0.out.cell (i := 2) rfl
    have b3 := K0.out.cell (i := 3) rfl
    have KW_0 := KW.out.cell (i := 0) rfl
    have KW_1 := KW.out.cell (i := 1) rfl
    have KW_2 := KW.out.cell (i := 2) rfl
    have KW_3 := KW.out.cell (i := 3) rfl
    have KX_0 := KX.out.cell (i := 0) rfl
    have KX_1 := KX.out.cell (i := 1) rfl
    have KX_2 := KX.out.cell (i := 2) rfl
    have KX_3 := KX.out.cell (i := 3) rfl
    have KG_0 := KG.out.cell (i := 0) rfl
    have KG_1 := KG.out.cell (i := 1) rfl
    have KG_2 := KG.out.cell (i := 2) rfl
    have KG_3 := KG.out.cell (i := 3) rfl
    go_wp2_with fail
    clear b0 b1 b2 b3
    clear KW_0 KW_1 KW_2 KW_3
    clear KX_0 KX_1 KX_2 KX_3
    clear KG_0 KG_1 KG_2 KG_3
    refine (EA.out _ _ _ _ _ _ _ _ _ _ _ _ _ (SR.own G0.out G1.out G2.out) (SR.own W0.out W1.out W2.out)).mono ?_
    rintro e u8 ⟨rfl, hb⟩
    have K01 := Lib.hid (K0.out.below hb)
    have B2 := Lib.hid (BB.out.trans (hb.mono BB.out.size))
    have W01 := Lib.hid (owns_below W0.out hb)
    have W11 := Lib.hid (owns_below W1.out hb)
    have W21 := Lib.hid (owns_below W2.out hb)
    have KW1 := Lib.hid (KW.out.below hb)
    have KX1 := Lib.hid (KX.out.below hb)
    have G01 := Lib.hid (owns_below G0.out hb)
    have G11 := Lib.hid (owns_below G1.out hb)
    have G21 := Lib.hid (owns_below G2.out hb)
    have KG1 := Lib.hid (KG.out.below hb)
    clear hb K0 BB W0 W1 W2 KW KX G0 G1 G2 KG
    have K0 := K01
    clear K01
    have BB := B2
    clear B2
    have W0 := W01
    clear W01
    have W1 := W11
    clear W11
    have W2 := W21
    clear W21
    have KW := KW1
    clear KW1
    have KX := KX1
    clear KX1
    have G0 := G01
    clear G01
    have G1 := G11
    clear G11
    have G2 := G21
    clear G21
    have KG := KG1
    clear KG1
    have b0 := K0.out.cell (i := 0) rfl
    have b1 := K0.out.cell (i := 1) rfl
    have b2 := K0.out.cell (i := 2) rfl
    have b3 := K0.out.cell (i := 3) rfl
    have KW_0 := KW.out.cell (i := 0) rfl
    have KW_1 := KW.out.cell (i := 1) rfl
    have KW_2 := KW.out.cell (i := 2) rfl
    have KW_3 := KW.out.cell (i := 3) rfl
    have KX_0 := KX.out.cell (i := 0) rfl
    have KX_1 := KX.out.cell (i := 1) rfl
    have KX_2 := KX.out.cell (i := 2) rfl
    have KX_3 := KX.out.cell (i := 3) rfl
    have KG_0 := KG.out.cell (i := 0) rfl
    have KG_1 := KG.out.cell (i := 1) rfl
    have KG_2 := KG.out.cell (i := 2) rfl
    have KG_3 := KG.out.cell (i := 3) rfl
    go_wp2_with fail
    clear b0 b1 b2 b3
    clear KW_0 KW_1 KW_2 KW_3
    clear KX_0 KX_1 KX_2 KX_3
    clear KG_0 KG_1 KG_2 KG_3
    refine (MR.out _ _ _ _ _ _ ch_G1 ch_G2 _ G0.out G1.out G2.out).mono ?_
    rintro e u9 ⟨rfl, m0, m1, m2, hg⟩
    have XM0 := Lib.hid m0
    have XM1 := Lib.hid m1
    have XM2 := Lib.hid m2
    clear m0 m1 m2
    have K01 := Lib.hid (hg.bk K0.out (by omega) (by omega) (by omega))
    have B2 := Lib.hid (hg.below BB.out (by omega) (by omega) (by omega))
    have W01 := Lib.hid (hg.own W0.out (by omega) (by omega) (by omega))
    have W11 := Lib.hid (hg.own W1.out (by omega) (by omega) (by omega))
    have W21 := Lib.hid (hg.own W2.out (by omega) (by omega) (by omega))
    have KW1 := Lib.hid (hg.bk KW.out (by omega) (by omega) (by omega))
    have KX1 := Lib.hid (hg.bk KX.out (by omega) (by omega) (by omega))
    have KG1 := Lib.hid (hg.bk KG.out (by omega) (by omega) (by omega))
    clear hg K0 BB W0 W1 W2 KW KX KG
    have K0 := K01
    clear K01
    have BB := B2
    clear B2
    have W0 := W01
    clear W01
    have W1 := W11
    clear W11
    have W2 := W21
    clear W21
    have KW := KW1
    clear KW1
    have KX := KX1
    clear KX1
    have KG := KG1
    clear KG1
    clear G0 G1 G2
    have G0 := XM0
    have G1 := XM1
    have G2 := XM2
    clear XM0 XM1 XM2
    have b0 := K0.out.cell (i := 0) rfl
    have b1 := K0.out.cell (i := 1) rfl
    have b2 := K0.out.cell (i := 2) rfl
    have b3 := K0.out.cell (i := 3) rfl
    have KW_0 := KW.out.cell (i := 0) rfl
    have KW_1 := KW.out.cell (i := 1) rfl
    have KW_2 := KW.out.cell (i := 2) rfl
    have KW_3 := KW.out.cell (i := 3) rfl
    have KX_0 := KX.out.cell (i := 0) rfl
    have KX_1 := KX.out.cell (i := 1) rfl
    have KX_2 := KX.out.cell (i := 2) rfl
    have KX_3 := KX.out.cell (i := 3) rfl
    have KG_0 := KG.out.cell (i := 0) rfl
    have KG_1 := KG.out.cell (i := 1) rfl
    have KG_2 := KG.out.cell (i := 2) rfl
    have KG_3 := KG.out.cell (i := 3) rfl
    go_wp2_with fail
    clear b0 b1 b2 b3
    clear KW_0 KW_1 KW_2 KW_3
    clear KX_0 KX_1 KX_2 KX_3
    clear KG_0 KG_1 KG_2 KG_3
    refine (HR.out _ _ _ _ _ _ _ (Rd.own G0.out) (Rd.own G1.out) (Rd.own G2.out)).mono ?_
    rintro e u10 ⟨rfl, hb⟩
    have K01 := Lib.hid (K0.out.below hb)
    have B2 := Lib.hid (BB.out.trans (hb.mono BB.out.size))
    have W01 := Lib.hid (owns_below W0.out hb)
    have W11 := Lib.hid (owns_below W1.out hb)
    have W21 := Lib.hid (owns_below W2.out hb)
    have KW1 := Lib.hid (KW.out.below hb)
    have KX1 := Lib.hid (KX.out.below hb)
    have G01 := Lib.hid (owns_below G0.out hb)
    have G11 := Lib.hid (owns_below G1.out hb)
    have G21 := Lib.hid (owns_below G2.out hb)
    have KG1 := Lib.hid (KG.out.below hb)
    clear hb K0 BB W0 W1 W2 KW KX G0 G1 G2 KG
    have K0 := K01
    clear K01
    have BB := B2
    clear B2
    have W0 := W01
    clear W01
    have W1 := W11
    clear W11
    have W2 := W21
    clear W21
    have KW := KW1
    clear KW1
    have KX := KX1
    clear KX1
    have G0 := G01
    clear G01
    have G1 := G11
    clear G11
    have G2 := G21
    clear G21
    have KG := KG1
    clear KG1
    have b0 := K0.out.cell (i := 0) rfl
    have b1 := K0.out.cell (i := 1) rfl
    have b2 := K0.out.cell (i := 2) rfl
    have b3 := K0.out.cell (i := 3) rfl
    have KW_0 := KW.out.cell (i := 0) rfl
    have KW_1 := KW.out.cell (i := 1) rfl
    have KW_2 := KW.out.cell (i := 2) rfl
    have KW_3 := KW.out.cell (i := 3) rfl
    have KX_0 := KX.out.cell (i := 0) rfl
    have KX_1 := KX.out.cell (i := 1) rfl
    have KX_2 := KX.out.cell (i := 2) rfl
    have KX_3 := KX.out.cell (i := 3) rfl
    have KG_0 := KG.out.cell (i := 0) rfl
    have KG_1 := KG.out.cell (i := 1) rfl
    have KG_2 := KG.out.cell (i := 2) rfl
    have KG_3 := KG.out.cell (i := 3) rfl
    go_wp2_with fail
    clear b0 b1 b2 b3
    clear KW_0 KW_1 KW_2 KW_3
    clear KX_0 KX_1 KX_2 KX_3
    clear KG_0 KG_1 KG_2 KG_3
    refine (TO.out _ (HS.out.below BB.out)).mono ?_
    rintro e u11 ⟨p0, p1, p2, rfl, o0, o1, o2, _, _, hb⟩
    have RS := Lib.hid (SR.own o0 o1 o2)
    clear o0 o1 o2
    have K01 := Lib.hid (K0.out.below hb)
    have B2 := Lib.hid (BB.out.trans (hb.mono BB.out.size))
    have W01 := Lib.hid (owns_below W0.out hb)
    have W11 := Lib.hid (owns_below W1.out hb)
    have W21 := Lib.hid (owns_below W2.out hb)
    have KW1 := Lib.hid (KW.out.below hb)
    have KX1 := Lib.hid (KX.out.below hb)
    have G01 := Lib.hid (owns_below G0.out hb)
    have G11 := Lib.hid (owns_below G1.out hb)
    have G21 := Lib.hid (owns_below G2.out hb)
    have KG1 := Lib.hid (KG.out.below hb)
    clear hb K0 BB W0 W1 W2 KW KX G0 G1 G2 KG
    have K0 := K01
    clear K01
    have BB := B2
    clear B2
    have W0 := W01
    clear W01
    have W1 := W11
    clear W11
    have W2 := W21
    clear W21
    have KW := KW1
    clear KW1
    have KX := KX1
    clear KX1
    have G0 := G01
    clear G01
    have G1 := G11
    clear G11
    have G2 := G21
    clear G21
    have KG := KG1
    clear KG1
    have b0 := K0.out.cell (i := 0) rfl
    have b1 := K0.out.cell (i := 1) rfl
    have b2 := K0.out.cell (i := 2) rfl
    have b3 := K0.out.cell (i := 3) rfl
    have KW_0 := KW.out.cell (i := 0) rfl
    have KW_1 := KW.out.cell (i := 1) rfl
    have KW_2 := KW.out.cell (i := 2) rfl
    have KW_3 := KW.out.cell (i := 3) rfl
    have KX_0 := KX.out.cell (i := 0) rfl
    have KX_1 := KX.out.cell (i := 1) rfl
    have KX_2 := KX.out.cell (i := 2) rfl
    have KX_3 := KX.out.cell (i := 3) rfl
    have KG_0 := KG.out.cell (i := 0) rfl
    have KG_1 := KG.out.cell (i := 1) rfl
    have KG_2 := KG.out.cell (i := 2) rfl
    have KG_3 := KG.out.cell (i := 3) rfl
    go_wp2_with fail
    clear b0 b1 b2 b3
    clear KW_0 KW_1 KW_2 KW_3
    clear KX_0 KX_1 KX_2 KX_3
    clear KG_0 KG_1 KG_2 KG_3
    refine (CI.out _ _ _ _ RS.out).mono ?_
    rintro e u12 ⟨gH0, dH0, gH1, dH1, gH2, dH2, rfl, o0, o1, o2, l01, l12, hb⟩
    have ch_H0 : u5.heap.size < gH0 := Nat.lt_of_lt_of_le KG.out.lt (own_at o0)
    have ch_H1 := l01
    have ch_H2 := l12
    have chw_H : w.heap.size < gH0 := Nat.lt_of_lt_of_le K0.out.lt (own_at o0)
    have XN_H0 := Lib.hid (owns_base o0 (show w.heap.size ≤ gH0 by omega))
    have XN_H1 := Lib.hid (owns_base o1 (show w.heap.size ≤ gH1 by omega))
    have XN_H2 := Lib.hid (owns_base o2 (show w.heap.size ≤ gH2 by omega))
    clear o0 o1 o2
    have K01 := Lib.hid (K0.out.below hb)
    have B2 := Lib.hid (BB.out.trans (hb.mono BB.out.size))
    have W01 := Lib.hid (owns_below W0.out hb)
    have W11 := Lib.hid (owns_below W1.out hb)
    have W21 := Lib.hid (owns_below W2.out hb)
    have KW1 := Lib.hid (KW.out.below hb)
    have KX1 := Lib.hid (KX.out.below hb)
    have G01 := Lib.hid (owns_below G0.out hb)
    have G11 := Lib.hid (owns_below G1.out hb)
    have G21 := Lib.hid (owns_below G2.out hb)
    have KG1 := Lib.hid (KG.out.below hb)
    clear hb K0 BB W0 W1 W2 KW KX G0 G1 G2 KG
    have K0 := K01
    clear K01
    have BB := B2
    clear B2
    have W0 := W01
    clear W01
    have W1 := W11
    clear W11
    have W2 := W21
    clear W21
    have KW := KW1
    clear KW1
    have KX := KX1
    clear KX1
    have G0 := G01
    clear G01
    have G1 := G11
    clear G11
    have G2 := G21
    clear G21
    have KG := KG1
    clear KG1
    have H0 := XN_H0
    clear XN_H0
    have H1 := XN_H1
    clear XN_H1
    have H2 := XN_H2
    clear XN_H2
    have hb := (Below.refl u12.heap.size u12).alloc (Nat.le_refl _) (.cells (#[.slice (some ⟨gH0, 0, none⟩) n0 dH0, .slice (some ⟨gH1, 0, none⟩) n1 dH1, .slice (some ⟨gH2, 0, none⟩) n2 dH2, .int .i64 T]) 34)
    have KHn := Lib.hid (Bk.new u12 (#[.slice (some ⟨gH0, 0, none⟩) n0 dH0, .slice (some ⟨gH1, 0, none⟩) n1 dH1, .slice (some ⟨gH2, 0, none⟩) n2 dH2, .int .i64 T]) 34)
    have ch_KH : gH2 < u12.heap.size := (own_lt H2.out)
    have K01 := Lib.hid (K0.out.below hb)
    have B2 := Lib.hid (BB.out.trans (hb.mono BB.out.size))
    have W01 := Lib.hid (owns_below W0.out hb)
    have W11 := Lib.hid (owns_below W1.out hb)
    have W21 := Lib.hid (owns_below W2.out hb)
    have KW1 := Lib.hid (KW.out.below hb)
    have KX1 := Lib.hid (KX.out.below hb)
    have G01 := Lib.hid (owns_below G0.out hb)
    have G11 := Lib.hid (owns_below G1.out hb)
    have G21 := Lib.hid (owns_below G2.out hb)
    have KG1 := Lib.hid (KG.out.below hb)
    have H01 := Lib.hid (owns_below H0.out hb)
    have H11 := Lib.hid (owns_below H1.out hb)
    have H21 := Lib.hid (owns_below H2.out hb)
    clear hb K0 BB W0 W1 W2 KW KX G0 G1 G2 KG H0 H1 H2
    have K0 := K01
    clear K01
    have BB := B2
    clear B2
    have W0 := W01
    clear W01
    have W1 := W11
    clear W11
    have W2 := W21
    clear W21
    have KW := KW1
    clear KW1
    have KX := KX1
    clear KX1
    have G0 := G01
    clear G01
    have G1 := G11
    clear G11
    have G2 := G21
    clear G21
    have KG := KG1
    clear KG1
    have H0 := H01
    clear H01
    have H1 := H11
    clear H11
    have H2 := H21
    clear H21
    have KH := KHn
    clear KHn
    have b0 := K0.out.cell (i := 0) rfl
    have b1 := K0.out.cell (i := 1) rfl
    have b2 := K0.out.cell (i := 2) rfl
    have b3 := K0.out.cell (i := 3) rfl
    have KW_0 := KW.out.cell (i := 0) rfl
    have KW_1 := KW.out.cell (i := 1) rfl
    have KW_2 := KW.out.cell (i := 2) rfl
    have KW_3 := KW.out.cell (i := 3) rfl
    have KX_0 := KX.out.cell (i := 0) rfl
    have KX_1 := KX.out.cell (i := 1) rfl
    have KX_2 := KX.out.cell (i := 2) rfl
    have KX_3 := KX.out.cell (i := 3) rfl
    have KG_0 := KG.out.cell (i := 0) rfl
    have KG_1 := KG.out.cell (i := 1) rfl
    have KG_2 := KG.out.cell (i := 2) rfl
    have KG_3 := KG.out.cell (i := 3) rfl
    have KH_0 := KH.out.cell (i := 0) rfl
    have KH_1 := KH.out.cell (i := 1) rfl
    have KH_2 := KH.out.cell (i := 2) rfl
    have KH_3 := KH.out.cell (i := 3) rfl
    clear RS
    go_wp2_with fail
    clear b0 b1 b2 b3
    clear KW_0 KW_1 KW_2 KW_3
    clear KX_0 KX_1 KX_2 KX_3
    clear KG_0 KG_1 KG_2 KG_3
    clear KH_0 KH_1 KH_2 KH_3
    refine (EA.out _ _ _ _ _ _ _ _ _ _ _ _ _ (SR.own H0.out H1.out H2.out) (SR.own W0.out W1.out W2.out)).mono ?_
    rintro e u13 ⟨rfl, hb⟩
    have K01 := Lib.hid (K0.out.below hb)
    have B2 := Lib.hid (BB.out.trans (hb.mono BB.out.size))
    have W01 := Lib.hid (owns_below W0.out hb)
    have W11 := Lib.hid (owns_below W1.out hb)
    have W21 := Lib.hid (owns_below W2.out hb)
    have KW1 := Lib.hid (KW.out.below hb)
    have KX1 := Lib.hid (KX.out.below hb)
    have G01 := Lib.hid (owns_below G0.out hb)
    have G11 := Lib.hid (owns_below G1.out hb)
    have G21 := Lib.hid (owns_below G2.out hb)
    have KG1 := Lib.hid (KG.out.below hb)
    have H01 := Lib.hid (owns_below H0.out hb)
    have H11 := Lib.hid (owns_below H1.out hb)
    have H21 := Lib.hid (owns_below H2.out hb)
    have KH1 := Lib.hid (KH.out.below hb)
    clear hb K0 BB W0 W1 W2 KW KX G0 G1 G2 KG H0 H1 H2 KH
    have K0 := K01
    clear K01
    have BB := B2
    clear B2
    have W0 := W01
    clear W01
    have W1 := W11
    clear W11
    have W2 := W21
    clear W21
    have KW := KW1
    clear KW1
    have KX := KX1
    clear KX1
    have G0 := G01
    clear G01
    have G1 := G11
    clear G11
    have G2 := G21
    clear G21
    have KG := KG1
    clear KG1
    have H0 := H01
    clear H01
    have H1 := H11
    clear H11
    have H2 := H21
    clear H21
    have KH := KH1
    clear KH1
    have b0 := K0.out.cell (i := 0) rfl
    have b1 := K0.out.cell (i := 1) rfl
    have b2 := K0.out.cell (i := 2) rfl
    have b3 := K0.out.cell (i := 3) rfl
    have KW_0 := KW.out.cell (i := 0) rfl
    have KW_1 := KW.out.cell (i := 1) rfl
    have KW_2 := KW.out.cell (i := 2) rfl
    have KW_3 := KW.out.cell (i := 3) rfl
    have KX_0 := KX.out.cell (i := 0) rfl
    have KX_1 := KX.out.cell (i := 1) rfl
    have KX_2 := KX.out.cell (i := 2) rfl
    have KX_3 := KX.out.cell (i := 3) rfl
    have KG_0 := KG.out.cell (i := 0) rfl
    have KG_1 := KG.out.cell (i := 1) rfl
    have KG_2 := KG.out.cell (i := 2) rfl
    have KG_3 := KG.out.cell (i := 3) rfl
    have KH_0 := KH.out.cell (i := 0) rfl
    have KH_1 := KH.out.cell (i := 1) rfl
    have KH_2 := KH.out.cell (i := 2) rfl
    have KH_3 := KH.out.cell (i := 3) rfl
    go_wp2_with fail
    clear b0 b1 b2 b3
    clear KW_0 KW_1 KW_2 KW_3
    clear KX_0 KX_1 KX_2 KX_3
    clear KG_0 KG_1 KG_2 KG_3
    clear KH_0 KH_1 KH_2 KH_3
    refine (HR.out _ _ _ _ _ _ _ (Rd.own G0.out) (Rd.own G1.out) (Rd.own G2.out)).mono ?_
    rintro e u14 ⟨rfl, hb⟩
    have K01 := Lib.hid (K0.out.below hb)
    have B2 := Lib.hid (BB.out.trans (hb.mono BB.out.size))
    have W01 := Lib.hid (owns_below W0.out hb)
    have W11 := Lib.hid (owns_below W1.out hb)
    have W21 := Lib.hid (owns_below W2.out hb)
    have KW1 := Lib.hid (KW.out.below hb)
    have KX1 := Lib.hid (KX.out.below hb)
    have G01 := Lib.hid (owns_below G0.out hb)
    have G11 := Lib.hid (owns_below G1.out hb)
    have G21 := Lib.hid (owns_below G2.out hb)
    have KG1 := Lib.hid (KG.out.below hb)
    have H01 := Lib.hid (owns_below H0.out hb)
    have H11 := Lib.hid (owns_below H1.out hb)
    have H21 := Lib.hid (owns_below H2.out hb)
    have KH1 := Lib.hid (KH.out.below hb)
    clear hb K0 BB W0 W1 W2 KW KX G0 G1 G2 KG H0 H1 H2 KH
    have K0 := K01
    clear K01
    have BB := B2
    clear B2
    have W0 := W01
    clear W01
    have W1 := W11
    clear W11
    have W2 := W21
    clear W21
    have KW := KW1
    clear KW1
    have KX := KX1
    clear KX1
    have G0 := G01
    clear G01
    have G1 := G11
    clear G11
    have G2 := G21
    clear G21
    have KG := KG1
    clear KG1
    have H0 := H01
    clear H01
    have H1 := H11
    clear H11
    have H2 := H21
    clear H21
    have KH := KH1
    clear KH1
    have b0 := K0.out.cell (i := 0) rfl
    have b1 := K0.out.cell (i := 1) rfl
    have b2 := K0.out.cell (i := 2) rfl
    have b3 := K0.out.cell (i := 3) rfl
    have KW_0 := KW.out.cell (i := 0) rfl
    have KW_1 := KW.out.cell (i := 1) rfl
    have KW_2 := KW.out.cell (i := 2) rfl
    have KW_3 := KW.out.cell (i := 3) rfl
    have KX_0 := KX.out.cell (i := 0) rfl
    have KX_1 := KX.out.cell (i := 1) rfl
    have KX_2 := KX.out.cell (i := 2) rfl
    have KX_3 := KX.out.cell (i := 3) rfl
    have KG_0 := KG.out.cell (i := 0) rfl
    have KG_1 := KG.out.cell (i := 1) rfl
    have KG_2 := KG.out.cell (i := 2) rfl
    have KG_3 := KG.out.cell (i := 3) rfl
    have KH_0 := KH.out.cell (i := 0) rfl
    have KH_1 := KH.out.cell (i := 1) rfl
    have KH_2 := KH.out.cell (i := 2) rfl
    have KH_3 := KH.out.cell (i := 3) rfl
    go_wp2_with fail
    go_ret
    exact ⟨rfl, BB.out⟩

set_option maxRecDepth 100000 in
theorem lifted (os : Os) (started : os.Started) (H : Type) (enc : TypeId × Value → H) :
    ReturnsInHanded {} Tryz.checked os 4 .any (Rows.fnExactTurnShowSpec.pre6 enc Tryz.prog Tryz.f4 Rows.fnExactTurnShowRow.domain false) (Rows.fnExactTurnShowSpec.post enc Tryz.prog Tryz.f4 false true false false) := by
  refine returnsInHanded_of_change (C := Tryz.checked) own started (by kernel_rfl) Tryz.func4
    (ChangeSpec.witness6 (enc := enc) (C := Tryz.checked) false ⟨#[], #[.agg #[.slice none 0 0, .slice none 0 0, .slice none 0 0, .int .i64 0], .int .i64 0], []⟩ 8 (by kernel_rfl) (by kernel_rfl) (by kernel_rfl) (by kernel_rfl)) ?_
  intro W base args ds gs before hval0 hW hcnd hsz
  have hval : ∀ (j : Nat) t v, Tryz.f4.params[j]? = some t → args[j]? = some v → Value.okWide Tryz.prog W .any base t v := hval0
  have hW' := hW
  obtain ⟨p, q, hA0, hV, rfl, hfz, hnd⟩ := hW
  have hA1 := hA0
  have hA : DataW.TrodAll enc Tryz.prog W 0 (fun _ => true) true Tryz.f4.params.toList args.toList ds p := hA0
  rw [Tryz.params4] at hA hval
  obtain ⟨v0, vs0, d0, ds0, p0, q0, hargs, rfl, rfl, h0, r0⟩ := trodAll_cons hA
  obtain ⟨v1, vs1, d1, ds1, p1, q1, rfl, rfl, rfl, h1, r1⟩ := trodAll_cons r0
  obtain ⟨rfl, rfl, rfl⟩ := trodAll_nil r1
  obtain rfl : args = #[v0, v1] := by cases args; simp_all
  obtain ⟨rfl, rfl⟩ := trodVars_none hV
  obtain ⟨A0, n0, c0, ds, A1, n1, c1, cs, A2, n2, c2, gs, T, rfl, ⟨l0, m0⟩, ⟨l1, m1⟩, ⟨l2, m2⟩, wT, ⟨g0, z0⟩, ⟨g1, z1⟩, g2, _⟩ := Sp.take_show (hval 0 26 v0 rfl rfl) h0
  obtain ⟨a1, rfl, rfl, rfl, w1⟩ := open_int Tryz.underlying3 (hval 1 3 v1 rfl rfl) h1
  clear hA0 hval0
  rw [List.append_nil] at hW'
  refine (walk A0 n0 c0 A1 n1 c1 A2 n2 c2 T ds cs gs l0 m0 l1 m1 l2 m2 wT a1 w1 W g0 z0 g1 z1 g2).mono fun e W' ⟨he, hb⟩ => ?_
  subst he
  exact ⟨_, rfl, post_law rfl hW' hA1 laidOut (by rw [Tryz.params4]; exact of_decide_eq_true (by kernel_rfl)) 4 (by kernel_rfl) Tryz.underlying4 rfl hb⟩

theorem over : Rows.fnExactTurnShowRow.holds Tryz.pinned (OpenSpec.ofChange Rows.fnExactTurnShowSpec) :=
  OpenClaim.holds_of_wide 4 Tryz.f4 rfl rfl rfl rfl rfl rfl rfl ⟨rfl, rfl, rfl, rfl, rfl⟩ rfl rfl rfl rfl rfl (by kernel_rfl) Tryz.func4 (by kernel_rfl)
    (of_decide_eq_true (by kernel_rfl)) (by unfold Func.isWrapper; first | (rw [if_pos (by decide +kernel)]; kernel_rfl) | (rw [if_neg (by decide +kernel)]; exact ⟨rfl, rfl⟩))
    (fun os started H enc _ => lifted os started H enc)

/-- The statement. -/
theorem proved : Rows.FnExactTurnShowSaid :=
  over
#print axioms proved
end Go.Proofs.YtkndejjfndjcoaaGreat.fnExactTurnShow
