/- The law FnExactLeastBasin holds at every input. The step from the walk to the row follows the guide's own template. -/
import Derived.Test.YtejeikfgmiadhabGreatM1
import Derived.Test.YtejeikfgmiadhabGreatM8
import Derived.Test.YtejeikfgmiadhabGreatM16
import Derived.Test.YtejeikfgmiadhabGreatM18
import Derived.Test.YtejeikfgmiadhabGreatM29
import Derived.Test.YtejeikfgmiadhabGreatM30
import Derived.Test.YtejeikfgmiadhabGreatN1
import Derived.Deep.RegionHeld3
set_option linter.unusedVariables false
set_option linter.unusedSimpArgs false
namespace Go.Proofs.YtejeikfgmiadhabGreat.fnExactLeastBasin
open Go.ChangeShapes Go.WideShapes Go.ChangeAt Go.RowKit Go.WideMaps Go.WideElems Go.Proofs.YtejeikfgmiadhabGreat.Mem
open Go.ChangeMaps (open_string shut_string)
set_option linter.unusedVariables false
set_option linter.unusedSimpArgs false

theorem own : ownKnob Tryz.prog.godebug = none := by kernel_rfl
theorem laidOut : laidOutB Tryz.prog = true := by kernel_rfl

open Go.Proofs.YtejeikfgmiadhabGreat.P2 Go.Proofs.YtejeikfgmiadhabGreat.Bk Go.Proofs.YtejeikfgmiadhabGreat.Sp Go.Proofs.YtejeikfgmiadhabGreat.Sq Go.Proofs.YtejeikfgmiadhabGreat.St9 Go.Proofs.YtejeikfgmiadhabGreat.Le10
open Go.Proofs.YtejeikfgmiadhabGreat.Rw (owns_below owns_grown owns_base)
open Go.Proofs.YtejeikfgmiadhabGreat.Tb (box4)
open Go.Proofs.YtejeikfgmiadhabGreat.Pls (pls)

theorem sz_top {n0 : Nat} {ds : List D} {n1 : Nat} {cs : List C} {n2 : Nat} {R : Int} (h : szA n0 ds n1 cs n2 = R) : R ≤ 1048576 := by
  subst h
  have a := szV_le n0 ds
  have b := szW_le (Dl.szV n0 ds) n1 cs
  unfold szA
  split
  · omega
  split
  · omega
  split <;> omega
theorem szP_yes (A : Option Addr) (n c : Nat) (L : Int) (hL2 : IntKind.i64.wrap (L - (n : Int)) = L - n) (hL : wrap64 (L - (n : Int)) = L - n) (h : ¬ L - (n : Int) < 0) (w : World) :
    Calls Tryz.prog 8 #[.slice A n c, .int .i64 L] w fun e w' => e = .returned (.int .i64 (L - (n : Int))) ∧ Below w.heap.size w w' := by
  go_enter Tryz.func8, Tryz.ntmps8
  go_wp2
  go_ret
  exact ⟨rfl, Below.refl _ _⟩
theorem szP_no (A : Option Addr) (n c : Nat) (L : Int) (hL2 : IntKind.i64.wrap (L - (n : Int)) = L - n) (hL : wrap64 (L - (n : Int)) = L - n) (h : L - (n : Int) < 0) (w : World) :
    Calls Tryz.prog 8 #[.slice A n c, .int .i64 L] w fun e w' => e = .returned (.int .i64 (-1)) ∧ Below w.heap.size w w' := by
  go_enter Tryz.func8, Tryz.ntmps8
  go_wp2
  go_ret
  exact ⟨rfl, Below.refl _ _⟩

set_option maxRecDepth 100000 in
set_option maxHeartbeats 8000000 in
theorem walk (A0 : Option Addr) (n0 c0 : Nat) (A1 : Option Addr) (n1 c1 : Nat) (A2 : Option Addr) (n2 c2 : Nat) (T : Int) (ds : List D) (cs : List C) (gs : List G) (hn0 : ds.length = n0) (hm0 : n0 ≤ maxLen) (hn1 : cs.length = n1) (hm1 : n1 ≤ maxLen) (hn2 : gs.length = n2) (hm2 : n2 ≤ maxLen) (wT : (Lit.int .i64 T).wf = true) (A9 : Option Addr) (n9 c9 : Nat) (ps : List (Int × Int)) (hn9 : ps.length = n9) (hm9 : n9 ≤ maxLen) (w : World) (hr0 : Rd w w.heap.size A0 (Dd.dls ds)) (h0 : ∀ z ∈ ds, Dd.Dok z) (hr1 : Rd w w.heap.size A1 (Cd.dls cs)) (h1 : ∀ z ∈ cs, Cd.Dok z) (hr2 : Rd w w.heap.size A2 (Gs.gls gs)) (hr9 : Rd w w.heap.size A9 (pls ps)) (hw9 : ∀ z ∈ ps, (Lit.int .i64 z.1).wf = true ∧ (Lit.int .i64 z.2).wf = true) :
    Calls Tryz.prog 3 #[sv A0 n0 c0 A1 n1 c1 A2 n2 c2 T, .slice A9 n9 c9] w fun e w' => e = .returned (.bool true) ∧ Below w.heap.size w w' := by
  unfold maxLen at hm9
  clear hw9
  have hz0 : (w.alloc (.cells (sc A0 n0 c0 A1 n1 c1 A2 n2 c2 T) 26)).heap.size = w.heap.size + 1 := by simp [go_sem]
  have B0 := (Below.refl w.heap.size w).alloc (Nat.le_refl _) (.cells (sc A0 n0 c0 A1 n1 c1 A2 n2 c2 T) 26)
  have K0 := Lib.hid (Bk.new w (sc A0 n0 c0 A1 n1 c1 A2 n2 c2 T) 26)
  have SZ := Lib.hid (szShow A0 n0 c0 A1 n1 c1 A2 n2 c2 T ds cs gs (w.alloc (.cells (sc A0 n0 c0 A1 n1 c1 A2 n2 c2 T) 26)) hn0 hm0 hn1 hm1 hm2 (SR.below (show SR w A0 A1 A2 ds cs gs from ⟨hr0, hr1, hr2⟩) B0) h0 h1)
  obtain ⟨R, hR⟩ : ∃ R, szA n0 ds n1 cs n2 = R := ⟨_, rfl⟩
  by_cases hz : R < 0
  · rw [hR] at SZ
    have BB := Lib.hid B0
    clear hn0 hm0 hn1 hm1 hn2 hm2 hr0 hr1 hr2 h0 h1 hR B0 hn9 hm9 hr9 hz0
    go_enter Tryz.func3, Tryz.ntmps3

    go_wp2_with fail
    refine SZ.out.mono ?_
    rintro e w1 ⟨rfl, hb⟩
    have B2 := BB.out.trans (hb.mono BB.out.size)
    clear hb SZ BB
    go_wp2_with fail
    go_returns
    exact ⟨rfl, B2⟩
  have hfit := sz_fit (n0 := n0) (ds := ds) (n1 := n1) (cs := cs) (n2 := n2) (by rw [hR]; exact hz)
  have hRu : R ≤ 1048576 := sz_top hR
  rw [hR] at SZ
  clear hR
  have hsz : ∀ z ∈ ds, z.nm.size ≤ 1048576 ∧ z.ln.size ≤ 1048576 := fun z hm => by
    obtain ⟨k, hk, rfl⟩ := List.getElem_of_mem hm
    have h1 := Dl.bulk_take (List.getElem?_eq_getElem hk)
    have h2 := Dl.bulk_le ds (k + 1)
    omega
  have hsc : ∀ z ∈ cs, z.nm.size ≤ 1048576 := fun z hm => by
    obtain ⟨k, hk, rfl⟩ := List.getElem_of_mem hm
    have h1 := Cl.bulk_take (List.getElem?_eq_getElem hk)
    have h2 := Cl.bulk_le cs (k + 1)
    omega
  have HF := Lib.hid (show Fit n0 n1 n2 ds cs gs from ⟨⟨hn0, by omega⟩, ⟨hn1, by omega⟩, hn2, by omega⟩)
  have HS := Lib.hid (show SR w A0 A1 A2 ds cs gs from ⟨hr0, hr1, hr2⟩)
  have hL9 : wrap64 (R - (n9 : Int)) = R - n9 := IntWalk.wrap64_in _ (by omega)
  have hL8 : IntKind.i64.wrap (R - (n9 : Int)) = R - n9 := IntWalk.i64_in _ (by omega)
  have HF9 := HF.out
  by_cases hz9 : R - (n9 : Int) < 0
  · have BB := Lib.hid B0
    have SP := Lib.hid (fun (W : World) => szP_no A9 n9 c9 R hL8 hL9 hz9 W)
    clear hn0 hm0 hn1 hm1 hn2 hm2 hr0 hr1 hr2 h0 h1 B0 hfit hsz hsc hn9 hm9 hr9 hz0 HF HS HF9 hL9 hL8 hRu K0
    have K0 := Lib.hid (Bk.new w (sc A0 n0 c0 A1 n1 c1 A2 n2 c2 T) 26)
    go_enter Tryz.func3, Tryz.ntmps3
    go_wp2_with fail
    refine SZ.out.mono ?_
    rintro e w1 ⟨rfl, hb⟩
    have B2 := Lib.hid (BB.out.trans (hb.mono BB.out.size))
    clear hb SZ BB
    go_wp2_with fail
    refine (SP.out _).mono ?_
    rintro e w2 ⟨rfl, hb⟩
    have B3 := B2.out.trans (hb.mono B2.out.size)
    clear hb SP B2
    go_wp2_with fail
    go_returns
    exact ⟨rfl, B3⟩
  have SP := Lib.hid (fun (W : World) => szP_yes A9 n9 c9 R hL8 hL9 hz9 W)
  have HN9 := Lib.hid (show ps.length = n9 ∧ n9 ≤ 1048576 from ⟨hn9, by omega⟩)
  have HR9 := Lib.hid hr9
  have TO := Lib.hid (fun (W : World) (h : SR W A0 A1 A2 ds cs gs) => toShow A0 n0 c0 A1 n1 c1 A2 n2 c2 T ds cs gs W HF.out h)
  have EQW := Lib.hid (fun (g0 g1 g2 k0 k1 k2 : Nat) (W : World) (h : SR W (some ⟨g0, 0, none⟩) (some ⟨g1, 0, none⟩) (some ⟨g2, 0, none⟩) ds cs gs) (k : SR W (some ⟨k0, 0, none⟩) (some ⟨k1, 0, none⟩) (some ⟨k2, 0, none⟩) ds cs gs) => eqShow (some ⟨g0, 0, none⟩) n0 n0 (some ⟨g1, 0, none⟩) n1 n1 (some ⟨g2, 0, none⟩) n2 n2 T (some ⟨k0, 0, none⟩) n0 (some ⟨k1, 0, none⟩) n1 (some ⟨k2, 0, none⟩) n2 ds cs gs W HF.out h k)
  obtain ⟨⟨q1, q2, q3, q4⟩, hq⟩ : ∃ q, leQ ds cs gs T ps = q := ⟨_, rfl⟩
  obtain ⟨r, hrr⟩ : ∃ r : Bool, leB ds cs gs T ps = r := ⟨_, rfl⟩
  have CS := Lib.hid (show ∀ (g0 g1 g2 g9 : Nat) (W : World) (h : SR W (some ⟨g0, 0, none⟩) (some ⟨g1, 0, none⟩) (some ⟨g2, 0, none⟩) ds cs gs) (h9 : Rd W W.heap.size (some ⟨g9, 0, none⟩) (pls ps)), Calls Tryz.prog 9 #[sv (some ⟨g0, 0, none⟩) n0 n0 (some ⟨g1, 0, none⟩) n1 n1 (some ⟨g2, 0, none⟩) n2 n2 T, .slice (some ⟨g9, 0, none⟩) n9 n9] W (fun e w' => e = .returned (.tuple #[box4 q1 q2 q3 q4, .bool r]) ∧ Below W.heap.size W w') from fun g0 g1 g2 g9 W h h9 => by have := leastS _ n0 n0 _ n1 n1 _ n2 n2 T ds cs gs _ n9 n9 ps W HF.out h HN9.out.1 HN9.out.2 h9 hsz hsc; rw [hq, hrr] at this; unfold Bo.bq at this; exact this)
  have CI := Lib.hid (show ∀ (g0 g1 g2 g9 : Nat) (W : World) (h : SR W (some ⟨g0, 0, none⟩) (some ⟨g1, 0, none⟩) (some ⟨g2, 0, none⟩) ds cs gs) (h9 : Rd W W.heap.size (some ⟨g9, 0, none⟩) (pls ps)), Calls Tryz.prog 12 #[sv (some ⟨g0, 0, none⟩) n0 n0 (some ⟨g1, 0, none⟩) n1 n1 (some ⟨g2, 0, none⟩) n2 n2 T, .slice (some ⟨g9, 0, none⟩) n9 n9] W (fun e w' => e = .returned (.tuple #[box4 q1 q2 q3 q4, .bool r]) ∧ Below W.heap.size W w') from fun g0 g1 g2 g9 W h h9 => by have := leastI _ n0 n0 _ n1 n1 _ n2 n2 T ds cs gs _ n9 n9 ps W HF.out h HN9.out.1 HN9.out.2 h9; rw [hq, hrr] at this; unfold Bo.bq at this; exact this)
  have BB := Lib.hid B0
  have hu : undef = Value.tuple #[] := rfl
  clear hn0 hm0 hn1 hm1 hn2 hm2 hr0 hr1 hr2 h0 h1 B0 hfit hsz hsc wT hq hrr hn9 hm9 hr9 hz0 HF9 hL9 hL8 hRu
  cases r
  all_goals
    go_enter Tryz.func3, Tryz.ntmps3
    have fK0_0 := K0.out.cell (i := 0) rfl
    have fK0_1 := K0.out.cell (i := 1) rfl
    have fK0_2 := K0.out.cell (i := 2) rfl
    have fK0_3 := K0.out.cell (i := 3) rfl
    go_wp2_with fail
    clear fK0_0 fK0_1 fK0_2 fK0_3
    refine (SZ.out).mono ?_
    rintro e V1 ⟨rfl, hb⟩
    have K01 := Lib.hid (K0.out.below hb)
    have B2 := Lib.hid (BB.out.trans (hb.mono BB.out.size))
    clear hb K0 BB
    have K0 := K01
    clear K01
    have BB := B2
    clear B2
    have fK0_0 := K0.out.cell (i := 0) rfl
    have fK0_1 := K0.out.cell (i := 1) rfl
    have fK0_2 := K0.out.cell (i := 2) rfl
    have fK0_3 := K0.out.cell (i := 3) rfl
    clear SZ
    go_wp2_with fail
    clear fK0_0 fK0_1 fK0_2 fK0_3
    refine (SP.out _).mono ?_
    rintro e V2 ⟨rfl, hb⟩
    have K01 := Lib.hid (K0.out.below hb)
    have B2 := Lib.hid (BB.out.trans (hb.mono BB.out.size))
    clear hb K0 BB
    have K0 := K01
    clear K01
    have BB := B2
    clear B2
    have fK0_0 := K0.out.cell (i := 0) rfl
    have fK0_1 := K0.out.cell (i := 1) rfl
    have fK0_2 := K0.out.cell (i := 2) rfl
    have fK0_3 := K0.out.cell (i := 3) rfl
    clear SP
    go_wp2_with fail
    clear fK0_0 fK0_1 fK0_2 fK0_3
    refine (TO.out _ (HS.out.below BB.out)).mono ?_
    rintro e V3 ⟨gt0, gt1, gt2, rfl, o0, o1, o2, l01, l12, hb⟩
    have XN_t0 := Lib.hid o0
    have XN_t1 := Lib.hid o1
    have XN_t2 := Lib.hid o2
    clear o0 o1 o2 l01 l12
    have K01 := Lib.hid (K0.out.below hb)
    have B2 := Lib.hid (BB.out.trans (hb.mono BB.out.size))
    clear hb K0 BB
    have K0 := K01
    clear K01
    have BB := B2
    clear B2
    have t0 := XN_t0
    clear XN_t0
    have t1 := XN_t1
    clear XN_t1
    have t2 := XN_t2
    clear XN_t2
    have fK0_0 := K0.out.cell (i := 0) rfl
    have fK0_1 := K0.out.cell (i := 1) rfl
    have fK0_2 := K0.out.cell (i := 2) rfl
    have fK0_3 := K0.out.cell (i := 3) rfl
    go_wp2_with fail
    clear fK0_0 fK0_1 fK0_2 fK0_3
    refine (Pls.toPlaceS A9 n9 c9 ps _ HN9.out.1 HN9.out.2 ((HR9.out.below BB.out).more BB.out.size)).mono ?_
    rintro e V4 ⟨gp, rfl, _, ho, hb⟩
    have XN_p := Lib.hid ho
    clear ho
    have K01 := Lib.hid (K0.out.below hb)
    have B2 := Lib.hid (BB.out.trans (hb.mono BB.out.size))
    have t0n := Lib.hid (owns_below t0.out hb)
    have t1n := Lib.hid (owns_below t1.out hb)
    have t2n := Lib.hid (owns_below t2.out hb)
    clear hb K0 BB
    clear t0 t1 t2
    have K0 := K01
    clear K01
    have BB := B2
    clear B2
    have t0 := t0n
    clear t0n
    have t1 := t1n
    clear t1n
    have t2 := t2n
    clear t2n
    have p := XN_p
    clear XN_p
    have fK0_0 := K0.out.cell (i := 0) rfl
    have fK0_1 := K0.out.cell (i := 1) rfl
    have fK0_2 := K0.out.cell (i := 2) rfl
    have fK0_3 := K0.out.cell (i := 3) rfl
    go_wp2_with fail
    clear fK0_0 fK0_1 fK0_2 fK0_3
    refine (CS.out _ _ _ _ _ (SR.own t0.out t1.out t2.out) ((Rd.own p.out))).mono ?_
    rintro e V5 ⟨rfl, hb⟩
    have K01 := Lib.hid (K0.out.below hb)
    have B2 := Lib.hid (BB.out.trans (hb.mono BB.out.size))
    have t0n := Lib.hid (owns_below t0.out hb)
    have t1n := Lib.hid (owns_below t1.out hb)
    have t2n := Lib.hid (owns_below t2.out hb)
    have pn := Lib.hid (owns_below p.out hb)
    clear hb K0 BB
    clear t0 t1 t2 p
    have K0 := K01
    clear K01
    have BB := B2
    clear B2
    have t0 := t0n
    clear t0n
    have t1 := t1n
    clear t1n
    have t2 := t2n
    clear t2n
    have p := pn
    clear pn
    clear t0
    clear t1
    clear t2
    clear p
    have hb := (Below.refl V5.heap.size V5).alloc (Nat.le_refl _) (.cells (#[.int .i64 q1, .int .i64 q2, .int .i64 q3, .int .i64 q4]) 33)
    have L0n := Lib.hid (Bk.new V5 (#[.int .i64 q1, .int .i64 q2, .int .i64 q3, .int .i64 q4]) 33)
    have K01 := Lib.hid (K0.out.below hb)
    have B2 := Lib.hid (BB.out.trans (hb.mono BB.out.size))
    clear hb K0 BB
    have K0 := K01
    clear K01
    have BB := B2
    clear B2
    have L0 := L0n
    clear L0n
    have fK0_0 := K0.out.cell (i := 0) rfl
    have fK0_1 := K0.out.cell (i := 1) rfl
    have fK0_2 := K0.out.cell (i := 2) rfl
    have fK0_3 := K0.out.cell (i := 3) rfl
    have fL0_0 := L0.out.cell (i := 0) rfl
    have fL0_1 := L0.out.cell (i := 1) rfl
    have fL0_2 := L0.out.cell (i := 2) rfl
    have fL0_3 := L0.out.cell (i := 3) rfl
    go_wp2_with fail
    clear fK0_0 fK0_1 fK0_2 fK0_3 fL0_0 fL0_1 fL0_2 fL0_3
    refine (TO.out _ (HS.out.below BB.out)).mono ?_
    rintro e V6 ⟨gv0, gv1, gv2, rfl, o0, o1, o2, l01, l12, hb⟩
    have XN_v0 := Lib.hid o0
    have XN_v1 := Lib.hid o1
    have XN_v2 := Lib.hid o2
    clear o0 o1 o2 l01 l12
    have K01 := Lib.hid (K0.out.below hb)
    have L01 := Lib.hid (L0.out.below hb)
    have B2 := Lib.hid (BB.out.trans (hb.mono BB.out.size))
    clear hb K0 L0 BB
    have K0 := K01
    clear K01
    have L0 := L01
    clear L01
    have BB := B2
    clear B2
    have v0 := XN_v0
    clear XN_v0
    have v1 := XN_v1
    clear XN_v1
    have v2 := XN_v2
    clear XN_v2
    have hb := (Below.refl V6.heap.size V6).alloc (Nat.le_refl _) (.cells (#[.slice (some ⟨gv0, 0, none⟩) n0 n0, .slice (some ⟨gv1, 0, none⟩) n1 n1, .slice (some ⟨gv2, 0, none⟩) n2 n2, .int .i64 T]) 40)
    have KXn := Lib.hid (Bk.new V6 (#[.slice (some ⟨gv0, 0, none⟩) n0 n0, .slice (some ⟨gv1, 0, none⟩) n1 n1, .slice (some ⟨gv2, 0, none⟩) n2 n2, .int .i64 T]) 40)
    have K01 := Lib.hid (K0.out.below hb)
    have L01 := Lib.hid (L0.out.below hb)
    have B2 := Lib.hid (BB.out.trans (hb.mono BB.out.size))
    have v0n := Lib.hid (owns_below v0.out hb)
    have v1n := Lib.hid (owns_below v1.out hb)
    have v2n := Lib.hid (owns_below v2.out hb)
    clear hb K0 L0 BB
    clear v0 v1 v2
    have K0 := K01
    clear K01
    have L0 := L01
    clear L01
    have BB := B2
    clear B2
    have v0 := v0n
    clear v0n
    have v1 := v1n
    clear v1n
    have v2 := v2n
    clear v2n
    have KX := KXn
    clear KXn
    have fK0_0 := K0.out.cell (i := 0) rfl
    have fK0_1 := K0.out.cell (i := 1) rfl
    have fK0_2 := K0.out.cell (i := 2) rfl
    have fK0_3 := K0.out.cell (i := 3) rfl
    have fL0_0 := L0.out.cell (i := 0) rfl
    have fL0_1 := L0.out.cell (i := 1) rfl
    have fL0_2 := L0.out.cell (i := 2) rfl
    have fL0_3 := L0.out.cell (i := 3) rfl
    have fKX_0 := KX.out.cell (i := 0) rfl
    have fKX_1 := KX.out.cell (i := 1) rfl
    have fKX_2 := KX.out.cell (i := 2) rfl
    have fKX_3 := KX.out.cell (i := 3) rfl
    go_wp2_with fail
    clear fK0_0 fK0_1 fK0_2 fK0_3 fL0_0 fL0_1 fL0_2 fL0_3 fKX_0 fKX_1 fKX_2 fKX_3
    refine (Pls.toPlaceS A9 n9 c9 ps _ HN9.out.1 HN9.out.2 ((HR9.out.below BB.out).more BB.out.size)).mono ?_
    rintro e V7 ⟨gx, rfl, _, ho, hb⟩
    have XN_x := Lib.hid ho
    clear ho
    have K01 := Lib.hid (K0.out.below hb)
    have L01 := Lib.hid (L0.out.below hb)
    have KX1 := Lib.hid (KX.out.below hb)
    have B2 := Lib.hid (BB.out.trans (hb.mono BB.out.size))
    have v0n := Lib.hid (owns_below v0.out hb)
    have v1n := Lib.hid (owns_below v1.out hb)
    have v2n := Lib.hid (owns_below v2.out hb)
    clear hb K0 L0 KX BB
    clear v0 v1 v2
    have K0 := K01
    clear K01
    have L0 := L01
    clear L01
    have KX := KX1
    clear KX1
    have BB := B2
    clear B2
    have v0 := v0n
    clear v0n
    have v1 := v1n
    clear v1n
    have v2 := v2n
    clear v2n
    have x := XN_x
    clear XN_x
    have fK0_0 := K0.out.cell (i := 0) rfl
    have fK0_1 := K0.out.cell (i := 1) rfl
    have fK0_2 := K0.out.cell (i := 2) rfl
    have fK0_3 := K0.out.cell (i := 3) rfl
    have fL0_0 := L0.out.cell (i := 0) rfl
    have fL0_1 := L0.out.cell (i := 1) rfl
    have fL0_2 := L0.out.cell (i := 2) rfl
    have fL0_3 := L0.out.cell (i := 3) rfl
    have fKX_0 := KX.out.cell (i := 0) rfl
    have fKX_1 := KX.out.cell (i := 1) rfl
    have fKX_2 := KX.out.cell (i := 2) rfl
    have fKX_3 := KX.out.cell (i := 3) rfl
    go_wp2_with fail
    clear fK0_0 fK0_1 fK0_2 fK0_3 fL0_0 fL0_1 fL0_2 fL0_3 fKX_0 fKX_1 fKX_2 fKX_3
    refine (CI.out _ _ _ _ _ (SR.own v0.out v1.out v2.out) (Rd.own x.out)).mono ?_
    rintro e V8 ⟨rfl, hb⟩
    have K01 := Lib.hid (K0.out.below hb)
    have L01 := Lib.hid (L0.out.below hb)
    have KX1 := Lib.hid (KX.out.below hb)
    have B2 := Lib.hid (BB.out.trans (hb.mono BB.out.size))
    have v0n := Lib.hid (owns_below v0.out hb)
    have v1n := Lib.hid (owns_below v1.out hb)
    have v2n := Lib.hid (owns_below v2.out hb)
    have xn := Lib.hid (owns_below x.out hb)
    clear hb K0 L0 KX BB
    clear v0 v1 v2 x
    have K0 := K01
    clear K01
    have L0 := L01
    clear L01
    have KX := KX1
    clear KX1
    have BB := B2
    clear B2
    have v0 := v0n
    clear v0n
    have v1 := v1n
    clear v1n
    have v2 := v2n
    clear v2n
    have x := xn
    clear xn
    have hb := (Below.refl V8.heap.size V8).alloc (Nat.le_refl _) (.cells (#[.int .i64 q1, .int .i64 q2, .int .i64 q3, .int .i64 q4]) 33)
    have L1n := Lib.hid (Bk.new V8 (#[.int .i64 q1, .int .i64 q2, .int .i64 q3, .int .i64 q4]) 33)
    have K01 := Lib.hid (K0.out.below hb)
    have L01 := Lib.hid (L0.out.below hb)
    have KX1 := Lib.hid (KX.out.below hb)
    have B2 := Lib.hid (BB.out.trans (hb.mono BB.out.size))
    have v0n := Lib.hid (owns_below v0.out hb)
    have v1n := Lib.hid (owns_below v1.out hb)
    have v2n := Lib.hid (owns_below v2.out hb)
    have xn := Lib.hid (owns_below x.out hb)
    clear hb K0 L0 KX BB
    clear v0 v1 v2 x
    have K0 := K01
    clear K01
    have L0 := L01
    clear L01
    have KX := KX1
    clear KX1
    have BB := B2
    clear B2
    have v0 := v0n
    clear v0n
    have v1 := v1n
    clear v1n
    have v2 := v2n
    clear v2n
    have x := xn
    clear xn
    have L1 := L1n
    clear L1n
    have fK0_0 := K0.out.cell (i := 0) rfl
    have fK0_1 := K0.out.cell (i := 1) rfl
    have fK0_2 := K0.out.cell (i := 2) rfl
    have fK0_3 := K0.out.cell (i := 3) rfl
    have fL0_0 := L0.out.cell (i := 0) rfl
    have fL0_1 := L0.out.cell (i := 1) rfl
    have fL0_2 := L0.out.cell (i := 2) rfl
    have fL0_3 := L0.out.cell (i := 3) rfl
    have fKX_0 := KX.out.cell (i := 0) rfl
    have fKX_1 := KX.out.cell (i := 1) rfl
    have fKX_2 := KX.out.cell (i := 2) rfl
    have fKX_3 := KX.out.cell (i := 3) rfl
    have fL1_0 := L1.out.cell (i := 0) rfl
    have fL1_1 := L1.out.cell (i := 1) rfl
    have fL1_2 := L1.out.cell (i := 2) rfl
    have fL1_3 := L1.out.cell (i := 3) rfl
    go_wp2_with fail
    clear fK0_0 fK0_1 fK0_2 fK0_3 fL0_0 fL0_1 fL0_2 fL0_3 fKX_0 fKX_1 fKX_2 fKX_3 fL1_0 fL1_1 fL1_2 fL1_3
    refine (Bx.eqBox _ _ _ _ _).mono ?_
    rintro e V9 ⟨rfl, hb⟩
    have K01 := Lib.hid (K0.out.below hb)
    have L01 := Lib.hid (L0.out.below hb)
    have KX1 := Lib.hid (KX.out.below hb)
    have L11 := Lib.hid (L1.out.below hb)
    have B2 := Lib.hid (BB.out.trans (hb.mono BB.out.size))
    have v0n := Lib.hid (owns_below v0.out hb)
    have v1n := Lib.hid (owns_below v1.out hb)
    have v2n := Lib.hid (owns_below v2.out hb)
    have xn := Lib.hid (owns_below x.out hb)
    clear hb K0 L0 KX L1 BB
    clear v0 v1 v2 x
    have K0 := K01
    clear K01
    have L0 := L01
    clear L01
    have KX := KX1
    clear KX1
    have L1 := L11
    clear L11
    have BB := B2
    clear B2
    have v0 := v0n
    clear v0n
    have v1 := v1n
    clear v1n
    have v2 := v2n
    clear v2n
    have x := xn
    clear xn
    have fK0_0 := K0.out.cell (i := 0) rfl
    have fK0_1 := K0.out.cell (i := 1) rfl
    have fK0_2 := K0.out.cell (i := 2) rfl
    have fK0_3 := K0.out.cell (i := 3) rfl
    have fL0_0 := L0.out.cell (i := 0) rfl
    have fL0_1 := L0.out.cell (i := 1) rfl
    have fL0_2 := L0.out.cell (i := 2) rfl
    have fL0_3 := L0.out.cell (i := 3) rfl
    have fKX_0 := KX.out.cell (i := 0) rfl
    have fKX_1 := KX.out.cell (i := 1) rfl
    have fKX_2 := KX.out.cell (i := 2) rfl
    have fKX_3 := KX.out.cell (i := 3) rfl
    have fL1_0 := L1.out.cell (i := 0) rfl
    have fL1_1 := L1.out.cell (i := 1) rfl
    have fL1_2 := L1.out.cell (i := 2) rfl
    have fL1_3 := L1.out.cell (i := 3) rfl
    clear fK0_0 fK0_1 fK0_2 fK0_3 fL0_0 fL0_1 fL0_2 fL0_3 fKX_0 fKX_1 fKX_2 fKX_3 fL1_0 fL1_1 fL1_2 fL1_3
    clear L0
    clear L1
    have fK0_0 := K0.out.cell (i := 0) rfl
    have fK0_1 := K0.out.cell (i := 1) rfl
    have fK0_2 := K0.out.cell (i := 2) rfl
    have fK0_3 := K0.out.cell (i := 3) rfl
    have fKX_0 := KX.out.cell (i := 0) rfl
    have fKX_1 := KX.out.cell (i := 1) rfl
    have fKX_2 := KX.out.cell (i := 2) rfl
    have fKX_3 := KX.out.cell (i := 3) rfl
    go_wp2_with fail
    refine wp_region_noPanic ?_
    refine wp_region_held_drew (S := (fun w' => w'.cell? ⟨w.heap.size, 0, none⟩ = some (.slice A0 n0 c0) ∧ w'.cell? ⟨w.heap.size, 1, none⟩ = some (.slice A1 n1 c1) ∧ w'.cell? ⟨w.heap.size, 2, none⟩ = some (.slice A2 n2 c2) ∧ w'.cell? ⟨w.heap.size, 3, none⟩ = some (.int .i64 T) ∧ w'.cell? ⟨V6.heap.size, 0, none⟩ = some (.slice (some ⟨gv0, 0, none⟩) n0 n0) ∧ w'.cell? ⟨V6.heap.size, 1, none⟩ = some (.slice (some ⟨gv1, 0, none⟩) n1 n1) ∧ w'.cell? ⟨V6.heap.size, 2, none⟩ = some (.slice (some ⟨gv2, 0, none⟩) n2 n2) ∧ w'.cell? ⟨V6.heap.size, 3, none⟩ = some (.int .i64 T) ∧ Below V9.heap.size V9 w')) (by kernel_rfl) ?_ (fun hH => ?_)
    · exact ⟨fK0_0, fK0_1, fK0_2, fK0_3, fKX_0, fKX_1, fKX_2, fKX_3, (Below.refl _ _).drew⟩
    refine wpAnyH_take (i := 0) (oi := { dst := some 49, op := _, type := _, pos := _, after := _, guard := _ }) (v := ?_) rfl (by kernel_rfl) (by kernel_rfl) (by kernel_rfl) (fun _ _ _ h => h) (Or.inl ⟨by rfl, ?_⟩) hH ?_
    rotate_left 1
    · intro W hSw
      (try dsimp only at hSw)
      go_simp
      (try with_reducible rfl)
    try simp only [Act.put, List.setIfInBounds_toArray, List.set_cons_zero, List.set_cons_succ]
    refine wpAnyH_take (i := 1) (oi := { dst := some 50, op := _, type := _, pos := _, after := _, guard := _ }) (v := ?_) rfl (by kernel_rfl) (by kernel_rfl) (by kernel_rfl) (fun _ _ _ h => h) (Or.inl ⟨by rfl, ?_⟩) hH ?_
    rotate_left 1
    · intro W hSw
      (try dsimp only at hSw)
      go_simp
      (try with_reducible rfl)
    try simp only [Act.put, List.setIfInBounds_toArray, List.set_cons_zero, List.set_cons_succ]
    refine wpAnyH_ready (rs := [2]) (by kernel_rfl) (by simp) (AllReadyH.cons rfl (fun K hK => ?_) AllReadyH.nil)
    go_simp
    go_at_call 10; ((with_reducible refine (TO.out _ (HS.out.below (BB.out.trans (hH.2.2.2.2.2.2.2.2.mono BB.out.size)))).mono ?_); rintro e r14_0 ⟨ya0, yb0, yc0, rfl, oa0, ob0, oc0, _, _, hb0⟩); go_wp2_with fail
    refine hK.out _ _ ?_ (fun hG => ?_)
    · exact ⟨cell_below hb0 hH.1, cell_below hb0 hH.2.1, cell_below hb0 hH.2.2.1, cell_below hb0 hH.2.2.2.1, cell_below hb0 hH.2.2.2.2.1, cell_below hb0 hH.2.2.2.2.2.1, cell_below hb0 hH.2.2.2.2.2.2.1, cell_below hb0 hH.2.2.2.2.2.2.2.1, hH.2.2.2.2.2.2.2.2.trans (hb0.mono hH.2.2.2.2.2.2.2.2.size)⟩
    replace hH := hG
    clear hK K hG
    try simp only [Act.put, List.setIfInBounds_toArray, List.set_cons_zero, List.set_cons_succ]
    refine wpAnyH_ready (rs := [3]) (by kernel_rfl) (by simp) (AllReadyH.cons rfl (fun K hK => ?_) AllReadyH.nil)
    go_simp
    go_at_call 14; ((with_reducible refine (EQW.out _ _ _ _ _ _ _ ((SR.own v0.out v1.out v2.out).below hH.2.2.2.2.2.2.2.2) (SR.own oa0 ob0 oc0)).mono ?_); rintro e r14_1 ⟨rfl, hb1⟩); go_wp2_with fail
    refine hK.out _ _ ?_ (fun hG => ?_)
    · exact ⟨cell_below hb1 hH.1, cell_below hb1 hH.2.1, cell_below hb1 hH.2.2.1, cell_below hb1 hH.2.2.2.1, cell_below hb1 hH.2.2.2.2.1, cell_below hb1 hH.2.2.2.2.2.1, cell_below hb1 hH.2.2.2.2.2.2.1, cell_below hb1 hH.2.2.2.2.2.2.2.1, hH.2.2.2.2.2.2.2.2.trans (hb1.mono hH.2.2.2.2.2.2.2.2.size)⟩
    replace hH := hG
    clear hK K hG
    try simp only [Act.put, List.setIfInBounds_toArray, List.set_cons_zero, List.set_cons_succ]
    refine wpAnyH_take (i := 4) (oi := { dst := some 53, op := _, type := _, pos := _, after := _, guard := _ }) (v := ?_) rfl (by kernel_rfl) (by kernel_rfl) (by kernel_rfl) (fun _ _ _ h => h) (Or.inl ⟨by rfl, ?_⟩) hH ?_
    rotate_left 1
    · intro W hSw
      (try dsimp only at hSw)
      go_simp
      (try with_reducible rfl)
    try simp only [Act.put, List.setIfInBounds_toArray, List.set_cons_zero, List.set_cons_succ]
    refine wpAnyH_done (by kernel_rfl) ?_ _
    refine NoPanic.normal ?_
    have hb := hH.2.2.2.2.2.2.2.2
    clear hH hb0 oa0 ob0 oc0 hb1
    clear fK0_0 fK0_1 fK0_2 fK0_3 fKX_0 fKX_1 fKX_2 fKX_3
    have K01 := Lib.hid (K0.out.below hb)
    have KX1 := Lib.hid (KX.out.below hb)
    have B2 := Lib.hid (BB.out.trans (hb.mono BB.out.size))
    have v0n := Lib.hid (owns_below v0.out hb)
    have v1n := Lib.hid (owns_below v1.out hb)
    have v2n := Lib.hid (owns_below v2.out hb)
    have xn := Lib.hid (owns_below x.out hb)
    clear hb K0 KX BB
    clear v0 v1 v2 x
    have K0 := K01
    clear K01
    have KX := KX1
    clear KX1
    have BB := B2
    clear B2
    have v0 := v0n
    clear v0n
    have v1 := v1n
    clear v1n
    have v2 := v2n
    clear v2n
    have x := xn
    clear xn
    have fK0_0 := K0.out.cell (i := 0) rfl
    have fK0_1 := K0.out.cell (i := 1) rfl
    have fK0_2 := K0.out.cell (i := 2) rfl
    have fK0_3 := K0.out.cell (i := 3) rfl
    have fKX_0 := KX.out.cell (i := 0) rfl
    have fKX_1 := KX.out.cell (i := 1) rfl
    have fKX_2 := KX.out.cell (i := 2) rfl
    have fKX_3 := KX.out.cell (i := 3) rfl
    go_wp2_with fail
    clear fK0_0 fK0_1 fK0_2 fK0_3 fKX_0 fKX_1 fKX_2 fKX_3
    refine (Pls.toPlaceS A9 n9 c9 ps _ HN9.out.1 HN9.out.2 ((HR9.out.below BB.out).more BB.out.size)).mono ?_
    rintro e V10 ⟨gy, rfl, _, ho, hb⟩
    have XN_y := Lib.hid ho
    clear ho
    have K01 := Lib.hid (K0.out.below hb)
    have KX1 := Lib.hid (KX.out.below hb)
    have B2 := Lib.hid (BB.out.trans (hb.mono BB.out.size))
    have v0n := Lib.hid (owns_below v0.out hb)
    have v1n := Lib.hid (owns_below v1.out hb)
    have v2n := Lib.hid (owns_below v2.out hb)
    have xn := Lib.hid (owns_below x.out hb)
    clear hb K0 KX BB
    clear v0 v1 v2 x
    have K0 := K01
    clear K01
    have KX := KX1
    clear KX1
    have BB := B2
    clear B2
    have v0 := v0n
    clear v0n
    have v1 := v1n
    clear v1n
    have v2 := v2n
    clear v2n
    have x := xn
    clear xn
    have y := XN_y
    clear XN_y
    have fK0_0 := K0.out.cell (i := 0) rfl
    have fK0_1 := K0.out.cell (i := 1) rfl
    have fK0_2 := K0.out.cell (i := 2) rfl
    have fK0_3 := K0.out.cell (i := 3) rfl
    have fKX_0 := KX.out.cell (i := 0) rfl
    have fKX_1 := KX.out.cell (i := 1) rfl
    have fKX_2 := KX.out.cell (i := 2) rfl
    have fKX_3 := KX.out.cell (i := 3) rfl
    go_wp2_with fail
    clear fK0_0 fK0_1 fK0_2 fK0_3 fKX_0 fKX_1 fKX_2 fKX_3
    refine (Pls.eqPlaceS _ _ n9 n9 n9 ps _ _ HN9.out.1 HN9.out.2 (Nat.le_refl _) (Rd.own x.out) (Rd.own y.out)).mono ?_
    rintro e V11 ⟨rfl, hb⟩
    have K01 := Lib.hid (K0.out.below hb)
    have KX1 := Lib.hid (KX.out.below hb)
    have B2 := Lib.hid (BB.out.trans (hb.mono BB.out.size))
    have v0n := Lib.hid (owns_below v0.out hb)
    have v1n := Lib.hid (owns_below v1.out hb)
    have v2n := Lib.hid (owns_below v2.out hb)
    have xn := Lib.hid (owns_below x.out hb)
    have yn := Lib.hid (owns_below y.out hb)
    clear hb K0 KX BB
    clear v0 v1 v2 x y
    have K0 := K01
    clear K01
    have KX := KX1
    clear KX1
    have BB := B2
    clear B2
    have v0 := v0n
    clear v0n
    have v1 := v1n
    clear v1n
    have v2 := v2n
    clear v2n
    have x := xn
    clear xn
    have y := yn
    clear yn
    have fK0_0 := K0.out.cell (i := 0) rfl
    have fK0_1 := K0.out.cell (i := 1) rfl
    have fK0_2 := K0.out.cell (i := 2) rfl
    have fK0_3 := K0.out.cell (i := 3) rfl
    have fKX_0 := KX.out.cell (i := 0) rfl
    have fKX_1 := KX.out.cell (i := 1) rfl
    have fKX_2 := KX.out.cell (i := 2) rfl
    have fKX_3 := KX.out.cell (i := 3) rfl
    go_wp2_with fail
    go_ret
    exact ⟨rfl, BB.out⟩

set_option maxRecDepth 100000 in
theorem lifted (os : Os) (started : os.Started) (H : Type) (enc : TypeId × Value → H) :
    ReturnsInHanded {} Tryz.checked os 3 .any (Rows.fnExactLeastBasinSpec.pre6 enc Tryz.prog Tryz.f3 Rows.fnExactLeastBasinRow.domain false) (Rows.fnExactLeastBasinSpec.post enc Tryz.prog Tryz.f3 false true false false) := by
  refine returnsInHanded_of_change (C := Tryz.checked) own started (by kernel_rfl) Tryz.func3
    (ChangeSpec.witness6 (enc := enc) (C := Tryz.checked) false ⟨#[], #[.agg #[.slice none 0 0, .slice none 0 0, .slice none 0 0, .int .i64 0], .slice none 0 0], []⟩ 8 (by kernel_rfl) (by kernel_rfl) (by kernel_rfl) (by kernel_rfl)) ?_
  intro W base args ds gs before hval0 hW hcnd hsz
  have hval : ∀ (j : Nat) t v, Tryz.f3.params[j]? = some t → args[j]? = some v → Value.okWide Tryz.prog W .any base t v := hval0
  have hW' := hW
  obtain ⟨p, q, hA0, hV, rfl, hfz, hnd⟩ := hW
  have hA1 := hA0
  have hA : DataW.TrodAll enc Tryz.prog W 0 (fun _ => true) true Tryz.f3.params.toList args.toList ds p := hA0
  rw [Tryz.params3] at hA hval
  obtain ⟨v0, vs0, d0, ds0, p0, q0, hargs, rfl, rfl, h0, r0⟩ := trodAll_cons hA
  obtain ⟨v1, vs1, d1, ds1, p1, q1, rfl, rfl, rfl, h1, r1⟩ := trodAll_cons r0
  obtain ⟨rfl, rfl, rfl⟩ := trodAll_nil r1
  obtain rfl : args = #[v0, v1] := by cases args; simp_all
  obtain ⟨rfl, rfl⟩ := trodVars_none hV
  obtain ⟨A0, n0, c0, ds, A1, n1, c1, cs, A2, n2, c2, gs, T, rfl, ⟨l0, m0⟩, ⟨l1, m1⟩, ⟨l2, m2⟩, wT, ⟨g0, zz0⟩, ⟨g1, zz1⟩, g2, _⟩ := Sp.take_show (hval 0 26 v0 rfl rfl) h0
  obtain ⟨A9, n9, c9, a9, rfl, l9, m9, g9, w9⟩ := Pls.take_places Tryz.underlying27 Tryz.underlying48 (by kernel_rfl) rfl rfl (by kernel_rfl) (by kernel_rfl) Tryz.underlying3 Tryz.underlying3 (hval 1 27 v1 rfl rfl) h1
  clear hA0 hval0
  rw [List.append_nil] at hW'
  refine (walk A0 n0 c0 A1 n1 c1 A2 n2 c2 T ds cs gs l0 m0 l1 m1 l2 m2 wT A9 n9 c9 a9 l9 m9 W g0 zz0 g1 zz1 g2 g9 w9).mono fun e W' ⟨he, hb⟩ => ?_
  subst he
  exact ⟨_, rfl, post_law rfl hW' hA1 laidOut (by rw [Tryz.params3]; exact of_decide_eq_true (by kernel_rfl)) 4 (by kernel_rfl) Tryz.underlying4 rfl hb⟩

theorem over : Rows.fnExactLeastBasinRow.holds Tryz.pinned (OpenSpec.ofChange Rows.fnExactLeastBasinSpec) :=
  OpenClaim.holds_of_wide 3 Tryz.f3 rfl rfl rfl rfl rfl rfl rfl ⟨rfl, rfl, rfl, rfl, rfl⟩ rfl rfl rfl rfl rfl (by kernel_rfl) Tryz.func3 (by kernel_rfl)
    (of_decide_eq_true (by kernel_rfl)) (by unfold Func.isWrapper; first | (rw [if_pos (by decide +kernel)]; kernel_rfl) | (rw [if_neg (by decide +kernel)]; exact ⟨rfl, rfl⟩))
    (fun os started H enc _ => lifted os started H enc)

/-- The statement. -/
theorem proved : Rows.FnExactLeastBasinSaid :=
  over
#print axioms proved
end Go.Proofs.YtejeikfgmiadhabGreat.fnExactLeastBasin
