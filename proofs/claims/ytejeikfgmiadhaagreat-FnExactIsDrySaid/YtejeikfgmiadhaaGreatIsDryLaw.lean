/- The law FnExactIsDry holds at every input. The step from the walk to the row follows the guide's own template. -/
import Derived.Test.YtejeikfgmiadhaaGreatM1
import Derived.Test.YtejeikfgmiadhaaGreatM5
import Derived.Test.YtejeikfgmiadhaaGreatMk9
import Derived.Test.YtejeikfgmiadhaaGreatBx
import Derived.Test.YtejeikfgmiadhaaGreatId10
import Derived.Deep.RegionHeld3
namespace Go.Proofs.YtejeikfgmiadhaaGreat.fnExactIsDry
open Go.ChangeShapes Go.WideShapes Go.ChangeAt Go.RowKit Go.WideMaps Go.WideElems Go.Proofs.YtejeikfgmiadhaaGreat.Mem
open Go.ChangeMaps (open_string shut_string)
set_option linter.unusedVariables false
set_option linter.unusedSimpArgs false

theorem own : ownKnob Tryz.prog.godebug = none := by kernel_rfl
theorem laidOut : laidOutB Tryz.prog = true := by kernel_rfl

open Go.Proofs.YtejeikfgmiadhaaGreat.P2 Go.Proofs.YtejeikfgmiadhaaGreat.Bk Go.Proofs.YtejeikfgmiadhaaGreat.Sp Go.Proofs.YtejeikfgmiadhaaGreat.Sq Go.Proofs.YtejeikfgmiadhaaGreat.St9 Go.Proofs.YtejeikfgmiadhaaGreat.Id10
open Go.Proofs.YtejeikfgmiadhaaGreat.Rw (owns_below owns_grown owns_base)

set_option maxRecDepth 100000 in
set_option maxHeartbeats 8000000 in
theorem walk (A0 : Option Addr) (n0 c0 : Nat) (A1 : Option Addr) (n1 c1 : Nat) (A2 : Option Addr) (n2 c2 : Nat) (T : Int) (ds : List D) (cs : List C) (gs : List G) (hn0 : ds.length = n0) (hm0 : n0 ≤ maxLen) (hn1 : cs.length = n1) (hm1 : n1 ≤ maxLen) (hn2 : gs.length = n2) (hm2 : n2 ≤ maxLen) (wT : (Lit.int .i64 T).wf = true) (x1 y1 z1 u1 : Int) (wx1 : (Lit.int .i64 x1).wf = true) (wy1 : (Lit.int .i64 y1).wf = true) (wz1 : (Lit.int .i64 z1).wf = true) (wu1 : (Lit.int .i64 u1).wf = true) (w : World) (hr0 : Rd w w.heap.size A0 (Dd.dls ds)) (h0 : ∀ z ∈ ds, Dd.Dok z) (hr1 : Rd w w.heap.size A1 (Cd.dls cs)) (h1 : ∀ z ∈ cs, Cd.Dok z) (hr2 : Rd w w.heap.size A2 (Gs.gls gs)) :
    Calls Tryz.prog 7 #[sv A0 n0 c0 A1 n1 c1 A2 n2 c2 T, .agg #[.int .i64 x1, .int .i64 y1, .int .i64 z1, .int .i64 u1]] w fun e w' => e = .returned (.bool true) ∧ Below w.heap.size w w' := by
  have hz09 : (w.alloc (.cells (sc A0 n0 c0 A1 n1 c1 A2 n2 c2 T) 26)).heap.size = w.heap.size + 1 := by simp [go_sem]
  have hz19 : ((w.alloc (.cells (sc A0 n0 c0 A1 n1 c1 A2 n2 c2 T) 26)).alloc (.cells #[.int .i64 x1, .int .i64 y1, .int .i64 z1, .int .i64 u1] 51)).heap.size = w.heap.size + 1 + 1 := by simp [go_sem]
  have B0_0 := (Below.refl w.heap.size w).alloc (Nat.le_refl _) (.cells (sc A0 n0 c0 A1 n1 c1 A2 n2 c2 T) 26)
  have B0_1 := B0_0.alloc B0_0.size (.cells #[.int .i64 x1, .int .i64 y1, .int .i64 z1, .int .i64 u1] 51)
  have B0 := B0_1
  have K0 := ((Bk.new w (sc A0 n0 c0 A1 n1 c1 A2 n2 c2 T) 26).alloc (o := (.cells #[.int .i64 x1, .int .i64 y1, .int .i64 z1, .int .i64 u1] 51)))
  have K0 := Lib.hid K0
  have KE1 := (Bk.new (w.alloc (.cells (sc A0 n0 c0 A1 n1 c1 A2 n2 c2 T) 26)) #[.int .i64 x1, .int .i64 y1, .int .i64 z1, .int .i64 u1] 51)
  rw [hz09] at KE1
  have KE1 := Lib.hid KE1
  have SZ := Lib.hid (szShow A0 n0 c0 A1 n1 c1 A2 n2 c2 T ds cs gs ((w.alloc (.cells (sc A0 n0 c0 A1 n1 c1 A2 n2 c2 T) 26)).alloc (.cells #[.int .i64 x1, .int .i64 y1, .int .i64 z1, .int .i64 u1] 51)) hn0 hm0 hn1 hm1 hm2 (SR.below (show SR w A0 A1 A2 ds cs gs from ⟨hr0, hr1, hr2⟩) B0) h0 h1)
  obtain ⟨R, hR⟩ : ∃ R, szA n0 ds n1 cs n2 = R := ⟨_, rfl⟩
  by_cases hz : R < 0
  · rw [hR] at SZ
    have BB := Lib.hid B0
    clear hn0 hm0 hn1 hm1 hn2 hm2 hr0 hr1 hr2 h0 h1 hR B0 B0_0 B0_1
    go_enter Tryz.func7, Tryz.ntmps7
    go_wp2_with fail
    refine SZ.out.mono ?_
    rintro e w1 ⟨rfl, hb⟩
    have B2 := BB.out.trans (hb.mono BB.out.size)
    clear hb SZ BB
    go_wp2_with fail
    go_returns
    exact ⟨rfl, B2⟩
  have hfit := sz_fit (n0 := n0) (ds := ds) (n1 := n1) (cs := cs) (n2 := n2) (by rw [hR]; exact hz)
  rw [hR] at SZ
  clear hR
  have hsz : ∀ z ∈ ds, z.nm.size ≤ 1048576 ∧ z.ln.size ≤ 1048576 := fun z hm => by
    obtain ⟨k, hk, rfl⟩ := List.getElem_of_mem hm
    have h1 := Dl.bulk_take (List.getElem?_eq_getElem hk)
    have h2 := Dl.bulk_le ds (k + 1)
    omega
  have hsc : ∀ z ∈ cs, z.nm.size ≤ 1048576 := fun z hm => by
    obtain ⟨k, hk, rfl⟩ := List.getElem_of_mem hm
    have h1 := Cl.bulk_take (List.getElem?_eq_getElem hk)
    have h2 := Cl.bulk_le cs (k + 1)
    omega
  have HF := Lib.hid (show Fit n0 n1 n2 ds cs gs from ⟨⟨hn0, by omega⟩, ⟨hn1, by omega⟩, hn2, by omega⟩)
  have HS := Lib.hid (show SR w A0 A1 A2 ds cs gs from ⟨hr0, hr1, hr2⟩)
  have TO := Lib.hid (fun (W : World) (h : SR W A0 A1 A2 ds cs gs) => toShow A0 n0 c0 A1 n1 c1 A2 n2 c2 T ds cs gs W HF.out h)
  have TB := Lib.hid (fun (W : World) => Bx.toBox x1 y1 z1 u1 W)
  have EQW := Lib.hid (fun (g0 g1 g2 k0 k1 k2 : Nat) (W : World) (h : SR W (some ⟨g0, 0, none⟩) (some ⟨g1, 0, none⟩) (some ⟨g2, 0, none⟩) ds cs gs) (k : SR W (some ⟨k0, 0, none⟩) (some ⟨k1, 0, none⟩) (some ⟨k2, 0, none⟩) ds cs gs) => eqShow (some ⟨g0, 0, none⟩) n0 n0 (some ⟨g1, 0, none⟩) n1 n1 (some ⟨g2, 0, none⟩) n2 n2 T (some ⟨k0, 0, none⟩) n0 (some ⟨k1, 0, none⟩) n1 (some ⟨k2, 0, none⟩) n2 ds cs gs W HF.out h k)
  obtain ⟨r, hrr⟩ : ∃ r : Bool, dryV ds cs gs T x1 y1 z1 u1 = r := ⟨_, rfl⟩
  have CS := Lib.hid (show ∀ (g0 g1 g2 : Nat) (W : World) (h : SR W (some ⟨g0, 0, none⟩) (some ⟨g1, 0, none⟩) (some ⟨g2, 0, none⟩) ds cs gs), Calls Tryz.prog 26 #[sv (some ⟨g0, 0, none⟩) n0 n0 (some ⟨g1, 0, none⟩) n1 n1 (some ⟨g2, 0, none⟩) n2 n2 T, .agg #[.int .i64 x1, .int .i64 y1, .int .i64 z1, .int .i64 u1]] W (fun e w' => e = .returned (.bool r) ∧ Below W.heap.size W w') from fun g0 g1 g2 W h => by have := isDryS _ n0 n0 _ n1 n1 _ n2 n2 T ds cs gs x1 y1 z1 u1 W HF.out h hsz hsc; rw [hrr] at this; exact this)
  have CI := Lib.hid (show ∀ (g0 g1 g2 : Nat) (W : World) (h : SR W (some ⟨g0, 0, none⟩) (some ⟨g1, 0, none⟩) (some ⟨g2, 0, none⟩) ds cs gs), Calls Tryz.prog 27 #[sv (some ⟨g0, 0, none⟩) n0 n0 (some ⟨g1, 0, none⟩) n1 n1 (some ⟨g2, 0, none⟩) n2 n2 T, .agg #[.int .i64 x1, .int .i64 y1, .int .i64 z1, .int .i64 u1]] W (fun e w' => e = .returned (.bool r) ∧ Below W.heap.size W w') from fun g0 g1 g2 W h => by have := isDryI _ n0 n0 _ n1 n1 _ n2 n2 T ds cs gs x1 y1 z1 u1 W HF.out h; rw [hrr] at this; exact this)
  have BB := Lib.hid B0
  have hu : undef = Value.tuple #[] := rfl
  clear hn0 hm0 hn1 hm1 hn2 hm2 hr0 hr1 hr2 h0 h1 B0 hfit hsz hsc wT hrr wx1 wy1 wz1 wu1 B0_0 B0_1 hz09 hz19
  cases r
  all_goals
    go_enter Tryz.func7, Tryz.ntmps7
    have fK0_0 := K0.out.cell (i := 0) rfl
    have fK0_1 := K0.out.cell (i := 1) rfl
    have fK0_2 := K0.out.cell (i := 2) rfl
    have fK0_3 := K0.out.cell (i := 3) rfl
    have fKE1_0 := KE1.out.cell (i := 0) rfl
    have fKE1_1 := KE1.out.cell (i := 1) rfl
    have fKE1_2 := KE1.out.cell (i := 2) rfl
    have fKE1_3 := KE1.out.cell (i := 3) rfl
    go_wp2_with fail
    clear fK0_0 fK0_1 fK0_2 fK0_3 fKE1_0 fKE1_1 fKE1_2 fKE1_3
    refine (SZ.out).mono ?_
    rintro e V1 ⟨rfl, hb⟩
    have K01 := Lib.hid (K0.out.below hb)
    have KE11 := Lib.hid (KE1.out.below hb)
    have B2 := Lib.hid (BB.out.trans (hb.mono BB.out.size))
    clear hb K0 KE1 BB
    have K0 := K01
    clear K01
    have KE1 := KE11
    clear KE11
    have BB := B2
    clear B2
    have fK0_0 := K0.out.cell (i := 0) rfl
    have fK0_1 := K0.out.cell (i := 1) rfl
    have fK0_2 := K0.out.cell (i := 2) rfl
    have fK0_3 := K0.out.cell (i := 3) rfl
    have fKE1_0 := KE1.out.cell (i := 0) rfl
    have fKE1_1 := KE1.out.cell (i := 1) rfl
    have fKE1_2 := KE1.out.cell (i := 2) rfl
    have fKE1_3 := KE1.out.cell (i := 3) rfl
    clear SZ
    go_wp2_with fail
    refine wp_region_noPanic ?_
    refine wp_region_held_drew (S := (fun w' => w'.cell? ⟨w.heap.size, 0, none⟩ = some (.slice A0 n0 c0) ∧ w'.cell? ⟨w.heap.size, 1, none⟩ = some (.slice A1 n1 c1) ∧ w'.cell? ⟨w.heap.size, 2, none⟩ = some (.slice A2 n2 c2) ∧ w'.cell? ⟨w.heap.size, 3, none⟩ = some (.int .i64 T) ∧ w'.cell? ⟨w.heap.size + 1, 0, none⟩ = some (.int .i64 x1) ∧ w'.cell? ⟨w.heap.size + 1, 1, none⟩ = some (.int .i64 y1) ∧ w'.cell? ⟨w.heap.size + 1, 2, none⟩ = some (.int .i64 z1) ∧ w'.cell? ⟨w.heap.size + 1, 3, none⟩ = some (.int .i64 u1) ∧ Below V1.heap.size V1 w')) (by kernel_rfl) ?_ (fun hH => ?_)
    · exact ⟨fK0_0, fK0_1, fK0_2, fK0_3, fKE1_0, fKE1_1, fKE1_2, fKE1_3, (Below.refl _ _).drew⟩
    refine wpAnyH_take (i := 0) (oi := { dst := some 14, op := _, type := _, pos := _, after := _, guard := _ }) (v := ?_) rfl (by kernel_rfl) (by kernel_rfl) (by kernel_rfl) (fun _ _ _ h => h) (Or.inl ⟨by rfl, ?_⟩) hH ?_
    rotate_left 1
    · intro W hSw
      (try dsimp only at hSw)
      go_simp
      (try with_reducible rfl)
    try simp only [Act.put, List.setIfInBounds_toArray, List.set_cons_zero, List.set_cons_succ]
    refine wpAnyH_take (i := 2) (oi := { dst := some 16, op := _, type := _, pos := _, after := _, guard := _ }) (v := ?_) rfl (by kernel_rfl) (by kernel_rfl) (by kernel_rfl) (fun _ _ _ h => h) (Or.inl ⟨by rfl, ?_⟩) hH ?_
    rotate_left 1
    · intro W hSw
      (try dsimp only at hSw)
      go_simp
      (try with_reducible rfl)
    try simp only [Act.put, List.setIfInBounds_toArray, List.set_cons_zero, List.set_cons_succ]
    refine wpAnyH_ready (rs := [1]) (by kernel_rfl) (by simp) (AllReadyH.cons rfl (fun K hK => ?_) AllReadyH.nil)
    go_simp
    go_at_call 10; ((with_reducible refine (TO.out _ (HS.out.below (BB.out.trans (hH.2.2.2.2.2.2.2.2.mono BB.out.size)))).mono ?_); rintro e r5_0 ⟨ya0, yb0, yc0, rfl, oa0, ob0, oc0, _, _, hb0⟩); go_wp2_with fail
    refine hK.out _ _ ?_ (fun hG => ?_)
    · exact ⟨cell_below hb0 hH.1, cell_below hb0 hH.2.1, cell_below hb0 hH.2.2.1, cell_below hb0 hH.2.2.2.1, cell_below hb0 hH.2.2.2.2.1, cell_below hb0 hH.2.2.2.2.2.1, cell_below hb0 hH.2.2.2.2.2.2.1, cell_below hb0 hH.2.2.2.2.2.2.2.1, hH.2.2.2.2.2.2.2.2.trans (hb0.mono hH.2.2.2.2.2.2.2.2.size)⟩
    replace hH := hG
    clear hK K hG
    try simp only [Act.put, List.setIfInBounds_toArray, List.set_cons_zero, List.set_cons_succ]
    refine wpAnyH_ready (rs := [3]) (by kernel_rfl) (by simp) (AllReadyH.cons rfl (fun K hK => ?_) AllReadyH.nil)
    go_simp
    go_at_call 24; ((with_reducible refine (TB.out _).mono ?_); rintro e r5_1 ⟨rfl, hb1⟩); go_wp2_with fail
    refine hK.out _ _ ?_ (fun hG => ?_)
    · exact ⟨cell_below hb1 hH.1, cell_below hb1 hH.2.1, cell_below hb1 hH.2.2.1, cell_below hb1 hH.2.2.2.1, cell_below hb1 hH.2.2.2.2.1, cell_below hb1 hH.2.2.2.2.2.1, cell_below hb1 hH.2.2.2.2.2.2.1, cell_below hb1 hH.2.2.2.2.2.2.2.1, hH.2.2.2.2.2.2.2.2.trans (hb1.mono hH.2.2.2.2.2.2.2.2.size)⟩
    replace hH := hG
    clear hK K hG
    try simp only [Act.put, List.setIfInBounds_toArray, List.set_cons_zero, List.set_cons_succ]
    refine wpAnyH_ready (rs := [4]) (by kernel_rfl) (by simp) (AllReadyH.cons rfl (fun K hK => ?_) AllReadyH.nil)
    go_simp
    go_at_call 26; ((with_reducible refine (CS.out _ _ _ _ ((SR.own oa0 ob0 oc0).below hb1)).mono ?_); rintro e r5_2 ⟨rfl, hb2⟩); go_wp2_with fail
    refine hK.out _ _ ?_ (fun hG => ?_)
    · exact ⟨cell_below hb2 hH.1, cell_below hb2 hH.2.1, cell_below hb2 hH.2.2.1, cell_below hb2 hH.2.2.2.1, cell_below hb2 hH.2.2.2.2.1, cell_below hb2 hH.2.2.2.2.2.1, cell_below hb2 hH.2.2.2.2.2.2.1, cell_below hb2 hH.2.2.2.2.2.2.2.1, hH.2.2.2.2.2.2.2.2.trans (hb2.mono hH.2.2.2.2.2.2.2.2.size)⟩
    replace hH := hG
    clear hK K hG
    try simp only [Act.put, List.setIfInBounds_toArray, List.set_cons_zero, List.set_cons_succ]
    refine wpAnyH_take (i := 5) (oi := { dst := some 6, op := _, type := _, pos := _, after := _, guard := _ }) (v := ?_) rfl (by kernel_rfl) (by kernel_rfl) (by kernel_rfl) (fun _ _ _ h => h) (Or.inl ⟨by rfl, ?_⟩) hH ?_
    rotate_left 1
    · intro W hSw
      (try dsimp only at hSw)
      go_simp
      (try with_reducible rfl)
    try simp only [Act.put, List.setIfInBounds_toArray, List.set_cons_zero, List.set_cons_succ]
    refine wpAnyH_done (by kernel_rfl) ?_ _
    refine NoPanic.normal ?_
    have hb := hH.2.2.2.2.2.2.2.2
    clear hH hb0 oa0 ob0 oc0 hb1 hb2
    clear fK0_0 fK0_1 fK0_2 fK0_3 fKE1_0 fKE1_1 fKE1_2 fKE1_3
    have K01 := Lib.hid (K0.out.below hb)
    have KE11 := Lib.hid (KE1.out.below hb)
    have B2 := Lib.hid (BB.out.trans (hb.mono BB.out.size))
    clear hb K0 KE1 BB
    have K0 := K01
    clear K01
    have KE1 := KE11
    clear KE11
    have BB := B2
    clear B2
    have fK0_0 := K0.out.cell (i := 0) rfl
    have fK0_1 := K0.out.cell (i := 1) rfl
    have fK0_2 := K0.out.cell (i := 2) rfl
    have fK0_3 := K0.out.cell (i := 3) rfl
    have fKE1_0 := KE1.out.cell (i := 0) rfl
    have fKE1_1 := KE1.out.cell (i := 1) rfl
    have fKE1_2 := KE1.out.cell (i := 2) rfl
    have fKE1_3 := KE1.out.cell (i := 3) rfl
    go_wp2_with fail
    clear fK0_0 fK0_1 fK0_2 fK0_3 fKE1_0 fKE1_1 fKE1_2 fKE1_3
    refine (TO.out _ (HS.out.below BB.out)).mono ?_
    rintro e V2 ⟨gv0, gv1, gv2, rfl, o0, o1, o2, l01, l12, hb⟩
    have ch_v0 : w.heap.size + 1 < gv0 := Nat.lt_of_lt_of_le KE1.out.lt (own_at o0)
    have ch_v1 := l01
    have ch_v2 := l12
    have XN_v0 := Lib.hid (owns_base o0 (by omega : w.heap.size ≤ gv0))
    have XN_v1 := Lib.hid (owns_base o1 (by omega : w.heap.size ≤ gv1))
    have XN_v2 := Lib.hid (owns_base o2 (by omega : w.heap.size ≤ gv2))
    have hlv := own_lt o2
    clear o0 o1 o2
    have K01 := Lib.hid (K0.out.below hb)
    have KE11 := Lib.hid (KE1.out.below hb)
    have B2 := Lib.hid (BB.out.trans (hb.mono BB.out.size))
    clear hb K0 KE1 BB
    have K0 := K01
    clear K01
    have KE1 := KE11
    clear KE11
    have BB := B2
    clear B2
    have v0 := XN_v0
    clear XN_v0
    have v1 := XN_v1
    clear XN_v1
    have v2 := XN_v2
    clear XN_v2
    have hb := (Below.refl V2.heap.size V2).alloc (Nat.le_refl _) (.cells (#[.slice (some ⟨gv0, 0, none⟩) n0 n0, .slice (some ⟨gv1, 0, none⟩) n1 n1, .slice (some ⟨gv2, 0, none⟩) n2 n2, .int .i64 T]) 34)
    have KXn := Lib.hid (Bk.new V2 (#[.slice (some ⟨gv0, 0, none⟩) n0 n0, .slice (some ⟨gv1, 0, none⟩) n1 n1, .slice (some ⟨gv2, 0, none⟩) n2 n2, .int .i64 T]) 34)
    have ch_KX : gv2 < V2.heap.size := hlv
    clear hlv
    have K01 := Lib.hid (K0.out.below hb)
    have KE11 := Lib.hid (KE1.out.below hb)
    have B2 := Lib.hid (BB.out.trans (hb.mono BB.out.size))
    have v0n := Lib.hid (owns_below v0.out hb)
    have v1n := Lib.hid (owns_below v1.out hb)
    have v2n := Lib.hid (owns_below v2.out hb)
    clear hb K0 KE1 BB
    clear v0 v1 v2
    have K0 := K01
    clear K01
    have KE1 := KE11
    clear KE11
    have BB := B2
    clear B2
    have v0 := v0n
    clear v0n
    have v1 := v1n
    clear v1n
    have v2 := v2n
    clear v2n
    have KX := KXn
    clear KXn
    have fK0_0 := K0.out.cell (i := 0) rfl
    have fK0_1 := K0.out.cell (i := 1) rfl
    have fK0_2 := K0.out.cell (i := 2) rfl
    have fK0_3 := K0.out.cell (i := 3) rfl
    have fKE1_0 := KE1.out.cell (i := 0) rfl
    have fKE1_1 := KE1.out.cell (i := 1) rfl
    have fKE1_2 := KE1.out.cell (i := 2) rfl
    have fKE1_3 := KE1.out.cell (i := 3) rfl
    have fKX_0 := KX.out.cell (i := 0) rfl
    have fKX_1 := KX.out.cell (i := 1) rfl
    have fKX_2 := KX.out.cell (i := 2) rfl
    have fKX_3 := KX.out.cell (i := 3) rfl
    go_wp2_with fail
    refine wp_region_noPanic ?_
    refine wp_region_held_drew (S := (fun w' => w'.cell? ⟨w.heap.size, 0, none⟩ = some (.slice A0 n0 c0) ∧ w'.cell? ⟨w.heap.size, 1, none⟩ = some (.slice A1 n1 c1) ∧ w'.cell? ⟨w.heap.size, 2, none⟩ = some (.slice A2 n2 c2) ∧ w'.cell? ⟨w.heap.size, 3, none⟩ = some (.int .i64 T) ∧ w'.cell? ⟨w.heap.size + 1, 0, none⟩ = some (.int .i64 x1) ∧ w'.cell? ⟨w.heap.size + 1, 1, none⟩ = some (.int .i64 y1) ∧ w'.cell? ⟨w.heap.size + 1, 2, none⟩ = some (.int .i64 z1) ∧ w'.cell? ⟨w.heap.size + 1, 3, none⟩ = some (.int .i64 u1) ∧ w'.cell? ⟨V2.heap.size, 0, none⟩ = some (.slice (some ⟨gv0, 0, none⟩) n0 n0) ∧ w'.cell? ⟨V2.heap.size, 1, none⟩ = some (.slice (some ⟨gv1, 0, none⟩) n1 n1) ∧ w'.cell? ⟨V2.heap.size, 2, none⟩ = some (.slice (some ⟨gv2, 0, none⟩) n2 n2) ∧ w'.cell? ⟨V2.heap.size, 3, none⟩ = some (.int .i64 T) ∧ Below (V2.alloc (.cells (#[.slice (some ⟨gv0, 0, none⟩) n0 n0, .slice (some ⟨gv1, 0, none⟩) n1 n1, .slice (some ⟨gv2, 0, none⟩) n2 n2, .int .i64 T]) 34)).heap.size (V2.alloc (.cells (#[.slice (some ⟨gv0, 0, none⟩) n0 n0, .slice (some ⟨gv1, 0, none⟩) n1 n1, .slice (some ⟨gv2, 0, none⟩) n2 n2, .int .i64 T]) 34)) w')) (by kernel_rfl) ?_ (fun hH => ?_)
    · exact ⟨fK0_0, fK0_1, fK0_2, fK0_3, fKE1_0, fKE1_1, fKE1_2, fKE1_3, fKX_0, fKX_1, fKX_2, fKX_3, (Below.refl _ _).drew⟩
    refine wpAnyH_take (i := 0) (oi := { dst := some 21, op := _, type := _, pos := _, after := _, guard := _ }) (v := ?_) rfl (by kernel_rfl) (by kernel_rfl) (by kernel_rfl) (fun _ _ _ h => h) (Or.inl ⟨by rfl, ?_⟩) hH ?_
    rotate_left 1
    · intro W hSw
      (try dsimp only at hSw)
      go_simp
      (try with_reducible rfl)
    try simp only [Act.put, List.setIfInBounds_toArray, List.set_cons_zero, List.set_cons_succ]
    refine wpAnyH_take (i := 1) (oi := { dst := some 22, op := _, type := _, pos := _, after := _, guard := _ }) (v := ?_) rfl (by kernel_rfl) (by kernel_rfl) (by kernel_rfl) (fun _ _ _ h => h) (Or.inl ⟨by rfl, ?_⟩) hH ?_
    rotate_left 1
    · intro W hSw
      (try dsimp only at hSw)
      go_simp
      (try with_reducible rfl)
    try simp only [Act.put, List.setIfInBounds_toArray, List.set_cons_zero, List.set_cons_succ]
    refine wpAnyH_ready (rs := [2]) (by kernel_rfl) (by simp) (AllReadyH.cons rfl (fun K hK => ?_) AllReadyH.nil)
    go_simp
    go_at_call 24; ((with_reducible refine (TB.out _).mono ?_); rintro e r7_0 ⟨rfl, hb0⟩); go_wp2_with fail
    refine hK.out _ _ ?_ (fun hG => ?_)
    · exact ⟨cell_below hb0 hH.1, cell_below hb0 hH.2.1, cell_below hb0 hH.2.2.1, cell_below hb0 hH.2.2.2.1, cell_below hb0 hH.2.2.2.2.1, cell_below hb0 hH.2.2.2.2.2.1, cell_below hb0 hH.2.2.2.2.2.2.1, cell_below hb0 hH.2.2.2.2.2.2.2.1, cell_below hb0 hH.2.2.2.2.2.2.2.2.1, cell_below hb0 hH.2.2.2.2.2.2.2.2.2.1, cell_below hb0 hH.2.2.2.2.2.2.2.2.2.2.1, cell_below hb0 hH.2.2.2.2.2.2.2.2.2.2.2.1, hH.2.2.2.2.2.2.2.2.2.2.2.2.trans (hb0.mono hH.2.2.2.2.2.2.2.2.2.2.2.2.size)⟩
    replace hH := hG
    clear hK K hG
    try simp only [Act.put, List.setIfInBounds_toArray, List.set_cons_zero, List.set_cons_succ]
    refine wpAnyH_ready (rs := [3]) (by kernel_rfl) (by simp) (AllReadyH.cons rfl (fun K hK => ?_) AllReadyH.nil)
    go_simp
    go_at_call 27; ((with_reducible refine (CI.out _ _ _ _ ((SR.own v0.out v1.out v2.out).below hH.2.2.2.2.2.2.2.2.2.2.2.2)).mono ?_); rintro e r7_1 ⟨rfl, hb1⟩); go_wp2_with fail
    refine hK.out _ _ ?_ (fun hG => ?_)
    · exact ⟨cell_below hb1 hH.1, cell_below hb1 hH.2.1, cell_below hb1 hH.2.2.1, cell_below hb1 hH.2.2.2.1, cell_below hb1 hH.2.2.2.2.1, cell_below hb1 hH.2.2.2.2.2.1, cell_below hb1 hH.2.2.2.2.2.2.1, cell_below hb1 hH.2.2.2.2.2.2.2.1, cell_below hb1 hH.2.2.2.2.2.2.2.2.1, cell_below hb1 hH.2.2.2.2.2.2.2.2.2.1, cell_below hb1 hH.2.2.2.2.2.2.2.2.2.2.1, cell_below hb1 hH.2.2.2.2.2.2.2.2.2.2.2.1, hH.2.2.2.2.2.2.2.2.2.2.2.2.trans (hb1.mono hH.2.2.2.2.2.2.2.2.2.2.2.2.size)⟩
    replace hH := hG
    clear hK K hG
    try simp only [Act.put, List.setIfInBounds_toArray, List.set_cons_zero, List.set_cons_succ]
    refine wpAnyH_take (i := 4) (oi := { dst := some 8, op := _, type := _, pos := _, after := _, guard := _ }) (v := ?_) rfl (by kernel_rfl) (by kernel_rfl) (by kernel_rfl) (fun _ _ _ h => h) (Or.inl ⟨by rfl, ?_⟩) hH ?_
    rotate_left 1
    · intro W hSw
      (try dsimp only at hSw)
      go_simp
      (try with_reducible rfl)
    try simp only [Act.put, List.setIfInBounds_toArray, List.set_cons_zero, List.set_cons_succ]
    refine wpAnyH_done (by kernel_rfl) ?_ _
    refine NoPanic.normal ?_
    have hb := hH.2.2.2.2.2.2.2.2.2.2.2.2
    clear hH hb0 hb1
    clear fK0_0 fK0_1 fK0_2 fK0_3 fKE1_0 fKE1_1 fKE1_2 fKE1_3 fKX_0 fKX_1 fKX_2 fKX_3
    have K01 := Lib.hid (K0.out.below hb)
    have KE11 := Lib.hid (KE1.out.below hb)
    have KX1 := Lib.hid (KX.out.below hb)
    have B2 := Lib.hid (BB.out.trans (hb.mono BB.out.size))
    have v0n := Lib.hid (owns_below v0.out hb)
    have v1n := Lib.hid (owns_below v1.out hb)
    have v2n := Lib.hid (owns_below v2.out hb)
    clear hb K0 KE1 KX BB
    clear v0 v1 v2
    have K0 := K01
    clear K01
    have KE1 := KE11
    clear KE11
    have KX := KX1
    clear KX1
    have BB := B2
    clear B2
    have v0 := v0n
    clear v0n
    have v1 := v1n
    clear v1n
    have v2 := v2n
    clear v2n
    have fK0_0 := K0.out.cell (i := 0) rfl
    have fK0_1 := K0.out.cell (i := 1) rfl
    have fK0_2 := K0.out.cell (i := 2) rfl
    have fK0_3 := K0.out.cell (i := 3) rfl
    have fKE1_0 := KE1.out.cell (i := 0) rfl
    have fKE1_1 := KE1.out.cell (i := 1) rfl
    have fKE1_2 := KE1.out.cell (i := 2) rfl
    have fKE1_3 := KE1.out.cell (i := 3) rfl
    have fKX_0 := KX.out.cell (i := 0) rfl
    have fKX_1 := KX.out.cell (i := 1) rfl
    have fKX_2 := KX.out.cell (i := 2) rfl
    have fKX_3 := KX.out.cell (i := 3) rfl
    go_wp2_with fail
    refine wp_region_noPanic ?_
    refine wp_region_held_drew (S := (fun w' => w'.cell? ⟨w.heap.size, 0, none⟩ = some (.slice A0 n0 c0) ∧ w'.cell? ⟨w.heap.size, 1, none⟩ = some (.slice A1 n1 c1) ∧ w'.cell? ⟨w.heap.size, 2, none⟩ = some (.slice A2 n2 c2) ∧ w'.cell? ⟨w.heap.size, 3, none⟩ = some (.int .i64 T) ∧ w'.cell? ⟨w.heap.size + 1, 0, none⟩ = some (.int .i64 x1) ∧ w'.cell? ⟨w.heap.size + 1, 1, none⟩ = some (.int .i64 y1) ∧ w'.cell? ⟨w.heap.size + 1, 2, none⟩ = some (.int .i64 z1) ∧ w'.cell? ⟨w.heap.size + 1, 3, none⟩ = some (.int .i64 u1) ∧ w'.cell? ⟨V2.heap.size, 0, none⟩ = some (.slice (some ⟨gv0, 0, none⟩) n0 n0) ∧ w'.cell? ⟨V2.heap.size, 1, none⟩ = some (.slice (some ⟨gv1, 0, none⟩) n1 n1) ∧ w'.cell? ⟨V2.heap.size, 2, none⟩ = some (.slice (some ⟨gv2, 0, none⟩) n2 n2) ∧ w'.cell? ⟨V2.heap.size, 3, none⟩ = some (.int .i64 T) ∧ Below r7_1.heap.size r7_1 w')) (by kernel_rfl) ?_ (fun hH => ?_)
    · exact ⟨fK0_0, fK0_1, fK0_2, fK0_3, fKE1_0, fKE1_1, fKE1_2, fKE1_3, fKX_0, fKX_1, fKX_2, fKX_3, (Below.refl _ _).drew⟩
    refine wpAnyH_take (i := 0) (oi := { dst := some 28, op := _, type := _, pos := _, after := _, guard := _ }) (v := ?_) rfl (by kernel_rfl) (by kernel_rfl) (by kernel_rfl) (fun _ _ _ h => h) (Or.inl ⟨by rfl, ?_⟩) hH ?_
    rotate_left 1
    · intro W hSw
      (try dsimp only at hSw)
      go_simp
      (try with_reducible rfl)
    try simp only [Act.put, List.setIfInBounds_toArray, List.set_cons_zero, List.set_cons_succ]
    refine wpAnyH_take (i := 1) (oi := { dst := some 29, op := _, type := _, pos := _, after := _, guard := _ }) (v := ?_) rfl (by kernel_rfl) (by kernel_rfl) (by kernel_rfl) (fun _ _ _ h => h) (Or.inl ⟨by rfl, ?_⟩) hH ?_
    rotate_left 1
    · intro W hSw
      (try dsimp only at hSw)
      go_simp
      (try with_reducible rfl)
    try simp only [Act.put, List.setIfInBounds_toArray, List.set_cons_zero, List.set_cons_succ]
    refine wpAnyH_ready (rs := [2]) (by kernel_rfl) (by simp) (AllReadyH.cons rfl (fun K hK => ?_) AllReadyH.nil)
    go_simp
    go_at_call 10; ((with_reducible refine (TO.out _ (HS.out.below (BB.out.trans (hH.2.2.2.2.2.2.2.2.2.2.2.2.mono BB.out.size)))).mono ?_); rintro e r10_0 ⟨ya0, yb0, yc0, rfl, oa0, ob0, oc0, _, _, hb0⟩); go_wp2_with fail
    refine hK.out _ _ ?_ (fun hG => ?_)
    · exact ⟨cell_below hb0 hH.1, cell_below hb0 hH.2.1, cell_below hb0 hH.2.2.1, cell_below hb0 hH.2.2.2.1, cell_below hb0 hH.2.2.2.2.1, cell_below hb0 hH.2.2.2.2.2.1, cell_below hb0 hH.2.2.2.2.2.2.1, cell_below hb0 hH.2.2.2.2.2.2.2.1, cell_below hb0 hH.2.2.2.2.2.2.2.2.1, cell_below hb0 hH.2.2.2.2.2.2.2.2.2.1, cell_below hb0 hH.2.2.2.2.2.2.2.2.2.2.1, cell_below hb0 hH.2.2.2.2.2.2.2.2.2.2.2.1, hH.2.2.2.2.2.2.2.2.2.2.2.2.trans (hb0.mono hH.2.2.2.2.2.2.2.2.2.2.2.2.size)⟩
    replace hH := hG
    clear hK K hG
    try simp only [Act.put, List.setIfInBounds_toArray, List.set_cons_zero, List.set_cons_succ]
    refine wpAnyH_ready (rs := [3]) (by kernel_rfl) (by simp) (AllReadyH.cons rfl (fun K hK => ?_) AllReadyH.nil)
    go_simp
    go_at_call 13; ((with_reducible refine (EQW.out _ _ _ _ _ _ _ ((SR.own v0.out v1.out v2.out).below hH.2.2.2.2.2.2.2.2.2.2.2.2) (SR.own oa0 ob0 oc0)).mono ?_); rintro e r10_1 ⟨rfl, hb1⟩); go_wp2_with fail
    refine hK.out _ _ ?_ (fun hG => ?_)
    · exact ⟨cell_below hb1 hH.1, cell_below hb1 hH.2.1, cell_below hb1 hH.2.2.1, cell_below hb1 hH.2.2.2.1, cell_below hb1 hH.2.2.2.2.1, cell_below hb1 hH.2.2.2.2.2.1, cell_below hb1 hH.2.2.2.2.2.2.1, cell_below hb1 hH.2.2.2.2.2.2.2.1, cell_below hb1 hH.2.2.2.2.2.2.2.2.1, cell_below hb1 hH.2.2.2.2.2.2.2.2.2.1, cell_below hb1 hH.2.2.2.2.2.2.2.2.2.2.1, cell_below hb1 hH.2.2.2.2.2.2.2.2.2.2.2.1, hH.2.2.2.2.2.2.2.2.2.2.2.2.trans (hb1.mono hH.2.2.2.2.2.2.2.2.2.2.2.2.size)⟩
    replace hH := hG
    clear hK K hG
    try simp only [Act.put, List.setIfInBounds_toArray, List.set_cons_zero, List.set_cons_succ]
    refine wpAnyH_take (i := 4) (oi := { dst := some 32, op := _, type := _, pos := _, after := _, guard := _ }) (v := ?_) rfl (by kernel_rfl) (by kernel_rfl) (by kernel_rfl) (fun _ _ _ h => h) (Or.inl ⟨by rfl, ?_⟩) hH ?_
    rotate_left 1
    · intro W hSw
      (try dsimp only at hSw)
      go_simp
      (try with_reducible rfl)
    try simp only [Act.put, List.setIfInBounds_toArray, List.set_cons_zero, List.set_cons_succ]
    refine wpAnyH_done (by kernel_rfl) ?_ _
    refine NoPanic.normal ?_
    have hb := hH.2.2.2.2.2.2.2.2.2.2.2.2
    clear hH hb0 oa0 ob0 oc0 hb1
    clear fK0_0 fK0_1 fK0_2 fK0_3 fKE1_0 fKE1_1 fKE1_2 fKE1_3 fKX_0 fKX_1 fKX_2 fKX_3
    have K01 := Lib.hid (K0.out.below hb)
    have KE11 := Lib.hid (KE1.out.below hb)
    have KX1 := Lib.hid (KX.out.below hb)
    have B2 := Lib.hid (BB.out.trans (hb.mono BB.out.size))
    have v0n := Lib.hid (owns_below v0.out hb)
    have v1n := Lib.hid (owns_below v1.out hb)
    have v2n := Lib.hid (owns_below v2.out hb)
    clear hb K0 KE1 KX BB
    clear v0 v1 v2
    have K0 := K01
    clear K01
    have KE1 := KE11
    clear KE11
    have KX := KX1
    clear KX1
    have BB := B2
    clear B2
    have v0 := v0n
    clear v0n
    have v1 := v1n
    clear v1n
    have v2 := v2n
    clear v2n
    have fK0_0 := K0.out.cell (i := 0) rfl
    have fK0_1 := K0.out.cell (i := 1) rfl
    have fK0_2 := K0.out.cell (i := 2) rfl
    have fK0_3 := K0.out.cell (i := 3) rfl
    have fKE1_0 := KE1.out.cell (i := 0) rfl
    have fKE1_1 := KE1.out.cell (i := 1) rfl
    have fKE1_2 := KE1.out.cell (i := 2) rfl
    have fKE1_3 := KE1.out.cell (i := 3) rfl
    have fKX_0 := KX.out.cell (i := 0) rfl
    have fKX_1 := KX.out.cell (i := 1) rfl
    have fKX_2 := KX.out.cell (i := 2) rfl
    have fKX_3 := KX.out.cell (i := 3) rfl
    go_wp2_with fail
    go_ret
    exact ⟨rfl, BB.out⟩

set_option maxRecDepth 100000 in
theorem lifted (os : Os) (started : os.Started) (H : Type) (enc : TypeId × Value → H) :
    ReturnsInHanded {} Tryz.checked os 7 .any (Rows.fnExactIsDrySpec.pre6 enc Tryz.prog Tryz.f7 Rows.fnExactIsDryRow.domain false) (Rows.fnExactIsDrySpec.post enc Tryz.prog Tryz.f7 false true false false) := by
  refine returnsInHanded_of_change (C := Tryz.checked) own started (by kernel_rfl) Tryz.func7
    (ChangeSpec.witness6 (enc := enc) (C := Tryz.checked) false ⟨#[], #[.agg #[.slice none 0 0, .slice none 0 0, .slice none 0 0, .int .i64 0], .agg #[.int .i64 0, .int .i64 0, .int .i64 0, .int .i64 0]], []⟩ 8 (by kernel_rfl) (by kernel_rfl) (by kernel_rfl) (by kernel_rfl)) ?_
  intro W base args ds gs before hval0 hW hcnd hsz
  have hval : ∀ (j : Nat) t v, Tryz.f7.params[j]? = some t → args[j]? = some v → Value.okWide Tryz.prog W .any base t v := hval0
  have hW' := hW
  obtain ⟨p, q, hA0, hV, rfl, hfz, hnd⟩ := hW
  have hA1 := hA0
  have hA : DataW.TrodAll enc Tryz.prog W 0 (fun _ => true) true Tryz.f7.params.toList args.toList ds p := hA0
  rw [Tryz.params7] at hA hval
  obtain ⟨v0, vs0, d0, ds0, p0, q0, hargs, rfl, rfl, h0, r0⟩ := trodAll_cons hA
  obtain ⟨v1, vs1, d1, ds1, p1, q1, rfl, rfl, rfl, h1, r1⟩ := trodAll_cons r0
  obtain ⟨rfl, rfl, rfl⟩ := trodAll_nil r1
  obtain rfl : args = #[v0, v1] := by cases args; simp_all
  obtain ⟨rfl, rfl⟩ := trodVars_none hV
  obtain ⟨A0, n0, c0, ds, A1, n1, c1, cs, A2, n2, c2, gs, T, rfl, ⟨l0, m0⟩, ⟨l1, m1⟩, ⟨l2, m2⟩, wT, ⟨g0, zz0⟩, ⟨g1, zz1⟩, g2, _⟩ := Sp.take_show (hval 0 26 v0 rfl rfl) h0
  obtain ⟨x1, y1, z1, u1, rfl, wx1, wy1, wz1, wu1⟩ := Str.take_box Tryz.underlying51 (by kernel_rfl) rfl rfl rfl rfl Tryz.underlying44 (by kernel_rfl) (by kernel_rfl) Tryz.underlying3 Tryz.underlying3 (hval 1 51 v1 rfl rfl) h1
  clear hA0 hval0
  rw [List.append_nil] at hW'
  refine (walk A0 n0 c0 A1 n1 c1 A2 n2 c2 T ds cs gs l0 m0 l1 m1 l2 m2 wT x1 y1 z1 u1 wx1 wy1 wz1 wu1 W g0 zz0 g1 zz1 g2).mono fun e W' ⟨he, hb⟩ => ?_
  subst he
  exact ⟨_, rfl, post_law rfl hW' hA1 laidOut (by rw [Tryz.params7]; exact of_decide_eq_true (by kernel_rfl)) 4 (by kernel_rfl) Tryz.underlying4 rfl hb⟩

theorem over : Rows.fnExactIsDryRow.holds Tryz.pinned (OpenSpec.ofChange Rows.fnExactIsDrySpec) :=
  OpenClaim.holds_of_wide 7 Tryz.f7 rfl rfl rfl rfl rfl rfl rfl ⟨rfl, rfl, rfl, rfl, rfl⟩ rfl rfl rfl rfl rfl (by kernel_rfl) Tryz.func7 (by kernel_rfl)
    (of_decide_eq_true (by kernel_rfl)) (by unfold Func.isWrapper; first | (rw [if_pos (by decide +kernel)]; kernel_rfl) | (rw [if_neg (by decide +kernel)]; exact ⟨rfl, rfl⟩))
    (fun os started H enc _ => lifted os started H enc)

/-- The statement. -/
theorem proved : Rows.FnExactIsDrySaid :=
  over
#print axioms proved
end Go.Proofs.YtejeikfgmiadhaaGreat.fnExactIsDry
