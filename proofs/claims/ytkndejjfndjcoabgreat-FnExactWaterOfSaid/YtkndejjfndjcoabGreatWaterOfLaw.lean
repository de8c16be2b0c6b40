/- The law FnExactWaterOf holds at every input. The step from the walk to the row follows the guide's own template. -/
import Derived.Test.YtkndejjfndjcoabGreatM1
import Derived.Test.YtkndejjfndjcoabGreatM8
import Derived.Test.YtkndejjfndjcoabGreatTc9
import Derived.Deep.RegionHeld3
namespace Go.Proofs.YtkndejjfndjcoabGreat.fnExactWaterOf
open Go.ChangeShapes Go.WideShapes Go.ChangeAt Go.RowKit Go.WideMaps Go.WideElems Go.Proofs.YtkndejjfndjcoabGreat.Mem
open Go.ChangeMaps (open_string shut_string)
set_option linter.unusedVariables false
set_option linter.unusedSimpArgs false

theorem own : ownKnob Tryz.prog.godebug = none := by kernel_rfl
theorem laidOut : laidOutB Tryz.prog = true := by kernel_rfl

open Go.Proofs.YtkndejjfndjcoabGreat.P2 Go.Proofs.YtkndejjfndjcoabGreat.Bk Go.Proofs.YtkndejjfndjcoabGreat.Sp Go.Proofs.YtkndejjfndjcoabGreat.Sq Go.Proofs.YtkndejjfndjcoabGreat.St9 Go.Proofs.YtkndejjfndjcoabGreat.Tn9 Go.Proofs.YtkndejjfndjcoabGreat.Tc9
open Go.Proofs.YtkndejjfndjcoabGreat.Sv hiding D C G
open Go.Proofs.YtkndejjfndjcoabGreat.Rw (owns_below owns_grown owns_base)

set_option maxRecDepth 100000 in
set_option maxHeartbeats 4000000 in
theorem walk (A0 : Option Addr) (n0 c0 : Nat) (A1 : Option Addr) (n1 c1 : Nat) (A2 : Option Addr) (n2 c2 : Nat) (T : Int) (ds : List D) (cs : List C) (gs : List G) (hn0 : ds.length = n0) (hm0 : n0 ≤ maxLen) (hn1 : cs.length = n1) (hm1 : n1 ≤ maxLen) (hn2 : gs.length = n2) (hm2 : n2 ≤ maxLen) (wT : (Lit.int .i64 T).wf = true) (w : World) (hr0 : Rd w w.heap.size A0 (Dd.dls ds)) (h0 : ∀ z ∈ ds, Dd.Dok z) (hr1 : Rd w w.heap.size A1 (Cd.dls cs)) (h1 : ∀ z ∈ cs, Cd.Dok z) (hr2 : Rd w w.heap.size A2 (Gs.gls gs)) :
    Calls Tryz.prog 6 #[sv A0 n0 c0 A1 n1 c1 A2 n2 c2 T] w fun e w' => e = .returned (.bool true) ∧ Below w.heap.size w w' := by
  have hz0 : (w.alloc (.cells (sc A0 n0 c0 A1 n1 c1 A2 n2 c2 T) 26)).heap.size = w.heap.size + 1 := by simp [go_sem]
  have B0 := (Below.refl w.heap.size w).alloc (Nat.le_refl _) (.cells (sc A0 n0 c0 A1 n1 c1 A2 n2 c2 T) 26)
  have K0 := Lib.hid (Bk.new w (sc A0 n0 c0 A1 n1 c1 A2 n2 c2 T) 26)
  have SZ := Lib.hid (szShow A0 n0 c0 A1 n1 c1 A2 n2 c2 T ds cs gs (w.alloc (.cells (sc A0 n0 c0 A1 n1 c1 A2 n2 c2 T) 26)) hn0 hm0 hn1 hm1 hm2 (SR.below (show SR w A0 A1 A2 ds cs gs from ⟨hr0, hr1, hr2⟩) B0) h0 h1)
  obtain ⟨R, hR⟩ : ∃ R, szA n0 ds n1 cs n2 = R := ⟨_, rfl⟩
  by_cases hz : R < 0
  · rw [hR] at SZ
    have BB := Lib.hid B0
    clear hn0 hm0 hn1 hm1 hn2 hm2 hr0 hr1 hr2 h0 h1 hR B0
    go_enter Tryz.func6, Tryz.ntmps6
    go_wp2_with fail
    refine SZ.out.mono ?_
    rintro e w1 ⟨rfl, hb⟩
    have B2 := BB.out.trans (hb.mono BB.out.size)
    clear hb SZ BB
    go_wp2_with fail
    go_returns
    exact ⟨rfl, B2⟩
  have hfit := sz_fit (n0 := n0) (ds := ds) (n1 := n1) (cs := cs) (n2 := n2) (by rw [hR]; exact hz)
  rw [hR] at SZ
  clear hR
  have hsz : ∀ z ∈ ds, z.nm.size ≤ 1048576 ∧ z.ln.size ≤ 1048576 := fun z hm => by
    obtain ⟨k, hk, rfl⟩ := List.getElem_of_mem hm
    have h1 := Dl.bulk_take (List.getElem?_eq_getElem hk)
    have h2 := Dl.bulk_le ds (k + 1)
    omega
  have hsc : ∀ z ∈ cs, z.nm.size ≤ 1048576 := fun z hm => by
    obtain ⟨k, hk, rfl⟩ := List.getElem_of_mem hm
    have h1 := Cl.bulk_take (List.getElem?_eq_getElem hk)
    have h2 := Cl.bulk_le cs (k + 1)
    omega
  have HF := Lib.hid (show Fit n0 n1 n2 ds cs gs from ⟨⟨hn0, by omega⟩, ⟨hn1, by omega⟩, hn2, by omega⟩)
  have HS := Lib.hid (show SR w A0 A1 A2 ds cs gs from ⟨hr0, hr1, hr2⟩)
  obtain ⟨r, hrr⟩ : ∃ r : Int, wat (all9 ds cs gs T) = r := ⟨_, rfl⟩
  have CS := Lib.hid (show ∀ (g0 g1 g2 : Nat) (W : World) (h : SR W (some ⟨g0, 0, none⟩) (some ⟨g1, 0, none⟩) (some ⟨g2, 0, none⟩) ds cs gs), Calls Tryz.prog 18 #[sv (some ⟨g0, 0, none⟩) n0 n0 (some ⟨g1, 0, none⟩) n1 n1 (some ⟨g2, 0, none⟩) n2 n2 T] W (fun e w' => e = .returned (.int .i64 r) ∧ Below W.heap.size W w') from fun g0 g1 g2 W h => by have := waterS _ n0 n0 _ n1 n1 _ n2 n2 T ds cs gs W HF.out h hsz hsc; rw [hrr] at this; exact this)
  have CI := Lib.hid (show ∀ (g0 g1 g2 : Nat) (W : World) (h : SR W (some ⟨g0, 0, none⟩) (some ⟨g1, 0, none⟩) (some ⟨g2, 0, none⟩) ds cs gs), Calls Tryz.prog 19 #[sv (some ⟨g0, 0, none⟩) n0 n0 (some ⟨g1, 0, none⟩) n1 n1 (some ⟨g2, 0, none⟩) n2 n2 T] W (fun e w' => e = .returned (.int .i64 r) ∧ Below W.heap.size W w') from fun g0 g1 g2 W h => by have := waterI _ n0 n0 _ n1 n1 _ n2 n2 T ds cs gs W HF.out h; rw [hrr] at this; exact this)
  have TO := Lib.hid (fun (W : World) (h : SR W A0 A1 A2 ds cs gs) => toShow A0 n0 c0 A1 n1 c1 A2 n2 c2 T ds cs gs W HF.out h)
  have EQ := Lib.hid (fun (g0 g1 g2 k0 k1 k2 : Nat) (W : World) (h : SR W (some ⟨g0, 0, none⟩) (some ⟨g1, 0, none⟩) (some ⟨g2, 0, none⟩) ds cs gs) (k : SR W (some ⟨k0, 0, none⟩) (some ⟨k1, 0, none⟩) (some ⟨k2, 0, none⟩) ds cs gs) => eqShow (some ⟨g0, 0, none⟩) n0 n0 (some ⟨g1, 0, none⟩) n1 n1 (some ⟨g2, 0, none⟩) n2 n2 T (some ⟨k0, 0, none⟩) n0 (some ⟨k1, 0, none⟩) n1 (some ⟨k2, 0, none⟩) n2 ds cs gs W HF.out h k)
  have BB := Lib.hid B0
  have hu : undef = Value.tuple #[] := rfl
  clear hn0 hm0 hn1 hm1 hn2 hm2 hr0 hr1 hr2 h0 h1 B0 hfit hsz hsc hrr wT
  go_enter Tryz.func6, Tryz.ntmps6
  have b0 := K0.out.cell (i := 0) rfl
  have b1 := K0.out.cell (i := 1) rfl
  have b2 := K0.out.cell (i := 2) rfl
  have b3 := K0.out.cell (i := 3) rfl
  go_wp2_with fail
  clear b0 b1 b2 b3
  refine (SZ.out).mono ?_
  rintro e u1 ⟨rfl, hb⟩
  have K1 := Lib.hid (K0.out.below hb)
  clear K0
  have K0 := K1
  clear K1
  have B2 := Lib.hid (BB.out.trans (hb.mono BB.out.size))
  clear hb BB
  have BB := B2
  clear B2
  have b0 := K0.out.cell (i := 0) rfl
  have b1 := K0.out.cell (i := 1) rfl
  have b2 := K0.out.cell (i := 2) rfl
  have b3 := K0.out.cell (i := 3) rfl
  clear SZ
  go_wp2_with fail
  clear b0 b1 b2 b3
  refine (TO.out _ (HS.out.below BB.out)).mono ?_
  rintro e u2 ⟨p0, p1, p2, rfl, o0, o1, o2, _, _, hb⟩
  have RS := Lib.hid (SR.own o0 o1 o2)
  clear o0 o1 o2
  have K1 := Lib.hid (K0.out.below hb)
  clear K0
  have K0 := K1
  clear K1
  have B2 := Lib.hid (BB.out.trans (hb.mono BB.out.size))
  clear hb BB
  have BB := B2
  clear B2
  have b0 := K0.out.cell (i := 0) rfl
  have b1 := K0.out.cell (i := 1) rfl
  have b2 := K0.out.cell (i := 2) rfl
  have b3 := K0.out.cell (i := 3) rfl
  go_wp2_with fail
  clear b0 b1 b2 b3
  refine (CS.out _ _ _ _ RS.out).mono ?_
  rintro e u3 ⟨rfl, hb⟩
  clear RS
  have K1 := Lib.hid (K0.out.below hb)
  clear K0
  have K0 := K1
  clear K1
  have B2 := Lib.hid (BB.out.trans (hb.mono BB.out.size))
  clear hb BB
  have BB := B2
  clear B2
  have b0 := K0.out.cell (i := 0) rfl
  have b1 := K0.out.cell (i := 1) rfl
  have b2 := K0.out.cell (i := 2) rfl
  have b3 := K0.out.cell (i := 3) rfl
  go_wp2_with fail
  clear b0 b1 b2 b3
  refine (TO.out _ (HS.out.below BB.out)).mono ?_
  rintro e u4 ⟨x0, x1, x2, rfl, o0, o1, o2, _, _, hb⟩
  have RX := Lib.hid (SR.own o0 o1 o2)
  clear o0 o1 o2
  have K1 := Lib.hid (K0.out.below hb)
  clear K0
  have K0 := K1
  clear K1
  have B2 := Lib.hid (BB.out.trans (hb.mono BB.out.size))
  clear hb BB
  have BB := B2
  clear B2
  have b0 := K0.out.cell (i := 0) rfl
  have b1 := K0.out.cell (i := 1) rfl
  have b2 := K0.out.cell (i := 2) rfl
  have b3 := K0.out.cell (i := 3) rfl
  have KX := Lib.hid (Bk.new u4 (#[.slice (some ⟨x0, 0, none⟩) n0 n0, .slice (some ⟨x1, 0, none⟩) n1 n1, .slice (some ⟨x2, 0, none⟩) n2 n2, .int .i64 T]) 33)
  have GX := (Below.refl u4.heap.size u4).alloc (Nat.le_refl _) (.cells (#[.slice (some ⟨x0, 0, none⟩) n0 n0, .slice (some ⟨x1, 0, none⟩) n1 n1, .slice (some ⟨x2, 0, none⟩) n2 n2, .int .i64 T]) 33)
  have RX2 := Lib.hid (RX.out.below GX)
  clear RX
  have RX := RX2
  clear RX2
  have B2 := Lib.hid (BB.out.trans (GX.mono BB.out.size))
  have K1 := Lib.hid (K0.out.below GX)
  clear K0
  have K0 := K1
  clear K1
  have hlt : w.heap.size < u4.heap.size := K0.out.lt |> fun h => Nat.lt_of_lt_of_le (World.block_lt_of_cell? _ _ b0) (Nat.le_refl _)
  clear b0 b1 b2 b3
  clear BB GX
  have BB := B2
  clear B2
  go_wp2_with fail
  refine (CI.out _ _ _ _ RX.out).mono ?_
  rintro e u5 ⟨rfl, hb⟩
  have K1 := Lib.hid (K0.out.below hb)
  clear K0
  have K0 := K1
  clear K1
  have KX2 := Lib.hid (KX.out.below hb)
  have RX2 := Lib.hid (RX.out.below hb)
  clear KX RX
  have KX := KX2
  have RX := RX2
  clear KX2 RX2
  have B2 := Lib.hid (BB.out.trans (hb.mono BB.out.size))
  clear hb BB CI
  have BB := B2
  clear B2
  have b0 := K0.out.cell (i := 0) rfl
  have b1 := K0.out.cell (i := 1) rfl
  have b2 := K0.out.cell (i := 2) rfl
  have b3 := K0.out.cell (i := 3) rfl
  have k0 := KX.out.cell (i := 0) rfl
  have k1 := KX.out.cell (i := 1) rfl
  have k2 := KX.out.cell (i := 2) rfl
  have k3 := KX.out.cell (i := 3) rfl
  go_wp2_with fail
  refine wp_region_noPanic ?_
  refine wp_region_held_drew (S := (fun w' => w'.cell? ⟨w.heap.size, 0, none⟩ = some (.slice A0 n0 c0) ∧ w'.cell? ⟨w.heap.size, 1, none⟩ = some (.slice A1 n1 c1) ∧ w'.cell? ⟨w.heap.size, 2, none⟩ = some (.slice A2 n2 c2) ∧ w'.cell? ⟨w.heap.size, 3, none⟩ = some (.int .i64 T) ∧ w'.cell? ⟨u4.heap.size, 0, none⟩ = some (.slice (some ⟨x0, 0, none⟩) n0 n0) ∧ w'.cell? ⟨u4.heap.size, 1, none⟩ = some (.slice (some ⟨x1, 0, none⟩) n1 n1) ∧ w'.cell? ⟨u4.heap.size, 2, none⟩ = some (.slice (some ⟨x2, 0, none⟩) n2 n2) ∧ w'.cell? ⟨u4.heap.size, 3, none⟩ = some (.int .i64 T) ∧ Below u5.heap.size u5 w')) (by kernel_rfl) ?_ (fun hH => ?_)
  · exact ⟨b0, b1, b2, b3, k0, k1, k2, k3, (Below.refl _ _).drew⟩
  refine wpAnyH_take (i := 0) (oi := { dst := some 22, op := _, type := _, pos := _, after := _, guard := _ }) (v := ?_) rfl (by kernel_rfl) (by kernel_rfl) (by kernel_rfl) (fun _ _ _ h => h) (Or.inl ⟨by rfl, ?_⟩) hH ?_
  rotate_left 1
  · intro W hSw
    (try dsimp only at hSw)
    go_simp
    (try with_reducible rfl)
  try simp only [Act.put, List.setIfInBounds_toArray, List.set_cons_zero, List.set_cons_succ]
  refine wpAnyH_take (i := 1) (oi := { dst := some 23, op := _, type := _, pos := _, after := _, guard := _ }) (v := ?_) rfl (by kernel_rfl) (by kernel_rfl) (by kernel_rfl) (fun _ _ _ h => h) (Or.inl ⟨by rfl, ?_⟩) hH ?_
  rotate_left 1
  · intro W hSw
    (try dsimp only at hSw)
    go_simp
    (try with_reducible rfl)
  try simp only [Act.put, List.setIfInBounds_toArray, List.set_cons_zero, List.set_cons_succ]
  refine wpAnyH_ready (rs := [2]) (by kernel_rfl) (by simp) (AllReadyH.cons rfl (fun K hK => ?_) AllReadyH.nil)
  go_simp
  go_at_call 11; ((with_reducible refine (TO.out _ (HS.out.below (BB.out.trans (hH.2.2.2.2.2.2.2.2.mono BB.out.size)))).mono ?_); rintro e r1 ⟨y0, y1, y2, rfl, oa, ob, oc, _, _, hb1⟩); go_wp2_with fail
  refine hK.out _ _ ?_ (fun hG => ?_)
  · exact ⟨cell_below hb1 hH.1, cell_below hb1 hH.2.1, cell_below hb1 hH.2.2.1, cell_below hb1 hH.2.2.2.1, cell_below hb1 hH.2.2.2.2.1, cell_below hb1 hH.2.2.2.2.2.1, cell_below hb1 hH.2.2.2.2.2.2.1, cell_below hb1 hH.2.2.2.2.2.2.2.1, hH.2.2.2.2.2.2.2.2.trans (hb1.mono hH.2.2.2.2.2.2.2.2.size)⟩
  replace hH := hG
  clear hK K hG
  try simp only [Act.put, List.setIfInBounds_toArray, List.set_cons_zero, List.set_cons_succ]
  refine wpAnyH_ready (rs := [3]) (by kernel_rfl) (by simp) (AllReadyH.cons rfl (fun K hK => ?_) AllReadyH.nil)
  go_simp
  go_at_call 13; ((with_reducible refine (EQ.out _ _ _ _ _ _ _ (RX.out.below hH.2.2.2.2.2.2.2.2) (SR.own oa ob oc)).mono ?_); rintro e r2 ⟨rfl, hb2⟩); go_wp2_with fail
  refine hK.out _ _ ?_ (fun hG => ?_)
  · exact ⟨cell_below hb2 hH.1, cell_below hb2 hH.2.1, cell_below hb2 hH.2.2.1, cell_below hb2 hH.2.2.2.1, cell_below hb2 hH.2.2.2.2.1, cell_below hb2 hH.2.2.2.2.2.1, cell_below hb2 hH.2.2.2.2.2.2.1, cell_below hb2 hH.2.2.2.2.2.2.2.1, hH.2.2.2.2.2.2.2.2.trans (hb2.mono hH.2.2.2.2.2.2.2.2.size)⟩
  replace hH := hG
  clear hK K hG
  try simp only [Act.put, List.setIfInBounds_toArray, List.set_cons_zero, List.set_cons_succ]
  refine wpAnyH_take (i := 4) (oi := { dst := some 26, op := _, type := _, pos := _, after := _, guard := _ }) (v := ?_) rfl (by kernel_rfl) (by kernel_rfl) (by kernel_rfl) (fun _ _ _ h => h) (Or.inl ⟨by rfl, ?_⟩) hH ?_
  rotate_left 1
  · intro W hSw
    (try dsimp only at hSw)
    go_simp
    (try with_reducible rfl)
  try simp only [Act.put, List.setIfInBounds_toArray, List.set_cons_zero, List.set_cons_succ]
  refine wpAnyH_done (by kernel_rfl) ?_ _
  refine NoPanic.normal ?_
  have hb := hH.2.2.2.2.2.2.2.2
  clear hH oa ob oc hb1 hb2 b0 b1 b2 b3 k0 k1 k2 k3
  have B2 := Lib.hid (BB.out.trans (hb.mono BB.out.size))
  clear hb BB
  go_wp2_with fail
  go_ret
  exact ⟨rfl, B2.out⟩

set_option maxRecDepth 100000 in
theorem lifted (os : Os) (started : os.Started) (H : Type) (enc : TypeId × Value → H) :
    ReturnsInHanded {} Tryz.checked os 6 .any (Rows.fnExactWaterOfSpec.pre6 enc Tryz.prog Tryz.f6 Rows.fnExactWaterOfRow.domain false) (Rows.fnExactWaterOfSpec.post enc Tryz.prog Tryz.f6 false true false false) := by
  refine returnsInHanded_of_change (C := Tryz.checked) own started (by kernel_rfl) Tryz.func6
    (ChangeSpec.witness6 (enc := enc) (C := Tryz.checked) false ⟨#[], #[.agg #[.slice none 0 0, .slice none 0 0, .slice none 0 0, .int .i64 0]], []⟩ 8 (by kernel_rfl) (by kernel_rfl) (by kernel_rfl) (by kernel_rfl)) ?_
  intro W base args ds gs before hval0 hW hcnd hsz
  have hval : ∀ (j : Nat) t v, Tryz.f6.params[j]? = some t → args[j]? = some v → Value.okWide Tryz.prog W .any base t v := hval0
  have hW' := hW
  obtain ⟨p, q, hA0, hV, rfl, hfz, hnd⟩ := hW
  have hA1 := hA0
  have hA : DataW.TrodAll enc Tryz.prog W 0 (fun _ => true) true Tryz.f6.params.toList args.toList ds p := hA0
  rw [Tryz.params6] at hA hval
  obtain ⟨v0, vs0, d0, ds0, p0, q0, hargs, rfl, rfl, h0, r0⟩ := trodAll_cons hA
  obtain ⟨rfl, rfl, rfl⟩ := trodAll_nil r0
  obtain rfl : args = #[v0] := by cases args; simp_all
  obtain ⟨rfl, rfl⟩ := trodVars_none hV
  obtain ⟨A0, n0, c0, ds, A1, n1, c1, cs, A2, n2, c2, gs, T, rfl, ⟨l0, m0⟩, ⟨l1, m1⟩, ⟨l2, m2⟩, wT, ⟨g0, z0⟩, ⟨g1, z1⟩, g2, _⟩ := Sp.take_show (hval 0 26 v0 rfl rfl) h0
  clear hA0 hval0
  rw [List.append_nil] at hW'
  refine (walk A0 n0 c0 A1 n1 c1 A2 n2 c2 T ds cs gs l0 m0 l1 m1 l2 m2 wT W g0 z0 g1 z1 g2).mono fun e W' ⟨he, hb⟩ => ?_
  subst he
  exact ⟨_, rfl, post_law rfl hW' hA1 laidOut (by rw [Tryz.params6]; exact of_decide_eq_true (by kernel_rfl)) 4 (by kernel_rfl) Tryz.underlying4 rfl hb⟩

theorem over : Rows.fnExactWaterOfRow.holds Tryz.pinned (OpenSpec.ofChange Rows.fnExactWaterOfSpec) :=
  OpenClaim.holds_of_wide 6 Tryz.f6 rfl rfl rfl rfl rfl rfl rfl ⟨rfl, rfl, rfl, rfl, rfl⟩ rfl rfl rfl rfl rfl (by kernel_rfl) Tryz.func6 (by kernel_rfl)
    (of_decide_eq_true (by kernel_rfl)) (by unfold Func.isWrapper; first | (rw [if_pos (by decide +kernel)]; kernel_rfl) | (rw [if_neg (by decide +kernel)]; exact ⟨rfl, rfl⟩))
    (fun os started H enc _ => lifted os started H enc)

/-- The statement. -/
theorem proved : Rows.FnExactWaterOfSaid :=
  over
#print axioms proved
end Go.Proofs.YtkndejjfndjcoabGreat.fnExactWaterOf
