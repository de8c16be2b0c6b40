/- The law FnExactShiftShow holds at every input. The step from the walk to the row follows the guide's own template. -/
import Derived.Test.YtejeikfgmiadhaaGreatM1
import Derived.Test.YtejeikfgmiadhaaGreatM5
import Derived.Test.YtejeikfgmiadhaaGreatMk9
import Derived.Test.YtejeikfgmiadhaaGreatMn9
import Derived.Test.YtejeikfgmiadhaaGreatTa9
import Derived.Test.YtejeikfgmiadhaaGreatTh9
import Derived.Test.YtejeikfgmiadhaaGreatTv9
import Derived.Deep.RegionHeld3
import Derived.Deep.DeepCutAuto
namespace Go.Proofs.YtejeikfgmiadhaaGreat.fnExactShiftShow
open Go.ChangeShapes Go.WideShapes Go.ChangeAt Go.RowKit Go.WideMaps Go.WideElems Go.Proofs.YtejeikfgmiadhaaGreat.Mem
open Go.ChangeMaps (open_string shut_string)
set_option linter.unusedVariables false
set_option linter.unusedSimpArgs false

theorem own : ownKnob Tryz.prog.godebug = none := by kernel_rfl
theorem laidOut : laidOutB Tryz.prog = true := by kernel_rfl

open Go.Proofs.YtejeikfgmiadhaaGreat.P2 Go.Proofs.YtejeikfgmiadhaaGreat.Bk Go.Proofs.YtejeikfgmiadhaaGreat.Sp Go.Proofs.YtejeikfgmiadhaaGreat.Sq Go.Proofs.YtejeikfgmiadhaaGreat.St9 Go.Proofs.YtejeikfgmiadhaaGreat.Ta9 Go.Proofs.YtejeikfgmiadhaaGreat.Th9 Go.Proofs.YtejeikfgmiadhaaGreat.Tv9
open Go.Proofs.YtejeikfgmiadhaaGreat.Rw (owns_below owns_grown owns_base)
open Go.Proofs.YtejeikfgmiadhaaGreat.Sk (shZ shR)
theorem toPlace9 (x y : Int) (w : World) : Calls Tryz.prog 20 #[.agg #[.int .i64 x, .int .i64 y]] w fun e w' => e = .returned (.agg #[.int .i64 x, .int .i64 y]) ∧ Below w.heap.size w w' :=
  (Pw.toPlace x y w).mono fun e w' k => ⟨k.1, by rw [k.2]; go_grown⟩
set_option maxRecDepth 100000 in
set_option maxHeartbeats 8000000 in
theorem walk (A0 : Option Addr) (n0 c0 : Nat) (A1 : Option Addr) (n1 c1 : Nat) (A2 : Option Addr) (n2 c2 : Nat) (T : Int) (ds : List D) (cs : List C) (gs : List G) (hn0 : ds.length = n0) (hm0 : n0 ≤ maxLen) (hn1 : cs.length = n1) (hm1 : n1 ≤ maxLen) (hn2 : gs.length = n2) (hm2 : n2 ≤ maxLen) (wT : (Lit.int .i64 T).wf = true) (x1 y1 : Int) (wx1 : (Lit.int .i64 x1).wf = true) (wy1 : (Lit.int .i64 y1).wf = true) (w : World) (hr0 : Rd w w.heap.size A0 (Dd.dls ds)) (h0 : ∀ z ∈ ds, Dd.Dok z) (hr1 : Rd w w.heap.size A1 (Cd.dls cs)) (h1 : ∀ z ∈ cs, Cd.Dok z) (hr2 : Rd w w.heap.size A2 (Gs.gls gs)) :
    Calls Tryz.prog 5 #[sv A0 n0 c0 A1 n1 c1 A2 n2 c2 T, .agg #[.int .i64 x1, .int .i64 y1]] w fun e w' => e = .returned (.bool true) ∧ Below w.heap.size w w' := by
  have hz0 : (w.alloc (.cells (sc A0 n0 c0 A1 n1 c1 A2 n2 c2 T) 26)).heap.size = w.heap.size + 1 := by simp [go_sem]
  have B0a := (Below.refl w.heap.size w).alloc (Nat.le_refl _) (.cells (sc A0 n0 c0 A1 n1 c1 A2 n2 c2 T) 26)
  have B0 := B0a.alloc B0a.size (.cells #[.int .i64 x1, .int .i64 y1] 44)
  have K0 := Lib.hid ((Bk.new w (sc A0 n0 c0 A1 n1 c1 A2 n2 c2 T) 26).alloc (o := (.cells #[.int .i64 x1, .int .i64 y1] 44)))
  have KP0 := Bk.new (w.alloc (.cells (sc A0 n0 c0 A1 n1 c1 A2 n2 c2 T) 26)) #[.int .i64 x1, .int .i64 y1] 44
  rw [hz0] at KP0
  have KP := Lib.hid KP0
  have hb9 : w.heap.size < w.heap.size + 1 := by omega
  clear KP0 B0a
  have SZ := Lib.hid (szShow A0 n0 c0 A1 n1 c1 A2 n2 c2 T ds cs gs ((w.alloc (.cells (sc A0 n0 c0 A1 n1 c1 A2 n2 c2 T) 26)).alloc (.cells #[.int .i64 x1, .int .i64 y1] 44)) hn0 hm0 hn1 hm1 hm2 (SR.below (show SR w A0 A1 A2 ds cs gs from ⟨hr0, hr1, hr2⟩) B0) h0 h1)
  obtain ⟨R, hR⟩ : ∃ R, szA n0 ds n1 cs n2 = R := ⟨_, rfl⟩
  by_cases hz : R < 0
  · rw [hR] at SZ
    have BB := Lib.hid B0
    clear hn0 hm0 hn1 hm1 hn2 hm2 hr0 hr1 hr2 h0 h1 hR B0
    go_enter Tryz.func5, Tryz.ntmps5
    go_wp2_with fail
    refine SZ.out.mono ?_
    rintro e w1 ⟨rfl, hb⟩
    have B2 := BB.out.trans (hb.mono BB.out.size)
    clear hb SZ BB
    go_wp2_with fail
    go_returns
    exact ⟨rfl, B2⟩
  have hfit := sz_fit (n0 := n0) (ds := ds) (n1 := n1) (cs := cs) (n2 := n2) (by rw [hR]; exact hz)
  rw [hR] at SZ
  clear hR
  have hsz : ∀ z ∈ ds, z.nm.size ≤ 1048576 ∧ z.ln.size ≤ 1048576 := fun z hm => by
    obtain ⟨k, hk, rfl⟩ := List.getElem_of_mem hm
    have h1 := Dl.bulk_take (List.getElem?_eq_getElem hk)
    have h2 := Dl.bulk_le ds (k + 1)
    omega
  have hsc : ∀ z ∈ cs, z.nm.size ≤ 1048576 := fun z hm => by
    obtain ⟨k, hk, rfl⟩ := List.getElem_of_mem hm
    have h1 := Cl.bulk_take (List.getElem?_eq_getElem hk)
    have h2 := Cl.bulk_le cs (k + 1)
    omega
  have HF := Lib.hid (show Fit n0 n1 n2 ds cs gs from ⟨⟨hn0, by omega⟩, ⟨hn1, by omega⟩, hn2, by omega⟩)
  have HS := Lib.hid (show SR w A0 A1 A2 ds cs gs from ⟨hr0, hr1, hr2⟩)
  have TO := Lib.hid (fun (W : World) (h : SR W A0 A1 A2 ds cs gs) => toShow A0 n0 c0 A1 n1 c1 A2 n2 c2 T ds cs gs W HF.out h)
  have EQW := Lib.hid (fun (g0 g1 g2 k0 k1 k2 : Nat) (W : World) (h : SR W (some ⟨g0, 0, none⟩) (some ⟨g1, 0, none⟩) (some ⟨g2, 0, none⟩) ds cs gs) (k : SR W (some ⟨k0, 0, none⟩) (some ⟨k1, 0, none⟩) (some ⟨k2, 0, none⟩) ds cs gs) => eqShow (some ⟨g0, 0, none⟩) n0 n0 (some ⟨g1, 0, none⟩) n1 n1 (some ⟨g2, 0, none⟩) n2 n2 T (some ⟨k0, 0, none⟩) n0 (some ⟨k1, 0, none⟩) n1 (some ⟨k2, 0, none⟩) n2 ds cs gs W HF.out h k)
  obtain ⟨K9, hK9⟩ : ∃ K : Nat, 1 + n0 * 8 + n1 * 4 + n2 * 3 = K := ⟨_, rfl⟩
  have pK9 : ¬ (K9 : Int) < 0 := by omega
  have MS := Lib.hid (fun (g0 g1 g2 : Nat) (h01 : g0 < g1) (h12 : g1 < g2) (W : World) o0 o1 o2 => (by have := Mk9.markShow w.heap.size n0 n1 n2 g0 g1 g2 n0 n1 n2 T ds cs gs W HF.out (by omega) h01 h12 o0 o1 o2; rw [hK9] at this; exact this : Calls Tryz.prog 14 #[sv (some ⟨g0, 0, none⟩) n0 n0 (some ⟨g1, 0, none⟩) n1 n1 (some ⟨g2, 0, none⟩) n2 n2 T, .int .i64 1] W _))
  have hu : undef = Value.tuple #[] := rfl
  have BB := Lib.hid B0
  cases hrr : (shR ds x1 y1 && Sv.show9 ds cs gs T)
  · have CS := Lib.hid (show ∀ (g0 g1 g2 : Nat) (W : World) (h : SR W (some ⟨g0, 0, none⟩) (some ⟨g1, 0, none⟩) (some ⟨g2, 0, none⟩) ds cs gs), Calls Tryz.prog 19 #[sv (some ⟨g0, 0, none⟩) n0 n0 (some ⟨g1, 0, none⟩) n1 n1 (some ⟨g2, 0, none⟩) n2 n2 T, .agg #[.int .i64 x1, .int .i64 y1]] W (fun e w' => e = .returned (.tuple #[nilShow, .bool false]) ∧ Below W.heap.size W w') from fun g0 g1 g2 W h => (by cases h1 : shR ds x1 y1 with
        | false =>
          cases h2 : Sv.show9 ds cs gs T with
          | false => exact shiftNoS3 _ n0 n0 _ n1 n1 _ n2 n2 T ds cs gs x1 y1 W HF.out h hsz hsc h1 h2
          | true => exact shiftNoS1 _ n0 n0 _ n1 n1 _ n2 n2 T ds cs gs x1 y1 W HF.out h hsz hsc h1 h2
        | true => exact shiftNoS2 _ n0 n0 _ n1 n1 _ n2 n2 T ds cs gs x1 y1 W HF.out h hsz hsc h1 (by rw [h1, Bool.true_and] at hrr; exact hrr)))
    have CI := Lib.hid (show ∀ (g0 g1 g2 : Nat) (W : World) (h : SR W (some ⟨g0, 0, none⟩) (some ⟨g1, 0, none⟩) (some ⟨g2, 0, none⟩) ds cs gs), Calls Tryz.prog 21 #[sv (some ⟨g0, 0, none⟩) n0 n0 (some ⟨g1, 0, none⟩) n1 n1 (some ⟨g2, 0, none⟩) n2 n2 T, .agg #[.int .i64 x1, .int .i64 y1]] W (fun e w' => e = .returned (.tuple #[nilShow, .bool false]) ∧ Below W.heap.size W w') from fun g0 g1 g2 W h => (by cases h1 : shR ds x1 y1 with
        | false => exact shiftNoI1 _ n0 n0 _ n1 n1 _ n2 n2 T ds cs gs x1 y1 W HF.out h h1
        | true => exact shiftNoI2 _ n0 n0 _ n1 n1 _ n2 n2 T ds cs gs x1 y1 W HF.out h h1 (by rw [h1, Bool.true_and] at hrr; exact hrr)))
    have EN := Lib.hid (fun (W : World) => eqShow none 0 0 none 0 0 none 0 0 0 none 0 none 0 none 0 [] [] [] W ⟨⟨rfl, by omega⟩, ⟨rfl, by omega⟩, rfl, by omega⟩ ⟨Rd.nil _ _ _, Rd.nil _ _ _, Rd.nil _ _ _⟩ ⟨Rd.nil _ _ _, Rd.nil _ _ _, Rd.nil _ _ _⟩)
    have MN := Lib.hid (fun (W : World) => Mn9.markNil W)
    have HN := Lib.hid (fun (W : World) => Mk9.heldShow 0 0 0 0 0 0 none none none 0 W (by omega) (by omega) (by omega) (by omega) (Rd.nil _ _ _) (Rd.nil _ _ _) (Rd.nil _ _ _))
    clear hn0 hm0 hn1 hm1 hn2 hm2 hr0 hr1 hr2 h0 h1 B0 hfit hsz hsc hK9 wT wx1 wy1 hz0 hrr
    go_enter Tryz.func5, Tryz.ntmps5
    have b0 := K0.out.cell (i := 0) rfl
    have b1 := K0.out.cell (i := 1) rfl
    have b2 := K0.out.cell (i := 2) rfl
    have b3 := K0.out.cell (i := 3) rfl
    have pl0 := KP.out.cell (i := 0) rfl
    have pl1 := KP.out.cell (i := 1) rfl
    go_wp2_with fail
    clear b0 b1 b2 b3 pl0 pl1
    refine (SZ.out).mono ?_
    rintro e u1 ⟨rfl, hb⟩
    have B2 := Lib.hid (BB.out.trans (hb.mono BB.out.size))
    have K01 := Lib.hid (K0.out.below hb)
    have KP1 := Lib.hid (KP.out.below hb)
    clear hb BB K0 KP
    have BB := B2
    clear B2
    have K0 := K01
    clear K01
    have KP := KP1
    clear KP1
    have b0 := K0.out.cell (i := 0) rfl
    have b1 := K0.out.cell (i := 1) rfl
    have b2 := K0.out.cell (i := 2) rfl
    have b3 := K0.out.cell (i := 3) rfl
    have pl0 := KP.out.cell (i := 0) rfl
    have pl1 := KP.out.cell (i := 1) rfl
    clear SZ
    go_upto_region 5 with fail
    clear b0 b1 b2 b3 pl0 pl1
    have ch_K0_W : w.heap.size < u1.heap.size := K0.out.lt
    have ch_KP_W : w.heap.size + 1 < u1.heap.size := KP.out.lt
    have chu_W : w.heap.size + 1 < u1.heap.size := KP.out.lt
    go_cut [6, 7] (fun a b wx => ∃ k, a = .pointer (some ⟨k, 0, none⟩) ∧ b = .bool false ∧ Hid (Bk wx k zc 34) ∧ u1.heap.size ≤ k ∧ Hid (Below u1.heap.size u1 wx))
    case first =>
      have b0 := K0.out.cell (i := 0) rfl
      have b1 := K0.out.cell (i := 1) rfl
      have b2 := K0.out.cell (i := 2) rfl
      have b3 := K0.out.cell (i := 3) rfl
      have pl0 := KP.out.cell (i := 0) rfl
      have pl1 := KP.out.cell (i := 1) rfl
      refine wp_region_noPanic ?_
      refine wp_region_held_drew (S := (fun w' => w'.cell? ⟨w.heap.size, 0, none⟩ = some (.slice A0 n0 c0) ∧ w'.cell? ⟨w.heap.size, 1, none⟩ = some (.slice A1 n1 c1) ∧ w'.cell? ⟨w.heap.size, 2, none⟩ = some (.slice A2 n2 c2) ∧ w'.cell? ⟨w.heap.size, 3, none⟩ = some (.int .i64 T) ∧ w'.cell? ⟨w.heap.size + 1, 0, none⟩ = some (.int .i64 x1) ∧ w'.cell? ⟨w.heap.size + 1, 1, none⟩ = some (.int .i64 y1) ∧ Below u1.heap.size u1 w')) (by kernel_rfl) ?_ (fun hH => ?_)
      · exact ⟨b0, b1, b2, b3, pl0, pl1, (Below.refl _ _).drew⟩
      clear b0 b1 b2 b3 pl0 pl1
      refine wpAnyH_take (i := 0) (oi := { dst := some 22, op := _, type := _, pos := _, after := _, guard := _ }) (v := ?_) rfl (by kernel_rfl) (by kernel_rfl) (by kernel_rfl) (fun _ _ _ h => h) (Or.inl ⟨by rfl, ?_⟩) hH ?_
      rotate_left 1
      · intro W hSw
        (try dsimp only at hSw)
        go_simp
        (try with_reducible rfl)
      try simp only [Act.put, List.setIfInBounds_toArray, List.set_cons_zero, List.set_cons_succ]
      refine wpAnyH_take (i := 2) (oi := { dst := some 24, op := _, type := _, pos := _, after := _, guard := _ }) (v := ?_) rfl (by kernel_rfl) (by kernel_rfl) (by kernel_rfl) (fun _ _ _ h => h) (Or.inl ⟨by rfl, ?_⟩) hH ?_
      rotate_left 1
      · intro W hSw
        (try dsimp only at hSw)
        go_simp
        (try with_reducible rfl)
      try simp only [Act.put, List.setIfInBounds_toArray, List.set_cons_zero, List.set_cons_succ]
      refine wpAnyH_ready (rs := [1, 8]) (by kernel_rfl) (by simp) (AllReadyH.cons rfl (fun K hK => ?_) (AllReadyH.cons rfl (fun K hK => ?_) (AllReadyH.nil)))
      · go_simp
        go_at_call 10; ((with_reducible refine (TO.out _ (HS.out.below (BB.out.trans (hH.2.2.2.2.2.2.mono BB.out.size)))).mono ?_); rintro e r0 ⟨ya, yb, yc, rfl, oa, ob, oc, _, _, hb⟩); go_wp2_with fail
        have RY := Lib.hid (SR.own oa ob oc)
        clear oa ob oc
        refine hK.out _ _ ?_ (fun hG => ?_)
        · exact ⟨cell_below hb hH.1, cell_below hb hH.2.1, cell_below hb hH.2.2.1, cell_below hb hH.2.2.2.1, cell_below hb hH.2.2.2.2.1, cell_below hb hH.2.2.2.2.2.1, hH.2.2.2.2.2.2.trans (hb.mono hH.2.2.2.2.2.2.size)⟩
        replace hH := hG
        clear hK K hG
        try simp only [Act.put, List.setIfInBounds_toArray, List.set_cons_zero, List.set_cons_succ]
        clear hb
        refine wpAnyH_ready (rs := [3, 8]) (by kernel_rfl) (by simp) (AllReadyH.cons rfl (fun K hK => ?_) (AllReadyH.cons rfl (fun K hK => ?_) (AllReadyH.nil)))
        · go_simp
          go_at_call 20; ((with_reducible refine (toPlace9 x1 y1 _).mono ?_); rintro e r1 ⟨rfl, hb⟩); go_wp2_with fail
          have RYn := Lib.hid (RY.out.below hb)
          clear RY
          have RY := RYn
          clear RYn
          refine hK.out _ _ ?_ (fun hG => ?_)
          · exact ⟨cell_below hb hH.1, cell_below hb hH.2.1, cell_below hb hH.2.2.1, cell_below hb hH.2.2.2.1, cell_below hb hH.2.2.2.2.1, cell_below hb hH.2.2.2.2.2.1, hH.2.2.2.2.2.2.trans (hb.mono hH.2.2.2.2.2.2.size)⟩
          replace hH := hG
          clear hK K hG
          try simp only [Act.put, List.setIfInBounds_toArray, List.set_cons_zero, List.set_cons_succ]
          clear hb
          refine wpAnyH_ready (rs := [4, 8]) (by kernel_rfl) (by simp) (AllReadyH.cons rfl (fun K hK => ?_) (AllReadyH.cons rfl (fun K hK => ?_) (AllReadyH.nil)))
          · go_simp
            go_at_call 19; ((with_reducible refine (CS.out _ _ _ _ RY.out).mono ?_); rintro e r2 ⟨rfl, hb⟩); go_wp2_with fail
            have RYn := Lib.hid (RY.out.below hb)
            clear RY
            have RY := RYn
            clear RYn
            refine hK.out _ _ ?_ (fun hG => ?_)
            · exact ⟨cell_below hb hH.1, cell_below hb hH.2.1, cell_below hb hH.2.2.1, cell_below hb hH.2.2.2.1, cell_below hb hH.2.2.2.2.1, cell_below hb hH.2.2.2.2.2.1, hH.2.2.2.2.2.2.trans (hb.mono hH.2.2.2.2.2.2.size)⟩
            replace hH := hG
            clear hK K hG
            try simp only [Act.put, List.setIfInBounds_toArray, List.set_cons_zero, List.set_cons_succ]
            clear hb
            refine wpAnyH_take (i := 5) (oi := { dst := some 21, op := _, type := _, pos := _, after := _, guard := _ }) (v := ?_) rfl (by kernel_rfl) (by kernel_rfl) (by kernel_rfl) (fun _ _ _ h => h) (Or.inl ⟨by rfl, ?_⟩) hH ?_
            rotate_left 1
            · intro W hSw
              (try dsimp only at hSw)
              go_simp
              (try with_reducible rfl)
            try simp only [Act.put, List.setIfInBounds_toArray, List.set_cons_zero, List.set_cons_succ]
            refine wpAnyH_take (i := 6) (oi := { dst := some 27, op := _, type := _, pos := _, after := _, guard := _ }) (v := ?_) rfl (by kernel_rfl) (by kernel_rfl) (by kernel_rfl) (fun _ _ _ h => h) (Or.inl ⟨by rfl, ?_⟩) hH ?_
            rotate_left 1
            · intro W hSw
              (try dsimp only at hSw)
              go_simp
              (try with_reducible rfl)
            try simp only [Act.put, List.setIfInBounds_toArray, List.set_cons_zero, List.set_cons_succ]
            refine wpAnyH_take (i := 7) (oi := { dst := some 28, op := _, type := _, pos := _, after := _, guard := _ }) (v := ?_) rfl (by kernel_rfl) (by kernel_rfl) (by kernel_rfl) (fun _ _ _ h => h) (Or.inl ⟨by rfl, ?_⟩) hH ?_
            rotate_left 1
            · intro W hSw
              (try dsimp only at hSw)
              go_simp
              (try with_reducible rfl)
            try simp only [Act.put, List.setIfInBounds_toArray, List.set_cons_zero, List.set_cons_succ]
            refine wpAnyH_ready (rs := [8]) (by kernel_rfl) (by simp) (AllReadyH.cons rfl (fun K hK => ?_) (AllReadyH.nil))
            go_simp
            have hb : Below r2.heap.size r2 (r2.alloc (.cells zc 34)) := (Below.refl _ _).alloc (Nat.le_refl _) (.cells zc 34)
            have leA : u1.heap.size ≤ r2.heap.size := hH.2.2.2.2.2.2.size
            have RYn := Lib.hid (RY.out.below hb)
            clear RY
            have RY := RYn
            clear RYn
            have KB := Lib.hid (Bk.new r2 zc 34)
            refine hK.out _ _ ?_ (fun hG => ?_)
            · exact ⟨cell_below hb hH.1, cell_below hb hH.2.1, cell_below hb hH.2.2.1, cell_below hb hH.2.2.2.1, cell_below hb hH.2.2.2.2.1, cell_below hb hH.2.2.2.2.2.1, hH.2.2.2.2.2.2.trans (hb.mono hH.2.2.2.2.2.2.size)⟩
            replace hH := hG
            clear hK K hG
            try simp only [Act.put, List.setIfInBounds_toArray, List.set_cons_zero, List.set_cons_succ]
            clear hb
            refine wpAnyH_ready (rs := [9]) (by kernel_rfl) (by simp) (AllReadyH.cons rfl (fun K hK => ?_) AllReadyH.nil)
            (refine step_store_row rfl 34 (.tmp 6) (.tmp 27) rfl (r2.heap.size) (zc) (by simp [Act.eval, Act.put]) (by simp [Act.eval, Act.put]) 34 zc KB.out (by kernel_rfl) rfl (by simp [Value.oneCell']) ?_; refine (show K (Act.put _ none _) _ from ?_); have hgR := row_grown (r2.alloc (.cells zc 34)) (r2.heap.size) (zc))
            refine hK.out _ _ ?_ (fun hG => ?_)
            · exact ⟨hgR.cell hH.1 (fun e => by have e := Option.some.inj e; (have e9 : w.heap.size = r2.heap.size := e); omega), hgR.cell hH.2.1 (fun e => by have e := Option.some.inj e; (have e9 : w.heap.size = r2.heap.size := e); omega), hgR.cell hH.2.2.1 (fun e => by have e := Option.some.inj e; (have e9 : w.heap.size = r2.heap.size := e); omega), hgR.cell hH.2.2.2.1 (fun e => by have e := Option.some.inj e; (have e9 : w.heap.size = r2.heap.size := e); omega), hgR.cell hH.2.2.2.2.1 (fun e => by have e := Option.some.inj e; (have e9 : w.heap.size + 1 = r2.heap.size := e); omega), hgR.cell hH.2.2.2.2.2.1 (fun e => by have e := Option.some.inj e; (have e9 : w.heap.size + 1 = r2.heap.size := e); omega), hH.2.2.2.2.2.2.grown hgR hH.2.2.2.2.2.2.size (fun z9 e9 => by have e9 := Option.some.inj e9; omega)⟩
            replace hH := hG
            clear hK K hG
            try simp only [Act.put, List.setIfInBounds_toArray, List.set_cons_zero, List.set_cons_succ]
            refine wpAnyH_take (i := 10) (oi := { dst := some 7, op := _, type := _, pos := _, after := _, guard := _ }) (v := ?_) rfl (by kernel_rfl) (by kernel_rfl) (by kernel_rfl) (fun _ _ _ h => h) (Or.inl ⟨by rfl, ?_⟩) hH ?_
            rotate_left 1
            · intro W hSw
              (try dsimp only at hSw)
              go_simp
              (try with_reducible rfl)
            try simp only [Act.put, List.setIfInBounds_toArray, List.set_cons_zero, List.set_cons_succ]
            refine wpAnyH_done (by kernel_rfl) ?_ _
            refine NoPanic.normal ?_
            have KF := Lib.hid (row_bk (zc) KB.out)
            have BF := Lib.hid hH.2.2.2.2.2.2
            clear hH hgR
            go_wp2_with fail
            go_meet
            exact ⟨_, rfl, rfl, KF, leA, BF⟩
          · go_simp
            have hb : Below r1.heap.size r1 (r1.alloc (.cells zc 34)) := (Below.refl _ _).alloc (Nat.le_refl _) (.cells zc 34)
            have leA : u1.heap.size ≤ r1.heap.size := hH.2.2.2.2.2.2.size
            have RYn := Lib.hid (RY.out.below hb)
            clear RY
            have RY := RYn
            clear RYn
            have KB := Lib.hid (Bk.new r1 zc 34)
            refine hK.out _ _ ?_ (fun hG => ?_)
            · exact ⟨cell_below hb hH.1, cell_below hb hH.2.1, cell_below hb hH.2.2.1, cell_below hb hH.2.2.2.1, cell_below hb hH.2.2.2.2.1, cell_below hb hH.2.2.2.2.2.1, hH.2.2.2.2.2.2.trans (hb.mono hH.2.2.2.2.2.2.size)⟩
            replace hH := hG
            clear hK K hG
            try simp only [Act.put, List.setIfInBounds_toArray, List.set_cons_zero, List.set_cons_succ]
            clear hb
            refine wpAnyH_ready (rs := [4]) (by kernel_rfl) (by simp) (AllReadyH.cons rfl (fun K hK => ?_) (AllReadyH.nil))
            go_simp
            go_at_call 19; ((with_reducible refine (CS.out _ _ _ _ RY.out).mono ?_); rintro e r2 ⟨rfl, hb⟩); go_wp2_with fail
            have KBn := Lib.hid (KB.out.below hb)
            clear KB
            have KB := KBn
            clear KBn
            have RYn := Lib.hid (RY.out.below hb)
            clear RY
            have RY := RYn
            clear RYn
            refine hK.out _ _ ?_ (fun hG => ?_)
            · exact ⟨cell_below hb hH.1, cell_below hb hH.2.1, cell_below hb hH.2.2.1, cell_below hb hH.2.2.2.1, cell_below hb hH.2.2.2.2.1, cell_below hb hH.2.2.2.2.2.1, hH.2.2.2.2.2.2.trans (hb.mono hH.2.2.2.2.2.2.size)⟩
            replace hH := hG
            clear hK K hG
            try simp only [Act.put, List.setIfInBounds_toArray, List.set_cons_zero, List.set_cons_succ]
            clear hb
            refine wpAnyH_take (i := 5) (oi := { dst := some 21, op := _, type := _, pos := _, after := _, guard := _ }) (v := ?_) rfl (by kernel_rfl) (by kernel_rfl) (by kernel_rfl) (fun _ _ _ h => h) (Or.inl ⟨by rfl, ?_⟩) hH ?_
            rotate_left 1
            · intro W hSw
              (try dsimp only at hSw)
              go_simp
              (try with_reducible rfl)
            try simp only [Act.put, List.setIfInBounds_toArray, List.set_cons_zero, List.set_cons_succ]
            refine wpAnyH_take (i := 6) (oi := { dst := some 27, op := _, type := _, pos := _, after := _, guard := _ }) (v := ?_) rfl (by kernel_rfl) (by kernel_rfl) (by kernel_rfl) (fun _ _ _ h => h) (Or.inl ⟨by rfl, ?_⟩) hH ?_
            rotate_left 1
            · intro W hSw
              (try dsimp only at hSw)
              go_simp
              (try with_reducible rfl)
            try simp only [Act.put, List.setIfInBounds_toArray, List.set_cons_zero, List.set_cons_succ]
            refine wpAnyH_take (i := 7) (oi := { dst := some 28, op := _, type := _, pos := _, after := _, guard := _ }) (v := ?_) rfl (by kernel_rfl) (by kernel_rfl) (by kernel_rfl) (fun _ _ _ h => h) (Or.inl ⟨by rfl, ?_⟩) hH ?_
            rotate_left 1
            · intro W hSw
              (try dsimp only at hSw)
              go_simp
              (try with_reducible rfl)
            try simp only [Act.put, List.setIfInBounds_toArray, List.set_cons_zero, List.set_cons_succ]
            refine wpAnyH_ready (rs := [9]) (by kernel_rfl) (by simp) (AllReadyH.cons rfl (fun K hK => ?_) AllReadyH.nil)
            (refine step_store_row rfl 34 (.tmp 6) (.tmp 27) rfl (r1.heap.size) (zc) (by simp [Act.eval, Act.put]) (by simp [Act.eval, Act.put]) 34 zc KB.out (by kernel_rfl) rfl (by simp [Value.oneCell']) ?_; refine (show K (Act.put _ none _) _ from ?_); have hgR := row_grown r2 (r1.heap.size) (zc))
            refine hK.out _ _ ?_ (fun hG => ?_)
            · exact ⟨hgR.cell hH.1 (fun e => by have e := Option.some.inj e; (have e9 : w.heap.size = r1.heap.size := e); omega), hgR.cell hH.2.1 (fun e => by have e := Option.some.inj e; (have e9 : w.heap.size = r1.heap.size := e); omega), hgR.cell hH.2.2.1 (fun e => by have e := Option.some.inj e; (have e9 : w.heap.size = r1.heap.size := e); omega), hgR.cell hH.2.2.2.1 (fun e => by have e := Option.some.inj e; (have e9 : w.heap.size = r1.heap.size := e); omega), hgR.cell hH.2.2.2.2.1 (fun e => by have e := Option.some.inj e; (have e9 : w.heap.size + 1 = r1.heap.size := e); omega), hgR.cell hH.2.2.2.2.2.1 (fun e => by have e := Option.some.inj e; (have e9 : w.heap.size + 1 = r1.heap.size := e); omega), hH.2.2.2.2.2.2.grown hgR hH.2.2.2.2.2.2.size (fun z9 e9 => by have e9 := Option.some.inj e9; omega)⟩
            replace hH := hG
            clear hK K hG
            try simp only [Act.put, List.setIfInBounds_toArray, List.set_cons_zero, List.set_cons_succ]
            refine wpAnyH_take (i := 10) (oi := { dst := some 7, op := _, type := _, pos := _, after := _, guard := _ }) (v := ?_) rfl (by kernel_rfl) (by kernel_rfl) (by kernel_rfl) (fun _ _ _ h => h) (Or.inl ⟨by rfl, ?_⟩) hH ?_
            rotate_left 1
            · intro W hSw
              (try dsimp only at hSw)
              go_simp
              (try with_reducible rfl)
            try simp only [Act.put, List.setIfInBounds_toArray, List.set_cons_zero, List.set_cons_succ]
            refine wpAnyH_done (by kernel_rfl) ?_ _
            refine NoPanic.normal ?_
            have KF := Lib.hid (row_bk (zc) KB.out)
            have BF := Lib.hid hH.2.2.2.2.2.2
            clear hH hgR
            go_wp2_with fail
            go_meet
            exact ⟨_, rfl, rfl, KF, leA, BF⟩
        · go_simp
          have hb : Below r0.heap.size r0 (r0.alloc (.cells zc 34)) := (Below.refl _ _).alloc (Nat.le_refl _) (.cells zc 34)
          have leA : u1.heap.size ≤ r0.heap.size := hH.2.2.2.2.2.2.size
          have RYn := Lib.hid (RY.out.below hb)
          clear RY
          have RY := RYn
          clear RYn
          have KB := Lib.hid (Bk.new r0 zc 34)
          refine hK.out _ _ ?_ (fun hG => ?_)
          · exact ⟨cell_below hb hH.1, cell_below hb hH.2.1, cell_below hb hH.2.2.1, cell_below hb hH.2.2.2.1, cell_below hb hH.2.2.2.2.1, cell_below hb hH.2.2.2.2.2.1, hH.2.2.2.2.2.2.trans (hb.mono hH.2.2.2.2.2.2.size)⟩
          replace hH := hG
          clear hK K hG
          try simp only [Act.put, List.setIfInBounds_toArray, List.set_cons_zero, List.set_cons_succ]
          clear hb
          refine wpAnyH_ready (rs := [3]) (by kernel_rfl) (by simp) (AllReadyH.cons rfl (fun K hK => ?_) (AllReadyH.nil))
          go_simp
          go_at_call 20; ((with_reducible refine (toPlace9 x1 y1 _).mono ?_); rintro e r1 ⟨rfl, hb⟩); go_wp2_with fail
          have KBn := Lib.hid (KB.out.below hb)
          clear KB
          have KB := KBn
          clear KBn
          have RYn := Lib.hid (RY.out.below hb)
          clear RY
          have RY := RYn
          clear RYn
          refine hK.out _ _ ?_ (fun hG => ?_)
          · exact ⟨cell_below hb hH.1, cell_below hb hH.2.1, cell_below hb hH.2.2.1, cell_below hb hH.2.2.2.1, cell_below hb hH.2.2.2.2.1, cell_below hb hH.2.2.2.2.2.1, hH.2.2.2.2.2.2.trans (hb.mono hH.2.2.2.2.2.2.size)⟩
          replace hH := hG
          clear hK K hG
          try simp only [Act.put, List.setIfInBounds_toArray, List.set_cons_zero, List.set_cons_succ]
          clear hb
          refine wpAnyH_ready (rs := [4]) (by kernel_rfl) (by simp) (AllReadyH.cons rfl (fun K hK => ?_) (AllReadyH.nil))
          go_simp
          go_at_call 19; ((with_reducible refine (CS.out _ _ _ _ RY.out).mono ?_); rintro e r2 ⟨rfl, hb⟩); go_wp2_with fail
          have KBn := Lib.hid (KB.out.below hb)
          clear KB
          have KB := KBn
          clear KBn
          have RYn := Lib.hid (RY.out.below hb)
          clear RY
          have RY := RYn
          clear RYn
          refine hK.out _ _ ?_ (fun hG => ?_)
          · exact ⟨cell_below hb hH.1, cell_below hb hH.2.1, cell_below hb hH.2.2.1, cell_below hb hH.2.2.2.1, cell_below hb hH.2.2.2.2.1, cell_below hb hH.2.2.2.2.2.1, hH.2.2.2.2.2.2.trans (hb.mono hH.2.2.2.2.2.2.size)⟩
          replace hH := hG
          clear hK K hG
          try simp only [Act.put, List.setIfInBounds_toArray, List.set_cons_zero, List.set_cons_succ]
          clear hb
          refine wpAnyH_take (i := 5) (oi := { dst := some 21, op := _, type := _, pos := _, after := _, guard := _ }) (v := ?_) rfl (by kernel_rfl) (by kernel_rfl) (by kernel_rfl) (fun _ _ _ h => h) (Or.inl ⟨by rfl, ?_⟩) hH ?_
          rotate_left 1
          · intro W hSw
            (try dsimp only at hSw)
            go_simp
            (try with_reducible rfl)
          try simp only [Act.put, List.setIfInBounds_toArray, List.set_cons_zero, List.set_cons_succ]
          refine wpAnyH_take (i := 6) (oi := { dst := some 27, op := _, type := _, pos := _, after := _, guard := _ }) (v := ?_) rfl (by kernel_rfl) (by kernel_rfl) (by kernel_rfl) (fun _ _ _ h => h) (Or.inl ⟨by rfl, ?_⟩) hH ?_
          rotate_left 1
          · intro W hSw
            (try dsimp only at hSw)
            go_simp
            (try with_reducible rfl)
          try simp only [Act.put, List.setIfInBounds_toArray, List.set_cons_zero, List.set_cons_succ]
          refine wpAnyH_take (i := 7) (oi := { dst := some 28, op := _, type := _, pos := _, after := _, guard := _ }) (v := ?_) rfl (by kernel_rfl) (by kernel_rfl) (by kernel_rfl) (fun _ _ _ h => h) (Or.inl ⟨by rfl, ?_⟩) hH ?_
          rotate_left 1
          · intro W hSw
            (try dsimp only at hSw)
            go_simp
            (try with_reducible rfl)
          try simp only [Act.put, List.setIfInBounds_toArray, List.set_cons_zero, List.set_cons_succ]
          refine wpAnyH_ready (rs := [9]) (by kernel_rfl) (by simp) (AllReadyH.cons rfl (fun K hK => ?_) AllReadyH.nil)
          (refine step_store_row rfl 34 (.tmp 6) (.tmp 27) rfl (r0.heap.size) (zc) (by simp [Act.eval, Act.put]) (by simp [Act.eval, Act.put]) 34 zc KB.out (by kernel_rfl) rfl (by simp [Value.oneCell']) ?_; refine (show K (Act.put _ none _) _ from ?_); have hgR := row_grown r2 (r0.heap.size) (zc))
          refine hK.out _ _ ?_ (fun hG => ?_)
          · exact ⟨hgR.cell hH.1 (fun e => by have e := Option.some.inj e; (have e9 : w.heap.size = r0.heap.size := e); omega), hgR.cell hH.2.1 (fun e => by have e := Option.some.inj e; (have e9 : w.heap.size = r0.heap.size := e); omega), hgR.cell hH.2.2.1 (fun e => by have e := Option.some.inj e; (have e9 : w.heap.size = r0.heap.size := e); omega), hgR.cell hH.2.2.2.1 (fun e => by have e := Option.some.inj e; (have e9 : w.heap.size = r0.heap.size := e); omega), hgR.cell hH.2.2.2.2.1 (fun e => by have e := Option.some.inj e; (have e9 : w.heap.size + 1 = r0.heap.size := e); omega), hgR.cell hH.2.2.2.2.2.1 (fun e => by have e := Option.some.inj e; (have e9 : w.heap.size + 1 = r0.heap.size := e); omega), hH.2.2.2.2.2.2.grown hgR hH.2.2.2.2.2.2.size (fun z9 e9 => by have e9 := Option.some.inj e9; omega)⟩
          replace hH := hG
          clear hK K hG
          try simp only [Act.put, List.setIfInBounds_toArray, List.set_cons_zero, List.set_cons_succ]
          refine wpAnyH_take (i := 10) (oi := { dst := some 7, op := _, type := _, pos := _, after := _, guard := _ }) (v := ?_) rfl (by kernel_rfl) (by kernel_rfl) (by kernel_rfl) (fun _ _ _ h => h) (Or.inl ⟨by rfl, ?_⟩) hH ?_
          rotate_left 1
          · intro W hSw
            (try dsimp only at hSw)
            go_simp
            (try with_reducible rfl)
          try simp only [Act.put, List.setIfInBounds_toArray, List.set_cons_zero, List.set_cons_succ]
          refine wpAnyH_done (by kernel_rfl) ?_ _
          refine NoPanic.normal ?_
          have KF := Lib.hid (row_bk (zc) KB.out)
          have BF := Lib.hid hH.2.2.2.2.2.2
          clear hH hgR
          go_wp2_with fail
          go_meet
          exact ⟨_, rfl, rfl, KF, leA, BF⟩
      · go_simp
        have hb : Below u1.drew.heap.size u1.drew (u1.drew.alloc (.cells zc 34)) := (Below.refl _ _).alloc (Nat.le_refl _) (.cells zc 34)
        have leA : u1.heap.size ≤ u1.drew.heap.size := hH.2.2.2.2.2.2.size
        have KB := Lib.hid (Bk.new u1.drew zc 34)
        refine hK.out _ _ ?_ (fun hG => ?_)
        · exact ⟨cell_below hb hH.1, cell_below hb hH.2.1, cell_below hb hH.2.2.1, cell_below hb hH.2.2.2.1, cell_below hb hH.2.2.2.2.1, cell_below hb hH.2.2.2.2.2.1, hH.2.2.2.2.2.2.trans (hb.mono hH.2.2.2.2.2.2.size)⟩
        replace hH := hG
        clear hK K hG
        try simp only [Act.put, List.setIfInBounds_toArray, List.set_cons_zero, List.set_cons_succ]
        clear hb
        refine wpAnyH_ready (rs := [1]) (by kernel_rfl) (by simp) (AllReadyH.cons rfl (fun K hK => ?_) (AllReadyH.nil))
        go_simp
        go_at_call 10; ((with_reducible refine (TO.out _ (HS.out.below (BB.out.trans (hH.2.2.2.2.2.2.mono BB.out.size)))).mono ?_); rintro e r0 ⟨ya, yb, yc, rfl, oa, ob, oc, _, _, hb⟩); go_wp2_with fail
        have KBn := Lib.hid (KB.out.below hb)
        clear KB
        have KB := KBn
        clear KBn
        have RY := Lib.hid (SR.own oa ob oc)
        clear oa ob oc
        refine hK.out _ _ ?_ (fun hG => ?_)
        · exact ⟨cell_below hb hH.1, cell_below hb hH.2.1, cell_below hb hH.2.2.1, cell_below hb hH.2.2.2.1, cell_below hb hH.2.2.2.2.1, cell_below hb hH.2.2.2.2.2.1, hH.2.2.2.2.2.2.trans (hb.mono hH.2.2.2.2.2.2.size)⟩
        replace hH := hG
        clear hK K hG
        try simp only [Act.put, List.setIfInBounds_toArray, List.set_cons_zero, List.set_cons_succ]
        clear hb
        refine wpAnyH_ready (rs := [3]) (by kernel_rfl) (by simp) (AllReadyH.cons rfl (fun K hK => ?_) (AllReadyH.nil))
        go_simp
        go_at_call 20; ((with_reducible refine (toPlace9 x1 y1 _).mono ?_); rintro e r1 ⟨rfl, hb⟩); go_wp2_with fail
        have KBn := Lib.hid (KB.out.below hb)
        clear KB
        have KB := KBn
        clear KBn
        have RYn := Lib.hid (RY.out.below hb)
        clear RY
        have RY := RYn
        clear RYn
        refine hK.out _ _ ?_ (fun hG => ?_)
        · exact ⟨cell_below hb hH.1, cell_below hb hH.2.1, cell_below hb hH.2.2.1, cell_below hb hH.2.2.2.1, cell_below hb hH.2.2.2.2.1, cell_below hb hH.2.2.2.2.2.1, hH.2.2.2.2.2.2.trans (hb.mono hH.2.2.2.2.2.2.size)⟩
        replace hH := hG
        clear hK K hG
        try simp only [Act.put, List.setIfInBounds_toArray, List.set_cons_zero, List.set_cons_succ]
        clear hb
        refine wpAnyH_ready (rs := [4]) (by kernel_rfl) (by simp) (AllReadyH.cons rfl (fun K hK => ?_) (AllReadyH.nil))
        go_simp
        go_at_call 19; ((with_reducible refine (CS.out _ _ _ _ RY.out).mono ?_); rintro e r2 ⟨rfl, hb⟩); go_wp2_with fail
        have KBn := Lib.hid (KB.out.below hb)
        clear KB
        have KB := KBn
        clear KBn
        have RYn := Lib.hid (RY.out.below hb)
        clear RY
        have RY := RYn
        clear RYn
        refine hK.out _ _ ?_ (fun hG => ?_)
        · exact ⟨cell_below hb hH.1, cell_below hb hH.2.1, cell_below hb hH.2.2.1, cell_below hb hH.2.2.2.1, cell_below hb hH.2.2.2.2.1, cell_below hb hH.2.2.2.2.2.1, hH.2.2.2.2.2.2.trans (hb.mono hH.2.2.2.2.2.2.size)⟩
        replace hH := hG
        clear hK K hG
        try simp only [Act.put, List.setIfInBounds_toArray, List.set_cons_zero, List.set_cons_succ]
        clear hb
        refine wpAnyH_take (i := 5) (oi := { dst := some 21, op := _, type := _, pos := _, after := _, guard := _ }) (v := ?_) rfl (by kernel_rfl) (by kernel_rfl) (by kernel_rfl) (fun _ _ _ h => h) (Or.inl ⟨by rfl, ?_⟩) hH ?_
        rotate_left 1
        · intro W hSw
          (try dsimp only at hSw)
          go_simp
          (try with_reducible rfl)
        try simp only [Act.put, List.setIfInBounds_toArray, List.set_cons_zero, List.set_cons_succ]
        refine wpAnyH_take (i := 6) (oi := { dst := some 27, op := _, type := _, pos := _, after := _, guard := _ }) (v := ?_) rfl (by kernel_rfl) (by kernel_rfl) (by kernel_rfl) (fun _ _ _ h => h) (Or.inl ⟨by rfl, ?_⟩) hH ?_
        rotate_left 1
        · intro W hSw
          (try dsimp only at hSw)
          go_simp
          (try with_reducible rfl)
        try simp only [Act.put, List.setIfInBounds_toArray, List.set_cons_zero, List.set_cons_succ]
        refine wpAnyH_take (i := 7) (oi := { dst := some 28, op := _, type := _, pos := _, after := _, guard := _ }) (v := ?_) rfl (by kernel_rfl) (by kernel_rfl) (by kernel_rfl) (fun _ _ _ h => h) (Or.inl ⟨by rfl, ?_⟩) hH ?_
        rotate_left 1
        · intro W hSw
          (try dsimp only at hSw)
          go_simp
          (try with_reducible rfl)
        try simp only [Act.put, List.setIfInBounds_toArray, List.set_cons_zero, List.set_cons_succ]
        refine wpAnyH_ready (rs := [9]) (by kernel_rfl) (by simp) (AllReadyH.cons rfl (fun K hK => ?_) AllReadyH.nil)
        (refine step_store_row rfl 34 (.tmp 6) (.tmp 27) rfl (u1.drew.heap.size) (zc) (by simp [Act.eval, Act.put]) (by simp [Act.eval, Act.put]) 34 zc KB.out (by kernel_rfl) rfl (by simp [Value.oneCell']) ?_; refine (show K (Act.put _ none _) _ from ?_); have hgR := row_grown r2 (u1.drew.heap.size) (zc))
        refine hK.out _ _ ?_ (fun hG => ?_)
        · exact ⟨hgR.cell hH.1 (fun e => by have e := Option.some.inj e; (have e9 : w.heap.size = u1.drew.heap.size := e); omega), hgR.cell hH.2.1 (fun e => by have e := Option.some.inj e; (have e9 : w.heap.size = u1.drew.heap.size := e); omega), hgR.cell hH.2.2.1 (fun e => by have e := Option.some.inj e; (have e9 : w.heap.size = u1.drew.heap.size := e); omega), hgR.cell hH.2.2.2.1 (fun e => by have e := Option.some.inj e; (have e9 : w.heap.size = u1.drew.heap.size := e); omega), hgR.cell hH.2.2.2.2.1 (fun e => by have e := Option.some.inj e; (have e9 : w.heap.size + 1 = u1.drew.heap.size := e); omega), hgR.cell hH.2.2.2.2.2.1 (fun e => by have e := Option.some.inj e; (have e9 : w.heap.size + 1 = u1.drew.heap.size := e); omega), hH.2.2.2.2.2.2.grown hgR hH.2.2.2.2.2.2.size (fun z9 e9 => by have e9 := Option.some.inj e9; omega)⟩
        replace hH := hG
        clear hK K hG
        try simp only [Act.put, List.setIfInBounds_toArray, List.set_cons_zero, List.set_cons_succ]
        refine wpAnyH_take (i := 10) (oi := { dst := some 7, op := _, type := _, pos := _, after := _, guard := _ }) (v := ?_) rfl (by kernel_rfl) (by kernel_rfl) (by kernel_rfl) (fun _ _ _ h => h) (Or.inl ⟨by rfl, ?_⟩) hH ?_
        rotate_left 1
        · intro W hSw
          (try dsimp only at hSw)
          go_simp
          (try with_reducible rfl)
        try simp only [Act.put, List.setIfInBounds_toArray, List.set_cons_zero, List.set_cons_succ]
        refine wpAnyH_done (by kernel_rfl) ?_ _
        refine NoPanic.normal ?_
        have KF := Lib.hid (row_bk (zc) KB.out)
        have BF := Lib.hid hH.2.2.2.2.2.2
        clear hH hgR
        go_wp2_with fail
        go_meet
        exact ⟨_, rfl, rfl, KF, leA, BF⟩
    case rest =>
      obtain ⟨kW, rfl, rfl, KF, chk_W, hbF⟩ := hcut
      have hb := hbF.out
      clear hbF
      have B2 := Lib.hid (BB.out.trans (hb.mono BB.out.size))
      have K01 := Lib.hid (K0.out.below hb)
      have KP1 := Lib.hid (KP.out.below hb)
      clear hb BB K0 KP
      have BB := B2
      clear B2
      have K0 := K01
      clear K01
      have KP := KP1
      clear KP1
      have KW := KF
      clear KF
      have b0 := K0.out.cell (i := 0) rfl
      have b1 := K0.out.cell (i := 1) rfl
      have b2 := K0.out.cell (i := 2) rfl
      have b3 := K0.out.cell (i := 3) rfl
      have pl0 := KP.out.cell (i := 0) rfl
      have pl1 := KP.out.cell (i := 1) rfl
      have KW_0 := KW.out.cell (i := 0) rfl
      have KW_1 := KW.out.cell (i := 1) rfl
      have KW_2 := KW.out.cell (i := 2) rfl
      have KW_3 := KW.out.cell (i := 3) rfl
      go_wp2_with fail
      clear b0 b1 b2 b3 pl0 pl1
      clear KW_0 KW_1 KW_2 KW_3
      refine (TO.out _ (HS.out.below BB.out)).mono ?_
      rintro e u2 ⟨gv0, gv1, gv2, rfl, o0, o1, o2, l01, l12, hb⟩
      have ch_KW_v : kW < gv0 := Nat.lt_of_lt_of_le KW.out.lt (own_at o0)
      have ch_v1 := l01
      have ch_v2 := l12
      have chw_v : w.heap.size < gv0 := Nat.lt_of_lt_of_le K0.out.lt (own_at o0)
      have XN_v0 := Lib.hid (owns_base o0 (show w.heap.size ≤ gv0 by omega))
      have XN_v1 := Lib.hid (owns_base o1 (show w.heap.size ≤ gv1 by omega))
      have XN_v2 := Lib.hid (owns_base o2 (show w.heap.size ≤ gv2 by omega))
      clear o0 o1 o2
      have B2 := Lib.hid (BB.out.trans (hb.mono BB.out.size))
      have K01 := Lib.hid (K0.out.below hb)
      have KP1 := Lib.hid (KP.out.below hb)
      have KW1 := Lib.hid (KW.out.below hb)
      clear hb BB K0 KP KW
      have BB := B2
      clear B2
      have K0 := K01
      clear K01
      have KP := KP1
      clear KP1
      have KW := KW1
      clear KW1
      have v0 := XN_v0
      clear XN_v0
      have v1 := XN_v1
      clear XN_v1
      have v2 := XN_v2
      clear XN_v2
      have hb := (Below.refl u2.heap.size u2).alloc (Nat.le_refl _) (.cells (#[.slice (some ⟨gv0, 0, none⟩) n0 n0, .slice (some ⟨gv1, 0, none⟩) n1 n1, .slice (some ⟨gv2, 0, none⟩) n2 n2, .int .i64 T]) 34)
      have KXn := Lib.hid (Bk.new u2 (#[.slice (some ⟨gv0, 0, none⟩) n0 n0, .slice (some ⟨gv1, 0, none⟩) n1 n1, .slice (some ⟨gv2, 0, none⟩) n2 n2, .int .i64 T]) 34)
      have ch_v2_KX : gv2 < u2.heap.size := (own_lt v2.out)
      have B2 := Lib.hid (BB.out.trans (hb.mono BB.out.size))
      have K01 := Lib.hid (K0.out.below hb)
      have KP1 := Lib.hid (KP.out.below hb)
      have KW1 := Lib.hid (KW.out.below hb)
      have v01 := Lib.hid (owns_below v0.out hb)
      have v11 := Lib.hid (owns_below v1.out hb)
      have v21 := Lib.hid (owns_below v2.out hb)
      clear hb BB K0 KP KW v0 v1 v2
      have BB := B2
      clear B2
      have K0 := K01
      clear K01
      have KP := KP1
      clear KP1
      have KW := KW1
      clear KW1
      have v0 := v01
      clear v01
      have v1 := v11
      clear v11
      have v2 := v21
      clear v21
      have KX := KXn
      clear KXn
      have b0 := K0.out.cell (i := 0) rfl
      have b1 := K0.out.cell (i := 1) rfl
      have b2 := K0.out.cell (i := 2) rfl
      have b3 := K0.out.cell (i := 3) rfl
      have pl0 := KP.out.cell (i := 0) rfl
      have pl1 := KP.out.cell (i := 1) rfl
      have KW_0 := KW.out.cell (i := 0) rfl
      have KW_1 := KW.out.cell (i := 1) rfl
      have KW_2 := KW.out.cell (i := 2) rfl
      have KW_3 := KW.out.cell (i := 3) rfl
      have KX_0 := KX.out.cell (i := 0) rfl
      have KX_1 := KX.out.cell (i := 1) rfl
      have KX_2 := KX.out.cell (i := 2) rfl
      have KX_3 := KX.out.cell (i := 3) rfl
      go_upto_region 7 with fail
      clear b0 b1 b2 b3 pl0 pl1
      clear KW_0 KW_1 KW_2 KW_3
      clear KX_0 KX_1 KX_2 KX_3
      have ch_KX_G : u2.heap.size < (u2.alloc (.cells (#[.slice (some ⟨gv0, 0, none⟩) n0 n0, .slice (some ⟨gv1, 0, none⟩) n1 n1, .slice (some ⟨gv2, 0, none⟩) n2 n2, .int .i64 T]) 34)).heap.size := KX.out.lt
      have chu_G : w.heap.size + 1 < (u2.alloc (.cells (#[.slice (some ⟨gv0, 0, none⟩) n0 n0, .slice (some ⟨gv1, 0, none⟩) n1 n1, .slice (some ⟨gv2, 0, none⟩) n2 n2, .int .i64 T]) 34)).heap.size := KP.out.lt
      go_cut [9, 10] (fun a b wx => ∃ k, a = .pointer (some ⟨k, 0, none⟩) ∧ b = .bool false ∧ Hid (Bk wx k zc 34) ∧ (u2.alloc (.cells (#[.slice (some ⟨gv0, 0, none⟩) n0 n0, .slice (some ⟨gv1, 0, none⟩) n1 n1, .slice (some ⟨gv2, 0, none⟩) n2 n2, .int .i64 T]) 34)).heap.size ≤ k ∧ Hid (Below (u2.alloc (.cells (#[.slice (some ⟨gv0, 0, none⟩) n0 n0, .slice (some ⟨gv1, 0, none⟩) n1 n1, .slice (some ⟨gv2, 0, none⟩) n2 n2, .int .i64 T]) 34)).heap.size (u2.alloc (.cells (#[.slice (some ⟨gv0, 0, none⟩) n0 n0, .slice (some ⟨gv1, 0, none⟩) n1 n1, .slice (some ⟨gv2, 0, none⟩) n2 n2, .int .i64 T]) 34)) wx))
      case first =>
        have b0 := K0.out.cell (i := 0) rfl
        have b1 := K0.out.cell (i := 1) rfl
        have b2 := K0.out.cell (i := 2) rfl
        have b3 := K0.out.cell (i := 3) rfl
        have pl0 := KP.out.cell (i := 0) rfl
        have pl1 := KP.out.cell (i := 1) rfl
        have f0 := KX.out.cell (i := 0) rfl
        have f1 := KX.out.cell (i := 1) rfl
        have f2 := KX.out.cell (i := 2) rfl
        have f3 := KX.out.cell (i := 3) rfl
        refine wp_region_noPanic ?_
        refine wp_region_held_drew (S := (fun w' => w'.cell? ⟨w.heap.size, 0, none⟩ = some (.slice A0 n0 c0) ∧ w'.cell? ⟨w.heap.size, 1, none⟩ = some (.slice A1 n1 c1) ∧ w'.cell? ⟨w.heap.size, 2, none⟩ = some (.slice A2 n2 c2) ∧ w'.cell? ⟨w.heap.size, 3, none⟩ = some (.int .i64 T) ∧ w'.cell? ⟨w.heap.size + 1, 0, none⟩ = some (.int .i64 x1) ∧ w'.cell? ⟨w.heap.size + 1, 1, none⟩ = some (.int .i64 y1) ∧ w'.cell? ⟨u2.heap.size, 0, none⟩ = some (.slice (some ⟨gv0, 0, none⟩) n0 n0) ∧ w'.cell? ⟨u2.heap.size, 1, none⟩ = some (.slice (some ⟨gv1, 0, none⟩) n1 n1) ∧ w'.cell? ⟨u2.heap.size, 2, none⟩ = some (.slice (some ⟨gv2, 0, none⟩) n2 n2) ∧ w'.cell? ⟨u2.heap.size, 3, none⟩ = some (.int .i64 T) ∧ Below (u2.alloc (.cells (#[.slice (some ⟨gv0, 0, none⟩) n0 n0, .slice (some ⟨gv1, 0, none⟩) n1 n1, .slice (some ⟨gv2, 0, none⟩) n2 n2, .int .i64 T]) 34)).heap.size (u2.alloc (.cells (#[.slice (some ⟨gv0, 0, none⟩) n0 n0, .slice (some ⟨gv1, 0, none⟩) n1 n1, .slice (some ⟨gv2, 0, none⟩) n2 n2, .int .i64 T]) 34)) w')) (by kernel_rfl) ?_ (fun hH => ?_)
        · exact ⟨b0, b1, b2, b3, pl0, pl1, f0, f1, f2, f3, (Below.refl _ _).drew⟩
        clear b0 b1 b2 b3 pl0 pl1 f0 f1 f2 f3
        refine wpAnyH_take (i := 0) (oi := { dst := some 32, op := _, type := _, pos := _, after := _, guard := _ }) (v := ?_) rfl (by kernel_rfl) (by kernel_rfl) (by kernel_rfl) (fun _ _ _ h => h) (Or.inl ⟨by rfl, ?_⟩) hH ?_
        rotate_left 1
        · intro W hSw
          (try dsimp only at hSw)
          go_simp
          (try with_reducible rfl)
        try simp only [Act.put, List.setIfInBounds_toArray, List.set_cons_zero, List.set_cons_succ]
        refine wpAnyH_take (i := 1) (oi := { dst := some 33, op := _, type := _, pos := _, after := _, guard := _ }) (v := ?_) rfl (by kernel_rfl) (by kernel_rfl) (by kernel_rfl) (fun _ _ _ h => h) (Or.inl ⟨by rfl, ?_⟩) hH ?_
        rotate_left 1
        · intro W hSw
          (try dsimp only at hSw)
          go_simp
          (try with_reducible rfl)
        try simp only [Act.put, List.setIfInBounds_toArray, List.set_cons_zero, List.set_cons_succ]
        refine wpAnyH_ready (rs := [2, 7]) (by kernel_rfl) (by simp) (AllReadyH.cons rfl (fun K hK => ?_) (AllReadyH.cons rfl (fun K hK => ?_) (AllReadyH.nil)))
        · go_simp
          go_at_call 20; ((with_reducible refine (toPlace9 x1 y1 _).mono ?_); rintro e r0 ⟨rfl, hb⟩); go_wp2_with fail
          refine hK.out _ _ ?_ (fun hG => ?_)
          · exact ⟨cell_below hb hH.1, cell_below hb hH.2.1, cell_below hb hH.2.2.1, cell_below hb hH.2.2.2.1, cell_below hb hH.2.2.2.2.1, cell_below hb hH.2.2.2.2.2.1, cell_below hb hH.2.2.2.2.2.2.1, cell_below hb hH.2.2.2.2.2.2.2.1, cell_below hb hH.2.2.2.2.2.2.2.2.1, cell_below hb hH.2.2.2.2.2.2.2.2.2.1, hH.2.2.2.2.2.2.2.2.2.2.trans (hb.mono hH.2.2.2.2.2.2.2.2.2.2.size)⟩
          replace hH := hG
          clear hK K hG
          try simp only [Act.put, List.setIfInBounds_toArray, List.set_cons_zero, List.set_cons_succ]
          clear hb
          refine wpAnyH_ready (rs := [3, 7]) (by kernel_rfl) (by simp) (AllReadyH.cons rfl (fun K hK => ?_) (AllReadyH.cons rfl (fun K hK => ?_) (AllReadyH.nil)))
          · go_simp
            go_at_call 21; ((with_reducible refine (CI.out _ _ _ _ ((SR.own v0.out v1.out v2.out).below hH.2.2.2.2.2.2.2.2.2.2)).mono ?_); rintro e r1 ⟨rfl, hb⟩); go_wp2_with fail
            refine hK.out _ _ ?_ (fun hG => ?_)
            · exact ⟨cell_below hb hH.1, cell_below hb hH.2.1, cell_below hb hH.2.2.1, cell_below hb hH.2.2.2.1, cell_below hb hH.2.2.2.2.1, cell_below hb hH.2.2.2.2.2.1, cell_below hb hH.2.2.2.2.2.2.1, cell_below hb hH.2.2.2.2.2.2.2.1, cell_below hb hH.2.2.2.2.2.2.2.2.1, cell_below hb hH.2.2.2.2.2.2.2.2.2.1, hH.2.2.2.2.2.2.2.2.2.2.trans (hb.mono hH.2.2.2.2.2.2.2.2.2.2.size)⟩
            replace hH := hG
            clear hK K hG
            try simp only [Act.put, List.setIfInBounds_toArray, List.set_cons_zero, List.set_cons_succ]
            clear hb
            refine wpAnyH_take (i := 4) (oi := { dst := some 31, op := _, type := _, pos := _, after := _, guard := _ }) (v := ?_) rfl (by kernel_rfl) (by kernel_rfl) (by kernel_rfl) (fun _ _ _ h => h) (Or.inl ⟨by rfl, ?_⟩) hH ?_
            rotate_left 1
            · intro W hSw
              (try dsimp only at hSw)
              go_simp
              (try with_reducible rfl)
            try simp only [Act.put, List.setIfInBounds_toArray, List.set_cons_zero, List.set_cons_succ]
            refine wpAnyH_take (i := 5) (oi := { dst := some 36, op := _, type := _, pos := _, after := _, guard := _ }) (v := ?_) rfl (by kernel_rfl) (by kernel_rfl) (by kernel_rfl) (fun _ _ _ h => h) (Or.inl ⟨by rfl, ?_⟩) hH ?_
            rotate_left 1
            · intro W hSw
              (try dsimp only at hSw)
              go_simp
              (try with_reducible rfl)
            try simp only [Act.put, List.setIfInBounds_toArray, List.set_cons_zero, List.set_cons_succ]
            refine wpAnyH_take (i := 6) (oi := { dst := some 37, op := _, type := _, pos := _, after := _, guard := _ }) (v := ?_) rfl (by kernel_rfl) (by kernel_rfl) (by kernel_rfl) (fun _ _ _ h => h) (Or.inl ⟨by rfl, ?_⟩) hH ?_
            rotate_left 1
            · intro W hSw
              (try dsimp only at hSw)
              go_simp
              (try with_reducible rfl)
            try simp only [Act.put, List.setIfInBounds_toArray, List.set_cons_zero, List.set_cons_succ]
            refine wpAnyH_ready (rs := [7]) (by kernel_rfl) (by simp) (AllReadyH.cons rfl (fun K hK => ?_) (AllReadyH.nil))
            go_simp
            have hb : Below r1.heap.size r1 (r1.alloc (.cells zc 34)) := (Below.refl _ _).alloc (Nat.le_refl _) (.cells zc 34)
            have leA : (u2.alloc (.cells (#[.slice (some ⟨gv0, 0, none⟩) n0 n0, .slice (some ⟨gv1, 0, none⟩) n1 n1, .slice (some ⟨gv2, 0, none⟩) n2 n2, .int .i64 T]) 34)).heap.size ≤ r1.heap.size := hH.2.2.2.2.2.2.2.2.2.2.size
            have KB := Lib.hid (Bk.new r1 zc 34)
            refine hK.out _ _ ?_ (fun hG => ?_)
            · exact ⟨cell_below hb hH.1, cell_below hb hH.2.1, cell_below hb hH.2.2.1, cell_below hb hH.2.2.2.1, cell_below hb hH.2.2.2.2.1, cell_below hb hH.2.2.2.2.2.1, cell_below hb hH.2.2.2.2.2.2.1, cell_below hb hH.2.2.2.2.2.2.2.1, cell_below hb hH.2.2.2.2.2.2.2.2.1, cell_below hb hH.2.2.2.2.2.2.2.2.2.1, hH.2.2.2.2.2.2.2.2.2.2.trans (hb.mono hH.2.2.2.2.2.2.2.2.2.2.size)⟩
            replace hH := hG
            clear hK K hG
            try simp only [Act.put, List.setIfInBounds_toArray, List.set_cons_zero, List.set_cons_succ]
            clear hb
            refine wpAnyH_ready (rs := [8]) (by kernel_rfl) (by simp) (AllReadyH.cons rfl (fun K hK => ?_) AllReadyH.nil)
            (refine step_store_row rfl 34 (.tmp 9) (.tmp 36) rfl (r1.heap.size) (zc) (by simp [Act.eval, Act.put]) (by simp [Act.eval, Act.put]) 34 zc KB.out (by kernel_rfl) rfl (by simp [Value.oneCell']) ?_; refine (show K (Act.put _ none _) _ from ?_); have hgR := row_grown (r1.alloc (.cells zc 34)) (r1.heap.size) (zc))
            refine hK.out _ _ ?_ (fun hG => ?_)
            · exact ⟨hgR.cell hH.1 (fun e => by have e := Option.some.inj e; (have e9 : w.heap.size = r1.heap.size := e); omega), hgR.cell hH.2.1 (fun e => by have e := Option.some.inj e; (have e9 : w.heap.size = r1.heap.size := e); omega), hgR.cell hH.2.2.1 (fun e => by have e := Option.some.inj e; (have e9 : w.heap.size = r1.heap.size := e); omega), hgR.cell hH.2.2.2.1 (fun e => by have e := Option.some.inj e; (have e9 : w.heap.size = r1.heap.size := e); omega), hgR.cell hH.2.2.2.2.1 (fun e => by have e := Option.some.inj e; (have e9 : w.heap.size + 1 = r1.heap.size := e); omega), hgR.cell hH.2.2.2.2.2.1 (fun e => by have e := Option.some.inj e; (have e9 : w.heap.size + 1 = r1.heap.size := e); omega), hgR.cell hH.2.2.2.2.2.2.1 (fun e => by have e := Option.some.inj e; (have e9 : u2.heap.size = r1.heap.size := e); omega), hgR.cell hH.2.2.2.2.2.2.2.1 (fun e => by have e := Option.some.inj e; (have e9 : u2.heap.size = r1.heap.size := e); omega), hgR.cell hH.2.2.2.2.2.2.2.2.1 (fun e => by have e := Option.some.inj e; (have e9 : u2.heap.size = r1.heap.size := e); omega), hgR.cell hH.2.2.2.2.2.2.2.2.2.1 (fun e => by have e := Option.some.inj e; (have e9 : u2.heap.size = r1.heap.size := e); omega), hH.2.2.2.2.2.2.2.2.2.2.grown hgR hH.2.2.2.2.2.2.2.2.2.2.size (fun z9 e9 => by have e9 := Option.some.inj e9; omega)⟩
            replace hH := hG
            clear hK K hG
            try simp only [Act.put, List.setIfInBounds_toArray, List.set_cons_zero, List.set_cons_succ]
            refine wpAnyH_take (i := 9) (oi := { dst := some 10, op := _, type := _, pos := _, after := _, guard := _ }) (v := ?_) rfl (by kernel_rfl) (by kernel_rfl) (by kernel_rfl) (fun _ _ _ h => h) (Or.inl ⟨by rfl, ?_⟩) hH ?_
            rotate_left 1
            · intro W hSw
              (try dsimp only at hSw)
              go_simp
              (try with_reducible rfl)
            try simp only [Act.put, List.setIfInBounds_toArray, List.set_cons_zero, List.set_cons_succ]
            refine wpAnyH_done (by kernel_rfl) ?_ _
            refine NoPanic.normal ?_
            have KF := Lib.hid (row_bk (zc) KB.out)
            have BF := Lib.hid hH.2.2.2.2.2.2.2.2.2.2
            clear hH hgR
            go_wp2_with fail
            go_meet
            exact ⟨_, rfl, rfl, KF, leA, BF⟩
          · go_simp
            have hb : Below r0.heap.size r0 (r0.alloc (.cells zc 34)) := (Below.refl _ _).alloc (Nat.le_refl _) (.cells zc 34)
            have leA : (u2.alloc (.cells (#[.slice (some ⟨gv0, 0, none⟩) n0 n0, .slice (some ⟨gv1, 0, none⟩) n1 n1, .slice (some ⟨gv2, 0, none⟩) n2 n2, .int .i64 T]) 34)).heap.size ≤ r0.heap.size := hH.2.2.2.2.2.2.2.2.2.2.size
            have KB := Lib.hid (Bk.new r0 zc 34)
            refine hK.out _ _ ?_ (fun hG => ?_)
            · exact ⟨cell_below hb hH.1, cell_below hb hH.2.1, cell_below hb hH.2.2.1, cell_below hb hH.2.2.2.1, cell_below hb hH.2.2.2.2.1, cell_below hb hH.2.2.2.2.2.1, cell_below hb hH.2.2.2.2.2.2.1, cell_below hb hH.2.2.2.2.2.2.2.1, cell_below hb hH.2.2.2.2.2.2.2.2.1, cell_below hb hH.2.2.2.2.2.2.2.2.2.1, hH.2.2.2.2.2.2.2.2.2.2.trans (hb.mono hH.2.2.2.2.2.2.2.2.2.2.size)⟩
            replace hH := hG
            clear hK K hG
            try simp only [Act.put, List.setIfInBounds_toArray, List.set_cons_zero, List.set_cons_succ]
            clear hb
            refine wpAnyH_ready (rs := [3]) (by kernel_rfl) (by simp) (AllReadyH.cons rfl (fun K hK => ?_) (AllReadyH.nil))
            go_simp
            go_at_call 21; ((with_reducible refine (CI.out _ _ _ _ ((SR.own v0.out v1.out v2.out).below hH.2.2.2.2.2.2.2.2.2.2)).mono ?_); rintro e r1 ⟨rfl, hb⟩); go_wp2_with fail
            have KBn := Lib.hid (KB.out.below hb)
            clear KB
            have KB := KBn
            clear KBn
            refine hK.out _ _ ?_ (fun hG => ?_)
            · exact ⟨cell_below hb hH.1, cell_below hb hH.2.1, cell_below hb hH.2.2.1, cell_below hb hH.2.2.2.1, cell_below hb hH.2.2.2.2.1, cell_below hb hH.2.2.2.2.2.1, cell_below hb hH.2.2.2.2.2.2.1, cell_below hb hH.2.2.2.2.2.2.2.1, cell_below hb hH.2.2.2.2.2.2.2.2.1, cell_below hb hH.2.2.2.2.2.2.2.2.2.1, hH.2.2.2.2.2.2.2.2.2.2.trans (hb.mono hH.2.2.2.2.2.2.2.2.2.2.size)⟩
            replace hH := hG
            clear hK K hG
            try simp only [Act.put, List.setIfInBounds_toArray, List.set_cons_zero, List.set_cons_succ]
            clear hb
            refine wpAnyH_take (i := 4) (oi := { dst := some 31, op := _, type := _, pos := _, after := _, guard := _ }) (v := ?_) rfl (by kernel_rfl) (by kernel_rfl) (by kernel_rfl) (fun _ _ _ h => h) (Or.inl ⟨by rfl, ?_⟩) hH ?_
            rotate_left 1
            · intro W hSw
              (try dsimp only at hSw)
              go_simp
              (try with_reducible rfl)
            try simp only [Act.put, List.setIfInBounds_toArray, List.set_cons_zero, List.set_cons_succ]
            refine wpAnyH_take (i := 5) (oi := { dst := some 36, op := _, type := _, pos := _, after := _, guard := _ }) (v := ?_) rfl (by kernel_rfl) (by kernel_rfl) (by kernel_rfl) (fun _ _ _ h => h) (Or.inl ⟨by rfl, ?_⟩) hH ?_
            rotate_left 1
            · intro W hSw
              (try dsimp only at hSw)
              go_simp
              (try with_reducible rfl)
            try simp only [Act.put, List.setIfInBounds_toArray, List.set_cons_zero, List.set_cons_succ]
            refine wpAnyH_take (i := 6) (oi := { dst := some 37, op := _, type := _, pos := _, after := _, guard := _ }) (v := ?_) rfl (by kernel_rfl) (by kernel_rfl) (by kernel_rfl) (fun _ _ _ h => h) (Or.inl ⟨by rfl, ?_⟩) hH ?_
            rotate_left 1
            · intro W hSw
              (try dsimp only at hSw)
              go_simp
              (try with_reducible rfl)
            try simp only [Act.put, List.setIfInBounds_toArray, List.set_cons_zero, List.set_cons_succ]
            refine wpAnyH_ready (rs := [8]) (by kernel_rfl) (by simp) (AllReadyH.cons rfl (fun K hK => ?_) AllReadyH.nil)
            (refine step_store_row rfl 34 (.tmp 9) (.tmp 36) rfl (r0.heap.size) (zc) (by simp [Act.eval, Act.put]) (by simp [Act.eval, Act.put]) 34 zc KB.out (by kernel_rfl) rfl (by simp [Value.oneCell']) ?_; refine (show K (Act.put _ none _) _ from ?_); have hgR := row_grown r1 (r0.heap.size) (zc))
            refine hK.out _ _ ?_ (fun hG => ?_)
            · exact ⟨hgR.cell hH.1 (fun e => by have e := Option.some.inj e; (have e9 : w.heap.size = r0.heap.size := e); omega), hgR.cell hH.2.1 (fun e => by have e := Option.some.inj e; (have e9 : w.heap.size = r0.heap.size := e); omega), hgR.cell hH.2.2.1 (fun e => by have e := Option.some.inj e; (have e9 : w.heap.size = r0.heap.size := e); omega), hgR.cell hH.2.2.2.1 (fun e => by have e := Option.some.inj e; (have e9 : w.heap.size = r0.heap.size := e); omega), hgR.cell hH.2.2.2.2.1 (fun e => by have e := Option.some.inj e; (have e9 : w.heap.size + 1 = r0.heap.size := e); omega), hgR.cell hH.2.2.2.2.2.1 (fun e => by have e := Option.some.inj e; (have e9 : w.heap.size + 1 = r0.heap.size := e); omega), hgR.cell hH.2.2.2.2.2.2.1 (fun e => by have e := Option.some.inj e; (have e9 : u2.heap.size = r0.heap.size := e); omega), hgR.cell hH.2.2.2.2.2.2.2.1 (fun e => by have e := Option.some.inj e; (have e9 : u2.heap.size = r0.heap.size := e); omega), hgR.cell hH.2.2.2.2.2.2.2.2.1 (fun e => by have e := Option.some.inj e; (have e9 : u2.heap.size = r0.heap.size := e); omega), hgR.cell hH.2.2.2.2.2.2.2.2.2.1 (fun e => by have e := Option.some.inj e; (have e9 : u2.heap.size = r0.heap.size := e); omega), hH.2.2.2.2.2.2.2.2.2.2.grown hgR hH.2.2.2.2.2.2.2.2.2.2.size (fun z9 e9 => by have e9 := Option.some.inj e9; omega)⟩
            replace hH := hG
            clear hK K hG
            try simp only [Act.put, List.setIfInBounds_toArray, List.set_cons_zero, List.set_cons_succ]
            refine wpAnyH_take (i := 9) (oi := { dst := some 10, op := _, type := _, pos := _, after := _, guard := _ }) (v := ?_) rfl (by kernel_rfl) (by kernel_rfl) (by kernel_rfl) (fun _ _ _ h => h) (Or.inl ⟨by rfl, ?_⟩) hH ?_
            rotate_left 1
            · intro W hSw
              (try dsimp only at hSw)
              go_simp
              (try with_reducible rfl)
            try simp only [Act.put, List.setIfInBounds_toArray, List.set_cons_zero, List.set_cons_succ]
            refine wpAnyH_done (by kernel_rfl) ?_ _
            refine NoPanic.normal ?_
            have KF := Lib.hid (row_bk (zc) KB.out)
            have BF := Lib.hid hH.2.2.2.2.2.2.2.2.2.2
            clear hH hgR
            go_wp2_with fail
            go_meet
            exact ⟨_, rfl, rfl, KF, leA, BF⟩
        · go_simp
          have hb : Below (u2.alloc (.cells (#[.slice (some ⟨gv0, 0, none⟩) n0 n0, .slice (some ⟨gv1, 0, none⟩) n1 n1, .slice (some ⟨gv2, 0, none⟩) n2 n2, .int .i64 T]) 34)).drew.heap.size (u2.alloc (.cells (#[.slice (some ⟨gv0, 0, none⟩) n0 n0, .slice (some ⟨gv1, 0, none⟩) n1 n1, .slice (some ⟨gv2, 0, none⟩) n2 n2, .int .i64 T]) 34)).drew ((u2.alloc (.cells (#[.slice (some ⟨gv0, 0, none⟩) n0 n0, .slice (some ⟨gv1, 0, none⟩) n1 n1, .slice (some ⟨gv2, 0, none⟩) n2 n2, .int .i64 T]) 34)).drew.alloc (.cells zc 34)) := (Below.refl _ _).alloc (Nat.le_refl _) (.cells zc 34)
          have leA : (u2.alloc (.cells (#[.slice (some ⟨gv0, 0, none⟩) n0 n0, .slice (some ⟨gv1, 0, none⟩) n1 n1, .slice (some ⟨gv2, 0, none⟩) n2 n2, .int .i64 T]) 34)).heap.size ≤ (u2.alloc (.cells (#[.slice (some ⟨gv0, 0, none⟩) n0 n0, .slice (some ⟨gv1, 0, none⟩) n1 n1, .slice (some ⟨gv2, 0, none⟩) n2 n2, .int .i64 T]) 34)).drew.heap.size := hH.2.2.2.2.2.2.2.2.2.2.size
          have KB := Lib.hid (Bk.new (u2.alloc (.cells (#[.slice (some ⟨gv0, 0, none⟩) n0 n0, .slice (some ⟨gv1, 0, none⟩) n1 n1, .slice (some ⟨gv2, 0, none⟩) n2 n2, .int .i64 T]) 34)).drew zc 34)
          refine hK.out _ _ ?_ (fun hG => ?_)
          · exact ⟨cell_below hb hH.1, cell_below hb hH.2.1, cell_below hb hH.2.2.1, cell_below hb hH.2.2.2.1, cell_below hb hH.2.2.2.2.1, cell_below hb hH.2.2.2.2.2.1, cell_below hb hH.2.2.2.2.2.2.1, cell_below hb hH.2.2.2.2.2.2.2.1, cell_below hb hH.2.2.2.2.2.2.2.2.1, cell_below hb hH.2.2.2.2.2.2.2.2.2.1, hH.2.2.2.2.2.2.2.2.2.2.trans (hb.mono hH.2.2.2.2.2.2.2.2.2.2.size)⟩
          replace hH := hG
          clear hK K hG
          try simp only [Act.put, List.setIfInBounds_toArray, List.set_cons_zero, List.set_cons_succ]
          clear hb
          refine wpAnyH_ready (rs := [2]) (by kernel_rfl) (by simp) (AllReadyH.cons rfl (fun K hK => ?_) (AllReadyH.nil))
          go_simp
          go_at_call 20; ((with_reducible refine (toPlace9 x1 y1 _).mono ?_); rintro e r0 ⟨rfl, hb⟩); go_wp2_with fail
          have KBn := Lib.hid (KB.out.below hb)
          clear KB
          have KB := KBn
          clear KBn
          refine hK.out _ _ ?_ (fun hG => ?_)
          · exact ⟨cell_below hb hH.1, cell_below hb hH.2.1, cell_below hb hH.2.2.1, cell_below hb hH.2.2.2.1, cell_below hb hH.2.2.2.2.1, cell_below hb hH.2.2.2.2.2.1, cell_below hb hH.2.2.2.2.2.2.1, cell_below hb hH.2.2.2.2.2.2.2.1, cell_below hb hH.2.2.2.2.2.2.2.2.1, cell_below hb hH.2.2.2.2.2.2.2.2.2.1, hH.2.2.2.2.2.2.2.2.2.2.trans (hb.mono hH.2.2.2.2.2.2.2.2.2.2.size)⟩
          replace hH := hG
          clear hK K hG
          try simp only [Act.put, List.setIfInBounds_toArray, List.set_cons_zero, List.set_cons_succ]
          clear hb
          refine wpAnyH_ready (rs := [3]) (by kernel_rfl) (by simp) (AllReadyH.cons rfl (fun K hK => ?_) (AllReadyH.nil))
          go_simp
          go_at_call 21; ((with_reducible refine (CI.out _ _ _ _ ((SR.own v0.out v1.out v2.out).below hH.2.2.2.2.2.2.2.2.2.2)).mono ?_); rintro e r1 ⟨rfl, hb⟩); go_wp2_with fail
          have KBn := Lib.hid (KB.out.below hb)
          clear KB
          have KB := KBn
          clear KBn
          refine hK.out _ _ ?_ (fun hG => ?_)
          · exact ⟨cell_below hb hH.1, cell_below hb hH.2.1, cell_below hb hH.2.2.1, cell_below hb hH.2.2.2.1, cell_below hb hH.2.2.2.2.1, cell_below hb hH.2.2.2.2.2.1, cell_below hb hH.2.2.2.2.2.2.1, cell_below hb hH.2.2.2.2.2.2.2.1, cell_below hb hH.2.2.2.2.2.2.2.2.1, cell_below hb hH.2.2.2.2.2.2.2.2.2.1, hH.2.2.2.2.2.2.2.2.2.2.trans (hb.mono hH.2.2.2.2.2.2.2.2.2.2.size)⟩
          replace hH := hG
          clear hK K hG
          try simp only [Act.put, List.setIfInBounds_toArray, List.set_cons_zero, List.set_cons_succ]
          clear hb
          refine wpAnyH_take (i := 4) (oi := { dst := some 31, op := _, type := _, pos := _, after := _, guard := _ }) (v := ?_) rfl (by kernel_rfl) (by kernel_rfl) (by kernel_rfl) (fun _ _ _ h => h) (Or.inl ⟨by rfl, ?_⟩) hH ?_
          rotate_left 1
          · intro W hSw
            (try dsimp only at hSw)
            go_simp
            (try with_reducible rfl)
          try simp only [Act.put, List.setIfInBounds_toArray, List.set_cons_zero, List.set_cons_succ]
          refine wpAnyH_take (i := 5) (oi := { dst := some 36, op := _, type := _, pos := _, after := _, guard := _ }) (v := ?_) rfl (by kernel_rfl) (by kernel_rfl) (by kernel_rfl) (fun _ _ _ h => h) (Or.inl ⟨by rfl, ?_⟩) hH ?_
          rotate_left 1
          · intro W hSw
            (try dsimp only at hSw)
            go_simp
            (try with_reducible rfl)
          try simp only [Act.put, List.setIfInBounds_toArray, List.set_cons_zero, List.set_cons_succ]
          refine wpAnyH_take (i := 6) (oi := { dst := some 37, op := _, type := _, pos := _, after := _, guard := _ }) (v := ?_) rfl (by kernel_rfl) (by kernel_rfl) (by kernel_rfl) (fun _ _ _ h => h) (Or.inl ⟨by rfl, ?_⟩) hH ?_
          rotate_left 1
          · intro W hSw
            (try dsimp only at hSw)
            go_simp
            (try with_reducible rfl)
          try simp only [Act.put, List.setIfInBounds_toArray, List.set_cons_zero, List.set_cons_succ]
          refine wpAnyH_ready (rs := [8]) (by kernel_rfl) (by simp) (AllReadyH.cons rfl (fun K hK => ?_) AllReadyH.nil)
          (refine step_store_row rfl 34 (.tmp 9) (.tmp 36) rfl ((u2.alloc (.cells (#[.slice (some ⟨gv0, 0, none⟩) n0 n0, .slice (some ⟨gv1, 0, none⟩) n1 n1, .slice (some ⟨gv2, 0, none⟩) n2 n2, .int .i64 T]) 34)).drew.heap.size) (zc) (by simp [Act.eval, Act.put]) (by simp [Act.eval, Act.put]) 34 zc KB.out (by kernel_rfl) rfl (by simp [Value.oneCell']) ?_; refine (show K (Act.put _ none _) _ from ?_); have hgR := row_grown r1 ((u2.alloc (.cells (#[.slice (some ⟨gv0, 0, none⟩) n0 n0, .slice (some ⟨gv1, 0, none⟩) n1 n1, .slice (some ⟨gv2, 0, none⟩) n2 n2, .int .i64 T]) 34)).drew.heap.size) (zc))
          refine hK.out _ _ ?_ (fun hG => ?_)
          · exact ⟨hgR.cell hH.1 (fun e => by have e := Option.some.inj e; (have e9 : w.heap.size = (u2.alloc (.cells (#[.slice (some ⟨gv0, 0, none⟩) n0 n0, .slice (some ⟨gv1, 0, none⟩) n1 n1, .slice (some ⟨gv2, 0, none⟩) n2 n2, .int .i64 T]) 34)).drew.heap.size := e); omega), hgR.cell hH.2.1 (fun e => by have e := Option.some.inj e; (have e9 : w.heap.size = (u2.alloc (.cells (#[.slice (some ⟨gv0, 0, none⟩) n0 n0, .slice (some ⟨gv1, 0, none⟩) n1 n1, .slice (some ⟨gv2, 0, none⟩) n2 n2, .int .i64 T]) 34)).drew.heap.size := e); omega), hgR.cell hH.2.2.1 (fun e => by have e := Option.some.inj e; (have e9 : w.heap.size = (u2.alloc (.cells (#[.slice (some ⟨gv0, 0, none⟩) n0 n0, .slice (some ⟨gv1, 0, none⟩) n1 n1, .slice (some ⟨gv2, 0, none⟩) n2 n2, .int .i64 T]) 34)).drew.heap.size := e); omega), hgR.cell hH.2.2.2.1 (fun e => by have e := Option.some.inj e; (have e9 : w.heap.size = (u2.alloc (.cells (#[.slice (some ⟨gv0, 0, none⟩) n0 n0, .slice (some ⟨gv1, 0, none⟩) n1 n1, .slice (some ⟨gv2, 0, none⟩) n2 n2, .int .i64 T]) 34)).drew.heap.size := e); omega), hgR.cell hH.2.2.2.2.1 (fun e => by have e := Option.some.inj e; (have e9 : w.heap.size + 1 = (u2.alloc (.cells (#[.slice (some ⟨gv0, 0, none⟩) n0 n0, .slice (some ⟨gv1, 0, none⟩) n1 n1, .slice (some ⟨gv2, 0, none⟩) n2 n2, .int .i64 T]) 34)).drew.heap.size := e); omega), hgR.cell hH.2.2.2.2.2.1 (fun e => by have e := Option.some.inj e; (have e9 : w.heap.size + 1 = (u2.alloc (.cells (#[.slice (some ⟨gv0, 0, none⟩) n0 n0, .slice (some ⟨gv1, 0, none⟩) n1 n1, .slice (some ⟨gv2, 0, none⟩) n2 n2, .int .i64 T]) 34)).drew.heap.size := e); omega), hgR.cell hH.2.2.2.2.2.2.1 (fun e => by have e := Option.some.inj e; (have e9 : u2.heap.size = (u2.alloc (.cells (#[.slice (some ⟨gv0, 0, none⟩) n0 n0, .slice (some ⟨gv1, 0, none⟩) n1 n1, .slice (some ⟨gv2, 0, none⟩) n2 n2, .int .i64 T]) 34)).drew.heap.size := e); omega), hgR.cell hH.2.2.2.2.2.2.2.1 (fun e => by have e := Option.some.inj e; (have e9 : u2.heap.size = (u2.alloc (.cells (#[.slice (some ⟨gv0, 0, none⟩) n0 n0, .slice (some ⟨gv1, 0, none⟩) n1 n1, .slice (some ⟨gv2, 0, none⟩) n2 n2, .int .i64 T]) 34)).drew.heap.size := e); omega), hgR.cell hH.2.2.2.2.2.2.2.2.1 (fun e => by have e := Option.some.inj e; (have e9 : u2.heap.size = (u2.alloc (.cells (#[.slice (some ⟨gv0, 0, none⟩) n0 n0, .slice (some ⟨gv1, 0, none⟩) n1 n1, .slice (some ⟨gv2, 0, none⟩) n2 n2, .int .i64 T]) 34)).drew.heap.size := e); omega), hgR.cell hH.2.2.2.2.2.2.2.2.2.1 (fun e => by have e := Option.some.inj e; (have e9 : u2.heap.size = (u2.alloc (.cells (#[.slice (some ⟨gv0, 0, none⟩) n0 n0, .slice (some ⟨gv1, 0, none⟩) n1 n1, .slice (some ⟨gv2, 0, none⟩) n2 n2, .int .i64 T]) 34)).drew.heap.size := e); omega), hH.2.2.2.2.2.2.2.2.2.2.grown hgR hH.2.2.2.2.2.2.2.2.2.2.size (fun z9 e9 => by have e9 := Option.some.inj e9; omega)⟩
          replace hH := hG
          clear hK K hG
          try simp only [Act.put, List.setIfInBounds_toArray, List.set_cons_zero, List.set_cons_succ]
          refine wpAnyH_take (i := 9) (oi := { dst := some 10, op := _, type := _, pos := _, after := _, guard := _ }) (v := ?_) rfl (by kernel_rfl) (by kernel_rfl) (by kernel_rfl) (fun _ _ _ h => h) (Or.inl ⟨by rfl, ?_⟩) hH ?_
          rotate_left 1
          · intro W hSw
            (try dsimp only at hSw)
            go_simp
            (try with_reducible rfl)
          try simp only [Act.put, List.setIfInBounds_toArray, List.set_cons_zero, List.set_cons_succ]
          refine wpAnyH_done (by kernel_rfl) ?_ _
          refine NoPanic.normal ?_
          have hs9 : (u2.alloc (.cells (#[.slice (some ⟨gv0, 0, none⟩) n0 n0, .slice (some ⟨gv1, 0, none⟩) n1 n1, .slice (some ⟨gv2, 0, none⟩) n2 n2, .int .i64 T]) 34)).drew.heap.size = u2.heap.size + 1 := by simp [go_sem]
          have KF := Lib.hid (row_bk (zc) KB.out)
          have BF := Lib.hid hH.2.2.2.2.2.2.2.2.2.2
          clear hH hgR
          go_wp2_with fail
          go_meet
          first
            | exact ⟨_, rfl, rfl, KF, leA, BF⟩
            | exact ⟨_, rfl, rfl, Lib.hid (by rw [← hs9]; exact KF.out), (by rw [← hs9]; exact leA), BF⟩
      case rest =>
        obtain ⟨kG, rfl, rfl, KF, chk_G, hbF⟩ := hcut
        have hb := hbF.out
        clear hbF
        have B2 := Lib.hid (BB.out.trans (hb.mono BB.out.size))
        have K01 := Lib.hid (K0.out.below hb)
        have KP1 := Lib.hid (KP.out.below hb)
        have KW1 := Lib.hid (KW.out.below hb)
        have v01 := Lib.hid (owns_below v0.out hb)
        have v11 := Lib.hid (owns_below v1.out hb)
        have v21 := Lib.hid (owns_below v2.out hb)
        have KX1 := Lib.hid (KX.out.below hb)
        clear hb BB K0 KP KW v0 v1 v2 KX
        have BB := B2
        clear B2
        have K0 := K01
        clear K01
        have KP := KP1
        clear KP1
        have KW := KW1
        clear KW1
        have v0 := v01
        clear v01
        have v1 := v11
        clear v11
        have v2 := v21
        clear v21
        have KX := KX1
        clear KX1
        have KG := KF
        clear KF
        have b0 := K0.out.cell (i := 0) rfl
        have b1 := K0.out.cell (i := 1) rfl
        have b2 := K0.out.cell (i := 2) rfl
        have b3 := K0.out.cell (i := 3) rfl
        have pl0 := KP.out.cell (i := 0) rfl
        have pl1 := KP.out.cell (i := 1) rfl
        have KW_0 := KW.out.cell (i := 0) rfl
        have KW_1 := KW.out.cell (i := 1) rfl
        have KW_2 := KW.out.cell (i := 2) rfl
        have KW_3 := KW.out.cell (i := 3) rfl
        have KX_0 := KX.out.cell (i := 0) rfl
        have KX_1 := KX.out.cell (i := 1) rfl
        have KX_2 := KX.out.cell (i := 2) rfl
        have KX_3 := KX.out.cell (i := 3) rfl
        have KG_0 := KG.out.cell (i := 0) rfl
        have KG_1 := KG.out.cell (i := 1) rfl
        have KG_2 := KG.out.cell (i := 2) rfl
        have KG_3 := KG.out.cell (i := 3) rfl
        go_wp2_with fail
        clear b0 b1 b2 b3 pl0 pl1
        clear KW_0 KW_1 KW_2 KW_3
        clear KX_0 KX_1 KX_2 KX_3
        clear KG_0 KG_1 KG_2 KG_3
        refine (EN.out _).mono ?_
        rintro e u3 ⟨rfl, hb⟩
        have B2 := Lib.hid (BB.out.trans (hb.mono BB.out.size))
        have K01 := Lib.hid (K0.out.below hb)
        have KP1 := Lib.hid (KP.out.below hb)
        have KW1 := Lib.hid (KW.out.below hb)
        have v01 := Lib.hid (owns_below v0.out hb)
        have v11 := Lib.hid (owns_below v1.out hb)
        have v21 := Lib.hid (owns_below v2.out hb)
        have KX1 := Lib.hid (KX.out.below hb)
        have KG1 := Lib.hid (KG.out.below hb)
        clear hb BB K0 KP KW v0 v1 v2 KX KG
        have BB := B2
        clear B2
        have K0 := K01
        clear K01
        have KP := KP1
        clear KP1
        have KW := KW1
        clear KW1
        have v0 := v01
        clear v01
        have v1 := v11
        clear v11
        have v2 := v21
        clear v21
        have KX := KX1
        clear KX1
        have KG := KG1
        clear KG1
        have b0 := K0.out.cell (i := 0) rfl
        have b1 := K0.out.cell (i := 1) rfl
        have b2 := K0.out.cell (i := 2) rfl
        have b3 := K0.out.cell (i := 3) rfl
        have pl0 := KP.out.cell (i := 0) rfl
        have pl1 := KP.out.cell (i := 1) rfl
        have KW_0 := KW.out.cell (i := 0) rfl
        have KW_1 := KW.out.cell (i := 1) rfl
        have KW_2 := KW.out.cell (i := 2) rfl
        have KW_3 := KW.out.cell (i := 3) rfl
        have KX_0 := KX.out.cell (i := 0) rfl
        have KX_1 := KX.out.cell (i := 1) rfl
        have KX_2 := KX.out.cell (i := 2) rfl
        have KX_3 := KX.out.cell (i := 3) rfl
        have KG_0 := KG.out.cell (i := 0) rfl
        have KG_1 := KG.out.cell (i := 1) rfl
        have KG_2 := KG.out.cell (i := 2) rfl
        have KG_3 := KG.out.cell (i := 3) rfl
        go_wp2_with fail
        refine wp_region_noPanic ?_
        refine wp_region_held_drew (S := (fun w' => w'.cell? ⟨w.heap.size, 0, none⟩ = some (.slice A0 n0 c0) ∧ w'.cell? ⟨w.heap.size, 1, none⟩ = some (.slice A1 n1 c1) ∧ w'.cell? ⟨w.heap.size, 2, none⟩ = some (.slice A2 n2 c2) ∧ w'.cell? ⟨w.heap.size, 3, none⟩ = some (.int .i64 T) ∧ w'.cell? ⟨u2.heap.size, 0, none⟩ = some (.slice (some ⟨gv0, 0, none⟩) n0 n0) ∧ w'.cell? ⟨u2.heap.size, 1, none⟩ = some (.slice (some ⟨gv1, 0, none⟩) n1 n1) ∧ w'.cell? ⟨u2.heap.size, 2, none⟩ = some (.slice (some ⟨gv2, 0, none⟩) n2 n2) ∧ w'.cell? ⟨u2.heap.size, 3, none⟩ = some (.int .i64 T) ∧ Below u3.heap.size u3 w')) (by kernel_rfl) ?_ (fun hH => ?_)
        · exact ⟨b0, b1, b2, b3, KX_0, KX_1, KX_2, KX_3, (Below.refl _ _).drew⟩
        refine wpAnyH_take (i := 0) (oi := { dst := some 47, op := _, type := _, pos := _, after := _, guard := _ }) (v := ?_) rfl (by kernel_rfl) (by kernel_rfl) (by kernel_rfl) (fun _ _ _ h => h) (Or.inl ⟨by rfl, ?_⟩) hH ?_
        rotate_left 1
        · intro W hSw
          (try dsimp only at hSw)
          go_simp
          (try with_reducible rfl)
        try simp only [Act.put, List.setIfInBounds_toArray, List.set_cons_zero, List.set_cons_succ]
        refine wpAnyH_take (i := 1) (oi := { dst := some 48, op := _, type := _, pos := _, after := _, guard := _ }) (v := ?_) rfl (by kernel_rfl) (by kernel_rfl) (by kernel_rfl) (fun _ _ _ h => h) (Or.inl ⟨by rfl, ?_⟩) hH ?_
        rotate_left 1
        · intro W hSw
          (try dsimp only at hSw)
          go_simp
          (try with_reducible rfl)
        try simp only [Act.put, List.setIfInBounds_toArray, List.set_cons_zero, List.set_cons_succ]
        refine wpAnyH_ready (rs := [2]) (by kernel_rfl) (by simp) (AllReadyH.cons rfl (fun K hK => ?_) AllReadyH.nil)
        go_simp
        go_at_call 10; ((with_reducible refine (TO.out _ (HS.out.below (BB.out.trans (hH.2.2.2.2.2.2.2.2.mono BB.out.size)))).mono ?_); rintro e r1 ⟨ya, yb, yc, rfl, oa, ob, oc, _, _, hb1⟩); go_wp2_with fail
        refine hK.out _ _ ?_ (fun hG => ?_)
        · exact ⟨cell_below hb1 hH.1, cell_below hb1 hH.2.1, cell_below hb1 hH.2.2.1, cell_below hb1 hH.2.2.2.1, cell_below hb1 hH.2.2.2.2.1, cell_below hb1 hH.2.2.2.2.2.1, cell_below hb1 hH.2.2.2.2.2.2.1, cell_below hb1 hH.2.2.2.2.2.2.2.1, hH.2.2.2.2.2.2.2.2.trans (hb1.mono hH.2.2.2.2.2.2.2.2.size)⟩
        replace hH := hG
        clear hK K hG
        try simp only [Act.put, List.setIfInBounds_toArray, List.set_cons_zero, List.set_cons_succ]
        refine wpAnyH_ready (rs := [3]) (by kernel_rfl) (by simp) (AllReadyH.cons rfl (fun K hK => ?_) AllReadyH.nil)
        go_simp
        go_at_call 13; ((with_reducible refine (EQW.out _ _ _ _ _ _ _ ((SR.own v0.out v1.out v2.out).below hH.2.2.2.2.2.2.2.2) (SR.own oa ob oc)).mono ?_); rintro e r2 ⟨rfl, hb2⟩); go_wp2_with fail
        refine hK.out _ _ ?_ (fun hG => ?_)
        · exact ⟨cell_below hb2 hH.1, cell_below hb2 hH.2.1, cell_below hb2 hH.2.2.1, cell_below hb2 hH.2.2.2.1, cell_below hb2 hH.2.2.2.2.1, cell_below hb2 hH.2.2.2.2.2.1, cell_below hb2 hH.2.2.2.2.2.2.1, cell_below hb2 hH.2.2.2.2.2.2.2.1, hH.2.2.2.2.2.2.2.2.trans (hb2.mono hH.2.2.2.2.2.2.2.2.size)⟩
        replace hH := hG
        clear hK K hG
        try simp only [Act.put, List.setIfInBounds_toArray, List.set_cons_zero, List.set_cons_succ]
        refine wpAnyH_take (i := 4) (oi := { dst := some 51, op := _, type := _, pos := _, after := _, guard := _ }) (v := ?_) rfl (by kernel_rfl) (by kernel_rfl) (by kernel_rfl) (fun _ _ _ h => h) (Or.inl ⟨by rfl, ?_⟩) hH ?_
        rotate_left 1
        · intro W hSw
          (try dsimp only at hSw)
          go_simp
          (try with_reducible rfl)
        try simp only [Act.put, List.setIfInBounds_toArray, List.set_cons_zero, List.set_cons_succ]
        refine wpAnyH_done (by kernel_rfl) ?_ _
        refine NoPanic.normal ?_
        have hb := hH.2.2.2.2.2.2.2.2
        clear hH oa ob oc hb1 hb2
        clear b0 b1 b2 b3 pl0 pl1
        clear KW_0 KW_1 KW_2 KW_3
        clear KX_0 KX_1 KX_2 KX_3
        clear KG_0 KG_1 KG_2 KG_3
        have B2 := Lib.hid (BB.out.trans (hb.mono BB.out.size))
        have K01 := Lib.hid (K0.out.below hb)
        have KP1 := Lib.hid (KP.out.below hb)
        have KW1 := Lib.hid (KW.out.below hb)
        have v01 := Lib.hid (owns_below v0.out hb)
        have v11 := Lib.hid (owns_below v1.out hb)
        have v21 := Lib.hid (owns_below v2.out hb)
        have KX1 := Lib.hid (KX.out.below hb)
        have KG1 := Lib.hid (KG.out.below hb)
        clear hb BB K0 KP KW v0 v1 v2 KX KG
        have BB := B2
        clear B2
        have K0 := K01
        clear K01
        have KP := KP1
        clear KP1
        have KW := KW1
        clear KW1
        have v0 := v01
        clear v01
        have v1 := v11
        clear v11
        have v2 := v21
        clear v21
        have KX := KX1
        clear KX1
        have KG := KG1
        clear KG1
        have b0 := K0.out.cell (i := 0) rfl
        have b1 := K0.out.cell (i := 1) rfl
        have b2 := K0.out.cell (i := 2) rfl
        have b3 := K0.out.cell (i := 3) rfl
        have pl0 := KP.out.cell (i := 0) rfl
        have pl1 := KP.out.cell (i := 1) rfl
        have KW_0 := KW.out.cell (i := 0) rfl
        have KW_1 := KW.out.cell (i := 1) rfl
        have KW_2 := KW.out.cell (i := 2) rfl
        have KW_3 := KW.out.cell (i := 3) rfl
        have KX_0 := KX.out.cell (i := 0) rfl
        have KX_1 := KX.out.cell (i := 1) rfl
        have KX_2 := KX.out.cell (i := 2) rfl
        have KX_3 := KX.out.cell (i := 3) rfl
        have KG_0 := KG.out.cell (i := 0) rfl
        have KG_1 := KG.out.cell (i := 1) rfl
        have KG_2 := KG.out.cell (i := 2) rfl
        have KG_3 := KG.out.cell (i := 3) rfl
        go_wp2_with fail
        clear b0 b1 b2 b3 pl0 pl1
        clear KW_0 KW_1 KW_2 KW_3
        clear KX_0 KX_1 KX_2 KX_3
        clear KG_0 KG_1 KG_2 KG_3
        refine (MS.out _ _ _ ch_v1 ch_v2 _ v0.out v1.out v2.out).mono ?_
        rintro e u4 ⟨rfl, _, _, _, hg⟩
        have B2 := Lib.hid (hg.below BB.out (by omega) (by omega) (by omega))
        have K01 := Lib.hid (hg.bk K0.out (by omega) (by omega) (by omega))
        have KP1 := Lib.hid (hg.bk KP.out (by omega) (by omega) (by omega))
        have KW1 := Lib.hid (hg.bk KW.out (by omega) (by omega) (by omega))
        have KX1 := Lib.hid (hg.bk KX.out (by omega) (by omega) (by omega))
        have KG1 := Lib.hid (hg.bk KG.out (by omega) (by omega) (by omega))
        clear hg BB K0 KP KW KX KG
        have BB := B2
        clear B2
        have K0 := K01
        clear K01
        have KP := KP1
        clear KP1
        have KW := KW1
        clear KW1
        have KX := KX1
        clear KX1
        have KG := KG1
        clear KG1
        clear v0
        clear v1
        clear v2
        have b0 := K0.out.cell (i := 0) rfl
        have b1 := K0.out.cell (i := 1) rfl
        have b2 := K0.out.cell (i := 2) rfl
        have b3 := K0.out.cell (i := 3) rfl
        have pl0 := KP.out.cell (i := 0) rfl
        have pl1 := KP.out.cell (i := 1) rfl
        have KW_0 := KW.out.cell (i := 0) rfl
        have KW_1 := KW.out.cell (i := 1) rfl
        have KW_2 := KW.out.cell (i := 2) rfl
        have KW_3 := KW.out.cell (i := 3) rfl
        have KX_0 := KX.out.cell (i := 0) rfl
        have KX_1 := KX.out.cell (i := 1) rfl
        have KX_2 := KX.out.cell (i := 2) rfl
        have KX_3 := KX.out.cell (i := 3) rfl
        have KG_0 := KG.out.cell (i := 0) rfl
        have KG_1 := KG.out.cell (i := 1) rfl
        have KG_2 := KG.out.cell (i := 2) rfl
        have KG_3 := KG.out.cell (i := 3) rfl
        go_wp2_with fail
        clear b0 b1 b2 b3 pl0 pl1
        clear KW_0 KW_1 KW_2 KW_3
        clear KX_0 KX_1 KX_2 KX_3
        clear KG_0 KG_1 KG_2 KG_3
        refine (EN.out _).mono ?_
        rintro e u5 ⟨rfl, hb⟩
        have B2 := Lib.hid (BB.out.trans (hb.mono BB.out.size))
        have K01 := Lib.hid (K0.out.below hb)
        have KP1 := Lib.hid (KP.out.below hb)
        have KW1 := Lib.hid (KW.out.below hb)
        have KX1 := Lib.hid (KX.out.below hb)
        have KG1 := Lib.hid (KG.out.below hb)
        clear hb BB K0 KP KW KX KG
        have BB := B2
        clear B2
        have K0 := K01
        clear K01
        have KP := KP1
        clear KP1
        have KW := KW1
        clear KW1
        have KX := KX1
        clear KX1
        have KG := KG1
        clear KG1
        have b0 := K0.out.cell (i := 0) rfl
        have b1 := K0.out.cell (i := 1) rfl
        have b2 := K0.out.cell (i := 2) rfl
        have b3 := K0.out.cell (i := 3) rfl
        have pl0 := KP.out.cell (i := 0) rfl
        have pl1 := KP.out.cell (i := 1) rfl
        have KW_0 := KW.out.cell (i := 0) rfl
        have KW_1 := KW.out.cell (i := 1) rfl
        have KW_2 := KW.out.cell (i := 2) rfl
        have KW_3 := KW.out.cell (i := 3) rfl
        have KX_0 := KX.out.cell (i := 0) rfl
        have KX_1 := KX.out.cell (i := 1) rfl
        have KX_2 := KX.out.cell (i := 2) rfl
        have KX_3 := KX.out.cell (i := 3) rfl
        have KG_0 := KG.out.cell (i := 0) rfl
        have KG_1 := KG.out.cell (i := 1) rfl
        have KG_2 := KG.out.cell (i := 2) rfl
        have KG_3 := KG.out.cell (i := 3) rfl
        go_wp2_with fail
        clear b0 b1 b2 b3 pl0 pl1
        clear KW_0 KW_1 KW_2 KW_3
        clear KX_0 KX_1 KX_2 KX_3
        clear KG_0 KG_1 KG_2 KG_3
        refine (MN.out _).mono ?_
        rintro e u6 ⟨rfl, hb⟩
        have B2 := Lib.hid (BB.out.trans (hb.mono BB.out.size))
        have K01 := Lib.hid (K0.out.below hb)
        have KP1 := Lib.hid (KP.out.below hb)
        have KW1 := Lib.hid (KW.out.below hb)
        have KX1 := Lib.hid (KX.out.below hb)
        have KG1 := Lib.hid (KG.out.below hb)
        clear hb BB K0 KP KW KX KG
        have BB := B2
        clear B2
        have K0 := K01
        clear K01
        have KP := KP1
        clear KP1
        have KW := KW1
        clear KW1
        have KX := KX1
        clear KX1
        have KG := KG1
        clear KG1
        have b0 := K0.out.cell (i := 0) rfl
        have b1 := K0.out.cell (i := 1) rfl
        have b2 := K0.out.cell (i := 2) rfl
        have b3 := K0.out.cell (i := 3) rfl
        have pl0 := KP.out.cell (i := 0) rfl
        have pl1 := KP.out.cell (i := 1) rfl
        have KW_0 := KW.out.cell (i := 0) rfl
        have KW_1 := KW.out.cell (i := 1) rfl
        have KW_2 := KW.out.cell (i := 2) rfl
        have KW_3 := KW.out.cell (i := 3) rfl
        have KX_0 := KX.out.cell (i := 0) rfl
        have KX_1 := KX.out.cell (i := 1) rfl
        have KX_2 := KX.out.cell (i := 2) rfl
        have KX_3 := KX.out.cell (i := 3) rfl
        have KG_0 := KG.out.cell (i := 0) rfl
        have KG_1 := KG.out.cell (i := 1) rfl
        have KG_2 := KG.out.cell (i := 2) rfl
        have KG_3 := KG.out.cell (i := 3) rfl
        go_wp2_with fail
        clear b0 b1 b2 b3 pl0 pl1
        clear KW_0 KW_1 KW_2 KW_3
        clear KX_0 KX_1 KX_2 KX_3
        clear KG_0 KG_1 KG_2 KG_3
        refine (HN.out _).mono ?_
        rintro e u7 ⟨rfl, hb⟩
        have B2 := Lib.hid (BB.out.trans (hb.mono BB.out.size))
        have K01 := Lib.hid (K0.out.below hb)
        have KP1 := Lib.hid (KP.out.below hb)
        have KW1 := Lib.hid (KW.out.below hb)
        have KX1 := Lib.hid (KX.out.below hb)
        have KG1 := Lib.hid (KG.out.below hb)
        clear hb BB K0 KP KW KX KG
        have BB := B2
        clear B2
        have K0 := K01
        clear K01
        have KP := KP1
        clear KP1
        have KW := KW1
        clear KW1
        have KX := KX1
        clear KX1
        have KG := KG1
        clear KG1
        have b0 := K0.out.cell (i := 0) rfl
        have b1 := K0.out.cell (i := 1) rfl
        have b2 := K0.out.cell (i := 2) rfl
        have b3 := K0.out.cell (i := 3) rfl
        have pl0 := KP.out.cell (i := 0) rfl
        have pl1 := KP.out.cell (i := 1) rfl
        have KW_0 := KW.out.cell (i := 0) rfl
        have KW_1 := KW.out.cell (i := 1) rfl
        have KW_2 := KW.out.cell (i := 2) rfl
        have KW_3 := KW.out.cell (i := 3) rfl
        have KX_0 := KX.out.cell (i := 0) rfl
        have KX_1 := KX.out.cell (i := 1) rfl
        have KX_2 := KX.out.cell (i := 2) rfl
        have KX_3 := KX.out.cell (i := 3) rfl
        have KG_0 := KG.out.cell (i := 0) rfl
        have KG_1 := KG.out.cell (i := 1) rfl
        have KG_2 := KG.out.cell (i := 2) rfl
        have KG_3 := KG.out.cell (i := 3) rfl
        go_upto_region 24 with fail
        clear b0 b1 b2 b3 pl0 pl1
        clear KW_0 KW_1 KW_2 KW_3
        clear KX_0 KX_1 KX_2 KX_3
        clear KG_0 KG_1 KG_2 KG_3
        have ch_KG_H : kG < u7.heap.size := KG.out.lt
        have chu_H : w.heap.size + 1 < u7.heap.size := KP.out.lt
        go_cut [14, 15] (fun a b wx => ∃ k, a = .pointer (some ⟨k, 0, none⟩) ∧ b = .bool false ∧ Hid (Bk wx k zc 34) ∧ u7.heap.size ≤ k ∧ Hid (Below u7.heap.size u7 wx))
        case first =>
          have b0 := K0.out.cell (i := 0) rfl
          have b1 := K0.out.cell (i := 1) rfl
          have b2 := K0.out.cell (i := 2) rfl
          have b3 := K0.out.cell (i := 3) rfl
          have pl0 := KP.out.cell (i := 0) rfl
          have pl1 := KP.out.cell (i := 1) rfl
          refine wp_region_noPanic ?_
          refine wp_region_held_drew (S := (fun w' => w'.cell? ⟨w.heap.size, 0, none⟩ = some (.slice A0 n0 c0) ∧ w'.cell? ⟨w.heap.size, 1, none⟩ = some (.slice A1 n1 c1) ∧ w'.cell? ⟨w.heap.size, 2, none⟩ = some (.slice A2 n2 c2) ∧ w'.cell? ⟨w.heap.size, 3, none⟩ = some (.int .i64 T) ∧ w'.cell? ⟨w.heap.size + 1, 0, none⟩ = some (.int .i64 x1) ∧ w'.cell? ⟨w.heap.size + 1, 1, none⟩ = some (.int .i64 y1) ∧ Below u7.heap.size u7 w')) (by kernel_rfl) ?_ (fun hH => ?_)
          · exact ⟨b0, b1, b2, b3, pl0, pl1, (Below.refl _ _).drew⟩
          clear b0 b1 b2 b3 pl0 pl1
          refine wpAnyH_take (i := 0) (oi := { dst := some 80, op := _, type := _, pos := _, after := _, guard := _ }) (v := ?_) rfl (by kernel_rfl) (by kernel_rfl) (by kernel_rfl) (fun _ _ _ h => h) (Or.inl ⟨by rfl, ?_⟩) hH ?_
          rotate_left 1
          · intro W hSw
            (try dsimp only at hSw)
            go_simp
            (try with_reducible rfl)
          try simp only [Act.put, List.setIfInBounds_toArray, List.set_cons_zero, List.set_cons_succ]
          refine wpAnyH_take (i := 2) (oi := { dst := some 82, op := _, type := _, pos := _, after := _, guard := _ }) (v := ?_) rfl (by kernel_rfl) (by kernel_rfl) (by kernel_rfl) (fun _ _ _ h => h) (Or.inl ⟨by rfl, ?_⟩) hH ?_
          rotate_left 1
          · intro W hSw
            (try dsimp only at hSw)
            go_simp
            (try with_reducible rfl)
          try simp only [Act.put, List.setIfInBounds_toArray, List.set_cons_zero, List.set_cons_succ]
          refine wpAnyH_ready (rs := [1, 8]) (by kernel_rfl) (by simp) (AllReadyH.cons rfl (fun K hK => ?_) (AllReadyH.cons rfl (fun K hK => ?_) (AllReadyH.nil)))
          · go_simp
            go_at_call 10; ((with_reducible refine (TO.out _ (HS.out.below (BB.out.trans (hH.2.2.2.2.2.2.mono BB.out.size)))).mono ?_); rintro e r0 ⟨ya, yb, yc, rfl, oa, ob, oc, _, _, hb⟩); go_wp2_with fail
            have RY := Lib.hid (SR.own oa ob oc)
            clear oa ob oc
            refine hK.out _ _ ?_ (fun hG => ?_)
            · exact ⟨cell_below hb hH.1, cell_below hb hH.2.1, cell_below hb hH.2.2.1, cell_below hb hH.2.2.2.1, cell_below hb hH.2.2.2.2.1, cell_below hb hH.2.2.2.2.2.1, hH.2.2.2.2.2.2.trans (hb.mono hH.2.2.2.2.2.2.size)⟩
            replace hH := hG
            clear hK K hG
            try simp only [Act.put, List.setIfInBounds_toArray, List.set_cons_zero, List.set_cons_succ]
            clear hb
            refine wpAnyH_ready (rs := [3, 8]) (by kernel_rfl) (by simp) (AllReadyH.cons rfl (fun K hK => ?_) (AllReadyH.cons rfl (fun K hK => ?_) (AllReadyH.nil)))
            · go_simp
              go_at_call 20; ((with_reducible refine (toPlace9 x1 y1 _).mono ?_); rintro e r1 ⟨rfl, hb⟩); go_wp2_with fail
              have RYn := Lib.hid (RY.out.below hb)
              clear RY
              have RY := RYn
              clear RYn
              refine hK.out _ _ ?_ (fun hG => ?_)
              · exact ⟨cell_below hb hH.1, cell_below hb hH.2.1, cell_below hb hH.2.2.1, cell_below hb hH.2.2.2.1, cell_below hb hH.2.2.2.2.1, cell_below hb hH.2.2.2.2.2.1, hH.2.2.2.2.2.2.trans (hb.mono hH.2.2.2.2.2.2.size)⟩
              replace hH := hG
              clear hK K hG
              try simp only [Act.put, List.setIfInBounds_toArray, List.set_cons_zero, List.set_cons_succ]
              clear hb
              refine wpAnyH_ready (rs := [4, 8]) (by kernel_rfl) (by simp) (AllReadyH.cons rfl (fun K hK => ?_) (AllReadyH.cons rfl (fun K hK => ?_) (AllReadyH.nil)))
              · go_simp
                go_at_call 21; ((with_reducible refine (CI.out _ _ _ _ RY.out).mono ?_); rintro e r2 ⟨rfl, hb⟩); go_wp2_with fail
                have RYn := Lib.hid (RY.out.below hb)
                clear RY
                have RY := RYn
                clear RYn
                refine hK.out _ _ ?_ (fun hG => ?_)
                · exact ⟨cell_below hb hH.1, cell_below hb hH.2.1, cell_below hb hH.2.2.1, cell_below hb hH.2.2.2.1, cell_below hb hH.2.2.2.2.1, cell_below hb hH.2.2.2.2.2.1, hH.2.2.2.2.2.2.trans (hb.mono hH.2.2.2.2.2.2.size)⟩
                replace hH := hG
                clear hK K hG
                try simp only [Act.put, List.setIfInBounds_toArray, List.set_cons_zero, List.set_cons_succ]
                clear hb
                refine wpAnyH_take (i := 5) (oi := { dst := some 79, op := _, type := _, pos := _, after := _, guard := _ }) (v := ?_) rfl (by kernel_rfl) (by kernel_rfl) (by kernel_rfl) (fun _ _ _ h => h) (Or.inl ⟨by rfl, ?_⟩) hH ?_
                rotate_left 1
                · intro W hSw
                  (try dsimp only at hSw)
                  go_simp
                  (try with_reducible rfl)
                try simp only [Act.put, List.setIfInBounds_toArray, List.set_cons_zero, List.set_cons_succ]
                refine wpAnyH_take (i := 6) (oi := { dst := some 85, op := _, type := _, pos := _, after := _, guard := _ }) (v := ?_) rfl (by kernel_rfl) (by kernel_rfl) (by kernel_rfl) (fun _ _ _ h => h) (Or.inl ⟨by rfl, ?_⟩) hH ?_
                rotate_left 1
                · intro W hSw
                  (try dsimp only at hSw)
                  go_simp
                  (try with_reducible rfl)
                try simp only [Act.put, List.setIfInBounds_toArray, List.set_cons_zero, List.set_cons_succ]
                refine wpAnyH_take (i := 7) (oi := { dst := some 86, op := _, type := _, pos := _, after := _, guard := _ }) (v := ?_) rfl (by kernel_rfl) (by kernel_rfl) (by kernel_rfl) (fun _ _ _ h => h) (Or.inl ⟨by rfl, ?_⟩) hH ?_
                rotate_left 1
                · intro W hSw
                  (try dsimp only at hSw)
                  go_simp
                  (try with_reducible rfl)
                try simp only [Act.put, List.setIfInBounds_toArray, List.set_cons_zero, List.set_cons_succ]
                refine wpAnyH_ready (rs := [8]) (by kernel_rfl) (by simp) (AllReadyH.cons rfl (fun K hK => ?_) (AllReadyH.nil))
                go_simp
                have hb : Below r2.heap.size r2 (r2.alloc (.cells zc 34)) := (Below.refl _ _).alloc (Nat.le_refl _) (.cells zc 34)
                have leA : u7.heap.size ≤ r2.heap.size := hH.2.2.2.2.2.2.size
                have RYn := Lib.hid (RY.out.below hb)
                clear RY
                have RY := RYn
                clear RYn
                have KB := Lib.hid (Bk.new r2 zc 34)
                refine hK.out _ _ ?_ (fun hG => ?_)
                · exact ⟨cell_below hb hH.1, cell_below hb hH.2.1, cell_below hb hH.2.2.1, cell_below hb hH.2.2.2.1, cell_below hb hH.2.2.2.2.1, cell_below hb hH.2.2.2.2.2.1, hH.2.2.2.2.2.2.trans (hb.mono hH.2.2.2.2.2.2.size)⟩
                replace hH := hG
                clear hK K hG
                try simp only [Act.put, List.setIfInBounds_toArray, List.set_cons_zero, List.set_cons_succ]
                clear hb
                refine wpAnyH_ready (rs := [9]) (by kernel_rfl) (by simp) (AllReadyH.cons rfl (fun K hK => ?_) AllReadyH.nil)
                (refine step_store_row rfl 34 (.tmp 14) (.tmp 85) rfl (r2.heap.size) (zc) (by simp [Act.eval, Act.put]) (by simp [Act.eval, Act.put]) 34 zc KB.out (by kernel_rfl) rfl (by simp [Value.oneCell']) ?_; refine (show K (Act.put _ none _) _ from ?_); have hgR := row_grown (r2.alloc (.cells zc 34)) (r2.heap.size) (zc))
                refine hK.out _ _ ?_ (fun hG => ?_)
                · exact ⟨hgR.cell hH.1 (fun e => by have e := Option.some.inj e; (have e9 : w.heap.size = r2.heap.size := e); omega), hgR.cell hH.2.1 (fun e => by have e := Option.some.inj e; (have e9 : w.heap.size = r2.heap.size := e); omega), hgR.cell hH.2.2.1 (fun e => by have e := Option.some.inj e; (have e9 : w.heap.size = r2.heap.size := e); omega), hgR.cell hH.2.2.2.1 (fun e => by have e := Option.some.inj e; (have e9 : w.heap.size = r2.heap.size := e); omega), hgR.cell hH.2.2.2.2.1 (fun e => by have e := Option.some.inj e; (have e9 : w.heap.size + 1 = r2.heap.size := e); omega), hgR.cell hH.2.2.2.2.2.1 (fun e => by have e := Option.some.inj e; (have e9 : w.heap.size + 1 = r2.heap.size := e); omega), hH.2.2.2.2.2.2.grown hgR hH.2.2.2.2.2.2.size (fun z9 e9 => by have e9 := Option.some.inj e9; omega)⟩
                replace hH := hG
                clear hK K hG
                try simp only [Act.put, List.setIfInBounds_toArray, List.set_cons_zero, List.set_cons_succ]
                refine wpAnyH_take (i := 10) (oi := { dst := some 15, op := _, type := _, pos := _, after := _, guard := _ }) (v := ?_) rfl (by kernel_rfl) (by kernel_rfl) (by kernel_rfl) (fun _ _ _ h => h) (Or.inl ⟨by rfl, ?_⟩) hH ?_
                rotate_left 1
                · intro W hSw
                  (try dsimp only at hSw)
                  go_simp
                  (try with_reducible rfl)
                try simp only [Act.put, List.setIfInBounds_toArray, List.set_cons_zero, List.set_cons_succ]
                refine wpAnyH_done (by kernel_rfl) ?_ _
                refine NoPanic.normal ?_
                have KF := Lib.hid (row_bk (zc) KB.out)
                have BF := Lib.hid hH.2.2.2.2.2.2
                clear hH hgR
                go_wp2_with fail
                go_meet
                exact ⟨_, rfl, rfl, KF, leA, BF⟩
              · go_simp
                have hb : Below r1.heap.size r1 (r1.alloc (.cells zc 34)) := (Below.refl _ _).alloc (Nat.le_refl _) (.cells zc 34)
                have leA : u7.heap.size ≤ r1.heap.size := hH.2.2.2.2.2.2.size
                have RYn := Lib.hid (RY.out.below hb)
                clear RY
                have RY := RYn
                clear RYn
                have KB := Lib.hid (Bk.new r1 zc 34)
                refine hK.out _ _ ?_ (fun hG => ?_)
                · exact ⟨cell_below hb hH.1, cell_below hb hH.2.1, cell_below hb hH.2.2.1, cell_below hb hH.2.2.2.1, cell_below hb hH.2.2.2.2.1, cell_below hb hH.2.2.2.2.2.1, hH.2.2.2.2.2.2.trans (hb.mono hH.2.2.2.2.2.2.size)⟩
                replace hH := hG
                clear hK K hG
                try simp only [Act.put, List.setIfInBounds_toArray, List.set_cons_zero, List.set_cons_succ]
                clear hb
                refine wpAnyH_ready (rs := [4]) (by kernel_rfl) (by simp) (AllReadyH.cons rfl (fun K hK => ?_) (AllReadyH.nil))
                go_simp
                go_at_call 21; ((with_reducible refine (CI.out _ _ _ _ RY.out).mono ?_); rintro e r2 ⟨rfl, hb⟩); go_wp2_with fail
                have KBn := Lib.hid (KB.out.below hb)
                clear KB
                have KB := KBn
                clear KBn
                have RYn := Lib.hid (RY.out.below hb)
                clear RY
                have RY := RYn
                clear RYn
                refine hK.out _ _ ?_ (fun hG => ?_)
                · exact ⟨cell_below hb hH.1, cell_below hb hH.2.1, cell_below hb hH.2.2.1, cell_below hb hH.2.2.2.1, cell_below hb hH.2.2.2.2.1, cell_below hb hH.2.2.2.2.2.1, hH.2.2.2.2.2.2.trans (hb.mono hH.2.2.2.2.2.2.size)⟩
                replace hH := hG
                clear hK K hG
                try simp only [Act.put, List.setIfInBounds_toArray, List.set_cons_zero, List.set_cons_succ]
                clear hb
                refine wpAnyH_take (i := 5) (oi := { dst := some 79, op := _, type := _, pos := _, after := _, guard := _ }) (v := ?_) rfl (by kernel_rfl) (by kernel_rfl) (by kernel_rfl) (fun _ _ _ h => h) (Or.inl ⟨by rfl, ?_⟩) hH ?_
                rotate_left 1
                · intro W hSw
                  (try dsimp only at hSw)
                  go_simp
                  (try with_reducible rfl)
                try simp only [Act.put, List.setIfInBounds_toArray, List.set_cons_zero, List.set_cons_succ]
                refine wpAnyH_take (i := 6) (oi := { dst := some 85, op := _, type := _, pos := _, after := _, guard := _ }) (v := ?_) rfl (by kernel_rfl) (by kernel_rfl) (by kernel_rfl) (fun _ _ _ h => h) (Or.inl ⟨by rfl, ?_⟩) hH ?_
                rotate_left 1
                · intro W hSw
                  (try dsimp only at hSw)
                  go_simp
                  (try with_reducible rfl)
                try simp only [Act.put, List.setIfInBounds_toArray, List.set_cons_zero, List.set_cons_succ]
                refine wpAnyH_take (i := 7) (oi := { dst := some 86, op := _, type := _, pos := _, after := _, guard := _ }) (v := ?_) rfl (by kernel_rfl) (by kernel_rfl) (by kernel_rfl) (fun _ _ _ h => h) (Or.inl ⟨by rfl, ?_⟩) hH ?_
                rotate_left 1
                · intro W hSw
                  (try dsimp only at hSw)
                  go_simp
                  (try with_reducible rfl)
                try simp only [Act.put, List.setIfInBounds_toArray, List.set_cons_zero, List.set_cons_succ]
                refine wpAnyH_ready (rs := [9]) (by kernel_rfl) (by simp) (AllReadyH.cons rfl (fun K hK => ?_) AllReadyH.nil)
                (refine step_store_row rfl 34 (.tmp 14) (.tmp 85) rfl (r1.heap.size) (zc) (by simp [Act.eval, Act.put]) (by simp [Act.eval, Act.put]) 34 zc KB.out (by kernel_rfl) rfl (by simp [Value.oneCell']) ?_; refine (show K (Act.put _ none _) _ from ?_); have hgR := row_grown r2 (r1.heap.size) (zc))
                refine hK.out _ _ ?_ (fun hG => ?_)
                · exact ⟨hgR.cell hH.1 (fun e => by have e := Option.some.inj e; (have e9 : w.heap.size = r1.heap.size := e); omega), hgR.cell hH.2.1 (fun e => by have e := Option.some.inj e; (have e9 : w.heap.size = r1.heap.size := e); omega), hgR.cell hH.2.2.1 (fun e => by have e := Option.some.inj e; (have e9 : w.heap.size = r1.heap.size := e); omega), hgR.cell hH.2.2.2.1 (fun e => by have e := Option.some.inj e; (have e9 : w.heap.size = r1.heap.size := e); omega), hgR.cell hH.2.2.2.2.1 (fun e => by have e := Option.some.inj e; (have e9 : w.heap.size + 1 = r1.heap.size := e); omega), hgR.cell hH.2.2.2.2.2.1 (fun e => by have e := Option.some.inj e; (have e9 : w.heap.size + 1 = r1.heap.size := e); omega), hH.2.2.2.2.2.2.grown hgR hH.2.2.2.2.2.2.size (fun z9 e9 => by have e9 := Option.some.inj e9; omega)⟩
                replace hH := hG
                clear hK K hG
                try simp only [Act.put, List.setIfInBounds_toArray, List.set_cons_zero, List.set_cons_succ]
                refine wpAnyH_take (i := 10) (oi := { dst := some 15, op := _, type := _, pos := _, after := _, guard := _ }) (v := ?_) rfl (by kernel_rfl) (by kernel_rfl) (by kernel_rfl) (fun _ _ _ h => h) (Or.inl ⟨by rfl, ?_⟩) hH ?_
                rotate_left 1
                · intro W hSw
                  (try dsimp only at hSw)
                  go_simp
                  (try with_reducible rfl)
                try simp only [Act.put, List.setIfInBounds_toArray, List.set_cons_zero, List.set_cons_succ]
                refine wpAnyH_done (by kernel_rfl) ?_ _
                refine NoPanic.normal ?_
                have KF := Lib.hid (row_bk (zc) KB.out)
                have BF := Lib.hid hH.2.2.2.2.2.2
                clear hH hgR
                go_wp2_with fail
                go_meet
                exact ⟨_, rfl, rfl, KF, leA, BF⟩
            · go_simp
              have hb : Below r0.heap.size r0 (r0.alloc (.cells zc 34)) := (Below.refl _ _).alloc (Nat.le_refl _) (.cells zc 34)
              have leA : u7.heap.size ≤ r0.heap.size := hH.2.2.2.2.2.2.size
              have RYn := Lib.hid (RY.out.below hb)
              clear RY
              have RY := RYn
              clear RYn
              have KB := Lib.hid (Bk.new r0 zc 34)
              refine hK.out _ _ ?_ (fun hG => ?_)
              · exact ⟨cell_below hb hH.1, cell_below hb hH.2.1, cell_below hb hH.2.2.1, cell_below hb hH.2.2.2.1, cell_below hb hH.2.2.2.2.1, cell_below hb hH.2.2.2.2.2.1, hH.2.2.2.2.2.2.trans (hb.mono hH.2.2.2.2.2.2.size)⟩
              replace hH := hG
              clear hK K hG
              try simp only [Act.put, List.setIfInBounds_toArray, List.set_cons_zero, List.set_cons_succ]
              clear hb
              refine wpAnyH_ready (rs := [3]) (by kernel_rfl) (by simp) (AllReadyH.cons rfl (fun K hK => ?_) (AllReadyH.nil))
              go_simp
              go_at_call 20; ((with_reducible refine (toPlace9 x1 y1 _).mono ?_); rintro e r1 ⟨rfl, hb⟩); go_wp2_with fail
              have KBn := Lib.hid (KB.out.below hb)
              clear KB
              have KB := KBn
              clear KBn
              have RYn := Lib.hid (RY.out.below hb)
              clear RY
              have RY := RYn
              clear RYn
              refine hK.out _ _ ?_ (fun hG => ?_)
              · exact ⟨cell_below hb hH.1, cell_below hb hH.2.1, cell_below hb hH.2.2.1, cell_below hb hH.2.2.2.1, cell_below hb hH.2.2.2.2.1, cell_below hb hH.2.2.2.2.2.1, hH.2.2.2.2.2.2.trans (hb.mono hH.2.2.2.2.2.2.size)⟩
              replace hH := hG
              clear hK K hG
              try simp only [Act.put, List.setIfInBounds_toArray, List.set_cons_zero, List.set_cons_succ]
              clear hb
              refine wpAnyH_ready (rs := [4]) (by kernel_rfl) (by simp) (AllReadyH.cons rfl (fun K hK => ?_) (AllReadyH.nil))
              go_simp
              go_at_call 21; ((with_reducible refine (CI.out _ _ _ _ RY.out).mono ?_); rintro e r2 ⟨rfl, hb⟩); go_wp2_with fail
              have KBn := Lib.hid (KB.out.below hb)
              clear KB
              have KB := KBn
              clear KBn
              have RYn := Lib.hid (RY.out.below hb)
              clear RY
              have RY := RYn
              clear RYn
              refine hK.out _ _ ?_ (fun hG => ?_)
              · exact ⟨cell_below hb hH.1, cell_below hb hH.2.1, cell_below hb hH.2.2.1, cell_below hb hH.2.2.2.1, cell_below hb hH.2.2.2.2.1, cell_below hb hH.2.2.2.2.2.1, hH.2.2.2.2.2.2.trans (hb.mono hH.2.2.2.2.2.2.size)⟩
              replace hH := hG
              clear hK K hG
              try simp only [Act.put, List.setIfInBounds_toArray, List.set_cons_zero, List.set_cons_succ]
              clear hb
              refine wpAnyH_take (i := 5) (oi := { dst := some 79, op := _, type := _, pos := _, after := _, guard := _ }) (v := ?_) rfl (by kernel_rfl) (by kernel_rfl) (by kernel_rfl) (fun _ _ _ h => h) (Or.inl ⟨by rfl, ?_⟩) hH ?_
              rotate_left 1
              · intro W hSw
                (try dsimp only at hSw)
                go_simp
                (try with_reducible rfl)
              try simp only [Act.put, List.setIfInBounds_toArray, List.set_cons_zero, List.set_cons_succ]
              refine wpAnyH_take (i := 6) (oi := { dst := some 85, op := _, type := _, pos := _, after := _, guard := _ }) (v := ?_) rfl (by kernel_rfl) (by kernel_rfl) (by kernel_rfl) (fun _ _ _ h => h) (Or.inl ⟨by rfl, ?_⟩) hH ?_
              rotate_left 1
              · intro W hSw
                (try dsimp only at hSw)
                go_simp
                (try with_reducible rfl)
              try simp only [Act.put, List.setIfInBounds_toArray, List.set_cons_zero, List.set_cons_succ]
              refine wpAnyH_take (i := 7) (oi := { dst := some 86, op := _, type := _, pos := _, after := _, guard := _ }) (v := ?_) rfl (by kernel_rfl) (by kernel_rfl) (by kernel_rfl) (fun _ _ _ h => h) (Or.inl ⟨by rfl, ?_⟩) hH ?_
              rotate_left 1
              · intro W hSw
                (try dsimp only at hSw)
                go_simp
                (try with_reducible rfl)
              try simp only [Act.put, List.setIfInBounds_toArray, List.set_cons_zero, List.set_cons_succ]
              refine wpAnyH_ready (rs := [9]) (by kernel_rfl) (by simp) (AllReadyH.cons rfl (fun K hK => ?_) AllReadyH.nil)
              (refine step_store_row rfl 34 (.tmp 14) (.tmp 85) rfl (r0.heap.size) (zc) (by simp [Act.eval, Act.put]) (by simp [Act.eval, Act.put]) 34 zc KB.out (by kernel_rfl) rfl (by simp [Value.oneCell']) ?_; refine (show K (Act.put _ none _) _ from ?_); have hgR := row_grown r2 (r0.heap.size) (zc))
              refine hK.out _ _ ?_ (fun hG => ?_)
              · exact ⟨hgR.cell hH.1 (fun e => by have e := Option.some.inj e; (have e9 : w.heap.size = r0.heap.size := e); omega), hgR.cell hH.2.1 (fun e => by have e := Option.some.inj e; (have e9 : w.heap.size = r0.heap.size := e); omega), hgR.cell hH.2.2.1 (fun e => by have e := Option.some.inj e; (have e9 : w.heap.size = r0.heap.size := e); omega), hgR.cell hH.2.2.2.1 (fun e => by have e := Option.some.inj e; (have e9 : w.heap.size = r0.heap.size := e); omega), hgR.cell hH.2.2.2.2.1 (fun e => by have e := Option.some.inj e; (have e9 : w.heap.size + 1 = r0.heap.size := e); omega), hgR.cell hH.2.2.2.2.2.1 (fun e => by have e := Option.some.inj e; (have e9 : w.heap.size + 1 = r0.heap.size := e); omega), hH.2.2.2.2.2.2.grown hgR hH.2.2.2.2.2.2.size (fun z9 e9 => by have e9 := Option.some.inj e9; omega)⟩
              replace hH := hG
              clear hK K hG
              try simp only [Act.put, List.setIfInBounds_toArray, List.set_cons_zero, List.set_cons_succ]
              refine wpAnyH_take (i := 10) (oi := { dst := some 15, op := _, type := _, pos := _, after := _, guard := _ }) (v := ?_) rfl (by kernel_rfl) (by kernel_rfl) (by kernel_rfl) (fun _ _ _ h => h) (Or.inl ⟨by rfl, ?_⟩) hH ?_
              rotate_left 1
              · intro W hSw
                (try dsimp only at hSw)
                go_simp
                (try with_reducible rfl)
              try simp only [Act.put, List.setIfInBounds_toArray, List.set_cons_zero, List.set_cons_succ]
              refine wpAnyH_done (by kernel_rfl) ?_ _
              refine NoPanic.normal ?_
              have KF := Lib.hid (row_bk (zc) KB.out)
              have BF := Lib.hid hH.2.2.2.2.2.2
              clear hH hgR
              go_wp2_with fail
              go_meet
              exact ⟨_, rfl, rfl, KF, leA, BF⟩
          · go_simp
            have hb : Below u7.drew.heap.size u7.drew (u7.drew.alloc (.cells zc 34)) := (Below.refl _ _).alloc (Nat.le_refl _) (.cells zc 34)
            have leA : u7.heap.size ≤ u7.drew.heap.size := hH.2.2.2.2.2.2.size
            have KB := Lib.hid (Bk.new u7.drew zc 34)
            refine hK.out _ _ ?_ (fun hG => ?_)
            · exact ⟨cell_below hb hH.1, cell_below hb hH.2.1, cell_below hb hH.2.2.1, cell_below hb hH.2.2.2.1, cell_below hb hH.2.2.2.2.1, cell_below hb hH.2.2.2.2.2.1, hH.2.2.2.2.2.2.trans (hb.mono hH.2.2.2.2.2.2.size)⟩
            replace hH := hG
            clear hK K hG
            try simp only [Act.put, List.setIfInBounds_toArray, List.set_cons_zero, List.set_cons_succ]
            clear hb
            refine wpAnyH_ready (rs := [1]) (by kernel_rfl) (by simp) (AllReadyH.cons rfl (fun K hK => ?_) (AllReadyH.nil))
            go_simp
            go_at_call 10; ((with_reducible refine (TO.out _ (HS.out.below (BB.out.trans (hH.2.2.2.2.2.2.mono BB.out.size)))).mono ?_); rintro e r0 ⟨ya, yb, yc, rfl, oa, ob, oc, _, _, hb⟩); go_wp2_with fail
            have KBn := Lib.hid (KB.out.below hb)
            clear KB
            have KB := KBn
            clear KBn
            have RY := Lib.hid (SR.own oa ob oc)
            clear oa ob oc
            refine hK.out _ _ ?_ (fun hG => ?_)
            · exact ⟨cell_below hb hH.1, cell_below hb hH.2.1, cell_below hb hH.2.2.1, cell_below hb hH.2.2.2.1, cell_below hb hH.2.2.2.2.1, cell_below hb hH.2.2.2.2.2.1, hH.2.2.2.2.2.2.trans (hb.mono hH.2.2.2.2.2.2.size)⟩
            replace hH := hG
            clear hK K hG
            try simp only [Act.put, List.setIfInBounds_toArray, List.set_cons_zero, List.set_cons_succ]
            clear hb
            refine wpAnyH_ready (rs := [3]) (by kernel_rfl) (by simp) (AllReadyH.cons rfl (fun K hK => ?_) (AllReadyH.nil))
            go_simp
            go_at_call 20; ((with_reducible refine (toPlace9 x1 y1 _).mono ?_); rintro e r1 ⟨rfl, hb⟩); go_wp2_with fail
            have KBn := Lib.hid (KB.out.below hb)
            clear KB
            have KB := KBn
            clear KBn
            have RYn := Lib.hid (RY.out.below hb)
            clear RY
            have RY := RYn
            clear RYn
            refine hK.out _ _ ?_ (fun hG => ?_)
            · exact ⟨cell_below hb hH.1, cell_below hb hH.2.1, cell_below hb hH.2.2.1, cell_below hb hH.2.2.2.1, cell_below hb hH.2.2.2.2.1, cell_below hb hH.2.2.2.2.2.1, hH.2.2.2.2.2.2.trans (hb.mono hH.2.2.2.2.2.2.size)⟩
            replace hH := hG
            clear hK K hG
            try simp only [Act.put, List.setIfInBounds_toArray, List.set_cons_zero, List.set_cons_succ]
            clear hb
            refine wpAnyH_ready (rs := [4]) (by kernel_rfl) (by simp) (AllReadyH.cons rfl (fun K hK => ?_) (AllReadyH.nil))
            go_simp
            go_at_call 21; ((with_reducible refine (CI.out _ _ _ _ RY.out).mono ?_); rintro e r2 ⟨rfl, hb⟩); go_wp2_with fail
            have KBn := Lib.hid (KB.out.below hb)
            clear KB
            have KB := KBn
            clear KBn
            have RYn := Lib.hid (RY.out.below hb)
            clear RY
            have RY := RYn
            clear RYn
            refine hK.out _ _ ?_ (fun hG => ?_)
            · exact ⟨cell_below hb hH.1, cell_below hb hH.2.1, cell_below hb hH.2.2.1, cell_below hb hH.2.2.2.1, cell_below hb hH.2.2.2.2.1, cell_below hb hH.2.2.2.2.2.1, hH.2.2.2.2.2.2.trans (hb.mono hH.2.2.2.2.2.2.size)⟩
            replace hH := hG
            clear hK K hG
            try simp only [Act.put, List.setIfInBounds_toArray, List.set_cons_zero, List.set_cons_succ]
            clear hb
            refine wpAnyH_take (i := 5) (oi := { dst := some 79, op := _, type := _, pos := _, after := _, guard := _ }) (v := ?_) rfl (by kernel_rfl) (by kernel_rfl) (by kernel_rfl) (fun _ _ _ h => h) (Or.inl ⟨by rfl, ?_⟩) hH ?_
            rotate_left 1
            · intro W hSw
              (try dsimp only at hSw)
              go_simp
              (try with_reducible rfl)
            try simp only [Act.put, List.setIfInBounds_toArray, List.set_cons_zero, List.set_cons_succ]
            refine wpAnyH_take (i := 6) (oi := { dst := some 85, op := _, type := _, pos := _, after := _, guard := _ }) (v := ?_) rfl (by kernel_rfl) (by kernel_rfl) (by kernel_rfl) (fun _ _ _ h => h) (Or.inl ⟨by rfl, ?_⟩) hH ?_
            rotate_left 1
            · intro W hSw
              (try dsimp only at hSw)
              go_simp
              (try with_reducible rfl)
            try simp only [Act.put, List.setIfInBounds_toArray, List.set_cons_zero, List.set_cons_succ]
            refine wpAnyH_take (i := 7) (oi := { dst := some 86, op := _, type := _, pos := _, after := _, guard := _ }) (v := ?_) rfl (by kernel_rfl) (by kernel_rfl) (by kernel_rfl) (fun _ _ _ h => h) (Or.inl ⟨by rfl, ?_⟩) hH ?_
            rotate_left 1
            · intro W hSw
              (try dsimp only at hSw)
              go_simp
              (try with_reducible rfl)
            try simp only [Act.put, List.setIfInBounds_toArray, List.set_cons_zero, List.set_cons_succ]
            refine wpAnyH_ready (rs := [9]) (by kernel_rfl) (by simp) (AllReadyH.cons rfl (fun K hK => ?_) AllReadyH.nil)
            (refine step_store_row rfl 34 (.tmp 14) (.tmp 85) rfl (u7.drew.heap.size) (zc) (by simp [Act.eval, Act.put]) (by simp [Act.eval, Act.put]) 34 zc KB.out (by kernel_rfl) rfl (by simp [Value.oneCell']) ?_; refine (show K (Act.put _ none _) _ from ?_); have hgR := row_grown r2 (u7.drew.heap.size) (zc))
            refine hK.out _ _ ?_ (fun hG => ?_)
            · exact ⟨hgR.cell hH.1 (fun e => by have e := Option.some.inj e; (have e9 : w.heap.size = u7.drew.heap.size := e); omega), hgR.cell hH.2.1 (fun e => by have e := Option.some.inj e; (have e9 : w.heap.size = u7.drew.heap.size := e); omega), hgR.cell hH.2.2.1 (fun e => by have e := Option.some.inj e; (have e9 : w.heap.size = u7.drew.heap.size := e); omega), hgR.cell hH.2.2.2.1 (fun e => by have e := Option.some.inj e; (have e9 : w.heap.size = u7.drew.heap.size := e); omega), hgR.cell hH.2.2.2.2.1 (fun e => by have e := Option.some.inj e; (have e9 : w.heap.size + 1 = u7.drew.heap.size := e); omega), hgR.cell hH.2.2.2.2.2.1 (fun e => by have e := Option.some.inj e; (have e9 : w.heap.size + 1 = u7.drew.heap.size := e); omega), hH.2.2.2.2.2.2.grown hgR hH.2.2.2.2.2.2.size (fun z9 e9 => by have e9 := Option.some.inj e9; omega)⟩
            replace hH := hG
            clear hK K hG
            try simp only [Act.put, List.setIfInBounds_toArray, List.set_cons_zero, List.set_cons_succ]
            refine wpAnyH_take (i := 10) (oi := { dst := some 15, op := _, type := _, pos := _, after := _, guard := _ }) (v := ?_) rfl (by kernel_rfl) (by kernel_rfl) (by kernel_rfl) (fun _ _ _ h => h) (Or.inl ⟨by rfl, ?_⟩) hH ?_
            rotate_left 1
            · intro W hSw
              (try dsimp only at hSw)
              go_simp
              (try with_reducible rfl)
            try simp only [Act.put, List.setIfInBounds_toArray, List.set_cons_zero, List.set_cons_succ]
            refine wpAnyH_done (by kernel_rfl) ?_ _
            refine NoPanic.normal ?_
            have KF := Lib.hid (row_bk (zc) KB.out)
            have BF := Lib.hid hH.2.2.2.2.2.2
            clear hH hgR
            go_wp2_with fail
            go_meet
            exact ⟨_, rfl, rfl, KF, leA, BF⟩
        case rest =>
          obtain ⟨kH, rfl, rfl, KF, chk_H, hbF⟩ := hcut
          have hb := hbF.out
          clear hbF
          have B2 := Lib.hid (BB.out.trans (hb.mono BB.out.size))
          have K01 := Lib.hid (K0.out.below hb)
          have KP1 := Lib.hid (KP.out.below hb)
          have KW1 := Lib.hid (KW.out.below hb)
          have KX1 := Lib.hid (KX.out.below hb)
          have KG1 := Lib.hid (KG.out.below hb)
          clear hb BB K0 KP KW KX KG
          have BB := B2
          clear B2
          have K0 := K01
          clear K01
          have KP := KP1
          clear KP1
          have KW := KW1
          clear KW1
          have KX := KX1
          clear KX1
          have KG := KG1
          clear KG1
          have KH := KF
          clear KF
          have b0 := K0.out.cell (i := 0) rfl
          have b1 := K0.out.cell (i := 1) rfl
          have b2 := K0.out.cell (i := 2) rfl
          have b3 := K0.out.cell (i := 3) rfl
          have pl0 := KP.out.cell (i := 0) rfl
          have pl1 := KP.out.cell (i := 1) rfl
          have KW_0 := KW.out.cell (i := 0) rfl
          have KW_1 := KW.out.cell (i := 1) rfl
          have KW_2 := KW.out.cell (i := 2) rfl
          have KW_3 := KW.out.cell (i := 3) rfl
          have KX_0 := KX.out.cell (i := 0) rfl
          have KX_1 := KX.out.cell (i := 1) rfl
          have KX_2 := KX.out.cell (i := 2) rfl
          have KX_3 := KX.out.cell (i := 3) rfl
          have KG_0 := KG.out.cell (i := 0) rfl
          have KG_1 := KG.out.cell (i := 1) rfl
          have KG_2 := KG.out.cell (i := 2) rfl
          have KG_3 := KG.out.cell (i := 3) rfl
          have KH_0 := KH.out.cell (i := 0) rfl
          have KH_1 := KH.out.cell (i := 1) rfl
          have KH_2 := KH.out.cell (i := 2) rfl
          have KH_3 := KH.out.cell (i := 3) rfl
          go_wp2_with fail
          clear b0 b1 b2 b3 pl0 pl1
          clear KW_0 KW_1 KW_2 KW_3
          clear KX_0 KX_1 KX_2 KX_3
          clear KG_0 KG_1 KG_2 KG_3
          clear KH_0 KH_1 KH_2 KH_3
          refine (EN.out _).mono ?_
          rintro e u8 ⟨rfl, hb⟩
          have B2 := Lib.hid (BB.out.trans (hb.mono BB.out.size))
          have K01 := Lib.hid (K0.out.below hb)
          have KP1 := Lib.hid (KP.out.below hb)
          have KW1 := Lib.hid (KW.out.below hb)
          have KX1 := Lib.hid (KX.out.below hb)
          have KG1 := Lib.hid (KG.out.below hb)
          have KH1 := Lib.hid (KH.out.below hb)
          clear hb BB K0 KP KW KX KG KH
          have BB := B2
          clear B2
          have K0 := K01
          clear K01
          have KP := KP1
          clear KP1
          have KW := KW1
          clear KW1
          have KX := KX1
          clear KX1
          have KG := KG1
          clear KG1
          have KH := KH1
          clear KH1
          have b0 := K0.out.cell (i := 0) rfl
          have b1 := K0.out.cell (i := 1) rfl
          have b2 := K0.out.cell (i := 2) rfl
          have b3 := K0.out.cell (i := 3) rfl
          have pl0 := KP.out.cell (i := 0) rfl
          have pl1 := KP.out.cell (i := 1) rfl
          have KW_0 := KW.out.cell (i := 0) rfl
          have KW_1 := KW.out.cell (i := 1) rfl
          have KW_2 := KW.out.cell (i := 2) rfl
          have KW_3 := KW.out.cell (i := 3) rfl
          have KX_0 := KX.out.cell (i := 0) rfl
          have KX_1 := KX.out.cell (i := 1) rfl
          have KX_2 := KX.out.cell (i := 2) rfl
          have KX_3 := KX.out.cell (i := 3) rfl
          have KG_0 := KG.out.cell (i := 0) rfl
          have KG_1 := KG.out.cell (i := 1) rfl
          have KG_2 := KG.out.cell (i := 2) rfl
          have KG_3 := KG.out.cell (i := 3) rfl
          have KH_0 := KH.out.cell (i := 0) rfl
          have KH_1 := KH.out.cell (i := 1) rfl
          have KH_2 := KH.out.cell (i := 2) rfl
          have KH_3 := KH.out.cell (i := 3) rfl
          go_wp2_with fail
          clear b0 b1 b2 b3 pl0 pl1
          clear KW_0 KW_1 KW_2 KW_3
          clear KX_0 KX_1 KX_2 KX_3
          clear KG_0 KG_1 KG_2 KG_3
          clear KH_0 KH_1 KH_2 KH_3
          refine (HN.out _).mono ?_
          rintro e u9 ⟨rfl, hb⟩
          have B2 := Lib.hid (BB.out.trans (hb.mono BB.out.size))
          have K01 := Lib.hid (K0.out.below hb)
          have KP1 := Lib.hid (KP.out.below hb)
          have KW1 := Lib.hid (KW.out.below hb)
          have KX1 := Lib.hid (KX.out.below hb)
          have KG1 := Lib.hid (KG.out.below hb)
          have KH1 := Lib.hid (KH.out.below hb)
          clear hb BB K0 KP KW KX KG KH
          have BB := B2
          clear B2
          have K0 := K01
          clear K01
          have KP := KP1
          clear KP1
          have KW := KW1
          clear KW1
          have KX := KX1
          clear KX1
          have KG := KG1
          clear KG1
          have KH := KH1
          clear KH1
          have b0 := K0.out.cell (i := 0) rfl
          have b1 := K0.out.cell (i := 1) rfl
          have b2 := K0.out.cell (i := 2) rfl
          have b3 := K0.out.cell (i := 3) rfl
          have pl0 := KP.out.cell (i := 0) rfl
          have pl1 := KP.out.cell (i := 1) rfl
          have KW_0 := KW.out.cell (i := 0) rfl
          have KW_1 := KW.out.cell (i := 1) rfl
          have KW_2 := KW.out.cell (i := 2) rfl
          have KW_3 := KW.out.cell (i := 3) rfl
          have KX_0 := KX.out.cell (i := 0) rfl
          have KX_1 := KX.out.cell (i := 1) rfl
          have KX_2 := KX.out.cell (i := 2) rfl
          have KX_3 := KX.out.cell (i := 3) rfl
          have KG_0 := KG.out.cell (i := 0) rfl
          have KG_1 := KG.out.cell (i := 1) rfl
          have KG_2 := KG.out.cell (i := 2) rfl
          have KG_3 := KG.out.cell (i := 3) rfl
          have KH_0 := KH.out.cell (i := 0) rfl
          have KH_1 := KH.out.cell (i := 1) rfl
          have KH_2 := KH.out.cell (i := 2) rfl
          have KH_3 := KH.out.cell (i := 3) rfl
          go_wp2_with fail
          go_ret
          exact ⟨rfl, BB.out⟩
  · have h12 : shR ds x1 y1 = true ∧ Sv.show9 ds cs gs T = true := by simpa using hrr
    have LEN0 : (shZ ds x1 y1).length = n0 := (sh_len h12.1).trans hn0
    obtain ⟨l0, hl0⟩ : ∃ l, shZ ds x1 y1 = l := ⟨_, rfl⟩
    have CS := Lib.hid (show ∀ (g0 g1 g2 : Nat) (W : World) (h : SR W (some ⟨g0, 0, none⟩) (some ⟨g1, 0, none⟩) (some ⟨g2, 0, none⟩) ds cs gs), Calls Tryz.prog 19 #[sv (some ⟨g0, 0, none⟩) n0 n0 (some ⟨g1, 0, none⟩) n1 n1 (some ⟨g2, 0, none⟩) n2 n2 T, .agg #[.int .i64 x1, .int .i64 y1]] W (fun e w' => ∃ g0 c0 g1 c1 g2 c2, e = .returned (.tuple #[sv (some ⟨g0, 0, none⟩) n0 c0 (some ⟨g1, 0, none⟩) n1 c1 (some ⟨g2, 0, none⟩) n2 c2 T, .bool true]) ∧ w'.ownsRow W.heap.size 117 8 (.slice (some ⟨g0, 0, none⟩) n0 c0) n0 (Dd.dls l0) ∧ w'.ownsRow W.heap.size 97 4 (.slice (some ⟨g1, 0, none⟩) n1 c1) n1 (Cd.dls cs) ∧ w'.ownsRow W.heap.size 100 3 (.slice (some ⟨g2, 0, none⟩) n2 c2) n2 (Gs.gls gs) ∧ Below W.heap.size W w') from fun g0 g1 g2 W h => by have := shiftShowS _ n0 n0 _ n1 n1 _ n2 n2 T ds cs gs x1 y1 W HF.out h hsz hsc h12.1 h12.2; rw [hl0] at this; exact this)
    have CI := Lib.hid (show ∀ (g0 g1 g2 : Nat) (W : World) (h : SR W (some ⟨g0, 0, none⟩) (some ⟨g1, 0, none⟩) (some ⟨g2, 0, none⟩) ds cs gs), Calls Tryz.prog 21 #[sv (some ⟨g0, 0, none⟩) n0 n0 (some ⟨g1, 0, none⟩) n1 n1 (some ⟨g2, 0, none⟩) n2 n2 T, .agg #[.int .i64 x1, .int .i64 y1]] W (fun e w' => ∃ g0 c0 g1 c1 g2 c2, e = .returned (.tuple #[sv (some ⟨g0, 0, none⟩) n0 c0 (some ⟨g1, 0, none⟩) n1 c1 (some ⟨g2, 0, none⟩) n2 c2 T, .bool true]) ∧ w'.ownsRow W.heap.size 117 8 (.slice (some ⟨g0, 0, none⟩) n0 c0) n0 (Dd.dls l0) ∧ w'.ownsRow W.heap.size 97 4 (.slice (some ⟨g1, 0, none⟩) n1 c1) n1 (Cd.dls cs) ∧ w'.ownsRow W.heap.size 100 3 (.slice (some ⟨g2, 0, none⟩) n2 c2) n2 (Gs.gls gs) ∧ g0 < g1 ∧ g1 < g2 ∧ Below W.heap.size W w') from fun g0 g1 g2 W h => by have := shiftShowI _ n0 n0 _ n1 n1 _ n2 n2 T ds cs gs x1 y1 W HF.out h h12.1 h12.2; rw [hl0] at this; exact this)
    have HFL := Lib.hid (show Fit n0 n1 n2 l0 cs gs from ⟨⟨by rw [← hl0]; exact LEN0, HF.out.1.2⟩, HF.out.2.1, HF.out.2.2.1, HF.out.2.2.2⟩)
    have EA := Lib.hid (fun (g0 g1 g2 k0 k1 k2 e0 e1 e2 f0 f1 f2 : Nat) (W : World) (h : SR W (some ⟨g0, 0, none⟩) (some ⟨g1, 0, none⟩) (some ⟨g2, 0, none⟩) l0 cs gs) (k : SR W (some ⟨k0, 0, none⟩) (some ⟨k1, 0, none⟩) (some ⟨k2, 0, none⟩) l0 cs gs) => eqShow (some ⟨g0, 0, none⟩) n0 e0 (some ⟨g1, 0, none⟩) n1 e1 (some ⟨g2, 0, none⟩) n2 e2 T (some ⟨k0, 0, none⟩) f0 (some ⟨k1, 0, none⟩) f1 (some ⟨k2, 0, none⟩) f2 l0 cs gs W HFL.out h k)
    have MR := Lib.hid (fun (g0 g1 g2 e0 e1 e2 : Nat) (h01 : g0 < g1) (h12 : g1 < g2) (W : World) o0 o1 o2 => (by have := Mk9.markShow w.heap.size n0 n1 n2 g0 g1 g2 e0 e1 e2 T l0 cs gs W HFL.out (by omega) h01 h12 o0 o1 o2; rw [hK9] at this; exact this : Calls Tryz.prog 14 #[sv (some ⟨g0, 0, none⟩) n0 e0 (some ⟨g1, 0, none⟩) n1 e1 (some ⟨g2, 0, none⟩) n2 e2 T, .int .i64 1] W _))
    have HR := Lib.hid (fun (g0 g1 g2 e0 e1 e2 : Nat) (W : World) r0 r1 r2 => (by have := Mk9.heldShow n0 n1 n2 e0 e1 e2 (some ⟨g0, 0, none⟩) (some ⟨g1, 0, none⟩) (some ⟨g2, 0, none⟩) T W (by omega) (by omega) (by omega) (by omega) r0 r1 r2; rw [hK9] at this; exact this : Calls Tryz.prog 22 #[sv (some ⟨g0, 0, none⟩) n0 e0 (some ⟨g1, 0, none⟩) n1 e1 (some ⟨g2, 0, none⟩) n2 e2 T, .int .i64 1] W _))
    clear hn0 hm0 hn1 hm1 hn2 hm2 hr0 hr1 hr2 h0 h1 B0 hfit hsz hsc hK9 wT wx1 wy1 hz0 hrr h12 LEN0 hl0
    go_enter Tryz.func5, Tryz.ntmps5
    have b0 := K0.out.cell (i := 0) rfl
    have b1 := K0.out.cell (i := 1) rfl
    have b2 := K0.out.cell (i := 2) rfl
    have b3 := K0.out.cell (i := 3) rfl
    have pl0 := KP.out.cell (i := 0) rfl
    have pl1 := KP.out.cell (i := 1) rfl
    go_wp2_with fail
    clear b0 b1 b2 b3 pl0 pl1
    refine (SZ.out).mono ?_
    rintro e u1 ⟨rfl, hb⟩
    have B2 := Lib.hid (BB.out.trans (hb.mono BB.out.size))
    have K01 := Lib.hid (K0.out.below hb)
    have KP1 := Lib.hid (KP.out.below hb)
    clear hb BB K0 KP
    have BB := B2
    clear B2
    have K0 := K01
    clear K01
    have KP := KP1
    clear KP1
    have b0 := K0.out.cell (i := 0) rfl
    have b1 := K0.out.cell (i := 1) rfl
    have b2 := K0.out.cell (i := 2) rfl
    have b3 := K0.out.cell (i := 3) rfl
    have pl0 := KP.out.cell (i := 0) rfl
    have pl1 := KP.out.cell (i := 1) rfl
    clear SZ
    go_upto_region 5 with fail
    clear b0 b1 b2 b3 pl0 pl1
    have ch_K0_W : w.heap.size < u1.heap.size := K0.out.lt
    have ch_KP_W : w.heap.size + 1 < u1.heap.size := KP.out.lt
    have chu_W : w.heap.size + 1 < u1.heap.size := KP.out.lt
    go_cut [6, 7] (fun a b wx => ∃ k g0 d0 g1 d1 g2 d2, a = .pointer (some ⟨k, 0, none⟩) ∧ b = .bool true ∧ Hid (wx.ownsRow u1.heap.size 117 8 (.slice (some ⟨g0, 0, none⟩) n0 d0) n0 (Dd.dls l0)) ∧ Hid (wx.ownsRow u1.heap.size 97 4 (.slice (some ⟨g1, 0, none⟩) n1 d1) n1 (Cd.dls cs)) ∧ Hid (wx.ownsRow u1.heap.size 100 3 (.slice (some ⟨g2, 0, none⟩) n2 d2) n2 (Gs.gls gs)) ∧ Hid (Bk wx k #[.slice (some ⟨g0, 0, none⟩) n0 d0, .slice (some ⟨g1, 0, none⟩) n1 d1, .slice (some ⟨g2, 0, none⟩) n2 d2, .int .i64 T] 34) ∧ u1.heap.size ≤ k ∧ Hid (Below u1.heap.size u1 wx))
    case first =>
      have b0 := K0.out.cell (i := 0) rfl
      have b1 := K0.out.cell (i := 1) rfl
      have b2 := K0.out.cell (i := 2) rfl
      have b3 := K0.out.cell (i := 3) rfl
      have pl0 := KP.out.cell (i := 0) rfl
      have pl1 := KP.out.cell (i := 1) rfl
      refine wp_region_noPanic ?_
      refine wp_region_held_drew (S := (fun w' => w'.cell? ⟨w.heap.size, 0, none⟩ = some (.slice A0 n0 c0) ∧ w'.cell? ⟨w.heap.size, 1, none⟩ = some (.slice A1 n1 c1) ∧ w'.cell? ⟨w.heap.size, 2, none⟩ = some (.slice A2 n2 c2) ∧ w'.cell? ⟨w.heap.size, 3, none⟩ = some (.int .i64 T) ∧ w'.cell? ⟨w.heap.size + 1, 0, none⟩ = some (.int .i64 x1) ∧ w'.cell? ⟨w.heap.size + 1, 1, none⟩ = some (.int .i64 y1) ∧ Below u1.heap.size u1 w')) (by kernel_rfl) ?_ (fun hH => ?_)
      · exact ⟨b0, b1, b2, b3, pl0, pl1, (Below.refl _ _).drew⟩
      clear b0 b1 b2 b3 pl0 pl1
      refine wpAnyH_take (i := 0) (oi := { dst := some 22, op := _, type := _, pos := _, after := _, guard := _ }) (v := ?_) rfl (by kernel_rfl) (by kernel_rfl) (by kernel_rfl) (fun _ _ _ h => h) (Or.inl ⟨by rfl, ?_⟩) hH ?_
      rotate_left 1
      · intro W hSw
        (try dsimp only at hSw)
        go_simp
        (try with_reducible rfl)
      try simp only [Act.put, List.setIfInBounds_toArray, List.set_cons_zero, List.set_cons_succ]
      refine wpAnyH_take (i := 2) (oi := { dst := some 24, op := _, type := _, pos := _, after := _, guard := _ }) (v := ?_) rfl (by kernel_rfl) (by kernel_rfl) (by kernel_rfl) (fun _ _ _ h => h) (Or.inl ⟨by rfl, ?_⟩) hH ?_
      rotate_left 1
      · intro W hSw
        (try dsimp only at hSw)
        go_simp
        (try with_reducible rfl)
      try simp only [Act.put, List.setIfInBounds_toArray, List.set_cons_zero, List.set_cons_succ]
      refine wpAnyH_ready (rs := [1, 8]) (by kernel_rfl) (by simp) (AllReadyH.cons rfl (fun K hK => ?_) (AllReadyH.cons rfl (fun K hK => ?_) (AllReadyH.nil)))
      · go_simp
        go_at_call 10; ((with_reducible refine (TO.out _ (HS.out.below (BB.out.trans (hH.2.2.2.2.2.2.mono BB.out.size)))).mono ?_); rintro e r0 ⟨ya, yb, yc, rfl, oa, ob, oc, _, _, hb⟩); go_wp2_with fail
        have RY := Lib.hid (SR.own oa ob oc)
        clear oa ob oc
        refine hK.out _ _ ?_ (fun hG => ?_)
        · exact ⟨cell_below hb hH.1, cell_below hb hH.2.1, cell_below hb hH.2.2.1, cell_below hb hH.2.2.2.1, cell_below hb hH.2.2.2.2.1, cell_below hb hH.2.2.2.2.2.1, hH.2.2.2.2.2.2.trans (hb.mono hH.2.2.2.2.2.2.size)⟩
        replace hH := hG
        clear hK K hG
        try simp only [Act.put, List.setIfInBounds_toArray, List.set_cons_zero, List.set_cons_succ]
        clear hb
        refine wpAnyH_ready (rs := [3, 8]) (by kernel_rfl) (by simp) (AllReadyH.cons rfl (fun K hK => ?_) (AllReadyH.cons rfl (fun K hK => ?_) (AllReadyH.nil)))
        · go_simp
          go_at_call 20; ((with_reducible refine (toPlace9 x1 y1 _).mono ?_); rintro e r1 ⟨rfl, hb⟩); go_wp2_with fail
          have RYn := Lib.hid (RY.out.below hb)
          clear RY
          have RY := RYn
          clear RYn
          refine hK.out _ _ ?_ (fun hG => ?_)
          · exact ⟨cell_below hb hH.1, cell_below hb hH.2.1, cell_below hb hH.2.2.1, cell_below hb hH.2.2.2.1, cell_below hb hH.2.2.2.2.1, cell_below hb hH.2.2.2.2.2.1, hH.2.2.2.2.2.2.trans (hb.mono hH.2.2.2.2.2.2.size)⟩
          replace hH := hG
          clear hK K hG
          try simp only [Act.put, List.setIfInBounds_toArray, List.set_cons_zero, List.set_cons_succ]
          clear hb
          refine wpAnyH_ready (rs := [4, 8]) (by kernel_rfl) (by simp) (AllReadyH.cons rfl (fun K hK => ?_) (AllReadyH.cons rfl (fun K hK => ?_) (AllReadyH.nil)))
          · go_simp
            go_at_call 19; ((with_reducible refine (CS.out _ _ _ _ RY.out).mono ?_); rintro e r2 ⟨g0, d0, g1, d1, g2, d2, rfl, o0, o1, o2, hb⟩); go_wp2_with fail
            have RYn := Lib.hid (RY.out.below hb)
            clear RY
            have RY := RYn
            clear RYn
            have le_C := hH.2.2.2.2.2.2.size
            have P0 := Lib.hid (owns_base o0 (Nat.le_trans le_C (own_at o0)))
            have P1 := Lib.hid (owns_base o1 (Nat.le_trans le_C (own_at o1)))
            have P2 := Lib.hid (owns_base o2 (Nat.le_trans le_C (own_at o2)))
            clear o0 o1 o2
            refine hK.out _ _ ?_ (fun hG => ?_)
            · exact ⟨cell_below hb hH.1, cell_below hb hH.2.1, cell_below hb hH.2.2.1, cell_below hb hH.2.2.2.1, cell_below hb hH.2.2.2.2.1, cell_below hb hH.2.2.2.2.2.1, hH.2.2.2.2.2.2.trans (hb.mono hH.2.2.2.2.2.2.size)⟩
            replace hH := hG
            clear hK K hG
            try simp only [Act.put, List.setIfInBounds_toArray, List.set_cons_zero, List.set_cons_succ]
            clear hb
            refine wpAnyH_take (i := 5) (oi := { dst := some 21, op := _, type := _, pos := _, after := _, guard := _ }) (v := ?_) rfl (by kernel_rfl) (by kernel_rfl) (by kernel_rfl) (fun _ _ _ h => h) (Or.inl ⟨by rfl, ?_⟩) hH ?_
            rotate_left 1
            · intro W hSw
              (try dsimp only at hSw)
              go_simp
              (try with_reducible rfl)
            try simp only [Act.put, List.setIfInBounds_toArray, List.set_cons_zero, List.set_cons_succ]
            refine wpAnyH_take (i := 6) (oi := { dst := some 27, op := _, type := _, pos := _, after := _, guard := _ }) (v := ?_) rfl (by kernel_rfl) (by kernel_rfl) (by kernel_rfl) (fun _ _ _ h => h) (Or.inl ⟨by rfl, ?_⟩) hH ?_
            rotate_left 1
            · intro W hSw
              (try dsimp only at hSw)
              go_simp
              (try with_reducible rfl)
            try simp only [Act.put, List.setIfInBounds_toArray, List.set_cons_zero, List.set_cons_succ]
            refine wpAnyH_take (i := 7) (oi := { dst := some 28, op := _, type := _, pos := _, after := _, guard := _ }) (v := ?_) rfl (by kernel_rfl) (by kernel_rfl) (by kernel_rfl) (fun _ _ _ h => h) (Or.inl ⟨by rfl, ?_⟩) hH ?_
            rotate_left 1
            · intro W hSw
              (try dsimp only at hSw)
              go_simp
              (try with_reducible rfl)
            try simp only [Act.put, List.setIfInBounds_toArray, List.set_cons_zero, List.set_cons_succ]
            refine wpAnyH_ready (rs := [8]) (by kernel_rfl) (by simp) (AllReadyH.cons rfl (fun K hK => ?_) (AllReadyH.nil))
            go_simp
            have hb : Below r2.heap.size r2 (r2.alloc (.cells zc 34)) := (Below.refl _ _).alloc (Nat.le_refl _) (.cells zc 34)
            have leA : u1.heap.size ≤ r2.heap.size := hH.2.2.2.2.2.2.size
            have RYn := Lib.hid (RY.out.below hb)
            clear RY
            have RY := RYn
            clear RYn
            have P0n := Lib.hid (owns_below P0.out hb)
            clear P0
            have P0 := P0n
            clear P0n
            have P1n := Lib.hid (owns_below P1.out hb)
            clear P1
            have P1 := P1n
            clear P1n
            have P2n := Lib.hid (owns_below P2.out hb)
            clear P2
            have P2 := P2n
            clear P2n
            have KB := Lib.hid (Bk.new r2 zc 34)
            refine hK.out _ _ ?_ (fun hG => ?_)
            · exact ⟨cell_below hb hH.1, cell_below hb hH.2.1, cell_below hb hH.2.2.1, cell_below hb hH.2.2.2.1, cell_below hb hH.2.2.2.2.1, cell_below hb hH.2.2.2.2.2.1, hH.2.2.2.2.2.2.trans (hb.mono hH.2.2.2.2.2.2.size)⟩
            replace hH := hG
            clear hK K hG
            try simp only [Act.put, List.setIfInBounds_toArray, List.set_cons_zero, List.set_cons_succ]
            clear hb
            refine wpAnyH_ready (rs := [9]) (by kernel_rfl) (by simp) (AllReadyH.cons rfl (fun K hK => ?_) AllReadyH.nil)
            (refine step_store_row rfl 34 (.tmp 6) (.tmp 27) rfl (r2.heap.size) (#[.slice (some ⟨g0, 0, none⟩) n0 d0, .slice (some ⟨g1, 0, none⟩) n1 d1, .slice (some ⟨g2, 0, none⟩) n2 d2, .int .i64 T]) (by simp [Act.eval, Act.put]) (by simp [Act.eval, Act.put]) 34 zc KB.out (by kernel_rfl) rfl (by simp [Value.oneCell']) ?_; refine (show K (Act.put _ none _) _ from ?_); have hgR := row_grown (r2.alloc (.cells zc 34)) (r2.heap.size) (#[.slice (some ⟨g0, 0, none⟩) n0 d0, .slice (some ⟨g1, 0, none⟩) n1 d1, .slice (some ⟨g2, 0, none⟩) n2 d2, .int .i64 T]))
            refine hK.out _ _ ?_ (fun hG => ?_)
            · exact ⟨hgR.cell hH.1 (fun e => by have e := Option.some.inj e; (have e9 : w.heap.size = r2.heap.size := e); omega), hgR.cell hH.2.1 (fun e => by have e := Option.some.inj e; (have e9 : w.heap.size = r2.heap.size := e); omega), hgR.cell hH.2.2.1 (fun e => by have e := Option.some.inj e; (have e9 : w.heap.size = r2.heap.size := e); omega), hgR.cell hH.2.2.2.1 (fun e => by have e := Option.some.inj e; (have e9 : w.heap.size = r2.heap.size := e); omega), hgR.cell hH.2.2.2.2.1 (fun e => by have e := Option.some.inj e; (have e9 : w.heap.size + 1 = r2.heap.size := e); omega), hgR.cell hH.2.2.2.2.2.1 (fun e => by have e := Option.some.inj e; (have e9 : w.heap.size + 1 = r2.heap.size := e); omega), hH.2.2.2.2.2.2.grown hgR hH.2.2.2.2.2.2.size (fun z9 e9 => by have e9 := Option.some.inj e9; omega)⟩
            replace hH := hG
            clear hK K hG
            try simp only [Act.put, List.setIfInBounds_toArray, List.set_cons_zero, List.set_cons_succ]
            refine wpAnyH_take (i := 10) (oi := { dst := some 7, op := _, type := _, pos := _, after := _, guard := _ }) (v := ?_) rfl (by kernel_rfl) (by kernel_rfl) (by kernel_rfl) (fun _ _ _ h => h) (Or.inl ⟨by rfl, ?_⟩) hH ?_
            rotate_left 1
            · intro W hSw
              (try dsimp only at hSw)
              go_simp
              (try with_reducible rfl)
            try simp only [Act.put, List.setIfInBounds_toArray, List.set_cons_zero, List.set_cons_succ]
            refine wpAnyH_done (by kernel_rfl) ?_ _
            refine NoPanic.normal ?_
            have KF := Lib.hid (row_bk (#[.slice (some ⟨g0, 0, none⟩) n0 d0, .slice (some ⟨g1, 0, none⟩) n1 d1, .slice (some ⟨g2, 0, none⟩) n2 d2, .int .i64 T]) KB.out)
            have F0 := Lib.hid (owns_grown P0.out hgR (fun k hk => by have := own_ne P0.out KB.out (by decide); exact fun e => this (hk.trans e.symm)))
            have F1 := Lib.hid (owns_grown P1.out hgR (fun k hk => by have := own_ne P1.out KB.out (by decide); exact fun e => this (hk.trans e.symm)))
            have F2 := Lib.hid (owns_grown P2.out hgR (fun k hk => by have := own_ne P2.out KB.out (by decide); exact fun e => this (hk.trans e.symm)))
            have BF := Lib.hid hH.2.2.2.2.2.2
            clear hH hgR
            go_wp2_with fail
            go_meet
            exact ⟨_, g0, d0, g1, d1, g2, d2, rfl, rfl, F0, F1, F2, KF, leA, BF⟩
          · go_simp
            have hb : Below r1.heap.size r1 (r1.alloc (.cells zc 34)) := (Below.refl _ _).alloc (Nat.le_refl _) (.cells zc 34)
            have leA : u1.heap.size ≤ r1.heap.size := hH.2.2.2.2.2.2.size
            have RYn := Lib.hid (RY.out.below hb)
            clear RY
            have RY := RYn
            clear RYn
            have KB := Lib.hid (Bk.new r1 zc 34)
            refine hK.out _ _ ?_ (fun hG => ?_)
            · exact ⟨cell_below hb hH.1, cell_below hb hH.2.1, cell_below hb hH.2.2.1, cell_below hb hH.2.2.2.1, cell_below hb hH.2.2.2.2.1, cell_below hb hH.2.2.2.2.2.1, hH.2.2.2.2.2.2.trans (hb.mono hH.2.2.2.2.2.2.size)⟩
            replace hH := hG
            clear hK K hG
            try simp only [Act.put, List.setIfInBounds_toArray, List.set_cons_zero, List.set_cons_succ]
            clear hb
            refine wpAnyH_ready (rs := [4]) (by kernel_rfl) (by simp) (AllReadyH.cons rfl (fun K hK => ?_) (AllReadyH.nil))
            go_simp
            go_at_call 19; ((with_reducible refine (CS.out _ _ _ _ RY.out).mono ?_); rintro e r2 ⟨g0, d0, g1, d1, g2, d2, rfl, o0, o1, o2, hb⟩); go_wp2_with fail
            have KBn := Lib.hid (KB.out.below hb)
            clear KB
            have KB := KBn
            clear KBn
            have RYn := Lib.hid (RY.out.below hb)
            clear RY
            have RY := RYn
            clear RYn
            have le_C := hH.2.2.2.2.2.2.size
            have P0 := Lib.hid (owns_base o0 (Nat.le_trans le_C (own_at o0)))
            have P1 := Lib.hid (owns_base o1 (Nat.le_trans le_C (own_at o1)))
            have P2 := Lib.hid (owns_base o2 (Nat.le_trans le_C (own_at o2)))
            have ltB := KB.out.lt
            clear o0 o1 o2
            refine hK.out _ _ ?_ (fun hG => ?_)
            · exact ⟨cell_below hb hH.1, cell_below hb hH.2.1, cell_below hb hH.2.2.1, cell_below hb hH.2.2.2.1, cell_below hb hH.2.2.2.2.1, cell_below hb hH.2.2.2.2.2.1, hH.2.2.2.2.2.2.trans (hb.mono hH.2.2.2.2.2.2.size)⟩
            replace hH := hG
            clear hK K hG
            try simp only [Act.put, List.setIfInBounds_toArray, List.set_cons_zero, List.set_cons_succ]
            clear hb
            refine wpAnyH_take (i := 5) (oi := { dst := some 21, op := _, type := _, pos := _, after := _, guard := _ }) (v := ?_) rfl (by kernel_rfl) (by kernel_rfl) (by kernel_rfl) (fun _ _ _ h => h) (Or.inl ⟨by rfl, ?_⟩) hH ?_
            rotate_left 1
            · intro W hSw
              (try dsimp only at hSw)
              go_simp
              (try with_reducible rfl)
            try simp only [Act.put, List.setIfInBounds_toArray, List.set_cons_zero, List.set_cons_succ]
            refine wpAnyH_take (i := 6) (oi := { dst := some 27, op := _, type := _, pos := _, after := _, guard := _ }) (v := ?_) rfl (by kernel_rfl) (by kernel_rfl) (by kernel_rfl) (fun _ _ _ h => h) (Or.inl ⟨by rfl, ?_⟩) hH ?_
            rotate_left 1
            · intro W hSw
              (try dsimp only at hSw)
              go_simp
              (try with_reducible rfl)
            try simp only [Act.put, List.setIfInBounds_toArray, List.set_cons_zero, List.set_cons_succ]
            refine wpAnyH_take (i := 7) (oi := { dst := some 28, op := _, type := _, pos := _, after := _, guard := _ }) (v := ?_) rfl (by kernel_rfl) (by kernel_rfl) (by kernel_rfl) (fun _ _ _ h => h) (Or.inl ⟨by rfl, ?_⟩) hH ?_
            rotate_left 1
            · intro W hSw
              (try dsimp only at hSw)
              go_simp
              (try with_reducible rfl)
            try simp only [Act.put, List.setIfInBounds_toArray, List.set_cons_zero, List.set_cons_succ]
            refine wpAnyH_ready (rs := [9]) (by kernel_rfl) (by simp) (AllReadyH.cons rfl (fun K hK => ?_) AllReadyH.nil)
            (refine step_store_row rfl 34 (.tmp 6) (.tmp 27) rfl (r1.heap.size) (#[.slice (some ⟨g0, 0, none⟩) n0 d0, .slice (some ⟨g1, 0, none⟩) n1 d1, .slice (some ⟨g2, 0, none⟩) n2 d2, .int .i64 T]) (by simp [Act.eval, Act.put]) (by simp [Act.eval, Act.put]) 34 zc KB.out (by kernel_rfl) rfl (by simp [Value.oneCell']) ?_; refine (show K (Act.put _ none _) _ from ?_); have hgR := row_grown r2 (r1.heap.size) (#[.slice (some ⟨g0, 0, none⟩) n0 d0, .slice (some ⟨g1, 0, none⟩) n1 d1, .slice (some ⟨g2, 0, none⟩) n2 d2, .int .i64 T]))
            refine hK.out _ _ ?_ (fun hG => ?_)
            · exact ⟨hgR.cell hH.1 (fun e => by have e := Option.some.inj e; (have e9 : w.heap.size = r1.heap.size := e); omega), hgR.cell hH.2.1 (fun e => by have e := Option.some.inj e; (have e9 : w.heap.size = r1.heap.size := e); omega), hgR.cell hH.2.2.1 (fun e => by have e := Option.some.inj e; (have e9 : w.heap.size = r1.heap.size := e); omega), hgR.cell hH.2.2.2.1 (fun e => by have e := Option.some.inj e; (have e9 : w.heap.size = r1.heap.size := e); omega), hgR.cell hH.2.2.2.2.1 (fun e => by have e := Option.some.inj e; (have e9 : w.heap.size + 1 = r1.heap.size := e); omega), hgR.cell hH.2.2.2.2.2.1 (fun e => by have e := Option.some.inj e; (have e9 : w.heap.size + 1 = r1.heap.size := e); omega), hH.2.2.2.2.2.2.grown hgR hH.2.2.2.2.2.2.size (fun z9 e9 => by have e9 := Option.some.inj e9; omega)⟩
            replace hH := hG
            clear hK K hG
            try simp only [Act.put, List.setIfInBounds_toArray, List.set_cons_zero, List.set_cons_succ]
            refine wpAnyH_take (i := 10) (oi := { dst := some 7, op := _, type := _, pos := _, after := _, guard := _ }) (v := ?_) rfl (by kernel_rfl) (by kernel_rfl) (by kernel_rfl) (fun _ _ _ h => h) (Or.inl ⟨by rfl, ?_⟩) hH ?_
            rotate_left 1
            · intro W hSw
              (try dsimp only at hSw)
              go_simp
              (try with_reducible rfl)
            try simp only [Act.put, List.setIfInBounds_toArray, List.set_cons_zero, List.set_cons_succ]
            refine wpAnyH_done (by kernel_rfl) ?_ _
            refine NoPanic.normal ?_
            have KF := Lib.hid (row_bk (#[.slice (some ⟨g0, 0, none⟩) n0 d0, .slice (some ⟨g1, 0, none⟩) n1 d1, .slice (some ⟨g2, 0, none⟩) n2 d2, .int .i64 T]) KB.out)
            have F0 := Lib.hid (owns_grown P0.out hgR (fun k hk => by have := own_ne P0.out KB.out (by decide); exact fun e => this (hk.trans e.symm)))
            have F1 := Lib.hid (owns_grown P1.out hgR (fun k hk => by have := own_ne P1.out KB.out (by decide); exact fun e => this (hk.trans e.symm)))
            have F2 := Lib.hid (owns_grown P2.out hgR (fun k hk => by have := own_ne P2.out KB.out (by decide); exact fun e => this (hk.trans e.symm)))
            have BF := Lib.hid hH.2.2.2.2.2.2
            clear hH hgR
            go_wp2_with fail
            go_meet
            exact ⟨_, g0, d0, g1, d1, g2, d2, rfl, rfl, F0, F1, F2, KF, leA, BF⟩
        · go_simp
          have hb : Below r0.heap.size r0 (r0.alloc (.cells zc 34)) := (Below.refl _ _).alloc (Nat.le_refl _) (.cells zc 34)
          have leA : u1.heap.size ≤ r0.heap.size := hH.2.2.2.2.2.2.size
          have RYn := Lib.hid (RY.out.below hb)
          clear RY
          have RY := RYn
          clear RYn
          have KB := Lib.hid (Bk.new r0 zc 34)
          refine hK.out _ _ ?_ (fun hG => ?_)
          · exact ⟨cell_below hb hH.1, cell_below hb hH.2.1, cell_below hb hH.2.2.1, cell_below hb hH.2.2.2.1, cell_below hb hH.2.2.2.2.1, cell_below hb hH.2.2.2.2.2.1, hH.2.2.2.2.2.2.trans (hb.mono hH.2.2.2.2.2.2.size)⟩
          replace hH := hG
          clear hK K hG
          try simp only [Act.put, List.setIfInBounds_toArray, List.set_cons_zero, List.set_cons_succ]
          clear hb
          refine wpAnyH_ready (rs := [3]) (by kernel_rfl) (by simp) (AllReadyH.cons rfl (fun K hK => ?_) (AllReadyH.nil))
          go_simp
          go_at_call 20; ((with_reducible refine (toPlace9 x1 y1 _).mono ?_); rintro e r1 ⟨rfl, hb⟩); go_wp2_with fail
          have KBn := Lib.hid (KB.out.below hb)
          clear KB
          have KB := KBn
          clear KBn
          have RYn := Lib.hid (RY.out.below hb)
          clear RY
          have RY := RYn
          clear RYn
          refine hK.out _ _ ?_ (fun hG => ?_)
          · exact ⟨cell_below hb hH.1, cell_below hb hH.2.1, cell_below hb hH.2.2.1, cell_below hb hH.2.2.2.1, cell_below hb hH.2.2.2.2.1, cell_below hb hH.2.2.2.2.2.1, hH.2.2.2.2.2.2.trans (hb.mono hH.2.2.2.2.2.2.size)⟩
          replace hH := hG
          clear hK K hG
          try simp only [Act.put, List.setIfInBounds_toArray, List.set_cons_zero, List.set_cons_succ]
          clear hb
          refine wpAnyH_ready (rs := [4]) (by kernel_rfl) (by simp) (AllReadyH.cons rfl (fun K hK => ?_) (AllReadyH.nil))
          go_simp
          go_at_call 19; ((with_reducible refine (CS.out _ _ _ _ RY.out).mono ?_); rintro e r2 ⟨g0, d0, g1, d1, g2, d2, rfl, o0, o1, o2, hb⟩); go_wp2_with fail
          have KBn := Lib.hid (KB.out.below hb)
          clear KB
          have KB := KBn
          clear KBn
          have RYn := Lib.hid (RY.out.below hb)
          clear RY
          have RY := RYn
          clear RYn
          have le_C := hH.2.2.2.2.2.2.size
          have P0 := Lib.hid (owns_base o0 (Nat.le_trans le_C (own_at o0)))
          have P1 := Lib.hid (owns_base o1 (Nat.le_trans le_C (own_at o1)))
          have P2 := Lib.hid (owns_base o2 (Nat.le_trans le_C (own_at o2)))
          have ltB := KB.out.lt
          clear o0 o1 o2
          refine hK.out _ _ ?_ (fun hG => ?_)
          · exact ⟨cell_below hb hH.1, cell_below hb hH.2.1, cell_below hb hH.2.2.1, cell_below hb hH.2.2.2.1, cell_below hb hH.2.2.2.2.1, cell_below hb hH.2.2.2.2.2.1, hH.2.2.2.2.2.2.trans (hb.mono hH.2.2.2.2.2.2.size)⟩
          replace hH := hG
          clear hK K hG
          try simp only [Act.put, List.setIfInBounds_toArray, List.set_cons_zero, List.set_cons_succ]
          clear hb
          refine wpAnyH_take (i := 5) (oi := { dst := some 21, op := _, type := _, pos := _, after := _, guard := _ }) (v := ?_) rfl (by kernel_rfl) (by kernel_rfl) (by kernel_rfl) (fun _ _ _ h => h) (Or.inl ⟨by rfl, ?_⟩) hH ?_
          rotate_left 1
          · intro W hSw
            (try dsimp only at hSw)
            go_simp
            (try with_reducible rfl)
          try simp only [Act.put, List.setIfInBounds_toArray, List.set_cons_zero, List.set_cons_succ]
          refine wpAnyH_take (i := 6) (oi := { dst := some 27, op := _, type := _, pos := _, after := _, guard := _ }) (v := ?_) rfl (by kernel_rfl) (by kernel_rfl) (by kernel_rfl) (fun _ _ _ h => h) (Or.inl ⟨by rfl, ?_⟩) hH ?_
          rotate_left 1
          · intro W hSw
            (try dsimp only at hSw)
            go_simp
            (try with_reducible rfl)
          try simp only [Act.put, List.setIfInBounds_toArray, List.set_cons_zero, List.set_cons_succ]
          refine wpAnyH_take (i := 7) (oi := { dst := some 28, op := _, type := _, pos := _, after := _, guard := _ }) (v := ?_) rfl (by kernel_rfl) (by kernel_rfl) (by kernel_rfl) (fun _ _ _ h => h) (Or.inl ⟨by rfl, ?_⟩) hH ?_
          rotate_left 1
          · intro W hSw
            (try dsimp only at hSw)
            go_simp
            (try with_reducible rfl)
          try simp only [Act.put, List.setIfInBounds_toArray, List.set_cons_zero, List.set_cons_succ]
          refine wpAnyH_ready (rs := [9]) (by kernel_rfl) (by simp) (AllReadyH.cons rfl (fun K hK => ?_) AllReadyH.nil)
          (refine step_store_row rfl 34 (.tmp 6) (.tmp 27) rfl (r0.heap.size) (#[.slice (some ⟨g0, 0, none⟩) n0 d0, .slice (some ⟨g1, 0, none⟩) n1 d1, .slice (some ⟨g2, 0, none⟩) n2 d2, .int .i64 T]) (by simp [Act.eval, Act.put]) (by simp [Act.eval, Act.put]) 34 zc KB.out (by kernel_rfl) rfl (by simp [Value.oneCell']) ?_; refine (show K (Act.put _ none _) _ from ?_); have hgR := row_grown r2 (r0.heap.size) (#[.slice (some ⟨g0, 0, none⟩) n0 d0, .slice (some ⟨g1, 0, none⟩) n1 d1, .slice (some ⟨g2, 0, none⟩) n2 d2, .int .i64 T]))
          refine hK.out _ _ ?_ (fun hG => ?_)
          · exact ⟨hgR.cell hH.1 (fun e => by have e := Option.some.inj e; (have e9 : w.heap.size = r0.heap.size := e); omega), hgR.cell hH.2.1 (fun e => by have e := Option.some.inj e; (have e9 : w.heap.size = r0.heap.size := e); omega), hgR.cell hH.2.2.1 (fun e => by have e := Option.some.inj e; (have e9 : w.heap.size = r0.heap.size := e); omega), hgR.cell hH.2.2.2.1 (fun e => by have e := Option.some.inj e; (have e9 : w.heap.size = r0.heap.size := e); omega), hgR.cell hH.2.2.2.2.1 (fun e => by have e := Option.some.inj e; (have e9 : w.heap.size + 1 = r0.heap.size := e); omega), hgR.cell hH.2.2.2.2.2.1 (fun e => by have e := Option.some.inj e; (have e9 : w.heap.size + 1 = r0.heap.size := e); omega), hH.2.2.2.2.2.2.grown hgR hH.2.2.2.2.2.2.size (fun z9 e9 => by have e9 := Option.some.inj e9; omega)⟩
          replace hH := hG
          clear hK K hG
          try simp only [Act.put, List.setIfInBounds_toArray, List.set_cons_zero, List.set_cons_succ]
          refine wpAnyH_take (i := 10) (oi := { dst := some 7, op := _, type := _, pos := _, after := _, guard := _ }) (v := ?_) rfl (by kernel_rfl) (by kernel_rfl) (by kernel_rfl) (fun _ _ _ h => h) (Or.inl ⟨by rfl, ?_⟩) hH ?_
          rotate_left 1
          · intro W hSw
            (try dsimp only at hSw)
            go_simp
            (try with_reducible rfl)
          try simp only [Act.put, List.setIfInBounds_toArray, List.set_cons_zero, List.set_cons_succ]
          refine wpAnyH_done (by kernel_rfl) ?_ _
          refine NoPanic.normal ?_
          have KF := Lib.hid (row_bk (#[.slice (some ⟨g0, 0, none⟩) n0 d0, .slice (some ⟨g1, 0, none⟩) n1 d1, .slice (some ⟨g2, 0, none⟩) n2 d2, .int .i64 T]) KB.out)
          have F0 := Lib.hid (owns_grown P0.out hgR (fun k hk => by have := own_ne P0.out KB.out (by decide); exact fun e => this (hk.trans e.symm)))
          have F1 := Lib.hid (owns_grown P1.out hgR (fun k hk => by have := own_ne P1.out KB.out (by decide); exact fun e => this (hk.trans e.symm)))
          have F2 := Lib.hid (owns_grown P2.out hgR (fun k hk => by have := own_ne P2.out KB.out (by decide); exact fun e => this (hk.trans e.symm)))
          have BF := Lib.hid hH.2.2.2.2.2.2
          clear hH hgR
          go_wp2_with fail
          go_meet
          exact ⟨_, g0, d0, g1, d1, g2, d2, rfl, rfl, F0, F1, F2, KF, leA, BF⟩
      · go_simp
        have hb : Below u1.drew.heap.size u1.drew (u1.drew.alloc (.cells zc 34)) := (Below.refl _ _).alloc (Nat.le_refl _) (.cells zc 34)
        have leA : u1.heap.size ≤ u1.drew.heap.size := hH.2.2.2.2.2.2.size
        have KB := Lib.hid (Bk.new u1.drew zc 34)
        refine hK.out _ _ ?_ (fun hG => ?_)
        · exact ⟨cell_below hb hH.1, cell_below hb hH.2.1, cell_below hb hH.2.2.1, cell_below hb hH.2.2.2.1, cell_below hb hH.2.2.2.2.1, cell_below hb hH.2.2.2.2.2.1, hH.2.2.2.2.2.2.trans (hb.mono hH.2.2.2.2.2.2.size)⟩
        replace hH := hG
        clear hK K hG
        try simp only [Act.put, List.setIfInBounds_toArray, List.set_cons_zero, List.set_cons_succ]
        clear hb
        refine wpAnyH_ready (rs := [1]) (by kernel_rfl) (by simp) (AllReadyH.cons rfl (fun K hK => ?_) (AllReadyH.nil))
        go_simp
        go_at_call 10; ((with_reducible refine (TO.out _ (HS.out.below (BB.out.trans (hH.2.2.2.2.2.2.mono BB.out.size)))).mono ?_); rintro e r0 ⟨ya, yb, yc, rfl, oa, ob, oc, _, _, hb⟩); go_wp2_with fail
        have KBn := Lib.hid (KB.out.below hb)
        clear KB
        have KB := KBn
        clear KBn
        have RY := Lib.hid (SR.own oa ob oc)
        clear oa ob oc
        refine hK.out _ _ ?_ (fun hG => ?_)
        · exact ⟨cell_below hb hH.1, cell_below hb hH.2.1, cell_below hb hH.2.2.1, cell_below hb hH.2.2.2.1, cell_below hb hH.2.2.2.2.1, cell_below hb hH.2.2.2.2.2.1, hH.2.2.2.2.2.2.trans (hb.mono hH.2.2.2.2.2.2.size)⟩
        replace hH := hG
        clear hK K hG
        try simp only [Act.put, List.setIfInBounds_toArray, List.set_cons_zero, List.set_cons_succ]
        clear hb
        refine wpAnyH_ready (rs := [3]) (by kernel_rfl) (by simp) (AllReadyH.cons rfl (fun K hK => ?_) (AllReadyH.nil))
        go_simp
        go_at_call 20; ((with_reducible refine (toPlace9 x1 y1 _).mono ?_); rintro e r1 ⟨rfl, hb⟩); go_wp2_with fail
        have KBn := Lib.hid (KB.out.below hb)
        clear KB
        have KB := KBn
        clear KBn
        have RYn := Lib.hid (RY.out.below hb)
        clear RY
        have RY := RYn
        clear RYn
        refine hK.out _ _ ?_ (fun hG => ?_)
        · exact ⟨cell_below hb hH.1, cell_below hb hH.2.1, cell_below hb hH.2.2.1, cell_below hb hH.2.2.2.1, cell_below hb hH.2.2.2.2.1, cell_below hb hH.2.2.2.2.2.1, hH.2.2.2.2.2.2.trans (hb.mono hH.2.2.2.2.2.2.size)⟩
        replace hH := hG
        clear hK K hG
        try simp only [Act.put, List.setIfInBounds_toArray, List.set_cons_zero, List.set_cons_succ]
        clear hb
        refine wpAnyH_ready (rs := [4]) (by kernel_rfl) (by simp) (AllReadyH.cons rfl (fun K hK => ?_) (AllReadyH.nil))
        go_simp
        go_at_call 19; ((with_reducible refine (CS.out _ _ _ _ RY.out).mono ?_); rintro e r2 ⟨g0, d0, g1, d1, g2, d2, rfl, o0, o1, o2, hb⟩); go_wp2_with fail
        have KBn := Lib.hid (KB.out.below hb)
        clear KB
        have KB := KBn
        clear KBn
        have RYn := Lib.hid (RY.out.below hb)
        clear RY
        have RY := RYn
        clear RYn
        have le_C := hH.2.2.2.2.2.2.size
        have P0 := Lib.hid (owns_base o0 (Nat.le_trans le_C (own_at o0)))
        have P1 := Lib.hid (owns_base o1 (Nat.le_trans le_C (own_at o1)))
        have P2 := Lib.hid (owns_base o2 (Nat.le_trans le_C (own_at o2)))
        have ltB := KB.out.lt
        clear o0 o1 o2
        refine hK.out _ _ ?_ (fun hG => ?_)
        · exact ⟨cell_below hb hH.1, cell_below hb hH.2.1, cell_below hb hH.2.2.1, cell_below hb hH.2.2.2.1, cell_below hb hH.2.2.2.2.1, cell_below hb hH.2.2.2.2.2.1, hH.2.2.2.2.2.2.trans (hb.mono hH.2.2.2.2.2.2.size)⟩
        replace hH := hG
        clear hK K hG
        try simp only [Act.put, List.setIfInBounds_toArray, List.set_cons_zero, List.set_cons_succ]
        clear hb
        refine wpAnyH_take (i := 5) (oi := { dst := some 21, op := _, type := _, pos := _, after := _, guard := _ }) (v := ?_) rfl (by kernel_rfl) (by kernel_rfl) (by kernel_rfl) (fun _ _ _ h => h) (Or.inl ⟨by rfl, ?_⟩) hH ?_
        rotate_left 1
        · intro W hSw
          (try dsimp only at hSw)
          go_simp
          (try with_reducible rfl)
        try simp only [Act.put, List.setIfInBounds_toArray, List.set_cons_zero, List.set_cons_succ]
        refine wpAnyH_take (i := 6) (oi := { dst := some 27, op := _, type := _, pos := _, after := _, guard := _ }) (v := ?_) rfl (by kernel_rfl) (by kernel_rfl) (by kernel_rfl) (fun _ _ _ h => h) (Or.inl ⟨by rfl, ?_⟩) hH ?_
        rotate_left 1
        · intro W hSw
          (try dsimp only at hSw)
          go_simp
          (try with_reducible rfl)
        try simp only [Act.put, List.setIfInBounds_toArray, List.set_cons_zero, List.set_cons_succ]
        refine wpAnyH_take (i := 7) (oi := { dst := some 28, op := _, type := _, pos := _, after := _, guard := _ }) (v := ?_) rfl (by kernel_rfl) (by kernel_rfl) (by kernel_rfl) (fun _ _ _ h => h) (Or.inl ⟨by rfl, ?_⟩) hH ?_
        rotate_left 1
        · intro W hSw
          (try dsimp only at hSw)
          go_simp
          (try with_reducible rfl)
        try simp only [Act.put, List.setIfInBounds_toArray, List.set_cons_zero, List.set_cons_succ]
        refine wpAnyH_ready (rs := [9]) (by kernel_rfl) (by simp) (AllReadyH.cons rfl (fun K hK => ?_) AllReadyH.nil)
        (refine step_store_row rfl 34 (.tmp 6) (.tmp 27) rfl (u1.drew.heap.size) (#[.slice (some ⟨g0, 0, none⟩) n0 d0, .slice (some ⟨g1, 0, none⟩) n1 d1, .slice (some ⟨g2, 0, none⟩) n2 d2, .int .i64 T]) (by simp [Act.eval, Act.put]) (by simp [Act.eval, Act.put]) 34 zc KB.out (by kernel_rfl) rfl (by simp [Value.oneCell']) ?_; refine (show K (Act.put _ none _) _ from ?_); have hgR := row_grown r2 (u1.drew.heap.size) (#[.slice (some ⟨g0, 0, none⟩) n0 d0, .slice (some ⟨g1, 0, none⟩) n1 d1, .slice (some ⟨g2, 0, none⟩) n2 d2, .int .i64 T]))
        refine hK.out _ _ ?_ (fun hG => ?_)
        · exact ⟨hgR.cell hH.1 (fun e => by have e := Option.some.inj e; (have e9 : w.heap.size = u1.drew.heap.size := e); omega), hgR.cell hH.2.1 (fun e => by have e := Option.some.inj e; (have e9 : w.heap.size = u1.drew.heap.size := e); omega), hgR.cell hH.2.2.1 (fun e => by have e := Option.some.inj e; (have e9 : w.heap.size = u1.drew.heap.size := e); omega), hgR.cell hH.2.2.2.1 (fun e => by have e := Option.some.inj e; (have e9 : w.heap.size = u1.drew.heap.size := e); omega), hgR.cell hH.2.2.2.2.1 (fun e => by have e := Option.some.inj e; (have e9 : w.heap.size + 1 = u1.drew.heap.size := e); omega), hgR.cell hH.2.2.2.2.2.1 (fun e => by have e := Option.some.inj e; (have e9 : w.heap.size + 1 = u1.drew.heap.size := e); omega), hH.2.2.2.2.2.2.grown hgR hH.2.2.2.2.2.2.size (fun z9 e9 => by have e9 := Option.some.inj e9; omega)⟩
        replace hH := hG
        clear hK K hG
        try simp only [Act.put, List.setIfInBounds_toArray, List.set_cons_zero, List.set_cons_succ]
        refine wpAnyH_take (i := 10) (oi := { dst := some 7, op := _, type := _, pos := _, after := _, guard := _ }) (v := ?_) rfl (by kernel_rfl) (by kernel_rfl) (by kernel_rfl) (fun _ _ _ h => h) (Or.inl ⟨by rfl, ?_⟩) hH ?_
        rotate_left 1
        · intro W hSw
          (try dsimp only at hSw)
          go_simp
          (try with_reducible rfl)
        try simp only [Act.put, List.setIfInBounds_toArray, List.set_cons_zero, List.set_cons_succ]
        refine wpAnyH_done (by kernel_rfl) ?_ _
        refine NoPanic.normal ?_
        have KF := Lib.hid (row_bk (#[.slice (some ⟨g0, 0, none⟩) n0 d0, .slice (some ⟨g1, 0, none⟩) n1 d1, .slice (some ⟨g2, 0, none⟩) n2 d2, .int .i64 T]) KB.out)
        have F0 := Lib.hid (owns_grown P0.out hgR (fun k hk => by have := own_ne P0.out KB.out (by decide); exact fun e => this (hk.trans e.symm)))
        have F1 := Lib.hid (owns_grown P1.out hgR (fun k hk => by have := own_ne P1.out KB.out (by decide); exact fun e => this (hk.trans e.symm)))
        have F2 := Lib.hid (owns_grown P2.out hgR (fun k hk => by have := own_ne P2.out KB.out (by decide); exact fun e => this (hk.trans e.symm)))
        have BF := Lib.hid hH.2.2.2.2.2.2
        clear hH hgR
        go_wp2_with fail
        go_meet
        exact ⟨_, g0, d0, g1, d1, g2, d2, rfl, rfl, F0, F1, F2, KF, leA, BF⟩
    case rest =>
      obtain ⟨kW, gW0, dW0, gW1, dW1, gW2, dW2, rfl, rfl, F0, F1, F2, KF, chk_W, hbF⟩ := hcut
      have hb := hbF.out
      clear hbF
      have cha_W0 := own_at F0.out
      have F09 := Lib.hid (owns_base F0.out (Nat.le_trans BB.out.size cha_W0))
      clear F0
      have cha_W1 := own_at F1.out
      have F19 := Lib.hid (owns_base F1.out (Nat.le_trans BB.out.size cha_W1))
      clear F1
      have cha_W2 := own_at F2.out
      have F29 := Lib.hid (owns_base F2.out (Nat.le_trans BB.out.size cha_W2))
      clear F2
      have B2 := Lib.hid (BB.out.trans (hb.mono BB.out.size))
      have K01 := Lib.hid (K0.out.below hb)
      have KP1 := Lib.hid (KP.out.below hb)
      clear hb BB K0 KP
      have BB := B2
      clear B2
      have K0 := K01
      clear K01
      have KP := KP1
      clear KP1
      have W0 := F09
      clear F09
      have W1 := F19
      clear F19
      have W2 := F29
      clear F29
      have KW := KF
      clear KF
      have b0 := K0.out.cell (i := 0) rfl
      have b1 := K0.out.cell (i := 1) rfl
      have b2 := K0.out.cell (i := 2) rfl
      have b3 := K0.out.cell (i := 3) rfl
      have pl0 := KP.out.cell (i := 0) rfl
      have pl1 := KP.out.cell (i := 1) rfl
      have KW_0 := KW.out.cell (i := 0) rfl
      have KW_1 := KW.out.cell (i := 1) rfl
      have KW_2 := KW.out.cell (i := 2) rfl
      have KW_3 := KW.out.cell (i := 3) rfl
      go_wp2_with fail
      clear b0 b1 b2 b3 pl0 pl1
      clear KW_0 KW_1 KW_2 KW_3
      refine (TO.out _ (HS.out.below BB.out)).mono ?_
      rintro e u2 ⟨gv0, gv1, gv2, rfl, o0, o1, o2, l01, l12, hb⟩
      have ch_W0_v : gW0 < gv0 := Nat.lt_of_lt_of_le (own_lt W0.out) (own_at o0)
      have ch_W1_v : gW1 < gv0 := Nat.lt_of_lt_of_le (own_lt W1.out) (own_at o0)
      have ch_W2_v : gW2 < gv0 := Nat.lt_of_lt_of_le (own_lt W2.out) (own_at o0)
      have ch_KW_v : kW < gv0 := Nat.lt_of_lt_of_le KW.out.lt (own_at o0)
      have ch_v1 := l01
      have ch_v2 := l12
      have chw_v : w.heap.size < gv0 := Nat.lt_of_lt_of_le K0.out.lt (own_at o0)
      have XN_v0 := Lib.hid (owns_base o0 (show w.heap.size ≤ gv0 by omega))
      have XN_v1 := Lib.hid (owns_base o1 (show w.heap.size ≤ gv1 by omega))
      have XN_v2 := Lib.hid (owns_base o2 (show w.heap.size ≤ gv2 by omega))
      clear o0 o1 o2
      have B2 := Lib.hid (BB.out.trans (hb.mono BB.out.size))
      have K01 := Lib.hid (K0.out.below hb)
      have KP1 := Lib.hid (KP.out.below hb)
      have W01 := Lib.hid (owns_below W0.out hb)
      have W11 := Lib.hid (owns_below W1.out hb)
      have W21 := Lib.hid (owns_below W2.out hb)
      have KW1 := Lib.hid (KW.out.below hb)
      clear hb BB K0 KP W0 W1 W2 KW
      have BB := B2
      clear B2
      have K0 := K01
      clear K01
      have KP := KP1
      clear KP1
      have W0 := W01
      clear W01
      have W1 := W11
      clear W11
      have W2 := W21
      clear W21
      have KW := KW1
      clear KW1
      have v0 := XN_v0
      clear XN_v0
      have v1 := XN_v1
      clear XN_v1
      have v2 := XN_v2
      clear XN_v2
      have hb := (Below.refl u2.heap.size u2).alloc (Nat.le_refl _) (.cells (#[.slice (some ⟨gv0, 0, none⟩) n0 n0, .slice (some ⟨gv1, 0, none⟩) n1 n1, .slice (some ⟨gv2, 0, none⟩) n2 n2, .int .i64 T]) 34)
      have KXn := Lib.hid (Bk.new u2 (#[.slice (some ⟨gv0, 0, none⟩) n0 n0, .slice (some ⟨gv1, 0, none⟩) n1 n1, .slice (some ⟨gv2, 0, none⟩) n2 n2, .int .i64 T]) 34)
      have ch_v2_KX : gv2 < u2.heap.size := (own_lt v2.out)
      have B2 := Lib.hid (BB.out.trans (hb.mono BB.out.size))
      have K01 := Lib.hid (K0.out.below hb)
      have KP1 := Lib.hid (KP.out.below hb)
      have W01 := Lib.hid (owns_below W0.out hb)
      have W11 := Lib.hid (owns_below W1.out hb)
      have W21 := Lib.hid (owns_below W2.out hb)
      have KW1 := Lib.hid (KW.out.below hb)
      have v01 := Lib.hid (owns_below v0.out hb)
      have v11 := Lib.hid (owns_below v1.out hb)
      have v21 := Lib.hid (owns_below v2.out hb)
      clear hb BB K0 KP W0 W1 W2 KW v0 v1 v2
      have BB := B2
      clear B2
      have K0 := K01
      clear K01
      have KP := KP1
      clear KP1
      have W0 := W01
      clear W01
      have W1 := W11
      clear W11
      have W2 := W21
      clear W21
      have KW := KW1
      clear KW1
      have v0 := v01
      clear v01
      have v1 := v11
      clear v11
      have v2 := v21
      clear v21
      have KX := KXn
      clear KXn
      have b0 := K0.out.cell (i := 0) rfl
      have b1 := K0.out.cell (i := 1) rfl
      have b2 := K0.out.cell (i := 2) rfl
      have b3 := K0.out.cell (i := 3) rfl
      have pl0 := KP.out.cell (i := 0) rfl
      have pl1 := KP.out.cell (i := 1) rfl
      have KW_0 := KW.out.cell (i := 0) rfl
      have KW_1 := KW.out.cell (i := 1) rfl
      have KW_2 := KW.out.cell (i := 2) rfl
      have KW_3 := KW.out.cell (i := 3) rfl
      have KX_0 := KX.out.cell (i := 0) rfl
      have KX_1 := KX.out.cell (i := 1) rfl
      have KX_2 := KX.out.cell (i := 2) rfl
      have KX_3 := KX.out.cell (i := 3) rfl
      go_upto_region 7 with fail
      clear b0 b1 b2 b3 pl0 pl1
      clear KW_0 KW_1 KW_2 KW_3
      clear KX_0 KX_1 KX_2 KX_3
      have ch_KX_G : u2.heap.size < (u2.alloc (.cells (#[.slice (some ⟨gv0, 0, none⟩) n0 n0, .slice (some ⟨gv1, 0, none⟩) n1 n1, .slice (some ⟨gv2, 0, none⟩) n2 n2, .int .i64 T]) 34)).heap.size := KX.out.lt
      have chu_G : w.heap.size + 1 < (u2.alloc (.cells (#[.slice (some ⟨gv0, 0, none⟩) n0 n0, .slice (some ⟨gv1, 0, none⟩) n1 n1, .slice (some ⟨gv2, 0, none⟩) n2 n2, .int .i64 T]) 34)).heap.size := KP.out.lt
      go_cut [9, 10] (fun a b wx => ∃ k g0 d0 g1 d1 g2 d2, a = .pointer (some ⟨k, 0, none⟩) ∧ b = .bool true ∧ Hid (wx.ownsRow (u2.alloc (.cells (#[.slice (some ⟨gv0, 0, none⟩) n0 n0, .slice (some ⟨gv1, 0, none⟩) n1 n1, .slice (some ⟨gv2, 0, none⟩) n2 n2, .int .i64 T]) 34)).heap.size 117 8 (.slice (some ⟨g0, 0, none⟩) n0 d0) n0 (Dd.dls l0)) ∧ Hid (wx.ownsRow (u2.alloc (.cells (#[.slice (some ⟨gv0, 0, none⟩) n0 n0, .slice (some ⟨gv1, 0, none⟩) n1 n1, .slice (some ⟨gv2, 0, none⟩) n2 n2, .int .i64 T]) 34)).heap.size 97 4 (.slice (some ⟨g1, 0, none⟩) n1 d1) n1 (Cd.dls cs)) ∧ Hid (wx.ownsRow (u2.alloc (.cells (#[.slice (some ⟨gv0, 0, none⟩) n0 n0, .slice (some ⟨gv1, 0, none⟩) n1 n1, .slice (some ⟨gv2, 0, none⟩) n2 n2, .int .i64 T]) 34)).heap.size 100 3 (.slice (some ⟨g2, 0, none⟩) n2 d2) n2 (Gs.gls gs)) ∧ Hid (Bk wx k #[.slice (some ⟨g0, 0, none⟩) n0 d0, .slice (some ⟨g1, 0, none⟩) n1 d1, .slice (some ⟨g2, 0, none⟩) n2 d2, .int .i64 T] 34) ∧ (u2.alloc (.cells (#[.slice (some ⟨gv0, 0, none⟩) n0 n0, .slice (some ⟨gv1, 0, none⟩) n1 n1, .slice (some ⟨gv2, 0, none⟩) n2 n2, .int .i64 T]) 34)).heap.size ≤ k ∧ g0 < g1 ∧ g1 < g2 ∧ Hid (Below (u2.alloc (.cells (#[.slice (some ⟨gv0, 0, none⟩) n0 n0, .slice (some ⟨gv1, 0, none⟩) n1 n1, .slice (some ⟨gv2, 0, none⟩) n2 n2, .int .i64 T]) 34)).heap.size (u2.alloc (.cells (#[.slice (some ⟨gv0, 0, none⟩) n0 n0, .slice (some ⟨gv1, 0, none⟩) n1 n1, .slice (some ⟨gv2, 0, none⟩) n2 n2, .int .i64 T]) 34)) wx))
      case first =>
        have b0 := K0.out.cell (i := 0) rfl
        have b1 := K0.out.cell (i := 1) rfl
        have b2 := K0.out.cell (i := 2) rfl
        have b3 := K0.out.cell (i := 3) rfl
        have pl0 := KP.out.cell (i := 0) rfl
        have pl1 := KP.out.cell (i := 1) rfl
        have f0 := KX.out.cell (i := 0) rfl
        have f1 := KX.out.cell (i := 1) rfl
        have f2 := KX.out.cell (i := 2) rfl
        have f3 := KX.out.cell (i := 3) rfl
        refine wp_region_noPanic ?_
        refine wp_region_held_drew (S := (fun w' => w'.cell? ⟨w.heap.size, 0, none⟩ = some (.slice A0 n0 c0) ∧ w'.cell? ⟨w.heap.size, 1, none⟩ = some (.slice A1 n1 c1) ∧ w'.cell? ⟨w.heap.size, 2, none⟩ = some (.slice A2 n2 c2) ∧ w'.cell? ⟨w.heap.size, 3, none⟩ = some (.int .i64 T) ∧ w'.cell? ⟨w.heap.size + 1, 0, none⟩ = some (.int .i64 x1) ∧ w'.cell? ⟨w.heap.size + 1, 1, none⟩ = some (.int .i64 y1) ∧ w'.cell? ⟨u2.heap.size, 0, none⟩ = some (.slice (some ⟨gv0, 0, none⟩) n0 n0) ∧ w'.cell? ⟨u2.heap.size, 1, none⟩ = some (.slice (some ⟨gv1, 0, none⟩) n1 n1) ∧ w'.cell? ⟨u2.heap.size, 2, none⟩ = some (.slice (some ⟨gv2, 0, none⟩) n2 n2) ∧ w'.cell? ⟨u2.heap.size, 3, none⟩ = some (.int .i64 T) ∧ Below (u2.alloc (.cells (#[.slice (some ⟨gv0, 0, none⟩) n0 n0, .slice (some ⟨gv1, 0, none⟩) n1 n1, .slice (some ⟨gv2, 0, none⟩) n2 n2, .int .i64 T]) 34)).heap.size (u2.alloc (.cells (#[.slice (some ⟨gv0, 0, none⟩) n0 n0, .slice (some ⟨gv1, 0, none⟩) n1 n1, .slice (some ⟨gv2, 0, none⟩) n2 n2, .int .i64 T]) 34)) w')) (by kernel_rfl) ?_ (fun hH => ?_)
        · exact ⟨b0, b1, b2, b3, pl0, pl1, f0, f1, f2, f3, (Below.refl _ _).drew⟩
        clear b0 b1 b2 b3 pl0 pl1 f0 f1 f2 f3
        refine wpAnyH_take (i := 0) (oi := { dst := some 32, op := _, type := _, pos := _, after := _, guard := _ }) (v := ?_) rfl (by kernel_rfl) (by kernel_rfl) (by kernel_rfl) (fun _ _ _ h => h) (Or.inl ⟨by rfl, ?_⟩) hH ?_
        rotate_left 1
        · intro W hSw
          (try dsimp only at hSw)
          go_simp
          (try with_reducible rfl)
        try simp only [Act.put, List.setIfInBounds_toArray, List.set_cons_zero, List.set_cons_succ]
        refine wpAnyH_take (i := 1) (oi := { dst := some 33, op := _, type := _, pos := _, after := _, guard := _ }) (v := ?_) rfl (by kernel_rfl) (by kernel_rfl) (by kernel_rfl) (fun _ _ _ h => h) (Or.inl ⟨by rfl, ?_⟩) hH ?_
        rotate_left 1
        · intro W hSw
          (try dsimp only at hSw)
          go_simp
          (try with_reducible rfl)
        try simp only [Act.put, List.setIfInBounds_toArray, List.set_cons_zero, List.set_cons_succ]
        refine wpAnyH_ready (rs := [2, 7]) (by kernel_rfl) (by simp) (AllReadyH.cons rfl (fun K hK => ?_) (AllReadyH.cons rfl (fun K hK => ?_) (AllReadyH.nil)))
        · go_simp
          go_at_call 20; ((with_reducible refine (toPlace9 x1 y1 _).mono ?_); rintro e r0 ⟨rfl, hb⟩); go_wp2_with fail
          refine hK.out _ _ ?_ (fun hG => ?_)
          · exact ⟨cell_below hb hH.1, cell_below hb hH.2.1, cell_below hb hH.2.2.1, cell_below hb hH.2.2.2.1, cell_below hb hH.2.2.2.2.1, cell_below hb hH.2.2.2.2.2.1, cell_below hb hH.2.2.2.2.2.2.1, cell_below hb hH.2.2.2.2.2.2.2.1, cell_below hb hH.2.2.2.2.2.2.2.2.1, cell_below hb hH.2.2.2.2.2.2.2.2.2.1, hH.2.2.2.2.2.2.2.2.2.2.trans (hb.mono hH.2.2.2.2.2.2.2.2.2.2.size)⟩
          replace hH := hG
          clear hK K hG
          try simp only [Act.put, List.setIfInBounds_toArray, List.set_cons_zero, List.set_cons_succ]
          clear hb
          refine wpAnyH_ready (rs := [3, 7]) (by kernel_rfl) (by simp) (AllReadyH.cons rfl (fun K hK => ?_) (AllReadyH.cons rfl (fun K hK => ?_) (AllReadyH.nil)))
          · go_simp
            go_at_call 21; ((with_reducible refine (CI.out _ _ _ _ ((SR.own v0.out v1.out v2.out).below hH.2.2.2.2.2.2.2.2.2.2)).mono ?_); rintro e r1 ⟨g0, d0, g1, d1, g2, d2, rfl, o0, o1, o2, l01, l12, hb⟩); go_wp2_with fail
            have le_C := hH.2.2.2.2.2.2.2.2.2.2.size
            have P0 := Lib.hid (owns_base o0 (Nat.le_trans le_C (own_at o0)))
            have P1 := Lib.hid (owns_base o1 (Nat.le_trans le_C (own_at o1)))
            have P2 := Lib.hid (owns_base o2 (Nat.le_trans le_C (own_at o2)))
            clear o0 o1 o2
            refine hK.out _ _ ?_ (fun hG => ?_)
            · exact ⟨cell_below hb hH.1, cell_below hb hH.2.1, cell_below hb hH.2.2.1, cell_below hb hH.2.2.2.1, cell_below hb hH.2.2.2.2.1, cell_below hb hH.2.2.2.2.2.1, cell_below hb hH.2.2.2.2.2.2.1, cell_below hb hH.2.2.2.2.2.2.2.1, cell_below hb hH.2.2.2.2.2.2.2.2.1, cell_below hb hH.2.2.2.2.2.2.2.2.2.1, hH.2.2.2.2.2.2.2.2.2.2.trans (hb.mono hH.2.2.2.2.2.2.2.2.2.2.size)⟩
            replace hH := hG
            clear hK K hG
            try simp only [Act.put, List.setIfInBounds_toArray, List.set_cons_zero, List.set_cons_succ]
            clear hb
            refine wpAnyH_take (i := 4) (oi := { dst := some 31, op := _, type := _, pos := _, after := _, guard := _ }) (v := ?_) rfl (by kernel_rfl) (by kernel_rfl) (by kernel_rfl) (fun _ _ _ h => h) (Or.inl ⟨by rfl, ?_⟩) hH ?_
            rotate_left 1
            · intro W hSw
              (try dsimp only at hSw)
              go_simp
              (try with_reducible rfl)
            try simp only [Act.put, List.setIfInBounds_toArray, List.set_cons_zero, List.set_cons_succ]
            refine wpAnyH_take (i := 5) (oi := { dst := some 36, op := _, type := _, pos := _, after := _, guard := _ }) (v := ?_) rfl (by kernel_rfl) (by kernel_rfl) (by kernel_rfl) (fun _ _ _ h => h) (Or.inl ⟨by rfl, ?_⟩) hH ?_
            rotate_left 1
            · intro W hSw
              (try dsimp only at hSw)
              go_simp
              (try with_reducible rfl)
            try simp only [Act.put, List.setIfInBounds_toArray, List.set_cons_zero, List.set_cons_succ]
            refine wpAnyH_take (i := 6) (oi := { dst := some 37, op := _, type := _, pos := _, after := _, guard := _ }) (v := ?_) rfl (by kernel_rfl) (by kernel_rfl) (by kernel_rfl) (fun _ _ _ h => h) (Or.inl ⟨by rfl, ?_⟩) hH ?_
            rotate_left 1
            · intro W hSw
              (try dsimp only at hSw)
              go_simp
              (try with_reducible rfl)
            try simp only [Act.put, List.setIfInBounds_toArray, List.set_cons_zero, List.set_cons_succ]
            refine wpAnyH_ready (rs := [7]) (by kernel_rfl) (by simp) (AllReadyH.cons rfl (fun K hK => ?_) (AllReadyH.nil))
            go_simp
            have hb : Below r1.heap.size r1 (r1.alloc (.cells zc 34)) := (Below.refl _ _).alloc (Nat.le_refl _) (.cells zc 34)
            have leA : (u2.alloc (.cells (#[.slice (some ⟨gv0, 0, none⟩) n0 n0, .slice (some ⟨gv1, 0, none⟩) n1 n1, .slice (some ⟨gv2, 0, none⟩) n2 n2, .int .i64 T]) 34)).heap.size ≤ r1.heap.size := hH.2.2.2.2.2.2.2.2.2.2.size
            have P0n := Lib.hid (owns_below P0.out hb)
            clear P0
            have P0 := P0n
            clear P0n
            have P1n := Lib.hid (owns_below P1.out hb)
            clear P1
            have P1 := P1n
            clear P1n
            have P2n := Lib.hid (owns_below P2.out hb)
            clear P2
            have P2 := P2n
            clear P2n
            have KB := Lib.hid (Bk.new r1 zc 34)
            refine hK.out _ _ ?_ (fun hG => ?_)
            · exact ⟨cell_below hb hH.1, cell_below hb hH.2.1, cell_below hb hH.2.2.1, cell_below hb hH.2.2.2.1, cell_below hb hH.2.2.2.2.1, cell_below hb hH.2.2.2.2.2.1, cell_below hb hH.2.2.2.2.2.2.1, cell_below hb hH.2.2.2.2.2.2.2.1, cell_below hb hH.2.2.2.2.2.2.2.2.1, cell_below hb hH.2.2.2.2.2.2.2.2.2.1, hH.2.2.2.2.2.2.2.2.2.2.trans (hb.mono hH.2.2.2.2.2.2.2.2.2.2.size)⟩
            replace hH := hG
            clear hK K hG
            try simp only [Act.put, List.setIfInBounds_toArray, List.set_cons_zero, List.set_cons_succ]
            clear hb
            refine wpAnyH_ready (rs := [8]) (by kernel_rfl) (by simp) (AllReadyH.cons rfl (fun K hK => ?_) AllReadyH.nil)
            (refine step_store_row rfl 34 (.tmp 9) (.tmp 36) rfl (r1.heap.size) (#[.slice (some ⟨g0, 0, none⟩) n0 d0, .slice (some ⟨g1, 0, none⟩) n1 d1, .slice (some ⟨g2, 0, none⟩) n2 d2, .int .i64 T]) (by simp [Act.eval, Act.put]) (by simp [Act.eval, Act.put]) 34 zc KB.out (by kernel_rfl) rfl (by simp [Value.oneCell']) ?_; refine (show K (Act.put _ none _) _ from ?_); have hgR := row_grown (r1.alloc (.cells zc 34)) (r1.heap.size) (#[.slice (some ⟨g0, 0, none⟩) n0 d0, .slice (some ⟨g1, 0, none⟩) n1 d1, .slice (some ⟨g2, 0, none⟩) n2 d2, .int .i64 T]))
            refine hK.out _ _ ?_ (fun hG => ?_)
            · exact ⟨hgR.cell hH.1 (fun e => by have e := Option.some.inj e; (have e9 : w.heap.size = r1.heap.size := e); omega), hgR.cell hH.2.1 (fun e => by have e := Option.some.inj e; (have e9 : w.heap.size = r1.heap.size := e); omega), hgR.cell hH.2.2.1 (fun e => by have e := Option.some.inj e; (have e9 : w.heap.size = r1.heap.size := e); omega), hgR.cell hH.2.2.2.1 (fun e => by have e := Option.some.inj e; (have e9 : w.heap.size = r1.heap.size := e); omega), hgR.cell hH.2.2.2.2.1 (fun e => by have e := Option.some.inj e; (have e9 : w.heap.size + 1 = r1.heap.size := e); omega), hgR.cell hH.2.2.2.2.2.1 (fun e => by have e := Option.some.inj e; (have e9 : w.heap.size + 1 = r1.heap.size := e); omega), hgR.cell hH.2.2.2.2.2.2.1 (fun e => by have e := Option.some.inj e; (have e9 : u2.heap.size = r1.heap.size := e); omega), hgR.cell hH.2.2.2.2.2.2.2.1 (fun e => by have e := Option.some.inj e; (have e9 : u2.heap.size = r1.heap.size := e); omega), hgR.cell hH.2.2.2.2.2.2.2.2.1 (fun e => by have e := Option.some.inj e; (have e9 : u2.heap.size = r1.heap.size := e); omega), hgR.cell hH.2.2.2.2.2.2.2.2.2.1 (fun e => by have e := Option.some.inj e; (have e9 : u2.heap.size = r1.heap.size := e); omega), hH.2.2.2.2.2.2.2.2.2.2.grown hgR hH.2.2.2.2.2.2.2.2.2.2.size (fun z9 e9 => by have e9 := Option.some.inj e9; omega)⟩
            replace hH := hG
            clear hK K hG
            try simp only [Act.put, List.setIfInBounds_toArray, List.set_cons_zero, List.set_cons_succ]
            refine wpAnyH_take (i := 9) (oi := { dst := some 10, op := _, type := _, pos := _, after := _, guard := _ }) (v := ?_) rfl (by kernel_rfl) (by kernel_rfl) (by kernel_rfl) (fun _ _ _ h => h) (Or.inl ⟨by rfl, ?_⟩) hH ?_
            rotate_left 1
            · intro W hSw
              (try dsimp only at hSw)
              go_simp
              (try with_reducible rfl)
            try simp only [Act.put, List.setIfInBounds_toArray, List.set_cons_zero, List.set_cons_succ]
            refine wpAnyH_done (by kernel_rfl) ?_ _
            refine NoPanic.normal ?_
            have KF := Lib.hid (row_bk (#[.slice (some ⟨g0, 0, none⟩) n0 d0, .slice (some ⟨g1, 0, none⟩) n1 d1, .slice (some ⟨g2, 0, none⟩) n2 d2, .int .i64 T]) KB.out)
            have F0 := Lib.hid (owns_grown P0.out hgR (fun k hk => by have := own_ne P0.out KB.out (by decide); exact fun e => this (hk.trans e.symm)))
            have F1 := Lib.hid (owns_grown P1.out hgR (fun k hk => by have := own_ne P1.out KB.out (by decide); exact fun e => this (hk.trans e.symm)))
            have F2 := Lib.hid (owns_grown P2.out hgR (fun k hk => by have := own_ne P2.out KB.out (by decide); exact fun e => this (hk.trans e.symm)))
            have BF := Lib.hid hH.2.2.2.2.2.2.2.2.2.2
            clear hH hgR
            go_wp2_with fail
            go_meet
            exact ⟨_, g0, d0, g1, d1, g2, d2, rfl, rfl, F0, F1, F2, KF, leA, l01, l12, BF⟩
          · go_simp
            have hb : Below r0.heap.size r0 (r0.alloc (.cells zc 34)) := (Below.refl _ _).alloc (Nat.le_refl _) (.cells zc 34)
            have leA : (u2.alloc (.cells (#[.slice (some ⟨gv0, 0, none⟩) n0 n0, .slice (some ⟨gv1, 0, none⟩) n1 n1, .slice (some ⟨gv2, 0, none⟩) n2 n2, .int .i64 T]) 34)).heap.size ≤ r0.heap.size := hH.2.2.2.2.2.2.2.2.2.2.size
            have KB := Lib.hid (Bk.new r0 zc 34)
            refine hK.out _ _ ?_ (fun hG => ?_)
            · exact ⟨cell_below hb hH.1, cell_below hb hH.2.1, cell_below hb hH.2.2.1, cell_below hb hH.2.2.2.1, cell_below hb hH.2.2.2.2.1, cell_below hb hH.2.2.2.2.2.1, cell_below hb hH.2.2.2.2.2.2.1, cell_below hb hH.2.2.2.2.2.2.2.1, cell_below hb hH.2.2.2.2.2.2.2.2.1, cell_below hb hH.2.2.2.2.2.2.2.2.2.1, hH.2.2.2.2.2.2.2.2.2.2.trans (hb.mono hH.2.2.2.2.2.2.2.2.2.2.size)⟩
            replace hH := hG
            clear hK K hG
            try simp only [Act.put, List.setIfInBounds_toArray, List.set_cons_zero, List.set_cons_succ]
            clear hb
            refine wpAnyH_ready (rs := [3]) (by kernel_rfl) (by simp) (AllReadyH.cons rfl (fun K hK => ?_) (AllReadyH.nil))
            go_simp
            go_at_call 21; ((with_reducible refine (CI.out _ _ _ _ ((SR.own v0.out v1.out v2.out).below hH.2.2.2.2.2.2.2.2.2.2)).mono ?_); rintro e r1 ⟨g0, d0, g1, d1, g2, d2, rfl, o0, o1, o2, l01, l12, hb⟩); go_wp2_with fail
            have KBn := Lib.hid (KB.out.below hb)
            clear KB
            have KB := KBn
            clear KBn
            have le_C := hH.2.2.2.2.2.2.2.2.2.2.size
            have P0 := Lib.hid (owns_base o0 (Nat.le_trans le_C (own_at o0)))
            have P1 := Lib.hid (owns_base o1 (Nat.le_trans le_C (own_at o1)))
            have P2 := Lib.hid (owns_base o2 (Nat.le_trans le_C (own_at o2)))
            have ltB := KB.out.lt
            clear o0 o1 o2
            refine hK.out _ _ ?_ (fun hG => ?_)
            · exact ⟨cell_below hb hH.1, cell_below hb hH.2.1, cell_below hb hH.2.2.1, cell_below hb hH.2.2.2.1, cell_below hb hH.2.2.2.2.1, cell_below hb hH.2.2.2.2.2.1, cell_below hb hH.2.2.2.2.2.2.1, cell_below hb hH.2.2.2.2.2.2.2.1, cell_below hb hH.2.2.2.2.2.2.2.2.1, cell_below hb hH.2.2.2.2.2.2.2.2.2.1, hH.2.2.2.2.2.2.2.2.2.2.trans (hb.mono hH.2.2.2.2.2.2.2.2.2.2.size)⟩
            replace hH := hG
            clear hK K hG
            try simp only [Act.put, List.setIfInBounds_toArray, List.set_cons_zero, List.set_cons_succ]
            clear hb
            refine wpAnyH_take (i := 4) (oi := { dst := some 31, op := _, type := _, pos := _, after := _, guard := _ }) (v := ?_) rfl (by kernel_rfl) (by kernel_rfl) (by kernel_rfl) (fun _ _ _ h => h) (Or.inl ⟨by rfl, ?_⟩) hH ?_
            rotate_left 1
            · intro W hSw
              (try dsimp only at hSw)
              go_simp
              (try with_reducible rfl)
            try simp only [Act.put, List.setIfInBounds_toArray, List.set_cons_zero, List.set_cons_succ]
            refine wpAnyH_take (i := 5) (oi := { dst := some 36, op := _, type := _, pos := _, after := _, guard := _ }) (v := ?_) rfl (by kernel_rfl) (by kernel_rfl) (by kernel_rfl) (fun _ _ _ h => h) (Or.inl ⟨by rfl, ?_⟩) hH ?_
            rotate_left 1
            · intro W hSw
              (try dsimp only at hSw)
              go_simp
              (try with_reducible rfl)
            try simp only [Act.put, List.setIfInBounds_toArray, List.set_cons_zero, List.set_cons_succ]
            refine wpAnyH_take (i := 6) (oi := { dst := some 37, op := _, type := _, pos := _, after := _, guard := _ }) (v := ?_) rfl (by kernel_rfl) (by kernel_rfl) (by kernel_rfl) (fun _ _ _ h => h) (Or.inl ⟨by rfl, ?_⟩) hH ?_
            rotate_left 1
            · intro W hSw
              (try dsimp only at hSw)
              go_simp
              (try with_reducible rfl)
            try simp only [Act.put, List.setIfInBounds_toArray, List.set_cons_zero, List.set_cons_succ]
            refine wpAnyH_ready (rs := [8]) (by kernel_rfl) (by simp) (AllReadyH.cons rfl (fun K hK => ?_) AllReadyH.nil)
            (refine step_store_row rfl 34 (.tmp 9) (.tmp 36) rfl (r0.heap.size) (#[.slice (some ⟨g0, 0, none⟩) n0 d0, .slice (some ⟨g1, 0, none⟩) n1 d1, .slice (some ⟨g2, 0, none⟩) n2 d2, .int .i64 T]) (by simp [Act.eval, Act.put]) (by simp [Act.eval, Act.put]) 34 zc KB.out (by kernel_rfl) rfl (by simp [Value.oneCell']) ?_; refine (show K (Act.put _ none _) _ from ?_); have hgR := row_grown r1 (r0.heap.size) (#[.slice (some ⟨g0, 0, none⟩) n0 d0, .slice (some ⟨g1, 0, none⟩) n1 d1, .slice (some ⟨g2, 0, none⟩) n2 d2, .int .i64 T]))
            refine hK.out _ _ ?_ (fun hG => ?_)
            · exact ⟨hgR.cell hH.1 (fun e => by have e := Option.some.inj e; (have e9 : w.heap.size = r0.heap.size := e); omega), hgR.cell hH.2.1 (fun e => by have e := Option.some.inj e; (have e9 : w.heap.size = r0.heap.size := e); omega), hgR.cell hH.2.2.1 (fun e => by have e := Option.some.inj e; (have e9 : w.heap.size = r0.heap.size := e); omega), hgR.cell hH.2.2.2.1 (fun e => by have e := Option.some.inj e; (have e9 : w.heap.size = r0.heap.size := e); omega), hgR.cell hH.2.2.2.2.1 (fun e => by have e := Option.some.inj e; (have e9 : w.heap.size + 1 = r0.heap.size := e); omega), hgR.cell hH.2.2.2.2.2.1 (fun e => by have e := Option.some.inj e; (have e9 : w.heap.size + 1 = r0.heap.size := e); omega), hgR.cell hH.2.2.2.2.2.2.1 (fun e => by have e := Option.some.inj e; (have e9 : u2.heap.size = r0.heap.size := e); omega), hgR.cell hH.2.2.2.2.2.2.2.1 (fun e => by have e := Option.some.inj e; (have e9 : u2.heap.size = r0.heap.size := e); omega), hgR.cell hH.2.2.2.2.2.2.2.2.1 (fun e => by have e := Option.some.inj e; (have e9 : u2.heap.size = r0.heap.size := e); omega), hgR.cell hH.2.2.2.2.2.2.2.2.2.1 (fun e => by have e := Option.some.inj e; (have e9 : u2.heap.size = r0.heap.size := e); omega), hH.2.2.2.2.2.2.2.2.2.2.grown hgR hH.2.2.2.2.2.2.2.2.2.2.size (fun z9 e9 => by have e9 := Option.some.inj e9; omega)⟩
            replace hH := hG
            clear hK K hG
            try simp only [Act.put, List.setIfInBounds_toArray, List.set_cons_zero, List.set_cons_succ]
            refine wpAnyH_take (i := 9) (oi := { dst := some 10, op := _, type := _, pos := _, after := _, guard := _ }) (v := ?_) rfl (by kernel_rfl) (by kernel_rfl) (by kernel_rfl) (fun _ _ _ h => h) (Or.inl ⟨by rfl, ?_⟩) hH ?_
            rotate_left 1
            · intro W hSw
              (try dsimp only at hSw)
              go_simp
              (try with_reducible rfl)
            try simp only [Act.put, List.setIfInBounds_toArray, List.set_cons_zero, List.set_cons_succ]
            refine wpAnyH_done (by kernel_rfl) ?_ _
            refine NoPanic.normal ?_
            have KF := Lib.hid (row_bk (#[.slice (some ⟨g0, 0, none⟩) n0 d0, .slice (some ⟨g1, 0, none⟩) n1 d1, .slice (some ⟨g2, 0, none⟩) n2 d2, .int .i64 T]) KB.out)
            have F0 := Lib.hid (owns_grown P0.out hgR (fun k hk => by have := own_ne P0.out KB.out (by decide); exact fun e => this (hk.trans e.symm)))
            have F1 := Lib.hid (owns_grown P1.out hgR (fun k hk => by have := own_ne P1.out KB.out (by decide); exact fun e => this (hk.trans e.symm)))
            have F2 := Lib.hid (owns_grown P2.out hgR (fun k hk => by have := own_ne P2.out KB.out (by decide); exact fun e => this (hk.trans e.symm)))
            have BF := Lib.hid hH.2.2.2.2.2.2.2.2.2.2
            clear hH hgR
            go_wp2_with fail
            go_meet
            exact ⟨_, g0, d0, g1, d1, g2, d2, rfl, rfl, F0, F1, F2, KF, leA, l01, l12, BF⟩
        · go_simp
          have hb : Below (u2.alloc (.cells (#[.slice (some ⟨gv0, 0, none⟩) n0 n0, .slice (some ⟨gv1, 0, none⟩) n1 n1, .slice (some ⟨gv2, 0, none⟩) n2 n2, .int .i64 T]) 34)).drew.heap.size (u2.alloc (.cells (#[.slice (some ⟨gv0, 0, none⟩) n0 n0, .slice (some ⟨gv1, 0, none⟩) n1 n1, .slice (some ⟨gv2, 0, none⟩) n2 n2, .int .i64 T]) 34)).drew ((u2.alloc (.cells (#[.slice (some ⟨gv0, 0, none⟩) n0 n0, .slice (some ⟨gv1, 0, none⟩) n1 n1, .slice (some ⟨gv2, 0, none⟩) n2 n2, .int .i64 T]) 34)).drew.alloc (.cells zc 34)) := (Below.refl _ _).alloc (Nat.le_refl _) (.cells zc 34)
          have leA : (u2.alloc (.cells (#[.slice (some ⟨gv0, 0, none⟩) n0 n0, .slice (some ⟨gv1, 0, none⟩) n1 n1, .slice (some ⟨gv2, 0, none⟩) n2 n2, .int .i64 T]) 34)).heap.size ≤ (u2.alloc (.cells (#[.slice (some ⟨gv0, 0, none⟩) n0 n0, .slice (some ⟨gv1, 0, none⟩) n1 n1, .slice (some ⟨gv2, 0, none⟩) n2 n2, .int .i64 T]) 34)).drew.heap.size := hH.2.2.2.2.2.2.2.2.2.2.size
          have KB := Lib.hid (Bk.new (u2.alloc (.cells (#[.slice (some ⟨gv0, 0, none⟩) n0 n0, .slice (some ⟨gv1, 0, none⟩) n1 n1, .slice (some ⟨gv2, 0, none⟩) n2 n2, .int .i64 T]) 34)).drew zc 34)
          refine hK.out _ _ ?_ (fun hG => ?_)
          · exact ⟨cell_below hb hH.1, cell_below hb hH.2.1, cell_below hb hH.2.2.1, cell_below hb hH.2.2.2.1, cell_below hb hH.2.2.2.2.1, cell_below hb hH.2.2.2.2.2.1, cell_below hb hH.2.2.2.2.2.2.1, cell_below hb hH.2.2.2.2.2.2.2.1, cell_below hb hH.2.2.2.2.2.2.2.2.1, cell_below hb hH.2.2.2.2.2.2.2.2.2.1, hH.2.2.2.2.2.2.2.2.2.2.trans (hb.mono hH.2.2.2.2.2.2.2.2.2.2.size)⟩
          replace hH := hG
          clear hK K hG
          try simp only [Act.put, List.setIfInBounds_toArray, List.set_cons_zero, List.set_cons_succ]
          clear hb
          refine wpAnyH_ready (rs := [2]) (by kernel_rfl) (by simp) (AllReadyH.cons rfl (fun K hK => ?_) (AllReadyH.nil))
          go_simp
          go_at_call 20; ((with_reducible refine (toPlace9 x1 y1 _).mono ?_); rintro e r0 ⟨rfl, hb⟩); go_wp2_with fail
          have KBn := Lib.hid (KB.out.below hb)
          clear KB
          have KB := KBn
          clear KBn
          refine hK.out _ _ ?_ (fun hG => ?_)
          · exact ⟨cell_below hb hH.1, cell_below hb hH.2.1, cell_below hb hH.2.2.1, cell_below hb hH.2.2.2.1, cell_below hb hH.2.2.2.2.1, cell_below hb hH.2.2.2.2.2.1, cell_below hb hH.2.2.2.2.2.2.1, cell_below hb hH.2.2.2.2.2.2.2.1, cell_below hb hH.2.2.2.2.2.2.2.2.1, cell_below hb hH.2.2.2.2.2.2.2.2.2.1, hH.2.2.2.2.2.2.2.2.2.2.trans (hb.mono hH.2.2.2.2.2.2.2.2.2.2.size)⟩
          replace hH := hG
          clear hK K hG
          try simp only [Act.put, List.setIfInBounds_toArray, List.set_cons_zero, List.set_cons_succ]
          clear hb
          refine wpAnyH_ready (rs := [3]) (by kernel_rfl) (by simp) (AllReadyH.cons rfl (fun K hK => ?_) (AllReadyH.nil))
          go_simp
          go_at_call 21; ((with_reducible refine (CI.out _ _ _ _ ((SR.own v0.out v1.out v2.out).below hH.2.2.2.2.2.2.2.2.2.2)).mono ?_); rintro e r1 ⟨g0, d0, g1, d1, g2, d2, rfl, o0, o1, o2, l01, l12, hb⟩); go_wp2_with fail
          have KBn := Lib.hid (KB.out.below hb)
          clear KB
          have KB := KBn
          clear KBn
          have le_C := hH.2.2.2.2.2.2.2.2.2.2.size
          have P0 := Lib.hid (owns_base o0 (Nat.le_trans le_C (own_at o0)))
          have P1 := Lib.hid (owns_base o1 (Nat.le_trans le_C (own_at o1)))
          have P2 := Lib.hid (owns_base o2 (Nat.le_trans le_C (own_at o2)))
          have ltB := KB.out.lt
          clear o0 o1 o2
          refine hK.out _ _ ?_ (fun hG => ?_)
          · exact ⟨cell_below hb hH.1, cell_below hb hH.2.1, cell_below hb hH.2.2.1, cell_below hb hH.2.2.2.1, cell_below hb hH.2.2.2.2.1, cell_below hb hH.2.2.2.2.2.1, cell_below hb hH.2.2.2.2.2.2.1, cell_below hb hH.2.2.2.2.2.2.2.1, cell_below hb hH.2.2.2.2.2.2.2.2.1, cell_below hb hH.2.2.2.2.2.2.2.2.2.1, hH.2.2.2.2.2.2.2.2.2.2.trans (hb.mono hH.2.2.2.2.2.2.2.2.2.2.size)⟩
          replace hH := hG
          clear hK K hG
          try simp only [Act.put, List.setIfInBounds_toArray, List.set_cons_zero, List.set_cons_succ]
          clear hb
          refine wpAnyH_take (i := 4) (oi := { dst := some 31, op := _, type := _, pos := _, after := _, guard := _ }) (v := ?_) rfl (by kernel_rfl) (by kernel_rfl) (by kernel_rfl) (fun _ _ _ h => h) (Or.inl ⟨by rfl, ?_⟩) hH ?_
          rotate_left 1
          · intro W hSw
            (try dsimp only at hSw)
            go_simp
            (try with_reducible rfl)
          try simp only [Act.put, List.setIfInBounds_toArray, List.set_cons_zero, List.set_cons_succ]
          refine wpAnyH_take (i := 5) (oi := { dst := some 36, op := _, type := _, pos := _, after := _, guard := _ }) (v := ?_) rfl (by kernel_rfl) (by kernel_rfl) (by kernel_rfl) (fun _ _ _ h => h) (Or.inl ⟨by rfl, ?_⟩) hH ?_
          rotate_left 1
          · intro W hSw
            (try dsimp only at hSw)
            go_simp
            (try with_reducible rfl)
          try simp only [Act.put, List.setIfInBounds_toArray, List.set_cons_zero, List.set_cons_succ]
          refine wpAnyH_take (i := 6) (oi := { dst := some 37, op := _, type := _, pos := _, after := _, guard := _ }) (v := ?_) rfl (by kernel_rfl) (by kernel_rfl) (by kernel_rfl) (fun _ _ _ h => h) (Or.inl ⟨by rfl, ?_⟩) hH ?_
          rotate_left 1
          · intro W hSw
            (try dsimp only at hSw)
            go_simp
            (try with_reducible rfl)
          try simp only [Act.put, List.setIfInBounds_toArray, List.set_cons_zero, List.set_cons_succ]
          refine wpAnyH_ready (rs := [8]) (by kernel_rfl) (by simp) (AllReadyH.cons rfl (fun K hK => ?_) AllReadyH.nil)
          (refine step_store_row rfl 34 (.tmp 9) (.tmp 36) rfl ((u2.alloc (.cells (#[.slice (some ⟨gv0, 0, none⟩) n0 n0, .slice (some ⟨gv1, 0, none⟩) n1 n1, .slice (some ⟨gv2, 0, none⟩) n2 n2, .int .i64 T]) 34)).drew.heap.size) (#[.slice (some ⟨g0, 0, none⟩) n0 d0, .slice (some ⟨g1, 0, none⟩) n1 d1, .slice (some ⟨g2, 0, none⟩) n2 d2, .int .i64 T]) (by simp [Act.eval, Act.put]) (by simp [Act.eval, Act.put]) 34 zc KB.out (by kernel_rfl) rfl (by simp [Value.oneCell']) ?_; refine (show K (Act.put _ none _) _ from ?_); have hgR := row_grown r1 ((u2.alloc (.cells (#[.slice (some ⟨gv0, 0, none⟩) n0 n0, .slice (some ⟨gv1, 0, none⟩) n1 n1, .slice (some ⟨gv2, 0, none⟩) n2 n2, .int .i64 T]) 34)).drew.heap.size) (#[.slice (some ⟨g0, 0, none⟩) n0 d0, .slice (some ⟨g1, 0, none⟩) n1 d1, .slice (some ⟨g2, 0, none⟩) n2 d2, .int .i64 T]))
          refine hK.out _ _ ?_ (fun hG => ?_)
          · exact ⟨hgR.cell hH.1 (fun e => by have e := Option.some.inj e; (have e9 : w.heap.size = (u2.alloc (.cells (#[.slice (some ⟨gv0, 0, none⟩) n0 n0, .slice (some ⟨gv1, 0, none⟩) n1 n1, .slice (some ⟨gv2, 0, none⟩) n2 n2, .int .i64 T]) 34)).drew.heap.size := e); omega), hgR.cell hH.2.1 (fun e => by have e := Option.some.inj e; (have e9 : w.heap.size = (u2.alloc (.cells (#[.slice (some ⟨gv0, 0, none⟩) n0 n0, .slice (some ⟨gv1, 0, none⟩) n1 n1, .slice (some ⟨gv2, 0, none⟩) n2 n2, .int .i64 T]) 34)).drew.heap.size := e); omega), hgR.cell hH.2.2.1 (fun e => by have e := Option.some.inj e; (have e9 : w.heap.size = (u2.alloc (.cells (#[.slice (some ⟨gv0, 0, none⟩) n0 n0, .slice (some ⟨gv1, 0, none⟩) n1 n1, .slice (some ⟨gv2, 0, none⟩) n2 n2, .int .i64 T]) 34)).drew.heap.size := e); omega), hgR.cell hH.2.2.2.1 (fun e => by have e := Option.some.inj e; (have e9 : w.heap.size = (u2.alloc (.cells (#[.slice (some ⟨gv0, 0, none⟩) n0 n0, .slice (some ⟨gv1, 0, none⟩) n1 n1, .slice (some ⟨gv2, 0, none⟩) n2 n2, .int .i64 T]) 34)).drew.heap.size := e); omega), hgR.cell hH.2.2.2.2.1 (fun e => by have e := Option.some.inj e; (have e9 : w.heap.size + 1 = (u2.alloc (.cells (#[.slice (some ⟨gv0, 0, none⟩) n0 n0, .slice (some ⟨gv1, 0, none⟩) n1 n1, .slice (some ⟨gv2, 0, none⟩) n2 n2, .int .i64 T]) 34)).drew.heap.size := e); omega), hgR.cell hH.2.2.2.2.2.1 (fun e => by have e := Option.some.inj e; (have e9 : w.heap.size + 1 = (u2.alloc (.cells (#[.slice (some ⟨gv0, 0, none⟩) n0 n0, .slice (some ⟨gv1, 0, none⟩) n1 n1, .slice (some ⟨gv2, 0, none⟩) n2 n2, .int .i64 T]) 34)).drew.heap.size := e); omega), hgR.cell hH.2.2.2.2.2.2.1 (fun e => by have e := Option.some.inj e; (have e9 : u2.heap.size = (u2.alloc (.cells (#[.slice (some ⟨gv0, 0, none⟩) n0 n0, .slice (some ⟨gv1, 0, none⟩) n1 n1, .slice (some ⟨gv2, 0, none⟩) n2 n2, .int .i64 T]) 34)).drew.heap.size := e); omega), hgR.cell hH.2.2.2.2.2.2.2.1 (fun e => by have e := Option.some.inj e; (have e9 : u2.heap.size = (u2.alloc (.cells (#[.slice (some ⟨gv0, 0, none⟩) n0 n0, .slice (some ⟨gv1, 0, none⟩) n1 n1, .slice (some ⟨gv2, 0, none⟩) n2 n2, .int .i64 T]) 34)).drew.heap.size := e); omega), hgR.cell hH.2.2.2.2.2.2.2.2.1 (fun e => by have e := Option.some.inj e; (have e9 : u2.heap.size = (u2.alloc (.cells (#[.slice (some ⟨gv0, 0, none⟩) n0 n0, .slice (some ⟨gv1, 0, none⟩) n1 n1, .slice (some ⟨gv2, 0, none⟩) n2 n2, .int .i64 T]) 34)).drew.heap.size := e); omega), hgR.cell hH.2.2.2.2.2.2.2.2.2.1 (fun e => by have e := Option.some.inj e; (have e9 : u2.heap.size = (u2.alloc (.cells (#[.slice (some ⟨gv0, 0, none⟩) n0 n0, .slice (some ⟨gv1, 0, none⟩) n1 n1, .slice (some ⟨gv2, 0, none⟩) n2 n2, .int .i64 T]) 34)).drew.heap.size := e); omega), hH.2.2.2.2.2.2.2.2.2.2.grown hgR hH.2.2.2.2.2.2.2.2.2.2.size (fun z9 e9 => by have e9 := Option.some.inj e9; omega)⟩
          replace hH := hG
          clear hK K hG
          try simp only [Act.put, List.setIfInBounds_toArray, List.set_cons_zero, List.set_cons_succ]
          refine wpAnyH_take (i := 9) (oi := { dst := some 10, op := _, type := _, pos := _, after := _, guard := _ }) (v := ?_) rfl (by kernel_rfl) (by kernel_rfl) (by kernel_rfl) (fun _ _ _ h => h) (Or.inl ⟨by rfl, ?_⟩) hH ?_
          rotate_left 1
          · intro W hSw
            (try dsimp only at hSw)
            go_simp
            (try with_reducible rfl)
          try simp only [Act.put, List.setIfInBounds_toArray, List.set_cons_zero, List.set_cons_succ]
          refine wpAnyH_done (by kernel_rfl) ?_ _
          refine NoPanic.normal ?_
          have hs9 : (u2.alloc (.cells (#[.slice (some ⟨gv0, 0, none⟩) n0 n0, .slice (some ⟨gv1, 0, none⟩) n1 n1, .slice (some ⟨gv2, 0, none⟩) n2 n2, .int .i64 T]) 34)).drew.heap.size = u2.heap.size + 1 := by simp [go_sem]
          have KF := Lib.hid (row_bk (#[.slice (some ⟨g0, 0, none⟩) n0 d0, .slice (some ⟨g1, 0, none⟩) n1 d1, .slice (some ⟨g2, 0, none⟩) n2 d2, .int .i64 T]) KB.out)
          have F0 := Lib.hid (owns_grown P0.out hgR (fun k hk => by have := own_ne P0.out KB.out (by decide); exact fun e => this (hk.trans e.symm)))
          have F1 := Lib.hid (owns_grown P1.out hgR (fun k hk => by have := own_ne P1.out KB.out (by decide); exact fun e => this (hk.trans e.symm)))
          have F2 := Lib.hid (owns_grown P2.out hgR (fun k hk => by have := own_ne P2.out KB.out (by decide); exact fun e => this (hk.trans e.symm)))
          have BF := Lib.hid hH.2.2.2.2.2.2.2.2.2.2
          clear hH hgR
          go_wp2_with fail
          go_meet
          first
            | exact ⟨_, g0, d0, g1, d1, g2, d2, rfl, rfl, F0, F1, F2, KF, leA, l01, l12, BF⟩
            | exact ⟨_, g0, d0, g1, d1, g2, d2, rfl, rfl, F0, F1, F2, Lib.hid (by rw [← hs9]; exact KF.out), (by rw [← hs9]; exact leA), l01, l12, BF⟩
      case rest =>
        obtain ⟨kG, gG0, dG0, gG1, dG1, gG2, dG2, rfl, rfl, F0, F1, F2, KF, chk_G, ch_G1, ch_G2, hbF⟩ := hcut
        have hb := hbF.out
        clear hbF
        have cha_G0 := own_at F0.out
        have F09 := Lib.hid (owns_base F0.out (Nat.le_trans BB.out.size cha_G0))
        clear F0
        have cha_G1 := own_at F1.out
        have F19 := Lib.hid (owns_base F1.out (Nat.le_trans BB.out.size cha_G1))
        clear F1
        have cha_G2 := own_at F2.out
        have F29 := Lib.hid (owns_base F2.out (Nat.le_trans BB.out.size cha_G2))
        clear F2
        have B2 := Lib.hid (BB.out.trans (hb.mono BB.out.size))
        have K01 := Lib.hid (K0.out.below hb)
        have KP1 := Lib.hid (KP.out.below hb)
        have W01 := Lib.hid (owns_below W0.out hb)
        have W11 := Lib.hid (owns_below W1.out hb)
        have W21 := Lib.hid (owns_below W2.out hb)
        have KW1 := Lib.hid (KW.out.below hb)
        have v01 := Lib.hid (owns_below v0.out hb)
        have v11 := Lib.hid (owns_below v1.out hb)
        have v21 := Lib.hid (owns_below v2.out hb)
        have KX1 := Lib.hid (KX.out.below hb)
        clear hb BB K0 KP W0 W1 W2 KW v0 v1 v2 KX
        have BB := B2
        clear B2
        have K0 := K01
        clear K01
        have KP := KP1
        clear KP1
        have W0 := W01
        clear W01
        have W1 := W11
        clear W11
        have W2 := W21
        clear W21
        have KW := KW1
        clear KW1
        have v0 := v01
        clear v01
        have v1 := v11
        clear v11
        have v2 := v21
        clear v21
        have KX := KX1
        clear KX1
        have G0 := F09
        clear F09
        have G1 := F19
        clear F19
        have G2 := F29
        clear F29
        have KG := KF
        clear KF
        have b0 := K0.out.cell (i := 0) rfl
        have b1 := K0.out.cell (i := 1) rfl
        have b2 := K0.out.cell (i := 2) rfl
        have b3 := K0.out.cell (i := 3) rfl
        have pl0 := KP.out.cell (i := 0) rfl
        have pl1 := KP.out.cell (i := 1) rfl
        have KW_0 := KW.out.cell (i := 0) rfl
        have KW_1 := KW.out.cell (i := 1) rfl
        have KW_2 := KW.out.cell (i := 2) rfl
        have KW_3 := KW.out.cell (i := 3) rfl
        have KX_0 := KX.out.cell (i := 0) rfl
        have KX_1 := KX.out.cell (i := 1) rfl
        have KX_2 := KX.out.cell (i := 2) rfl
        have KX_3 := KX.out.cell (i := 3) rfl
        have KG_0 := KG.out.cell (i := 0) rfl
        have KG_1 := KG.out.cell (i := 1) rfl
        have KG_2 := KG.out.cell (i := 2) rfl
        have KG_3 := KG.out.cell (i := 3) rfl
        go_wp2_with fail
        clear b0 b1 b2 b3 pl0 pl1
        clear KW_0 KW_1 KW_2 KW_3
        clear KX_0 KX_1 KX_2 KX_3
        clear KG_0 KG_1 KG_2 KG_3
        refine (EA.out _ _ _ _ _ _ _ _ _ _ _ _ _ (SR.own G0.out G1.out G2.out) (SR.own W0.out W1.out W2.out)).mono ?_
        rintro e u3 ⟨rfl, hb⟩
        have B2 := Lib.hid (BB.out.trans (hb.mono BB.out.size))
        have K01 := Lib.hid (K0.out.below hb)
        have KP1 := Lib.hid (KP.out.below hb)
        have W01 := Lib.hid (owns_below W0.out hb)
        have W11 := Lib.hid (owns_below W1.out hb)
        have W21 := Lib.hid (owns_below W2.out hb)
        have KW1 := Lib.hid (KW.out.below hb)
        have v01 := Lib.hid (owns_below v0.out hb)
        have v11 := Lib.hid (owns_below v1.out hb)
        have v21 := Lib.hid (owns_below v2.out hb)
        have KX1 := Lib.hid (KX.out.below hb)
        have G01 := Lib.hid (owns_below G0.out hb)
        have G11 := Lib.hid (owns_below G1.out hb)
        have G21 := Lib.hid (owns_below G2.out hb)
        have KG1 := Lib.hid (KG.out.below hb)
        clear hb BB K0 KP W0 W1 W2 KW v0 v1 v2 KX G0 G1 G2 KG
        have BB := B2
        clear B2
        have K0 := K01
        clear K01
        have KP := KP1
        clear KP1
        have W0 := W01
        clear W01
        have W1 := W11
        clear W11
        have W2 := W21
        clear W21
        have KW := KW1
        clear KW1
        have v0 := v01
        clear v01
        have v1 := v11
        clear v11
        have v2 := v21
        clear v21
        have KX := KX1
        clear KX1
        have G0 := G01
        clear G01
        have G1 := G11
        clear G11
        have G2 := G21
        clear G21
        have KG := KG1
        clear KG1
        have b0 := K0.out.cell (i := 0) rfl
        have b1 := K0.out.cell (i := 1) rfl
        have b2 := K0.out.cell (i := 2) rfl
        have b3 := K0.out.cell (i := 3) rfl
        have pl0 := KP.out.cell (i := 0) rfl
        have pl1 := KP.out.cell (i := 1) rfl
        have KW_0 := KW.out.cell (i := 0) rfl
        have KW_1 := KW.out.cell (i := 1) rfl
        have KW_2 := KW.out.cell (i := 2) rfl
        have KW_3 := KW.out.cell (i := 3) rfl
        have KX_0 := KX.out.cell (i := 0) rfl
        have KX_1 := KX.out.cell (i := 1) rfl
        have KX_2 := KX.out.cell (i := 2) rfl
        have KX_3 := KX.out.cell (i := 3) rfl
        have KG_0 := KG.out.cell (i := 0) rfl
        have KG_1 := KG.out.cell (i := 1) rfl
        have KG_2 := KG.out.cell (i := 2) rfl
        have KG_3 := KG.out.cell (i := 3) rfl
        go_wp2_with fail
        refine wp_region_noPanic ?_
        refine wp_region_held_drew (S := (fun w' => w'.cell? ⟨w.heap.size, 0, none⟩ = some (.slice A0 n0 c0) ∧ w'.cell? ⟨w.heap.size, 1, none⟩ = some (.slice A1 n1 c1) ∧ w'.cell? ⟨w.heap.size, 2, none⟩ = some (.slice A2 n2 c2) ∧ w'.cell? ⟨w.heap.size, 3, none⟩ = some (.int .i64 T) ∧ w'.cell? ⟨u2.heap.size, 0, none⟩ = some (.slice (some ⟨gv0, 0, none⟩) n0 n0) ∧ w'.cell? ⟨u2.heap.size, 1, none⟩ = some (.slice (some ⟨gv1, 0, none⟩) n1 n1) ∧ w'.cell? ⟨u2.heap.size, 2, none⟩ = some (.slice (some ⟨gv2, 0, none⟩) n2 n2) ∧ w'.cell? ⟨u2.heap.size, 3, none⟩ = some (.int .i64 T) ∧ Below u3.heap.size u3 w')) (by kernel_rfl) ?_ (fun hH => ?_)
        · exact ⟨b0, b1, b2, b3, KX_0, KX_1, KX_2, KX_3, (Below.refl _ _).drew⟩
        refine wpAnyH_take (i := 0) (oi := { dst := some 47, op := _, type := _, pos := _, after := _, guard := _ }) (v := ?_) rfl (by kernel_rfl) (by kernel_rfl) (by kernel_rfl) (fun _ _ _ h => h) (Or.inl ⟨by rfl, ?_⟩) hH ?_
        rotate_left 1
        · intro W hSw
          (try dsimp only at hSw)
          go_simp
          (try with_reducible rfl)
        try simp only [Act.put, List.setIfInBounds_toArray, List.set_cons_zero, List.set_cons_succ]
        refine wpAnyH_take (i := 1) (oi := { dst := some 48, op := _, type := _, pos := _, after := _, guard := _ }) (v := ?_) rfl (by kernel_rfl) (by kernel_rfl) (by kernel_rfl) (fun _ _ _ h => h) (Or.inl ⟨by rfl, ?_⟩) hH ?_
        rotate_left 1
        · intro W hSw
          (try dsimp only at hSw)
          go_simp
          (try with_reducible rfl)
        try simp only [Act.put, List.setIfInBounds_toArray, List.set_cons_zero, List.set_cons_succ]
        refine wpAnyH_ready (rs := [2]) (by kernel_rfl) (by simp) (AllReadyH.cons rfl (fun K hK => ?_) AllReadyH.nil)
        go_simp
        go_at_call 10; ((with_reducible refine (TO.out _ (HS.out.below (BB.out.trans (hH.2.2.2.2.2.2.2.2.mono BB.out.size)))).mono ?_); rintro e r1 ⟨ya, yb, yc, rfl, oa, ob, oc, _, _, hb1⟩); go_wp2_with fail
        refine hK.out _ _ ?_ (fun hG => ?_)
        · exact ⟨cell_below hb1 hH.1, cell_below hb1 hH.2.1, cell_below hb1 hH.2.2.1, cell_below hb1 hH.2.2.2.1, cell_below hb1 hH.2.2.2.2.1, cell_below hb1 hH.2.2.2.2.2.1, cell_below hb1 hH.2.2.2.2.2.2.1, cell_below hb1 hH.2.2.2.2.2.2.2.1, hH.2.2.2.2.2.2.2.2.trans (hb1.mono hH.2.2.2.2.2.2.2.2.size)⟩
        replace hH := hG
        clear hK K hG
        try simp only [Act.put, List.setIfInBounds_toArray, List.set_cons_zero, List.set_cons_succ]
        refine wpAnyH_ready (rs := [3]) (by kernel_rfl) (by simp) (AllReadyH.cons rfl (fun K hK => ?_) AllReadyH.nil)
        go_simp
        go_at_call 13; ((with_reducible refine (EQW.out _ _ _ _ _ _ _ ((SR.own v0.out v1.out v2.out).below hH.2.2.2.2.2.2.2.2) (SR.own oa ob oc)).mono ?_); rintro e r2 ⟨rfl, hb2⟩); go_wp2_with fail
        refine hK.out _ _ ?_ (fun hG => ?_)
        · exact ⟨cell_below hb2 hH.1, cell_below hb2 hH.2.1, cell_below hb2 hH.2.2.1, cell_below hb2 hH.2.2.2.1, cell_below hb2 hH.2.2.2.2.1, cell_below hb2 hH.2.2.2.2.2.1, cell_below hb2 hH.2.2.2.2.2.2.1, cell_below hb2 hH.2.2.2.2.2.2.2.1, hH.2.2.2.2.2.2.2.2.trans (hb2.mono hH.2.2.2.2.2.2.2.2.size)⟩
        replace hH := hG
        clear hK K hG
        try simp only [Act.put, List.setIfInBounds_toArray, List.set_cons_zero, List.set_cons_succ]
        refine wpAnyH_take (i := 4) (oi := { dst := some 51, op := _, type := _, pos := _, after := _, guard := _ }) (v := ?_) rfl (by kernel_rfl) (by kernel_rfl) (by kernel_rfl) (fun _ _ _ h => h) (Or.inl ⟨by rfl, ?_⟩) hH ?_
        rotate_left 1
        · intro W hSw
          (try dsimp only at hSw)
          go_simp
          (try with_reducible rfl)
        try simp only [Act.put, List.setIfInBounds_toArray, List.set_cons_zero, List.set_cons_succ]
        refine wpAnyH_done (by kernel_rfl) ?_ _
        refine NoPanic.normal ?_
        have hb := hH.2.2.2.2.2.2.2.2
        clear hH oa ob oc hb1 hb2
        clear b0 b1 b2 b3 pl0 pl1
        clear KW_0 KW_1 KW_2 KW_3
        clear KX_0 KX_1 KX_2 KX_3
        clear KG_0 KG_1 KG_2 KG_3
        have B2 := Lib.hid (BB.out.trans (hb.mono BB.out.size))
        have K01 := Lib.hid (K0.out.below hb)
        have KP1 := Lib.hid (KP.out.below hb)
        have W01 := Lib.hid (owns_below W0.out hb)
        have W11 := Lib.hid (owns_below W1.out hb)
        have W21 := Lib.hid (owns_below W2.out hb)
        have KW1 := Lib.hid (KW.out.below hb)
        have v01 := Lib.hid (owns_below v0.out hb)
        have v11 := Lib.hid (owns_below v1.out hb)
        have v21 := Lib.hid (owns_below v2.out hb)
        have KX1 := Lib.hid (KX.out.below hb)
        have G01 := Lib.hid (owns_below G0.out hb)
        have G11 := Lib.hid (owns_below G1.out hb)
        have G21 := Lib.hid (owns_below G2.out hb)
        have KG1 := Lib.hid (KG.out.below hb)
        clear hb BB K0 KP W0 W1 W2 KW v0 v1 v2 KX G0 G1 G2 KG
        have BB := B2
        clear B2
        have K0 := K01
        clear K01
        have KP := KP1
        clear KP1
        have W0 := W01
        clear W01
        have W1 := W11
        clear W11
        have W2 := W21
        clear W21
        have KW := KW1
        clear KW1
        have v0 := v01
        clear v01
        have v1 := v11
        clear v11
        have v2 := v21
        clear v21
        have KX := KX1
        clear KX1
        have G0 := G01
        clear G01
        have G1 := G11
        clear G11
        have G2 := G21
        clear G21
        have KG := KG1
        clear KG1
        have b0 := K0.out.cell (i := 0) rfl
        have b1 := K0.out.cell (i := 1) rfl
        have b2 := K0.out.cell (i := 2) rfl
        have b3 := K0.out.cell (i := 3) rfl
        have pl0 := KP.out.cell (i := 0) rfl
        have pl1 := KP.out.cell (i := 1) rfl
        have KW_0 := KW.out.cell (i := 0) rfl
        have KW_1 := KW.out.cell (i := 1) rfl
        have KW_2 := KW.out.cell (i := 2) rfl
        have KW_3 := KW.out.cell (i := 3) rfl
        have KX_0 := KX.out.cell (i := 0) rfl
        have KX_1 := KX.out.cell (i := 1) rfl
        have KX_2 := KX.out.cell (i := 2) rfl
        have KX_3 := KX.out.cell (i := 3) rfl
        have KG_0 := KG.out.cell (i := 0) rfl
        have KG_1 := KG.out.cell (i := 1) rfl
        have KG_2 := KG.out.cell (i := 2) rfl
        have KG_3 := KG.out.cell (i := 3) rfl
        go_wp2_with fail
        clear b0 b1 b2 b3 pl0 pl1
        clear KW_0 KW_1 KW_2 KW_3
        clear KX_0 KX_1 KX_2 KX_3
        clear KG_0 KG_1 KG_2 KG_3
        refine (MS.out _ _ _ ch_v1 ch_v2 _ v0.out v1.out v2.out).mono ?_
        rintro e u4 ⟨rfl, _, _, _, hg⟩
        have B2 := Lib.hid (hg.below BB.out (by omega) (by omega) (by omega))
        have K01 := Lib.hid (hg.bk K0.out (by omega) (by omega) (by omega))
        have KP1 := Lib.hid (hg.bk KP.out (by omega) (by omega) (by omega))
        have W01 := Lib.hid (hg.own W0.out (by omega) (by omega) (by omega))
        have W11 := Lib.hid (hg.own W1.out (by omega) (by omega) (by omega))
        have W21 := Lib.hid (hg.own W2.out (by omega) (by omega) (by omega))
        have KW1 := Lib.hid (hg.bk KW.out (by omega) (by omega) (by omega))
        have KX1 := Lib.hid (hg.bk KX.out (by omega) (by omega) (by omega))
        have G01 := Lib.hid (hg.own G0.out (by omega) (by omega) (by omega))
        have G11 := Lib.hid (hg.own G1.out (by omega) (by omega) (by omega))
        have G21 := Lib.hid (hg.own G2.out (by omega) (by omega) (by omega))
        have KG1 := Lib.hid (hg.bk KG.out (by omega) (by omega) (by omega))
        clear hg BB K0 KP W0 W1 W2 KW KX G0 G1 G2 KG
        have BB := B2
        clear B2
        have K0 := K01
        clear K01
        have KP := KP1
        clear KP1
        have W0 := W01
        clear W01
        have W1 := W11
        clear W11
        have W2 := W21
        clear W21
        have KW := KW1
        clear KW1
        have KX := KX1
        clear KX1
        have G0 := G01
        clear G01
        have G1 := G11
        clear G11
        have G2 := G21
        clear G21
        have KG := KG1
        clear KG1
        clear v0
        clear v1
        clear v2
        have b0 := K0.out.cell (i := 0) rfl
        have b1 := K0.out.cell (i := 1) rfl
        have b2 := K0.out.cell (i := 2) rfl
        have b3 := K0.out.cell (i := 3) rfl
        have pl0 := KP.out.cell (i := 0) rfl
        have pl1 := KP.out.cell (i := 1) rfl
        have KW_0 := KW.out.cell (i := 0) rfl
        have KW_1 := KW.out.cell (i := 1) rfl
        have KW_2 := KW.out.cell (i := 2) rfl
        have KW_3 := KW.out.cell (i := 3) rfl
        have KX_0 := KX.out.cell (i := 0) rfl
        have KX_1 := KX.out.cell (i := 1) rfl
        have KX_2 := KX.out.cell (i := 2) rfl
        have KX_3 := KX.out.cell (i := 3) rfl
        have KG_0 := KG.out.cell (i := 0) rfl
        have KG_1 := KG.out.cell (i := 1) rfl
        have KG_2 := KG.out.cell (i := 2) rfl
        have KG_3 := KG.out.cell (i := 3) rfl
        go_wp2_with fail
        clear b0 b1 b2 b3 pl0 pl1
        clear KW_0 KW_1 KW_2 KW_3
        clear KX_0 KX_1 KX_2 KX_3
        clear KG_0 KG_1 KG_2 KG_3
        refine (EA.out _ _ _ _ _ _ _ _ _ _ _ _ _ (SR.own G0.out G1.out G2.out) (SR.own W0.out W1.out W2.out)).mono ?_
        rintro e u5 ⟨rfl, hb⟩
        have B2 := Lib.hid (BB.out.trans (hb.mono BB.out.size))
        have K01 := Lib.hid (K0.out.below hb)
        have KP1 := Lib.hid (KP.out.below hb)
        have W01 := Lib.hid (owns_below W0.out hb)
        have W11 := Lib.hid (owns_below W1.out hb)
        have W21 := Lib.hid (owns_below W2.out hb)
        have KW1 := Lib.hid (KW.out.below hb)
        have KX1 := Lib.hid (KX.out.below hb)
        have G01 := Lib.hid (owns_below G0.out hb)
        have G11 := Lib.hid (owns_below G1.out hb)
        have G21 := Lib.hid (owns_below G2.out hb)
        have KG1 := Lib.hid (KG.out.below hb)
        clear hb BB K0 KP W0 W1 W2 KW KX G0 G1 G2 KG
        have BB := B2
        clear B2
        have K0 := K01
        clear K01
        have KP := KP1
        clear KP1
        have W0 := W01
        clear W01
        have W1 := W11
        clear W11
        have W2 := W21
        clear W21
        have KW := KW1
        clear KW1
        have KX := KX1
        clear KX1
        have G0 := G01
        clear G01
        have G1 := G11
        clear G11
        have G2 := G21
        clear G21
        have KG := KG1
        clear KG1
        have b0 := K0.out.cell (i := 0) rfl
        have b1 := K0.out.cell (i := 1) rfl
        have b2 := K0.out.cell (i := 2) rfl
        have b3 := K0.out.cell (i := 3) rfl
        have pl0 := KP.out.cell (i := 0) rfl
        have pl1 := KP.out.cell (i := 1) rfl
        have KW_0 := KW.out.cell (i := 0) rfl
        have KW_1 := KW.out.cell (i := 1) rfl
        have KW_2 := KW.out.cell (i := 2) rfl
        have KW_3 := KW.out.cell (i := 3) rfl
        have KX_0 := KX.out.cell (i := 0) rfl
        have KX_1 := KX.out.cell (i := 1) rfl
        have KX_2 := KX.out.cell (i := 2) rfl
        have KX_3 := KX.out.cell (i := 3) rfl
        have KG_0 := KG.out.cell (i := 0) rfl
        have KG_1 := KG.out.cell (i := 1) rfl
        have KG_2 := KG.out.cell (i := 2) rfl
        have KG_3 := KG.out.cell (i := 3) rfl
        have neG0 : gG0 ≠ kG := fun e => own_ne G0.out KG.out (by decide) (congrArg some e)
        have neG1 : gG1 ≠ kG := fun e => own_ne G1.out KG.out (by decide) (congrArg some e)
        have neG2 : gG2 ≠ kG := fun e => own_ne G2.out KG.out (by decide) (congrArg some e)
        go_wp2_with fail
        clear b0 b1 b2 b3 pl0 pl1
        clear KW_0 KW_1 KW_2 KW_3
        clear KX_0 KX_1 KX_2 KX_3
        clear KG_0 KG_1 KG_2 KG_3
        refine (MR.out _ _ _ _ _ _ ch_G1 ch_G2 _ G0.out G1.out G2.out).mono ?_
        rintro e u6 ⟨rfl, m0, m1, m2, hg⟩
        have XM0 := Lib.hid m0
        have XM1 := Lib.hid m1
        have XM2 := Lib.hid m2
        clear m0 m1 m2
        have B2 := Lib.hid (hg.below BB.out (by omega) (by omega) (by omega))
        have K01 := Lib.hid (hg.bk K0.out (by omega) (by omega) (by omega))
        have KP1 := Lib.hid (hg.bk KP.out (by omega) (by omega) (by omega))
        have W01 := Lib.hid (hg.own W0.out (by omega) (by omega) (by omega))
        have W11 := Lib.hid (hg.own W1.out (by omega) (by omega) (by omega))
        have W21 := Lib.hid (hg.own W2.out (by omega) (by omega) (by omega))
        have KW1 := Lib.hid (hg.bk KW.out (by omega) (by omega) (by omega))
        have KX1 := Lib.hid (hg.bk KX.out (by omega) (by omega) (by omega))
        have KG1 := Lib.hid (hg.bk KG.out (by omega) (by omega) (by omega))
        clear hg BB K0 KP W0 W1 W2 KW KX KG
        have BB := B2
        clear B2
        have K0 := K01
        clear K01
        have KP := KP1
        clear KP1
        have W0 := W01
        clear W01
        have W1 := W11
        clear W11
        have W2 := W21
        clear W21
        have KW := KW1
        clear KW1
        have KX := KX1
        clear KX1
        have KG := KG1
        clear KG1
        clear G0 G1 G2
        have G0 := XM0
        have G1 := XM1
        have G2 := XM2
        clear XM0 XM1 XM2
        have b0 := K0.out.cell (i := 0) rfl
        have b1 := K0.out.cell (i := 1) rfl
        have b2 := K0.out.cell (i := 2) rfl
        have b3 := K0.out.cell (i := 3) rfl
        have pl0 := KP.out.cell (i := 0) rfl
        have pl1 := KP.out.cell (i := 1) rfl
        have KW_0 := KW.out.cell (i := 0) rfl
        have KW_1 := KW.out.cell (i := 1) rfl
        have KW_2 := KW.out.cell (i := 2) rfl
        have KW_3 := KW.out.cell (i := 3) rfl
        have KX_0 := KX.out.cell (i := 0) rfl
        have KX_1 := KX.out.cell (i := 1) rfl
        have KX_2 := KX.out.cell (i := 2) rfl
        have KX_3 := KX.out.cell (i := 3) rfl
        have KG_0 := KG.out.cell (i := 0) rfl
        have KG_1 := KG.out.cell (i := 1) rfl
        have KG_2 := KG.out.cell (i := 2) rfl
        have KG_3 := KG.out.cell (i := 3) rfl
        go_wp2_with fail
        clear b0 b1 b2 b3 pl0 pl1
        clear KW_0 KW_1 KW_2 KW_3
        clear KX_0 KX_1 KX_2 KX_3
        clear KG_0 KG_1 KG_2 KG_3
        refine (HR.out _ _ _ _ _ _ _ (Rd.own G0.out) (Rd.own G1.out) (Rd.own G2.out)).mono ?_
        rintro e u7 ⟨rfl, hb⟩
        have B2 := Lib.hid (BB.out.trans (hb.mono BB.out.size))
        have K01 := Lib.hid (K0.out.below hb)
        have KP1 := Lib.hid (KP.out.below hb)
        have W01 := Lib.hid (owns_below W0.out hb)
        have W11 := Lib.hid (owns_below W1.out hb)
        have W21 := Lib.hid (owns_below W2.out hb)
        have KW1 := Lib.hid (KW.out.below hb)
        have KX1 := Lib.hid (KX.out.below hb)
        have G01 := Lib.hid (owns_below G0.out hb)
        have G11 := Lib.hid (owns_below G1.out hb)
        have G21 := Lib.hid (owns_below G2.out hb)
        have KG1 := Lib.hid (KG.out.below hb)
        clear hb BB K0 KP W0 W1 W2 KW KX G0 G1 G2 KG
        have BB := B2
        clear B2
        have K0 := K01
        clear K01
        have KP := KP1
        clear KP1
        have W0 := W01
        clear W01
        have W1 := W11
        clear W11
        have W2 := W21
        clear W21
        have KW := KW1
        clear KW1
        have KX := KX1
        clear KX1
        have G0 := G01
        clear G01
        have G1 := G11
        clear G11
        have G2 := G21
        clear G21
        have KG := KG1
        clear KG1
        have b0 := K0.out.cell (i := 0) rfl
        have b1 := K0.out.cell (i := 1) rfl
        have b2 := K0.out.cell (i := 2) rfl
        have b3 := K0.out.cell (i := 3) rfl
        have pl0 := KP.out.cell (i := 0) rfl
        have pl1 := KP.out.cell (i := 1) rfl
        have KW_0 := KW.out.cell (i := 0) rfl
        have KW_1 := KW.out.cell (i := 1) rfl
        have KW_2 := KW.out.cell (i := 2) rfl
        have KW_3 := KW.out.cell (i := 3) rfl
        have KX_0 := KX.out.cell (i := 0) rfl
        have KX_1 := KX.out.cell (i := 1) rfl
        have KX_2 := KX.out.cell (i := 2) rfl
        have KX_3 := KX.out.cell (i := 3) rfl
        have KG_0 := KG.out.cell (i := 0) rfl
        have KG_1 := KG.out.cell (i := 1) rfl
        have KG_2 := KG.out.cell (i := 2) rfl
        have KG_3 := KG.out.cell (i := 3) rfl
        go_upto_region 24 with fail
        clear b0 b1 b2 b3 pl0 pl1
        clear KW_0 KW_1 KW_2 KW_3
        clear KX_0 KX_1 KX_2 KX_3
        clear KG_0 KG_1 KG_2 KG_3
        have ch_G0_H : gG0 < u7.heap.size := (own_lt G0.out)
        have ch_G1_H : gG1 < u7.heap.size := (own_lt G1.out)
        have ch_G2_H : gG2 < u7.heap.size := (own_lt G2.out)
        have ch_KG_H : kG < u7.heap.size := KG.out.lt
        have chu_H : w.heap.size + 1 < u7.heap.size := KP.out.lt
        go_cut [14, 15] (fun a b wx => ∃ k g0 d0 g1 d1 g2 d2, a = .pointer (some ⟨k, 0, none⟩) ∧ b = .bool true ∧ Hid (wx.ownsRow u7.heap.size 117 8 (.slice (some ⟨g0, 0, none⟩) n0 d0) n0 (Dd.dls l0)) ∧ Hid (wx.ownsRow u7.heap.size 97 4 (.slice (some ⟨g1, 0, none⟩) n1 d1) n1 (Cd.dls cs)) ∧ Hid (wx.ownsRow u7.heap.size 100 3 (.slice (some ⟨g2, 0, none⟩) n2 d2) n2 (Gs.gls gs)) ∧ Hid (Bk wx k #[.slice (some ⟨g0, 0, none⟩) n0 d0, .slice (some ⟨g1, 0, none⟩) n1 d1, .slice (some ⟨g2, 0, none⟩) n2 d2, .int .i64 T] 34) ∧ u7.heap.size ≤ k ∧ g0 < g1 ∧ g1 < g2 ∧ Hid (Below u7.heap.size u7 wx))
        case first =>
          have b0 := K0.out.cell (i := 0) rfl
          have b1 := K0.out.cell (i := 1) rfl
          have b2 := K0.out.cell (i := 2) rfl
          have b3 := K0.out.cell (i := 3) rfl
          have pl0 := KP.out.cell (i := 0) rfl
          have pl1 := KP.out.cell (i := 1) rfl
          refine wp_region_noPanic ?_
          refine wp_region_held_drew (S := (fun w' => w'.cell? ⟨w.heap.size, 0, none⟩ = some (.slice A0 n0 c0) ∧ w'.cell? ⟨w.heap.size, 1, none⟩ = some (.slice A1 n1 c1) ∧ w'.cell? ⟨w.heap.size, 2, none⟩ = some (.slice A2 n2 c2) ∧ w'.cell? ⟨w.heap.size, 3, none⟩ = some (.int .i64 T) ∧ w'.cell? ⟨w.heap.size + 1, 0, none⟩ = some (.int .i64 x1) ∧ w'.cell? ⟨w.heap.size + 1, 1, none⟩ = some (.int .i64 y1) ∧ Below u7.heap.size u7 w')) (by kernel_rfl) ?_ (fun hH => ?_)
          · exact ⟨b0, b1, b2, b3, pl0, pl1, (Below.refl _ _).drew⟩
          clear b0 b1 b2 b3 pl0 pl1
          refine wpAnyH_take (i := 0) (oi := { dst := some 80, op := _, type := _, pos := _, after := _, guard := _ }) (v := ?_) rfl (by kernel_rfl) (by kernel_rfl) (by kernel_rfl) (fun _ _ _ h => h) (Or.inl ⟨by rfl, ?_⟩) hH ?_
          rotate_left 1
          · intro W hSw
            (try dsimp only at hSw)
            go_simp
            (try with_reducible rfl)
          try simp only [Act.put, List.setIfInBounds_toArray, List.set_cons_zero, List.set_cons_succ]
          refine wpAnyH_take (i := 2) (oi := { dst := some 82, op := _, type := _, pos := _, after := _, guard := _ }) (v := ?_) rfl (by kernel_rfl) (by kernel_rfl) (by kernel_rfl) (fun _ _ _ h => h) (Or.inl ⟨by rfl, ?_⟩) hH ?_
          rotate_left 1
          · intro W hSw
            (try dsimp only at hSw)
            go_simp
            (try with_reducible rfl)
          try simp only [Act.put, List.setIfInBounds_toArray, List.set_cons_zero, List.set_cons_succ]
          refine wpAnyH_ready (rs := [1, 8]) (by kernel_rfl) (by simp) (AllReadyH.cons rfl (fun K hK => ?_) (AllReadyH.cons rfl (fun K hK => ?_) (AllReadyH.nil)))
          · go_simp
            go_at_call 10; ((with_reducible refine (TO.out _ (HS.out.below (BB.out.trans (hH.2.2.2.2.2.2.mono BB.out.size)))).mono ?_); rintro e r0 ⟨ya, yb, yc, rfl, oa, ob, oc, _, _, hb⟩); go_wp2_with fail
            have RY := Lib.hid (SR.own oa ob oc)
            clear oa ob oc
            refine hK.out _ _ ?_ (fun hG => ?_)
            · exact ⟨cell_below hb hH.1, cell_below hb hH.2.1, cell_below hb hH.2.2.1, cell_below hb hH.2.2.2.1, cell_below hb hH.2.2.2.2.1, cell_below hb hH.2.2.2.2.2.1, hH.2.2.2.2.2.2.trans (hb.mono hH.2.2.2.2.2.2.size)⟩
            replace hH := hG
            clear hK K hG
            try simp only [Act.put, List.setIfInBounds_toArray, List.set_cons_zero, List.set_cons_succ]
            clear hb
            refine wpAnyH_ready (rs := [3, 8]) (by kernel_rfl) (by simp) (AllReadyH.cons rfl (fun K hK => ?_) (AllReadyH.cons rfl (fun K hK => ?_) (AllReadyH.nil)))
            · go_simp
              go_at_call 20; ((with_reducible refine (toPlace9 x1 y1 _).mono ?_); rintro e r1 ⟨rfl, hb⟩); go_wp2_with fail
              have RYn := Lib.hid (RY.out.below hb)
              clear RY
              have RY := RYn
              clear RYn
              refine hK.out _ _ ?_ (fun hG => ?_)
              · exact ⟨cell_below hb hH.1, cell_below hb hH.2.1, cell_below hb hH.2.2.1, cell_below hb hH.2.2.2.1, cell_below hb hH.2.2.2.2.1, cell_below hb hH.2.2.2.2.2.1, hH.2.2.2.2.2.2.trans (hb.mono hH.2.2.2.2.2.2.size)⟩
              replace hH := hG
              clear hK K hG
              try simp only [Act.put, List.setIfInBounds_toArray, List.set_cons_zero, List.set_cons_succ]
              clear hb
              refine wpAnyH_ready (rs := [4, 8]) (by kernel_rfl) (by simp) (AllReadyH.cons rfl (fun K hK => ?_) (AllReadyH.cons rfl (fun K hK => ?_) (AllReadyH.nil)))
              · go_simp
                go_at_call 21; ((with_reducible refine (CI.out _ _ _ _ RY.out).mono ?_); rintro e r2 ⟨g0, d0, g1, d1, g2, d2, rfl, o0, o1, o2, l01, l12, hb⟩); go_wp2_with fail
                have RYn := Lib.hid (RY.out.below hb)
                clear RY
                have RY := RYn
                clear RYn
                have le_C := hH.2.2.2.2.2.2.size
                have P0 := Lib.hid (owns_base o0 (Nat.le_trans le_C (own_at o0)))
                have P1 := Lib.hid (owns_base o1 (Nat.le_trans le_C (own_at o1)))
                have P2 := Lib.hid (owns_base o2 (Nat.le_trans le_C (own_at o2)))
                clear o0 o1 o2
                refine hK.out _ _ ?_ (fun hG => ?_)
                · exact ⟨cell_below hb hH.1, cell_below hb hH.2.1, cell_below hb hH.2.2.1, cell_below hb hH.2.2.2.1, cell_below hb hH.2.2.2.2.1, cell_below hb hH.2.2.2.2.2.1, hH.2.2.2.2.2.2.trans (hb.mono hH.2.2.2.2.2.2.size)⟩
                replace hH := hG
                clear hK K hG
                try simp only [Act.put, List.setIfInBounds_toArray, List.set_cons_zero, List.set_cons_succ]
                clear hb
                refine wpAnyH_take (i := 5) (oi := { dst := some 79, op := _, type := _, pos := _, after := _, guard := _ }) (v := ?_) rfl (by kernel_rfl) (by kernel_rfl) (by kernel_rfl) (fun _ _ _ h => h) (Or.inl ⟨by rfl, ?_⟩) hH ?_
                rotate_left 1
                · intro W hSw
                  (try dsimp only at hSw)
                  go_simp
                  (try with_reducible rfl)
                try simp only [Act.put, List.setIfInBounds_toArray, List.set_cons_zero, List.set_cons_succ]
                refine wpAnyH_take (i := 6) (oi := { dst := some 85, op := _, type := _, pos := _, after := _, guard := _ }) (v := ?_) rfl (by kernel_rfl) (by kernel_rfl) (by kernel_rfl) (fun _ _ _ h => h) (Or.inl ⟨by rfl, ?_⟩) hH ?_
                rotate_left 1
                · intro W hSw
                  (try dsimp only at hSw)
                  go_simp
                  (try with_reducible rfl)
                try simp only [Act.put, List.setIfInBounds_toArray, List.set_cons_zero, List.set_cons_succ]
                refine wpAnyH_take (i := 7) (oi := { dst := some 86, op := _, type := _, pos := _, after := _, guard := _ }) (v := ?_) rfl (by kernel_rfl) (by kernel_rfl) (by kernel_rfl) (fun _ _ _ h => h) (Or.inl ⟨by rfl, ?_⟩) hH ?_
                rotate_left 1
                · intro W hSw
                  (try dsimp only at hSw)
                  go_simp
                  (try with_reducible rfl)
                try simp only [Act.put, List.setIfInBounds_toArray, List.set_cons_zero, List.set_cons_succ]
                refine wpAnyH_ready (rs := [8]) (by kernel_rfl) (by simp) (AllReadyH.cons rfl (fun K hK => ?_) (AllReadyH.nil))
                go_simp
                have hb : Below r2.heap.size r2 (r2.alloc (.cells zc 34)) := (Below.refl _ _).alloc (Nat.le_refl _) (.cells zc 34)
                have leA : u7.heap.size ≤ r2.heap.size := hH.2.2.2.2.2.2.size
                have RYn := Lib.hid (RY.out.below hb)
                clear RY
                have RY := RYn
                clear RYn
                have P0n := Lib.hid (owns_below P0.out hb)
                clear P0
                have P0 := P0n
                clear P0n
                have P1n := Lib.hid (owns_below P1.out hb)
                clear P1
                have P1 := P1n
                clear P1n
                have P2n := Lib.hid (owns_below P2.out hb)
                clear P2
                have P2 := P2n
                clear P2n
                have KB := Lib.hid (Bk.new r2 zc 34)
                refine hK.out _ _ ?_ (fun hG => ?_)
                · exact ⟨cell_below hb hH.1, cell_below hb hH.2.1, cell_below hb hH.2.2.1, cell_below hb hH.2.2.2.1, cell_below hb hH.2.2.2.2.1, cell_below hb hH.2.2.2.2.2.1, hH.2.2.2.2.2.2.trans (hb.mono hH.2.2.2.2.2.2.size)⟩
                replace hH := hG
                clear hK K hG
                try simp only [Act.put, List.setIfInBounds_toArray, List.set_cons_zero, List.set_cons_succ]
                clear hb
                refine wpAnyH_ready (rs := [9]) (by kernel_rfl) (by simp) (AllReadyH.cons rfl (fun K hK => ?_) AllReadyH.nil)
                (refine step_store_row rfl 34 (.tmp 14) (.tmp 85) rfl (r2.heap.size) (#[.slice (some ⟨g0, 0, none⟩) n0 d0, .slice (some ⟨g1, 0, none⟩) n1 d1, .slice (some ⟨g2, 0, none⟩) n2 d2, .int .i64 T]) (by simp [Act.eval, Act.put]) (by simp [Act.eval, Act.put]) 34 zc KB.out (by kernel_rfl) rfl (by simp [Value.oneCell']) ?_; refine (show K (Act.put _ none _) _ from ?_); have hgR := row_grown (r2.alloc (.cells zc 34)) (r2.heap.size) (#[.slice (some ⟨g0, 0, none⟩) n0 d0, .slice (some ⟨g1, 0, none⟩) n1 d1, .slice (some ⟨g2, 0, none⟩) n2 d2, .int .i64 T]))
                refine hK.out _ _ ?_ (fun hG => ?_)
                · exact ⟨hgR.cell hH.1 (fun e => by have e := Option.some.inj e; (have e9 : w.heap.size = r2.heap.size := e); omega), hgR.cell hH.2.1 (fun e => by have e := Option.some.inj e; (have e9 : w.heap.size = r2.heap.size := e); omega), hgR.cell hH.2.2.1 (fun e => by have e := Option.some.inj e; (have e9 : w.heap.size = r2.heap.size := e); omega), hgR.cell hH.2.2.2.1 (fun e => by have e := Option.some.inj e; (have e9 : w.heap.size = r2.heap.size := e); omega), hgR.cell hH.2.2.2.2.1 (fun e => by have e := Option.some.inj e; (have e9 : w.heap.size + 1 = r2.heap.size := e); omega), hgR.cell hH.2.2.2.2.2.1 (fun e => by have e := Option.some.inj e; (have e9 : w.heap.size + 1 = r2.heap.size := e); omega), hH.2.2.2.2.2.2.grown hgR hH.2.2.2.2.2.2.size (fun z9 e9 => by have e9 := Option.some.inj e9; omega)⟩
                replace hH := hG
                clear hK K hG
                try simp only [Act.put, List.setIfInBounds_toArray, List.set_cons_zero, List.set_cons_succ]
                refine wpAnyH_take (i := 10) (oi := { dst := some 15, op := _, type := _, pos := _, after := _, guard := _ }) (v := ?_) rfl (by kernel_rfl) (by kernel_rfl) (by kernel_rfl) (fun _ _ _ h => h) (Or.inl ⟨by rfl, ?_⟩) hH ?_
                rotate_left 1
                · intro W hSw
                  (try dsimp only at hSw)
                  go_simp
                  (try with_reducible rfl)
                try simp only [Act.put, List.setIfInBounds_toArray, List.set_cons_zero, List.set_cons_succ]
                refine wpAnyH_done (by kernel_rfl) ?_ _
                refine NoPanic.normal ?_
                have KF := Lib.hid (row_bk (#[.slice (some ⟨g0, 0, none⟩) n0 d0, .slice (some ⟨g1, 0, none⟩) n1 d1, .slice (some ⟨g2, 0, none⟩) n2 d2, .int .i64 T]) KB.out)
                have F0 := Lib.hid (owns_grown P0.out hgR (fun k hk => by have := own_ne P0.out KB.out (by decide); exact fun e => this (hk.trans e.symm)))
                have F1 := Lib.hid (owns_grown P1.out hgR (fun k hk => by have := own_ne P1.out KB.out (by decide); exact fun e => this (hk.trans e.symm)))
                have F2 := Lib.hid (owns_grown P2.out hgR (fun k hk => by have := own_ne P2.out KB.out (by decide); exact fun e => this (hk.trans e.symm)))
                have BF := Lib.hid hH.2.2.2.2.2.2
                clear hH hgR
                go_wp2_with fail
                go_meet
                exact ⟨_, g0, d0, g1, d1, g2, d2, rfl, rfl, F0, F1, F2, KF, leA, l01, l12, BF⟩
              · go_simp
                have hb : Below r1.heap.size r1 (r1.alloc (.cells zc 34)) := (Below.refl _ _).alloc (Nat.le_refl _) (.cells zc 34)
                have leA : u7.heap.size ≤ r1.heap.size := hH.2.2.2.2.2.2.size
                have RYn := Lib.hid (RY.out.below hb)
                clear RY
                have RY := RYn
                clear RYn
                have KB := Lib.hid (Bk.new r1 zc 34)
                refine hK.out _ _ ?_ (fun hG => ?_)
                · exact ⟨cell_below hb hH.1, cell_below hb hH.2.1, cell_below hb hH.2.2.1, cell_below hb hH.2.2.2.1, cell_below hb hH.2.2.2.2.1, cell_below hb hH.2.2.2.2.2.1, hH.2.2.2.2.2.2.trans (hb.mono hH.2.2.2.2.2.2.size)⟩
                replace hH := hG
                clear hK K hG
                try simp only [Act.put, List.setIfInBounds_toArray, List.set_cons_zero, List.set_cons_succ]
                clear hb
                refine wpAnyH_ready (rs := [4]) (by kernel_rfl) (by simp) (AllReadyH.cons rfl (fun K hK => ?_) (AllReadyH.nil))
                go_simp
                go_at_call 21; ((with_reducible refine (CI.out _ _ _ _ RY.out).mono ?_); rintro e r2 ⟨g0, d0, g1, d1, g2, d2, rfl, o0, o1, o2, l01, l12, hb⟩); go_wp2_with fail
                have KBn := Lib.hid (KB.out.below hb)
                clear KB
                have KB := KBn
                clear KBn
                have RYn := Lib.hid (RY.out.below hb)
                clear RY
                have RY := RYn
                clear RYn
                have le_C := hH.2.2.2.2.2.2.size
                have P0 := Lib.hid (owns_base o0 (Nat.le_trans le_C (own_at o0)))
                have P1 := Lib.hid (owns_base o1 (Nat.le_trans le_C (own_at o1)))
                have P2 := Lib.hid (owns_base o2 (Nat.le_trans le_C (own_at o2)))
                have ltB := KB.out.lt
                clear o0 o1 o2
                refine hK.out _ _ ?_ (fun hG => ?_)
                · exact ⟨cell_below hb hH.1, cell_below hb hH.2.1, cell_below hb hH.2.2.1, cell_below hb hH.2.2.2.1, cell_below hb hH.2.2.2.2.1, cell_below hb hH.2.2.2.2.2.1, hH.2.2.2.2.2.2.trans (hb.mono hH.2.2.2.2.2.2.size)⟩
                replace hH := hG
                clear hK K hG
                try simp only [Act.put, List.setIfInBounds_toArray, List.set_cons_zero, List.set_cons_succ]
                clear hb
                refine wpAnyH_take (i := 5) (oi := { dst := some 79, op := _, type := _, pos := _, after := _, guard := _ }) (v := ?_) rfl (by kernel_rfl) (by kernel_rfl) (by kernel_rfl) (fun _ _ _ h => h) (Or.inl ⟨by rfl, ?_⟩) hH ?_
                rotate_left 1
                · intro W hSw
                  (try dsimp only at hSw)
                  go_simp
                  (try with_reducible rfl)
                try simp only [Act.put, List.setIfInBounds_toArray, List.set_cons_zero, List.set_cons_succ]
                refine wpAnyH_take (i := 6) (oi := { dst := some 85, op := _, type := _, pos := _, after := _, guard := _ }) (v := ?_) rfl (by kernel_rfl) (by kernel_rfl) (by kernel_rfl) (fun _ _ _ h => h) (Or.inl ⟨by rfl, ?_⟩) hH ?_
                rotate_left 1
                · intro W hSw
                  (try dsimp only at hSw)
                  go_simp
                  (try with_reducible rfl)
                try simp only [Act.put, List.setIfInBounds_toArray, List.set_cons_zero, List.set_cons_succ]
                refine wpAnyH_take (i := 7) (oi := { dst := some 86, op := _, type := _, pos := _, after := _, guard := _ }) (v := ?_) rfl (by kernel_rfl) (by kernel_rfl) (by kernel_rfl) (fun _ _ _ h => h) (Or.inl ⟨by rfl, ?_⟩) hH ?_
                rotate_left 1
                · intro W hSw
                  (try dsimp only at hSw)
                  go_simp
                  (try with_reducible rfl)
                try simp only [Act.put, List.setIfInBounds_toArray, List.set_cons_zero, List.set_cons_succ]
                refine wpAnyH_ready (rs := [9]) (by kernel_rfl) (by simp) (AllReadyH.cons rfl (fun K hK => ?_) AllReadyH.nil)
                (refine step_store_row rfl 34 (.tmp 14) (.tmp 85) rfl (r1.heap.size) (#[.slice (some ⟨g0, 0, none⟩) n0 d0, .slice (some ⟨g1, 0, none⟩) n1 d1, .slice (some ⟨g2, 0, none⟩) n2 d2, .int .i64 T]) (by simp [Act.eval, Act.put]) (by simp [Act.eval, Act.put]) 34 zc KB.out (by kernel_rfl) rfl (by simp [Value.oneCell']) ?_; refine (show K (Act.put _ none _) _ from ?_); have hgR := row_grown r2 (r1.heap.size) (#[.slice (some ⟨g0, 0, none⟩) n0 d0, .slice (some ⟨g1, 0, none⟩) n1 d1, .slice (some ⟨g2, 0, none⟩) n2 d2, .int .i64 T]))
                refine hK.out _ _ ?_ (fun hG => ?_)
                · exact ⟨hgR.cell hH.1 (fun e => by have e := Option.some.inj e; (have e9 : w.heap.size = r1.heap.size := e); omega), hgR.cell hH.2.1 (fun e => by have e := Option.some.inj e; (have e9 : w.heap.size = r1.heap.size := e); omega), hgR.cell hH.2.2.1 (fun e => by have e := Option.some.inj e; (have e9 : w.heap.size = r1.heap.size := e); omega), hgR.cell hH.2.2.2.1 (fun e => by have e := Option.some.inj e; (have e9 : w.heap.size = r1.heap.size := e); omega), hgR.cell hH.2.2.2.2.1 (fun e => by have e := Option.some.inj e; (have e9 : w.heap.size + 1 = r1.heap.size := e); omega), hgR.cell hH.2.2.2.2.2.1 (fun e => by have e := Option.some.inj e; (have e9 : w.heap.size + 1 = r1.heap.size := e); omega), hH.2.2.2.2.2.2.grown hgR hH.2.2.2.2.2.2.size (fun z9 e9 => by have e9 := Option.some.inj e9; omega)⟩
                replace hH := hG
                clear hK K hG
                try simp only [Act.put, List.setIfInBounds_toArray, List.set_cons_zero, List.set_cons_succ]
                refine wpAnyH_take (i := 10) (oi := { dst := some 15, op := _, type := _, pos := _, after := _, guard := _ }) (v := ?_) rfl (by kernel_rfl) (by kernel_rfl) (by kernel_rfl) (fun _ _ _ h => h) (Or.inl ⟨by rfl, ?_⟩) hH ?_
                rotate_left 1
                · intro W hSw
                  (try dsimp only at hSw)
                  go_simp
                  (try with_reducible rfl)
                try simp only [Act.put, List.setIfInBounds_toArray, List.set_cons_zero, List.set_cons_succ]
                refine wpAnyH_done (by kernel_rfl) ?_ _
                refine NoPanic.normal ?_
                have KF := Lib.hid (row_bk (#[.slice (some ⟨g0, 0, none⟩) n0 d0, .slice (some ⟨g1, 0, none⟩) n1 d1, .slice (some ⟨g2, 0, none⟩) n2 d2, .int .i64 T]) KB.out)
                have F0 := Lib.hid (owns_grown P0.out hgR (fun k hk => by have := own_ne P0.out KB.out (by decide); exact fun e => this (hk.trans e.symm)))
                have F1 := Lib.hid (owns_grown P1.out hgR (fun k hk => by have := own_ne P1.out KB.out (by decide); exact fun e => this (hk.trans e.symm)))
                have F2 := Lib.hid (owns_grown P2.out hgR (fun k hk => by have := own_ne P2.out KB.out (by decide); exact fun e => this (hk.trans e.symm)))
                have BF := Lib.hid hH.2.2.2.2.2.2
                clear hH hgR
                go_wp2_with fail
                go_meet
                exact ⟨_, g0, d0, g1, d1, g2, d2, rfl, rfl, F0, F1, F2, KF, leA, l01, l12, BF⟩
            · go_simp
              have hb : Below r0.heap.size r0 (r0.alloc (.cells zc 34)) := (Below.refl _ _).alloc (Nat.le_refl _) (.cells zc 34)
              have leA : u7.heap.size ≤ r0.heap.size := hH.2.2.2.2.2.2.size
              have RYn := Lib.hid (RY.out.below hb)
              clear RY
              have RY := RYn
              clear RYn
              have KB := Lib.hid (Bk.new r0 zc 34)
              refine hK.out _ _ ?_ (fun hG => ?_)
              · exact ⟨cell_below hb hH.1, cell_below hb hH.2.1, cell_below hb hH.2.2.1, cell_below hb hH.2.2.2.1, cell_below hb hH.2.2.2.2.1, cell_below hb hH.2.2.2.2.2.1, hH.2.2.2.2.2.2.trans (hb.mono hH.2.2.2.2.2.2.size)⟩
              replace hH := hG
              clear hK K hG
              try simp only [Act.put, List.setIfInBounds_toArray, List.set_cons_zero, List.set_cons_succ]
              clear hb
              refine wpAnyH_ready (rs := [3]) (by kernel_rfl) (by simp) (AllReadyH.cons rfl (fun K hK => ?_) (AllReadyH.nil))
              go_simp
              go_at_call 20; ((with_reducible refine (toPlace9 x1 y1 _).mono ?_); rintro e r1 ⟨rfl, hb⟩); go_wp2_with fail
              have KBn := Lib.hid (KB.out.below hb)
              clear KB
              have KB := KBn
              clear KBn
              have RYn := Lib.hid (RY.out.below hb)
              clear RY
              have RY := RYn
              clear RYn
              refine hK.out _ _ ?_ (fun hG => ?_)
              · exact ⟨cell_below hb hH.1, cell_below hb hH.2.1, cell_below hb hH.2.2.1, cell_below hb hH.2.2.2.1, cell_below hb hH.2.2.2.2.1, cell_below hb hH.2.2.2.2.2.1, hH.2.2.2.2.2.2.trans (hb.mono hH.2.2.2.2.2.2.size)⟩
              replace hH := hG
              clear hK K hG
              try simp only [Act.put, List.setIfInBounds_toArray, List.set_cons_zero, List.set_cons_succ]
              clear hb
              refine wpAnyH_ready (rs := [4]) (by kernel_rfl) (by simp) (AllReadyH.cons rfl (fun K hK => ?_) (AllReadyH.nil))
              go_simp
              go_at_call 21; ((with_reducible refine (CI.out _ _ _ _ RY.out).mono ?_); rintro e r2 ⟨g0, d0, g1, d1, g2, d2, rfl, o0, o1, o2, l01, l12, hb⟩); go_wp2_with fail
              have KBn := Lib.hid (KB.out.below hb)
              clear KB
              have KB := KBn
              clear KBn
              have RYn := Lib.hid (RY.out.below hb)
              clear RY
              have RY := RYn
              clear RYn
              have le_C := hH.2.2.2.2.2.2.size
              have P0 := Lib.hid (owns_base o0 (Nat.le_trans le_C (own_at o0)))
              have P1 := Lib.hid (owns_base o1 (Nat.le_trans le_C (own_at o1)))
              have P2 := Lib.hid (owns_base o2 (Nat.le_trans le_C (own_at o2)))
              have ltB := KB.out.lt
              clear o0 o1 o2
              refine hK.out _ _ ?_ (fun hG => ?_)
              · exact ⟨cell_below hb hH.1, cell_below hb hH.2.1, cell_below hb hH.2.2.1, cell_below hb hH.2.2.2.1, cell_below hb hH.2.2.2.2.1, cell_below hb hH.2.2.2.2.2.1, hH.2.2.2.2.2.2.trans (hb.mono hH.2.2.2.2.2.2.size)⟩
              replace hH := hG
              clear hK K hG
              try simp only [Act.put, List.setIfInBounds_toArray, List.set_cons_zero, List.set_cons_succ]
              clear hb
              refine wpAnyH_take (i := 5) (oi := { dst := some 79, op := _, type := _, pos := _, after := _, guard := _ }) (v := ?_) rfl (by kernel_rfl) (by kernel_rfl) (by kernel_rfl) (fun _ _ _ h => h) (Or.inl ⟨by rfl, ?_⟩) hH ?_
              rotate_left 1
              · intro W hSw
                (try dsimp only at hSw)
                go_simp
                (try with_reducible rfl)
              try simp only [Act.put, List.setIfInBounds_toArray, List.set_cons_zero, List.set_cons_succ]
              refine wpAnyH_take (i := 6) (oi := { dst := some 85, op := _, type := _, pos := _, after := _, guard := _ }) (v := ?_) rfl (by kernel_rfl) (by kernel_rfl) (by kernel_rfl) (fun _ _ _ h => h) (Or.inl ⟨by rfl, ?_⟩) hH ?_
              rotate_left 1
              · intro W hSw
                (try dsimp only at hSw)
                go_simp
                (try with_reducible rfl)
              try simp only [Act.put, List.setIfInBounds_toArray, List.set_cons_zero, List.set_cons_succ]
              refine wpAnyH_take (i := 7) (oi := { dst := some 86, op := _, type := _, pos := _, after := _, guard := _ }) (v := ?_) rfl (by kernel_rfl) (by kernel_rfl) (by kernel_rfl) (fun _ _ _ h => h) (Or.inl ⟨by rfl, ?_⟩) hH ?_
              rotate_left 1
              · intro W hSw
                (try dsimp only at hSw)
                go_simp
                (try with_reducible rfl)
              try simp only [Act.put, List.setIfInBounds_toArray, List.set_cons_zero, List.set_cons_succ]
              refine wpAnyH_ready (rs := [9]) (by kernel_rfl) (by simp) (AllReadyH.cons rfl (fun K hK => ?_) AllReadyH.nil)
              (refine step_store_row rfl 34 (.tmp 14) (.tmp 85) rfl (r0.heap.size) (#[.slice (some ⟨g0, 0, none⟩) n0 d0, .slice (some ⟨g1, 0, none⟩) n1 d1, .slice (some ⟨g2, 0, none⟩) n2 d2, .int .i64 T]) (by simp [Act.eval, Act.put]) (by simp [Act.eval, Act.put]) 34 zc KB.out (by kernel_rfl) rfl (by simp [Value.oneCell']) ?_; refine (show K (Act.put _ none _) _ from ?_); have hgR := row_grown r2 (r0.heap.size) (#[.slice (some ⟨g0, 0, none⟩) n0 d0, .slice (some ⟨g1, 0, none⟩) n1 d1, .slice (some ⟨g2, 0, none⟩) n2 d2, .int .i64 T]))
              refine hK.out _ _ ?_ (fun hG => ?_)
              · exact ⟨hgR.cell hH.1 (fun e => by have e := Option.some.inj e; (have e9 : w.heap.size = r0.heap.size := e); omega), hgR.cell hH.2.1 (fun e => by have e := Option.some.inj e; (have e9 : w.heap.size = r0.heap.size := e); omega), hgR.cell hH.2.2.1 (fun e => by have e := Option.some.inj e; (have e9 : w.heap.size = r0.heap.size := e); omega), hgR.cell hH.2.2.2.1 (fun e => by have e := Option.some.inj e; (have e9 : w.heap.size = r0.heap.size := e); omega), hgR.cell hH.2.2.2.2.1 (fun e => by have e := Option.some.inj e; (have e9 : w.heap.size + 1 = r0.heap.size := e); omega), hgR.cell hH.2.2.2.2.2.1 (fun e => by have e := Option.some.inj e; (have e9 : w.heap.size + 1 = r0.heap.size := e); omega), hH.2.2.2.2.2.2.grown hgR hH.2.2.2.2.2.2.size (fun z9 e9 => by have e9 := Option.some.inj e9; omega)⟩
              replace hH := hG
              clear hK K hG
              try simp only [Act.put, List.setIfInBounds_toArray, List.set_cons_zero, List.set_cons_succ]
              refine wpAnyH_take (i := 10) (oi := { dst := some 15, op := _, type := _, pos := _, after := _, guard := _ }) (v := ?_) rfl (by kernel_rfl) (by kernel_rfl) (by kernel_rfl) (fun _ _ _ h => h) (Or.inl ⟨by rfl, ?_⟩) hH ?_
              rotate_left 1
              · intro W hSw
                (try dsimp only at hSw)
                go_simp
                (try with_reducible rfl)
              try simp only [Act.put, List.setIfInBounds_toArray, List.set_cons_zero, List.set_cons_succ]
              refine wpAnyH_done (by kernel_rfl) ?_ _
              refine NoPanic.normal ?_
              have KF := Lib.hid (row_bk (#[.slice (some ⟨g0, 0, none⟩) n0 d0, .slice (some ⟨g1, 0, none⟩) n1 d1, .slice (some ⟨g2, 0, none⟩) n2 d2, .int .i64 T]) KB.out)
              have F0 := Lib.hid (owns_grown P0.out hgR (fun k hk => by have := own_ne P0.out KB.out (by decide); exact fun e => this (hk.trans e.symm)))
              have F1 := Lib.hid (owns_grown P1.out hgR (fun k hk => by have := own_ne P1.out KB.out (by decide); exact fun e => this (hk.trans e.symm)))
              have F2 := Lib.hid (owns_grown P2.out hgR (fun k hk => by have := own_ne P2.out KB.out (by decide); exact fun e => this (hk.trans e.symm)))
              have BF := Lib.hid hH.2.2.2.2.2.2
              clear hH hgR
              go_wp2_with fail
              go_meet
              exact ⟨_, g0, d0, g1, d1, g2, d2, rfl, rfl, F0, F1, F2, KF, leA, l01, l12, BF⟩
          · go_simp
            have hb : Below u7.drew.heap.size u7.drew (u7.drew.alloc (.cells zc 34)) := (Below.refl _ _).alloc (Nat.le_refl _) (.cells zc 34)
            have leA : u7.heap.size ≤ u7.drew.heap.size := hH.2.2.2.2.2.2.size
            have KB := Lib.hid (Bk.new u7.drew zc 34)
            refine hK.out _ _ ?_ (fun hG => ?_)
            · exact ⟨cell_below hb hH.1, cell_below hb hH.2.1, cell_below hb hH.2.2.1, cell_below hb hH.2.2.2.1, cell_below hb hH.2.2.2.2.1, cell_below hb hH.2.2.2.2.2.1, hH.2.2.2.2.2.2.trans (hb.mono hH.2.2.2.2.2.2.size)⟩
            replace hH := hG
            clear hK K hG
            try simp only [Act.put, List.setIfInBounds_toArray, List.set_cons_zero, List.set_cons_succ]
            clear hb
            refine wpAnyH_ready (rs := [1]) (by kernel_rfl) (by simp) (AllReadyH.cons rfl (fun K hK => ?_) (AllReadyH.nil))
            go_simp
            go_at_call 10; ((with_reducible refine (TO.out _ (HS.out.below (BB.out.trans (hH.2.2.2.2.2.2.mono BB.out.size)))).mono ?_); rintro e r0 ⟨ya, yb, yc, rfl, oa, ob, oc, _, _, hb⟩); go_wp2_with fail
            have KBn := Lib.hid (KB.out.below hb)
            clear KB
            have KB := KBn
            clear KBn
            have RY := Lib.hid (SR.own oa ob oc)
            clear oa ob oc
            refine hK.out _ _ ?_ (fun hG => ?_)
            · exact ⟨cell_below hb hH.1, cell_below hb hH.2.1, cell_below hb hH.2.2.1, cell_below hb hH.2.2.2.1, cell_below hb hH.2.2.2.2.1, cell_below hb hH.2.2.2.2.2.1, hH.2.2.2.2.2.2.trans (hb.mono hH.2.2.2.2.2.2.size)⟩
            replace hH := hG
            clear hK K hG
            try simp only [Act.put, List.setIfInBounds_toArray, List.set_cons_zero, List.set_cons_succ]
            clear hb
            refine wpAnyH_ready (rs := [3]) (by kernel_rfl) (by simp) (AllReadyH.cons rfl (fun K hK => ?_) (AllReadyH.nil))
            go_simp
            go_at_call 20; ((with_reducible refine (toPlace9 x1 y1 _).mono ?_); rintro e r1 ⟨rfl, hb⟩); go_wp2_with fail
            have KBn := Lib.hid (KB.out.below hb)
            clear KB
            have KB := KBn
            clear KBn
            have RYn := Lib.hid (RY.out.below hb)
            clear RY
            have RY := RYn
            clear RYn
            refine hK.out _ _ ?_ (fun hG => ?_)
            · exact ⟨cell_below hb hH.1, cell_below hb hH.2.1, cell_below hb hH.2.2.1, cell_below hb hH.2.2.2.1, cell_below hb hH.2.2.2.2.1, cell_below hb hH.2.2.2.2.2.1, hH.2.2.2.2.2.2.trans (hb.mono hH.2.2.2.2.2.2.size)⟩
            replace hH := hG
            clear hK K hG
            try simp only [Act.put, List.setIfInBounds_toArray, List.set_cons_zero, List.set_cons_succ]
            clear hb
            refine wpAnyH_ready (rs := [4]) (by kernel_rfl) (by simp) (AllReadyH.cons rfl (fun K hK => ?_) (AllReadyH.nil))
            go_simp
            go_at_call 21; ((with_reducible refine (CI.out _ _ _ _ RY.out).mono ?_); rintro e r2 ⟨g0, d0, g1, d1, g2, d2, rfl, o0, o1, o2, l01, l12, hb⟩); go_wp2_with fail
            have KBn := Lib.hid (KB.out.below hb)
            clear KB
            have KB := KBn
            clear KBn
            have RYn := Lib.hid (RY.out.below hb)
            clear RY
            have RY := RYn
            clear RYn
            have le_C := hH.2.2.2.2.2.2.size
            have P0 := Lib.hid (owns_base o0 (Nat.le_trans le_C (own_at o0)))
            have P1 := Lib.hid (owns_base o1 (Nat.le_trans le_C (own_at o1)))
            have P2 := Lib.hid (owns_base o2 (Nat.le_trans le_C (own_at o2)))
            have ltB := KB.out.lt
            clear o0 o1 o2
            refine hK.out _ _ ?_ (fun hG => ?_)
            · exact ⟨cell_below hb hH.1, cell_below hb hH.2.1, cell_below hb hH.2.2.1, cell_below hb hH.2.2.2.1, cell_below hb hH.2.2.2.2.1, cell_below hb hH.2.2.2.2.2.1, hH.2.2.2.2.2.2.trans (hb.mono hH.2.2.2.2.2.2.size)⟩
            replace hH := hG
            clear hK K hG
            try simp only [Act.put, List.setIfInBounds_toArray, List.set_cons_zero, List.set_cons_succ]
            clear hb
            refine wpAnyH_take (i := 5) (oi := { dst := some 79, op := _, type := _, pos := _, after := _, guard := _ }) (v := ?_) rfl (by kernel_rfl) (by kernel_rfl) (by kernel_rfl) (fun _ _ _ h => h) (Or.inl ⟨by rfl, ?_⟩) hH ?_
            rotate_left 1
            · intro W hSw
              (try dsimp only at hSw)
              go_simp
              (try with_reducible rfl)
            try simp only [Act.put, List.setIfInBounds_toArray, List.set_cons_zero, List.set_cons_succ]
            refine wpAnyH_take (i := 6) (oi := { dst := some 85, op := _, type := _, pos := _, after := _, guard := _ }) (v := ?_) rfl (by kernel_rfl) (by kernel_rfl) (by kernel_rfl) (fun _ _ _ h => h) (Or.inl ⟨by rfl, ?_⟩) hH ?_
            rotate_left 1
            · intro W hSw
              (try dsimp only at hSw)
              go_simp
              (try with_reducible rfl)
            try simp only [Act.put, List.setIfInBounds_toArray, List.set_cons_zero, List.set_cons_succ]
            refine wpAnyH_take (i := 7) (oi := { dst := some 86, op := _, type := _, pos := _, after := _, guard := _ }) (v := ?_) rfl (by kernel_rfl) (by kernel_rfl) (by kernel_rfl) (fun _ _ _ h => h) (Or.inl ⟨by rfl, ?_⟩) hH ?_
            rotate_left 1
            · intro W hSw
              (try dsimp only at hSw)
              go_simp
              (try with_reducible rfl)
            try simp only [Act.put, List.setIfInBounds_toArray, List.set_cons_zero, List.set_cons_succ]
            refine wpAnyH_ready (rs := [9]) (by kernel_rfl) (by simp) (AllReadyH.cons rfl (fun K hK => ?_) AllReadyH.nil)
            (refine step_store_row rfl 34 (.tmp 14) (.tmp 85) rfl (u7.drew.heap.size) (#[.slice (some ⟨g0, 0, none⟩) n0 d0, .slice (some ⟨g1, 0, none⟩) n1 d1, .slice (some ⟨g2, 0, none⟩) n2 d2, .int .i64 T]) (by simp [Act.eval, Act.put]) (by simp [Act.eval, Act.put]) 34 zc KB.out (by kernel_rfl) rfl (by simp [Value.oneCell']) ?_; refine (show K (Act.put _ none _) _ from ?_); have hgR := row_grown r2 (u7.drew.heap.size) (#[.slice (some ⟨g0, 0, none⟩) n0 d0, .slice (some ⟨g1, 0, none⟩) n1 d1, .slice (some ⟨g2, 0, none⟩) n2 d2, .int .i64 T]))
            refine hK.out _ _ ?_ (fun hG => ?_)
            · exact ⟨hgR.cell hH.1 (fun e => by have e := Option.some.inj e; (have e9 : w.heap.size = u7.drew.heap.size := e); omega), hgR.cell hH.2.1 (fun e => by have e := Option.some.inj e; (have e9 : w.heap.size = u7.drew.heap.size := e); omega), hgR.cell hH.2.2.1 (fun e => by have e := Option.some.inj e; (have e9 : w.heap.size = u7.drew.heap.size := e); omega), hgR.cell hH.2.2.2.1 (fun e => by have e := Option.some.inj e; (have e9 : w.heap.size = u7.drew.heap.size := e); omega), hgR.cell hH.2.2.2.2.1 (fun e => by have e := Option.some.inj e; (have e9 : w.heap.size + 1 = u7.drew.heap.size := e); omega), hgR.cell hH.2.2.2.2.2.1 (fun e => by have e := Option.some.inj e; (have e9 : w.heap.size + 1 = u7.drew.heap.size := e); omega), hH.2.2.2.2.2.2.grown hgR hH.2.2.2.2.2.2.size (fun z9 e9 => by have e9 := Option.some.inj e9; omega)⟩
            replace hH := hG
            clear hK K hG
            try simp only [Act.put, List.setIfInBounds_toArray, List.set_cons_zero, List.set_cons_succ]
            refine wpAnyH_take (i := 10) (oi := { dst := some 15, op := _, type := _, pos := _, after := _, guard := _ }) (v := ?_) rfl (by kernel_rfl) (by kernel_rfl) (by kernel_rfl) (fun _ _ _ h => h) (Or.inl ⟨by rfl, ?_⟩) hH ?_
            rotate_left 1
            · intro W hSw
              (try dsimp only at hSw)
              go_simp
              (try with_reducible rfl)
            try simp only [Act.put, List.setIfInBounds_toArray, List.set_cons_zero, List.set_cons_succ]
            refine wpAnyH_done (by kernel_rfl) ?_ _
            refine NoPanic.normal ?_
            have KF := Lib.hid (row_bk (#[.slice (some ⟨g0, 0, none⟩) n0 d0, .slice (some ⟨g1, 0, none⟩) n1 d1, .slice (some ⟨g2, 0, none⟩) n2 d2, .int .i64 T]) KB.out)
            have F0 := Lib.hid (owns_grown P0.out hgR (fun k hk => by have := own_ne P0.out KB.out (by decide); exact fun e => this (hk.trans e.symm)))
            have F1 := Lib.hid (owns_grown P1.out hgR (fun k hk => by have := own_ne P1.out KB.out (by decide); exact fun e => this (hk.trans e.symm)))
            have F2 := Lib.hid (owns_grown P2.out hgR (fun k hk => by have := own_ne P2.out KB.out (by decide); exact fun e => this (hk.trans e.symm)))
            have BF := Lib.hid hH.2.2.2.2.2.2
            clear hH hgR
            go_wp2_with fail
            go_meet
            exact ⟨_, g0, d0, g1, d1, g2, d2, rfl, rfl, F0, F1, F2, KF, leA, l01, l12, BF⟩
        case rest =>
          obtain ⟨kH, gH0, dH0, gH1, dH1, gH2, dH2, rfl, rfl, F0, F1, F2, KF, chk_H, ch_H1, ch_H2, hbF⟩ := hcut
          have hb := hbF.out
          clear hbF
          have cha_H0 := own_at F0.out
          have F09 := Lib.hid (owns_base F0.out (Nat.le_trans BB.out.size cha_H0))
          clear F0
          have cha_H1 := own_at F1.out
          have F19 := Lib.hid (owns_base F1.out (Nat.le_trans BB.out.size cha_H1))
          clear F1
          have cha_H2 := own_at F2.out
          have F29 := Lib.hid (owns_base F2.out (Nat.le_trans BB.out.size cha_H2))
          clear F2
          have B2 := Lib.hid (BB.out.trans (hb.mono BB.out.size))
          have K01 := Lib.hid (K0.out.below hb)
          have KP1 := Lib.hid (KP.out.below hb)
          have W01 := Lib.hid (owns_below W0.out hb)
          have W11 := Lib.hid (owns_below W1.out hb)
          have W21 := Lib.hid (owns_below W2.out hb)
          have KW1 := Lib.hid (KW.out.below hb)
          have KX1 := Lib.hid (KX.out.below hb)
          have G01 := Lib.hid (owns_below G0.out hb)
          have G11 := Lib.hid (owns_below G1.out hb)
          have G21 := Lib.hid (owns_below G2.out hb)
          have KG1 := Lib.hid (KG.out.below hb)
          clear hb BB K0 KP W0 W1 W2 KW KX G0 G1 G2 KG
          have BB := B2
          clear B2
          have K0 := K01
          clear K01
          have KP := KP1
          clear KP1
          have W0 := W01
          clear W01
          have W1 := W11
          clear W11
          have W2 := W21
          clear W21
          have KW := KW1
          clear KW1
          have KX := KX1
          clear KX1
          have G0 := G01
          clear G01
          have G1 := G11
          clear G11
          have G2 := G21
          clear G21
          have KG := KG1
          clear KG1
          have H0 := F09
          clear F09
          have H1 := F19
          clear F19
          have H2 := F29
          clear F29
          have KH := KF
          clear KF
          have b0 := K0.out.cell (i := 0) rfl
          have b1 := K0.out.cell (i := 1) rfl
          have b2 := K0.out.cell (i := 2) rfl
          have b3 := K0.out.cell (i := 3) rfl
          have pl0 := KP.out.cell (i := 0) rfl
          have pl1 := KP.out.cell (i := 1) rfl
          have KW_0 := KW.out.cell (i := 0) rfl
          have KW_1 := KW.out.cell (i := 1) rfl
          have KW_2 := KW.out.cell (i := 2) rfl
          have KW_3 := KW.out.cell (i := 3) rfl
          have KX_0 := KX.out.cell (i := 0) rfl
          have KX_1 := KX.out.cell (i := 1) rfl
          have KX_2 := KX.out.cell (i := 2) rfl
          have KX_3 := KX.out.cell (i := 3) rfl
          have KG_0 := KG.out.cell (i := 0) rfl
          have KG_1 := KG.out.cell (i := 1) rfl
          have KG_2 := KG.out.cell (i := 2) rfl
          have KG_3 := KG.out.cell (i := 3) rfl
          have KH_0 := KH.out.cell (i := 0) rfl
          have KH_1 := KH.out.cell (i := 1) rfl
          have KH_2 := KH.out.cell (i := 2) rfl
          have KH_3 := KH.out.cell (i := 3) rfl
          go_wp2_with fail
          clear b0 b1 b2 b3 pl0 pl1
          clear KW_0 KW_1 KW_2 KW_3
          clear KX_0 KX_1 KX_2 KX_3
          clear KG_0 KG_1 KG_2 KG_3
          clear KH_0 KH_1 KH_2 KH_3
          refine (EA.out _ _ _ _ _ _ _ _ _ _ _ _ _ (SR.own H0.out H1.out H2.out) (SR.own W0.out W1.out W2.out)).mono ?_
          rintro e u8 ⟨rfl, hb⟩
          have B2 := Lib.hid (BB.out.trans (hb.mono BB.out.size))
          have K01 := Lib.hid (K0.out.below hb)
          have KP1 := Lib.hid (KP.out.below hb)
          have W01 := Lib.hid (owns_below W0.out hb)
          have W11 := Lib.hid (owns_below W1.out hb)
          have W21 := Lib.hid (owns_below W2.out hb)
          have KW1 := Lib.hid (KW.out.below hb)
          have KX1 := Lib.hid (KX.out.below hb)
          have G01 := Lib.hid (owns_below G0.out hb)
          have G11 := Lib.hid (owns_below G1.out hb)
          have G21 := Lib.hid (owns_below G2.out hb)
          have KG1 := Lib.hid (KG.out.below hb)
          have H01 := Lib.hid (owns_below H0.out hb)
          have H11 := Lib.hid (owns_below H1.out hb)
          have H21 := Lib.hid (owns_below H2.out hb)
          have KH1 := Lib.hid (KH.out.below hb)
          clear hb BB K0 KP W0 W1 W2 KW KX G0 G1 G2 KG H0 H1 H2 KH
          have BB := B2
          clear B2
          have K0 := K01
          clear K01
          have KP := KP1
          clear KP1
          have W0 := W01
          clear W01
          have W1 := W11
          clear W11
          have W2 := W21
          clear W21
          have KW := KW1
          clear KW1
          have KX := KX1
          clear KX1
          have G0 := G01
          clear G01
          have G1 := G11
          clear G11
          have G2 := G21
          clear G21
          have KG := KG1
          clear KG1
          have H0 := H01
          clear H01
          have H1 := H11
          clear H11
          have H2 := H21
          clear H21
          have KH := KH1
          clear KH1
          have b0 := K0.out.cell (i := 0) rfl
          have b1 := K0.out.cell (i := 1) rfl
          have b2 := K0.out.cell (i := 2) rfl
          have b3 := K0.out.cell (i := 3) rfl
          have pl0 := KP.out.cell (i := 0) rfl
          have pl1 := KP.out.cell (i := 1) rfl
          have KW_0 := KW.out.cell (i := 0) rfl
          have KW_1 := KW.out.cell (i := 1) rfl
          have KW_2 := KW.out.cell (i := 2) rfl
          have KW_3 := KW.out.cell (i := 3) rfl
          have KX_0 := KX.out.cell (i := 0) rfl
          have KX_1 := KX.out.cell (i := 1) rfl
          have KX_2 := KX.out.cell (i := 2) rfl
          have KX_3 := KX.out.cell (i := 3) rfl
          have KG_0 := KG.out.cell (i := 0) rfl
          have KG_1 := KG.out.cell (i := 1) rfl
          have KG_2 := KG.out.cell (i := 2) rfl
          have KG_3 := KG.out.cell (i := 3) rfl
          have KH_0 := KH.out.cell (i := 0) rfl
          have KH_1 := KH.out.cell (i := 1) rfl
          have KH_2 := KH.out.cell (i := 2) rfl
          have KH_3 := KH.out.cell (i := 3) rfl
          go_wp2_with fail
          clear b0 b1 b2 b3 pl0 pl1
          clear KW_0 KW_1 KW_2 KW_3
          clear KX_0 KX_1 KX_2 KX_3
          clear KG_0 KG_1 KG_2 KG_3
          clear KH_0 KH_1 KH_2 KH_3
          refine (HR.out _ _ _ _ _ _ _ (Rd.own G0.out) (Rd.own G1.out) (Rd.own G2.out)).mono ?_
          rintro e u9 ⟨rfl, hb⟩
          have B2 := Lib.hid (BB.out.trans (hb.mono BB.out.size))
          have K01 := Lib.hid (K0.out.below hb)
          have KP1 := Lib.hid (KP.out.below hb)
          have W01 := Lib.hid (owns_below W0.out hb)
          have W11 := Lib.hid (owns_below W1.out hb)
          have W21 := Lib.hid (owns_below W2.out hb)
          have KW1 := Lib.hid (KW.out.below hb)
          have KX1 := Lib.hid (KX.out.below hb)
          have G01 := Lib.hid (owns_below G0.out hb)
          have G11 := Lib.hid (owns_below G1.out hb)
          have G21 := Lib.hid (owns_below G2.out hb)
          have KG1 := Lib.hid (KG.out.below hb)
          have H01 := Lib.hid (owns_below H0.out hb)
          have H11 := Lib.hid (owns_below H1.out hb)
          have H21 := Lib.hid (owns_below H2.out hb)
          have KH1 := Lib.hid (KH.out.below hb)
          clear hb BB K0 KP W0 W1 W2 KW KX G0 G1 G2 KG H0 H1 H2 KH
          have BB := B2
          clear B2
          have K0 := K01
          clear K01
          have KP := KP1
          clear KP1
          have W0 := W01
          clear W01
          have W1 := W11
          clear W11
          have W2 := W21
          clear W21
          have KW := KW1
          clear KW1
          have KX := KX1
          clear KX1
          have G0 := G01
          clear G01
          have G1 := G11
          clear G11
          have G2 := G21
          clear G21
          have KG := KG1
          clear KG1
          have H0 := H01
          clear H01
          have H1 := H11
          clear H11
          have H2 := H21
          clear H21
          have KH := KH1
          clear KH1
          have b0 := K0.out.cell (i := 0) rfl
          have b1 := K0.out.cell (i := 1) rfl
          have b2 := K0.out.cell (i := 2) rfl
          have b3 := K0.out.cell (i := 3) rfl
          have pl0 := KP.out.cell (i := 0) rfl
          have pl1 := KP.out.cell (i := 1) rfl
          have KW_0 := KW.out.cell (i := 0) rfl
          have KW_1 := KW.out.cell (i := 1) rfl
          have KW_2 := KW.out.cell (i := 2) rfl
          have KW_3 := KW.out.cell (i := 3) rfl
          have KX_0 := KX.out.cell (i := 0) rfl
          have KX_1 := KX.out.cell (i := 1) rfl
          have KX_2 := KX.out.cell (i := 2) rfl
          have KX_3 := KX.out.cell (i := 3) rfl
          have KG_0 := KG.out.cell (i := 0) rfl
          have KG_1 := KG.out.cell (i := 1) rfl
          have KG_2 := KG.out.cell (i := 2) rfl
          have KG_3 := KG.out.cell (i := 3) rfl
          have KH_0 := KH.out.cell (i := 0) rfl
          have KH_1 := KH.out.cell (i := 1) rfl
          have KH_2 := KH.out.cell (i := 2) rfl
          have KH_3 := KH.out.cell (i := 3) rfl
          go_wp2_with fail
          go_ret
          exact ⟨rfl, BB.out⟩

set_option maxRecDepth 100000 in
theorem lifted (os : Os) (started : os.Started) (H : Type) (enc : TypeId × Value → H) :
    ReturnsInHanded {} Tryz.checked os 5 .any (Rows.fnExactShiftShowSpec.pre6 enc Tryz.prog Tryz.f5 Rows.fnExactShiftShowRow.domain false) (Rows.fnExactShiftShowSpec.post enc Tryz.prog Tryz.f5 false true false false) := by
  refine returnsInHanded_of_change (C := Tryz.checked) own started (by kernel_rfl) Tryz.func5
    (ChangeSpec.witness6 (enc := enc) (C := Tryz.checked) false ⟨#[], #[.agg #[.slice none 0 0, .slice none 0 0, .slice none 0 0, .int .i64 0], .agg #[.int .i64 0, .int .i64 0]], []⟩ 8 (by kernel_rfl) (by kernel_rfl) (by kernel_rfl) (by kernel_rfl)) ?_
  intro W base args ds gs before hval0 hW hcnd hsz
  have hval : ∀ (j : Nat) t v, Tryz.f5.params[j]? = some t → args[j]? = some v → Value.okWide Tryz.prog W .any base t v := hval0
  have hW' := hW
  obtain ⟨p, q, hA0, hV, rfl, hfz, hnd⟩ := hW
  have hA1 := hA0
  have hA : DataW.TrodAll enc Tryz.prog W 0 (fun _ => true) true Tryz.f5.params.toList args.toList ds p := hA0
  rw [Tryz.params5] at hA hval
  obtain ⟨v0, vs0, d0, ds0, p0, q0, hargs, rfl, rfl, h0, r0⟩ := trodAll_cons hA
  obtain ⟨v1, vs1, d1, ds1, p1, q1, rfl, rfl, rfl, h1, r1⟩ := trodAll_cons r0
  obtain ⟨rfl, rfl, rfl⟩ := trodAll_nil r1
  obtain rfl : args = #[v0, v1] := by cases args; simp_all
  obtain ⟨rfl, rfl⟩ := trodVars_none hV
  obtain ⟨A0, n0, c0, ds, A1, n1, c1, cs, A2, n2, c2, gs, T, rfl, ⟨l0, m0⟩, ⟨l1, m1⟩, ⟨l2, m2⟩, wT, ⟨g0, zz0⟩, ⟨g1, zz1⟩, g2, _⟩ := Sp.take_show (hval 0 26 v0 rfl rfl) h0
  obtain ⟨x1, y1, rfl, wx1, wy1⟩ := Str.take_place Tryz.underlying44 (by kernel_rfl) (by kernel_rfl) Tryz.underlying3 Tryz.underlying3 (hval 1 44 v1 rfl rfl) h1
  clear hA0 hval0
  rw [List.append_nil] at hW'
  refine (walk A0 n0 c0 A1 n1 c1 A2 n2 c2 T ds cs gs l0 m0 l1 m1 l2 m2 wT x1 y1 wx1 wy1 W g0 zz0 g1 zz1 g2).mono fun e W' ⟨he, hb⟩ => ?_
  subst he
  exact ⟨_, rfl, post_law rfl hW' hA1 laidOut (by rw [Tryz.params5]; exact of_decide_eq_true (by kernel_rfl)) 4 (by kernel_rfl) Tryz.underlying4 rfl hb⟩

theorem over : Rows.fnExactShiftShowRow.holds Tryz.pinned (OpenSpec.ofChange Rows.fnExactShiftShowSpec) :=
  OpenClaim.holds_of_wide 5 Tryz.f5 rfl rfl rfl rfl rfl rfl rfl ⟨rfl, rfl, rfl, rfl, rfl⟩ rfl rfl rfl rfl rfl (by kernel_rfl) Tryz.func5 (by kernel_rfl)
    (of_decide_eq_true (by kernel_rfl)) (by unfold Func.isWrapper; first | (rw [if_pos (by decide +kernel)]; kernel_rfl) | (rw [if_neg (by decide +kernel)]; exact ⟨rfl, rfl⟩))
    (fun os started H enc _ => lifted os started H enc)

/-- The statement. -/
theorem proved : Rows.FnExactShiftShowSaid :=
  over
#print axioms proved
end Go.Proofs.YtejeikfgmiadhaaGreat.fnExactShiftShow
