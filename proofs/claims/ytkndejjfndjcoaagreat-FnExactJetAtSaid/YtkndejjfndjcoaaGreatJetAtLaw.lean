/- The law FnExactJetAt holds at every input. The step from the walk to the row follows the guide's own template. -/
import Derived.Test.YtkndejjfndjcoaaGreatM1
import Derived.Test.YtkndejjfndjcoaaGreatM8
import Derived.Test.YtkndejjfndjcoaaGreatM9
import Derived.Test.YtkndejjfndjcoaaGreatJb9
import Derived.Test.YtkndejjfndjcoaaGreatJc9
import Derived.Test.YtkndejjfndjcoaaGreatTs9
import Derived.Deep.RegionHeld3
namespace Go.Proofs.YtkndejjfndjcoaaGreat.fnExactJetAt
open Go.ChangeShapes Go.WideShapes Go.ChangeAt Go.RowKit Go.WideMaps Go.WideElems Go.Proofs.YtkndejjfndjcoaaGreat.Mem
open Go.ChangeMaps (open_string shut_string)
set_option linter.unusedVariables false
set_option linter.unusedSimpArgs false

theorem own : ownKnob Tryz.prog.godebug = none := by kernel_rfl
theorem laidOut : laidOutB Tryz.prog = true := by kernel_rfl

open Go.Proofs.YtkndejjfndjcoaaGreat.P2 Go.Proofs.YtkndejjfndjcoaaGreat.Bk Go.Proofs.YtkndejjfndjcoaaGreat.Sp Go.Proofs.YtkndejjfndjcoaaGreat.Sq Go.Proofs.YtkndejjfndjcoaaGreat.St9 Go.Proofs.YtkndejjfndjcoaaGreat.Ja9 Go.Proofs.YtkndejjfndjcoaaGreat.Jb9 Go.Proofs.YtkndejjfndjcoaaGreat.Jc9
open Go.Proofs.YtkndejjfndjcoaaGreat.Rw (owns_below owns_grown owns_base)

set_option maxRecDepth 100000 in
set_option maxHeartbeats 8000000 in
theorem walk (A0 : Option Addr) (n0 c0 : Nat) (A1 : Option Addr) (n1 c1 : Nat) (A2 : Option Addr) (n2 c2 : Nat) (T : Int) (ds : List D) (cs : List C) (gs : List G) (hn0 : ds.length = n0) (hm0 : n0 ≤ maxLen) (hn1 : cs.length = n1) (hm1 : n1 ≤ maxLen) (hn2 : gs.length = n2) (hm2 : n2 ≤ maxLen) (wT : (Lit.int .i64 T).wf = true) (s1 : ByteArray) (ws1 : s1.size ≤ maxLen) (i2 : Int) (wi2 : (Lit.int .i64 i2).wf = true) (w : World) (hr0 : Rd w w.heap.size A0 (Dd.dls ds)) (h0 : ∀ z ∈ ds, Dd.Dok z) (hr1 : Rd w w.heap.size A1 (Cd.dls cs)) (h1 : ∀ z ∈ cs, Cd.Dok z) (hr2 : Rd w w.heap.size A2 (Gs.gls gs)) :
    Calls Tryz.prog 6 #[sv A0 n0 c0 A1 n1 c1 A2 n2 c2 T, .string s1, .int .i64 i2] w fun e w' => e = .returned (.bool true) ∧ Below w.heap.size w w' := by
  unfold maxLen at ws1
  by_cases hs1 : 1048576 < s1.size
  · go_enter Tryz.func6, Tryz.ntmps6
    go_wp2
    all_goals go_returns
    all_goals exact ⟨rfl, by go_grown⟩
  have hs1' : s1.size ≤ 1048576 := by omega
  have hz0 : (w.alloc (.cells (sc A0 n0 c0 A1 n1 c1 A2 n2 c2 T) 26)).heap.size = w.heap.size + 1 := by simp [go_sem]
  have B0 := (Below.refl w.heap.size w).alloc (Nat.le_refl _) (.cells (sc A0 n0 c0 A1 n1 c1 A2 n2 c2 T) 26)
  have K0 := Lib.hid (Bk.new w (sc A0 n0 c0 A1 n1 c1 A2 n2 c2 T) 26)
  have SZ := Lib.hid (szShow A0 n0 c0 A1 n1 c1 A2 n2 c2 T ds cs gs (w.alloc (.cells (sc A0 n0 c0 A1 n1 c1 A2 n2 c2 T) 26)) hn0 hm0 hn1 hm1 hm2 (SR.below (show SR w A0 A1 A2 ds cs gs from ⟨hr0, hr1, hr2⟩) B0) h0 h1)
  obtain ⟨R, hR⟩ : ∃ R, szA n0 ds n1 cs n2 = R := ⟨_, rfl⟩
  by_cases hz : R < 0
  · rw [hR] at SZ
    have BB := Lib.hid B0
    clear hn0 hm0 hn1 hm1 hn2 hm2 hr0 hr1 hr2 h0 h1 hR B0
    go_enter Tryz.func6, Tryz.ntmps6
    go_wp2_with fail
    refine SZ.out.mono ?_
    rintro e w1 ⟨rfl, hb⟩
    have B2 := BB.out.trans (hb.mono BB.out.size)
    clear hb SZ BB
    go_wp2_with fail
    go_returns
    exact ⟨rfl, B2⟩
  have hfit := sz_fit (n0 := n0) (ds := ds) (n1 := n1) (cs := cs) (n2 := n2) (by rw [hR]; exact hz)
  rw [hR] at SZ
  clear hR
  have hsz : ∀ z ∈ ds, z.nm.size ≤ 1048576 ∧ z.ln.size ≤ 1048576 := fun z hm => by
    obtain ⟨k, hk, rfl⟩ := List.getElem_of_mem hm
    have h1 := Dl.bulk_take (List.getElem?_eq_getElem hk)
    have h2 := Dl.bulk_le ds (k + 1)
    omega
  have hsc : ∀ z ∈ cs, z.nm.size ≤ 1048576 := fun z hm => by
    obtain ⟨k, hk, rfl⟩ := List.getElem_of_mem hm
    have h1 := Cl.bulk_take (List.getElem?_eq_getElem hk)
    have h2 := Cl.bulk_le cs (k + 1)
    omega
  have HF := Lib.hid (show Fit n0 n1 n2 ds cs gs from ⟨⟨hn0, by omega⟩, ⟨hn1, by omega⟩, hn2, by omega⟩)
  have HS := Lib.hid (show SR w A0 A1 A2 ds cs gs from ⟨hr0, hr1, hr2⟩)
  obtain ⟨R9, hR9⟩ : ∃ R9, jaV ds cs gs T s1 i2 = R9 := ⟨_, rfl⟩
  obtain ⟨ax, ay, ah, at9, al, rb, hjv⟩ : ∃ ax ay ah at9 al rb, jvO R9 = .tuple #[Jt.jv ax ay ah at9 al, .bool rb] := by
    cases R9 with
    | none => exact ⟨0, 0, 0, 0, 0, false, rfl⟩
    | some p => exact ⟨p.1.x, p.1.y, p.1.hd, p.1.tl, p.2, true, rfl⟩
  have CS := Lib.hid (show ∀ (g0 g1 g2 : Nat) (W : World) (h : SR W (some ⟨g0, 0, none⟩) (some ⟨g1, 0, none⟩) (some ⟨g2, 0, none⟩) ds cs gs), Calls Tryz.prog 23 #[sv (some ⟨g0, 0, none⟩) n0 n0 (some ⟨g1, 0, none⟩) n1 n1 (some ⟨g2, 0, none⟩) n2 n2 T, .string s1, .int .i64 i2] W (fun e w' => e = .returned (.tuple #[Jt.jv ax ay ah at9 al, .bool rb]) ∧ Below W.heap.size W w') from fun g0 g1 g2 W h => by have := jetAtS _ n0 n0 _ n1 n1 _ n2 n2 T ds cs gs s1 i2 W HF.out h hsz hsc wi2; rw [hR9, hjv] at this; exact this)
  have CI := Lib.hid (show ∀ (g0 g1 g2 : Nat) (W : World) (h : SR W (some ⟨g0, 0, none⟩) (some ⟨g1, 0, none⟩) (some ⟨g2, 0, none⟩) ds cs gs), Calls Tryz.prog 24 #[sv (some ⟨g0, 0, none⟩) n0 n0 (some ⟨g1, 0, none⟩) n1 n1 (some ⟨g2, 0, none⟩) n2 n2 T, .string s1, .int .i64 i2] W (fun e w' => e = .returned (.tuple #[Jt.jv ax ay ah at9 al, .bool rb]) ∧ Below W.heap.size W w') from fun g0 g1 g2 W h => by have := jetAtI _ n0 n0 _ n1 n1 _ n2 n2 T ds cs gs s1 i2 W HF.out h wi2; rw [hR9, hjv] at this; exact this)
  have TO := Lib.hid (fun (W : World) (h : SR W A0 A1 A2 ds cs gs) => toShow A0 n0 c0 A1 n1 c1 A2 n2 c2 T ds cs gs W HF.out h)
  have EQW := Lib.hid (fun (g0 g1 g2 k0 k1 k2 : Nat) (W : World) (h : SR W (some ⟨g0, 0, none⟩) (some ⟨g1, 0, none⟩) (some ⟨g2, 0, none⟩) ds cs gs) (k : SR W (some ⟨k0, 0, none⟩) (some ⟨k1, 0, none⟩) (some ⟨k2, 0, none⟩) ds cs gs) => eqShow (some ⟨g0, 0, none⟩) n0 n0 (some ⟨g1, 0, none⟩) n1 n1 (some ⟨g2, 0, none⟩) n2 n2 T (some ⟨k0, 0, none⟩) n0 (some ⟨k1, 0, none⟩) n1 (some ⟨k2, 0, none⟩) n2 ds cs gs W HF.out h k)
  have EJ := Lib.hid (fun (W : World) => Ts9.eqJet ax ay ah at9 al W)
  have BB := Lib.hid B0
  have hu : undef = Value.tuple #[] := rfl
  clear hn0 hm0 hn1 hm1 hn2 hm2 hr0 hr1 hr2 h0 h1 B0 hfit hsz hsc wT ws1 wi2 hR9 hjv
  cases rb
  all_goals
    go_enter Tryz.func6, Tryz.ntmps6
    have b0 := K0.out.cell (i := 0) rfl
    have b1 := K0.out.cell (i := 1) rfl
    have b2 := K0.out.cell (i := 2) rfl
    have b3 := K0.out.cell (i := 3) rfl
    go_wp2_with fail
    clear b0 b1 b2 b3
    refine (SZ.out).mono ?_
    rintro e u1 ⟨rfl, hb⟩
    have K1 := Lib.hid (K0.out.below hb)
    have B2 := Lib.hid (BB.out.trans (hb.mono BB.out.size))
    clear hb K0 BB
    have K0 := K1
    clear K1
    have BB := B2
    clear B2
    have b0 := K0.out.cell (i := 0) rfl
    have b1 := K0.out.cell (i := 1) rfl
    have b2 := K0.out.cell (i := 2) rfl
    have b3 := K0.out.cell (i := 3) rfl
    clear SZ
    go_wp2_with fail
    clear b0 b1 b2 b3
    refine (TO.out _ (HS.out.below BB.out)).mono ?_
    rintro e u2 ⟨p0, p1, p2, rfl, o0, o1, o2, _, _, hb⟩
    have RS := Lib.hid (SR.own o0 o1 o2)
    clear o0 o1 o2
    have K1 := Lib.hid (K0.out.below hb)
    have B2 := Lib.hid (BB.out.trans (hb.mono BB.out.size))
    clear hb K0 BB
    have K0 := K1
    clear K1
    have BB := B2
    clear B2
    have b0 := K0.out.cell (i := 0) rfl
    have b1 := K0.out.cell (i := 1) rfl
    have b2 := K0.out.cell (i := 2) rfl
    have b3 := K0.out.cell (i := 3) rfl
    go_wp2_with fail
    clear b0 b1 b2 b3
    refine (CS.out _ _ _ _ RS.out).mono ?_
    rintro e u3 ⟨rfl, hb⟩
    clear RS
    have K1 := Lib.hid (K0.out.below hb)
    have B2 := Lib.hid (BB.out.trans (hb.mono BB.out.size))
    clear hb K0 BB
    have K0 := K1
    clear K1
    have BB := B2
    clear B2
    have b0 := K0.out.cell (i := 0) rfl
    have b1 := K0.out.cell (i := 1) rfl
    have b2 := K0.out.cell (i := 2) rfl
    have b3 := K0.out.cell (i := 3) rfl
    have hb := (Below.refl u3.heap.size u3).alloc (Nat.le_refl _) (.cells #[.int .i64 ax, .int .i64 ay, .int .i64 ah, .int .i64 at9, .int .i64 al] 50)
    have KAn := Lib.hid (Bk.new u3 #[.int .i64 ax, .int .i64 ay, .int .i64 ah, .int .i64 at9, .int .i64 al] 50)
    have hlKA : w.heap.size < u3.heap.size := K0.out.lt
    clear b0 b1 b2 b3
    have K1 := Lib.hid (K0.out.below hb)
    have B2 := Lib.hid (BB.out.trans (hb.mono BB.out.size))
    clear hb K0 BB
    have K0 := K1
    clear K1
    have BB := B2
    clear B2
    have KA := KAn
    clear KAn
    have b0 := K0.out.cell (i := 0) rfl
    have b1 := K0.out.cell (i := 1) rfl
    have b2 := K0.out.cell (i := 2) rfl
    have b3 := K0.out.cell (i := 3) rfl
    go_wp2_with fail
    clear b0 b1 b2 b3
    refine (TO.out _ (HS.out.below BB.out)).mono ?_
    rintro e u4 ⟨gx0, gx1, gx2, rfl, o0, o1, o2, l01, l12, hb⟩
    have RX := Lib.hid (SR.own o0 o1 o2)
    clear o0 o1 o2
    have KA1 := Lib.hid (KA.out.below hb)
    have K1 := Lib.hid (K0.out.below hb)
    have B2 := Lib.hid (BB.out.trans (hb.mono BB.out.size))
    clear hb K0 BB
    have K0 := K1
    clear K1
    have BB := B2
    clear B2
    clear KA
    have KA := KA1
    clear KA1
    have b0 := K0.out.cell (i := 0) rfl
    have b1 := K0.out.cell (i := 1) rfl
    have b2 := K0.out.cell (i := 2) rfl
    have b3 := K0.out.cell (i := 3) rfl
    have hb := (Below.refl u4.heap.size u4).alloc (Nat.le_refl _) (.cells (#[.slice (some ⟨gx0, 0, none⟩) n0 n0, .slice (some ⟨gx1, 0, none⟩) n1 n1, .slice (some ⟨gx2, 0, none⟩) n2 n2, .int .i64 T]) 34)
    have KXn := Lib.hid (Bk.new u4 (#[.slice (some ⟨gx0, 0, none⟩) n0 n0, .slice (some ⟨gx1, 0, none⟩) n1 n1, .slice (some ⟨gx2, 0, none⟩) n2 n2, .int .i64 T]) 34)
    have hlt : w.heap.size < u4.heap.size := K0.out.lt
    have RX2 := Lib.hid (RX.out.below hb)
    clear RX
    have RX := RX2
    clear RX2
    clear b0 b1 b2 b3
    have KA1 := Lib.hid (KA.out.below hb)
    have K1 := Lib.hid (K0.out.below hb)
    have B2 := Lib.hid (BB.out.trans (hb.mono BB.out.size))
    clear hb K0 BB
    have K0 := K1
    clear K1
    have BB := B2
    clear B2
    clear KA
    have KA := KA1
    clear KA1
    have KX := KXn
    clear KXn
    go_wp2_with fail
    refine (CI.out _ _ _ _ RX.out).mono ?_
    rintro e u5 ⟨rfl, hb⟩
    have RX2 := Lib.hid (RX.out.below hb)
    clear RX CI CS
    have RX := RX2
    clear RX2
    have KA1 := Lib.hid (KA.out.below hb)
    have K1 := Lib.hid (K0.out.below hb)
    have KX1 := Lib.hid (KX.out.below hb)
    have B2 := Lib.hid (BB.out.trans (hb.mono BB.out.size))
    clear hb K0 BB KX
    have K0 := K1
    clear K1
    have BB := B2
    clear B2
    have KX := KX1
    clear KX1
    clear KA
    have KA := KA1
    clear KA1
    have b0 := K0.out.cell (i := 0) rfl
    have b1 := K0.out.cell (i := 1) rfl
    have b2 := K0.out.cell (i := 2) rfl
    have b3 := K0.out.cell (i := 3) rfl
    clear b0 b1 b2 b3
    have b0 := K0.out.cell (i := 0) rfl
    have b1 := K0.out.cell (i := 1) rfl
    have b2 := K0.out.cell (i := 2) rfl
    have b3 := K0.out.cell (i := 3) rfl
    have hb := (Below.refl u5.heap.size u5).alloc (Nat.le_refl _) (.cells #[.int .i64 ax, .int .i64 ay, .int .i64 ah, .int .i64 at9, .int .i64 al] 50)
    have KBn := Lib.hid (Bk.new u5 #[.int .i64 ax, .int .i64 ay, .int .i64 ah, .int .i64 at9, .int .i64 al] 50)
    have hlKB : w.heap.size < u5.heap.size := K0.out.lt
    have hkKB : u4.heap.size < u5.heap.size := KX.out.lt
    have haKB : u3.heap.size < u5.heap.size := KA.out.lt
    have RX2 := Lib.hid (RX.out.below hb)
    clear RX
    have RX := RX2
    clear RX2
    clear b0 b1 b2 b3
    have KA1 := Lib.hid (KA.out.below hb)
    have K1 := Lib.hid (K0.out.below hb)
    have KX1 := Lib.hid (KX.out.below hb)
    have B2 := Lib.hid (BB.out.trans (hb.mono BB.out.size))
    clear hb K0 BB KX
    have K0 := K1
    clear K1
    have BB := B2
    clear B2
    have KX := KX1
    clear KX1
    clear KA
    have KA := KA1
    clear KA1
    have KB := KBn
    clear KBn
    have b0 := K0.out.cell (i := 0) rfl
    have b1 := K0.out.cell (i := 1) rfl
    have b2 := K0.out.cell (i := 2) rfl
    have b3 := K0.out.cell (i := 3) rfl
    have k0 := KX.out.cell (i := 0) rfl
    have k1 := KX.out.cell (i := 1) rfl
    have k2 := KX.out.cell (i := 2) rfl
    have k3 := KX.out.cell (i := 3) rfl
    have a0 := KA.out.cell (i := 0) rfl
    have a1 := KA.out.cell (i := 1) rfl
    have a2 := KA.out.cell (i := 2) rfl
    have a3 := KA.out.cell (i := 3) rfl
    have a4 := KA.out.cell (i := 4) rfl
    go_wp2_with fail
    clear b0 b1 b2 b3
    clear k0 k1 k2 k3
    clear a0 a1 a2 a3 a4
    refine (EJ.out _).mono ?_
    rintro e u6 ⟨rfl, hb⟩
    have RX2 := Lib.hid (RX.out.below hb)
    clear RX
    have RX := RX2
    clear RX2
    have KA1 := Lib.hid (KA.out.below hb)
    have KB1 := Lib.hid (KB.out.below hb)
    have K1 := Lib.hid (K0.out.below hb)
    have KX1 := Lib.hid (KX.out.below hb)
    have B2 := Lib.hid (BB.out.trans (hb.mono BB.out.size))
    clear hb K0 BB KX
    have K0 := K1
    clear K1
    have BB := B2
    clear B2
    have KX := KX1
    clear KX1
    clear KA
    have KA := KA1
    clear KA1
    clear KB
    have KB := KB1
    clear KB1
    have b0 := K0.out.cell (i := 0) rfl
    have b1 := K0.out.cell (i := 1) rfl
    have b2 := K0.out.cell (i := 2) rfl
    have b3 := K0.out.cell (i := 3) rfl
    have k0 := KX.out.cell (i := 0) rfl
    have k1 := KX.out.cell (i := 1) rfl
    have k2 := KX.out.cell (i := 2) rfl
    have k3 := KX.out.cell (i := 3) rfl
    go_wp2_with fail
    refine wp_region_noPanic ?_
    refine wp_region_held_drew (S := (fun w' => w'.cell? ⟨w.heap.size, 0, none⟩ = some (.slice A0 n0 c0) ∧ w'.cell? ⟨w.heap.size, 1, none⟩ = some (.slice A1 n1 c1) ∧ w'.cell? ⟨w.heap.size, 2, none⟩ = some (.slice A2 n2 c2) ∧ w'.cell? ⟨w.heap.size, 3, none⟩ = some (.int .i64 T) ∧ w'.cell? ⟨u4.heap.size, 0, none⟩ = some (.slice (some ⟨gx0, 0, none⟩) n0 n0) ∧ w'.cell? ⟨u4.heap.size, 1, none⟩ = some (.slice (some ⟨gx1, 0, none⟩) n1 n1) ∧ w'.cell? ⟨u4.heap.size, 2, none⟩ = some (.slice (some ⟨gx2, 0, none⟩) n2 n2) ∧ w'.cell? ⟨u4.heap.size, 3, none⟩ = some (.int .i64 T) ∧ Below u6.heap.size u6 w')) (by kernel_rfl) ?_ (fun hH => ?_)
    · exact ⟨b0, b1, b2, b3, k0, k1, k2, k3, (Below.refl _ _).drew⟩
    refine wpAnyH_take (i := 0) (oi := { dst := some 47, op := _, type := _, pos := _, after := _, guard := _ }) (v := ?_) rfl (by kernel_rfl) (by kernel_rfl) (by kernel_rfl) (fun _ _ _ h => h) (Or.inl ⟨by rfl, ?_⟩) hH ?_
    rotate_left 1
    · intro W hSw
      (try dsimp only at hSw)
      go_simp
      (try with_reducible rfl)
    try simp only [Act.put, List.setIfInBounds_toArray, List.set_cons_zero, List.set_cons_succ]
    refine wpAnyH_take (i := 1) (oi := { dst := some 48, op := _, type := _, pos := _, after := _, guard := _ }) (v := ?_) rfl (by kernel_rfl) (by kernel_rfl) (by kernel_rfl) (fun _ _ _ h => h) (Or.inl ⟨by rfl, ?_⟩) hH ?_
    rotate_left 1
    · intro W hSw
      (try dsimp only at hSw)
      go_simp
      (try with_reducible rfl)
    try simp only [Act.put, List.setIfInBounds_toArray, List.set_cons_zero, List.set_cons_succ]
    refine wpAnyH_ready (rs := [2]) (by kernel_rfl) (by simp) (AllReadyH.cons rfl (fun K hK => ?_) AllReadyH.nil)
    go_simp
    go_at_call 10; ((with_reducible refine (TO.out _ (HS.out.below (BB.out.trans (hH.2.2.2.2.2.2.2.2.mono BB.out.size)))).mono ?_); rintro e r1 ⟨y0, y1, y2, rfl, oa, ob, oc, _, _, hb1⟩); go_wp2_with fail
    refine hK.out _ _ ?_ (fun hG => ?_)
    · exact ⟨cell_below hb1 hH.1, cell_below hb1 hH.2.1, cell_below hb1 hH.2.2.1, cell_below hb1 hH.2.2.2.1, cell_below hb1 hH.2.2.2.2.1, cell_below hb1 hH.2.2.2.2.2.1, cell_below hb1 hH.2.2.2.2.2.2.1, cell_below hb1 hH.2.2.2.2.2.2.2.1, hH.2.2.2.2.2.2.2.2.trans (hb1.mono hH.2.2.2.2.2.2.2.2.size)⟩
    replace hH := hG
    clear hK K hG
    try simp only [Act.put, List.setIfInBounds_toArray, List.set_cons_zero, List.set_cons_succ]
    refine wpAnyH_ready (rs := [3]) (by kernel_rfl) (by simp) (AllReadyH.cons rfl (fun K hK => ?_) AllReadyH.nil)
    go_simp
    go_at_call 13; ((with_reducible refine (EQW.out _ _ _ _ _ _ _ (RX.out.below hH.2.2.2.2.2.2.2.2) (SR.own oa ob oc)).mono ?_); rintro e r2 ⟨rfl, hb2⟩); go_wp2_with fail
    refine hK.out _ _ ?_ (fun hG => ?_)
    · exact ⟨cell_below hb2 hH.1, cell_below hb2 hH.2.1, cell_below hb2 hH.2.2.1, cell_below hb2 hH.2.2.2.1, cell_below hb2 hH.2.2.2.2.1, cell_below hb2 hH.2.2.2.2.2.1, cell_below hb2 hH.2.2.2.2.2.2.1, cell_below hb2 hH.2.2.2.2.2.2.2.1, hH.2.2.2.2.2.2.2.2.trans (hb2.mono hH.2.2.2.2.2.2.2.2.size)⟩
    replace hH := hG
    clear hK K hG
    try simp only [Act.put, List.setIfInBounds_toArray, List.set_cons_zero, List.set_cons_succ]
    refine wpAnyH_take (i := 4) (oi := { dst := some 51, op := _, type := _, pos := _, after := _, guard := _ }) (v := ?_) rfl (by kernel_rfl) (by kernel_rfl) (by kernel_rfl) (fun _ _ _ h => h) (Or.inl ⟨by rfl, ?_⟩) hH ?_
    rotate_left 1
    · intro W hSw
      (try dsimp only at hSw)
      go_simp
      (try with_reducible rfl)
    try simp only [Act.put, List.setIfInBounds_toArray, List.set_cons_zero, List.set_cons_succ]
    refine wpAnyH_done (by kernel_rfl) ?_ _
    refine NoPanic.normal ?_
    have hb := hH.2.2.2.2.2.2.2.2
    clear hH oa ob oc hb1 hb2
    clear b0 b1 b2 b3
    clear k0 k1 k2 k3
    have B2 := Lib.hid (BB.out.trans (hb.mono BB.out.size))
    clear hb BB
    go_wp2_with fail
    go_ret
    exact ⟨rfl, B2.out⟩

set_option maxRecDepth 100000 in
theorem lifted (os : Os) (started : os.Started) (H : Type) (enc : TypeId × Value → H) :
    ReturnsInHanded {} Tryz.checked os 6 .any (Rows.fnExactJetAtSpec.pre6 enc Tryz.prog Tryz.f6 Rows.fnExactJetAtRow.domain false) (Rows.fnExactJetAtSpec.post enc Tryz.prog Tryz.f6 false true false false) := by
  refine returnsInHanded_of_change (C := Tryz.checked) own started (by kernel_rfl) Tryz.func6
    (ChangeSpec.witness6 (enc := enc) (C := Tryz.checked) false ⟨#[], #[.agg #[.slice none 0 0, .slice none 0 0, .slice none 0 0, .int .i64 0], .string ByteArray.empty, .int .i64 0], []⟩ 8 (by kernel_rfl) (by kernel_rfl) (by kernel_rfl) (by kernel_rfl)) ?_
  intro W base args ds gs before hval0 hW hcnd hsz
  have hval : ∀ (j : Nat) t v, Tryz.f6.params[j]? = some t → args[j]? = some v → Value.okWide Tryz.prog W .any base t v := hval0
  have hW' := hW
  obtain ⟨p, q, hA0, hV, rfl, hfz, hnd⟩ := hW
  have hA1 := hA0
  have hA : DataW.TrodAll enc Tryz.prog W 0 (fun _ => true) true Tryz.f6.params.toList args.toList ds p := hA0
  rw [Tryz.params6] at hA hval
  obtain ⟨v0, vs0, d0, ds0, p0, q0, hargs, rfl, rfl, h0, r0⟩ := trodAll_cons hA
  obtain ⟨v1, vs1, d1, ds1, p1, q1, rfl, rfl, rfl, h1, r1⟩ := trodAll_cons r0
  obtain ⟨v2, vs2, d2, ds2, p2, q2, rfl, rfl, rfl, h2, r2⟩ := trodAll_cons r1
  obtain ⟨rfl, rfl, rfl⟩ := trodAll_nil r2
  obtain rfl : args = #[v0, v1, v2] := by cases args; simp_all
  obtain ⟨rfl, rfl⟩ := trodVars_none hV
  obtain ⟨A0, n0, c0, ds, A1, n1, c1, cs, A2, n2, c2, gs, T, rfl, ⟨l0, m0⟩, ⟨l1, m1⟩, ⟨l2, m2⟩, wT, ⟨g0, z0⟩, ⟨g1, z1⟩, g2, _⟩ := Sp.take_show (hval 0 26 v0 rfl rfl) h0
  obtain ⟨a1, rfl, rfl, rfl, w1⟩ := open_string Tryz.underlying9 (hval 1 9 v1 rfl rfl) h1
  obtain ⟨a2, rfl, rfl, rfl, w2⟩ := open_int Tryz.underlying3 (hval 2 3 v2 rfl rfl) h2
  clear hA0 hval0
  rw [List.append_nil] at hW'
  refine (walk A0 n0 c0 A1 n1 c1 A2 n2 c2 T ds cs gs l0 m0 l1 m1 l2 m2 wT a1 w1 a2 w2 W g0 z0 g1 z1 g2).mono fun e W' ⟨he, hb⟩ => ?_
  subst he
  exact ⟨_, rfl, post_law rfl hW' hA1 laidOut (by rw [Tryz.params6]; exact of_decide_eq_true (by kernel_rfl)) 4 (by kernel_rfl) Tryz.underlying4 rfl hb⟩

theorem over : Rows.fnExactJetAtRow.holds Tryz.pinned (OpenSpec.ofChange Rows.fnExactJetAtSpec) :=
  OpenClaim.holds_of_wide 6 Tryz.f6 rfl rfl rfl rfl rfl rfl rfl ⟨rfl, rfl, rfl, rfl, rfl⟩ rfl rfl rfl rfl rfl (by kernel_rfl) Tryz.func6 (by kernel_rfl)
    (of_decide_eq_true (by kernel_rfl)) (by unfold Func.isWrapper; first | (rw [if_pos (by decide +kernel)]; kernel_rfl) | (rw [if_neg (by decide +kernel)]; exact ⟨rfl, rfl⟩))
    (fun os started H enc _ => lifted os started H enc)

/-- The statement. -/
theorem proved : Rows.FnExactJetAtSaid :=
  over
#print axioms proved
end Go.Proofs.YtkndejjfndjcoaaGreat.fnExactJetAt
