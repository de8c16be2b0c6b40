/- The law FnExactWetWind holds at every input. The step from the walk to the row follows the guide's own template. -/
import Derived.Test.YtokncfhpmjohdaaGreatM1
import Derived.Test.YtokncfhpmjohdaaGreatM4
import Derived.Test.YtokncfhpmjohdaaGreatM10
import Derived.Test.YtokncfhpmjohdaaGreatM11
import Derived.Test.YtokncfhpmjohdaaGreatM20
import Derived.Test.YtokncfhpmjohdaaGreatM21
import Derived.Test.YtokncfhpmjohdaaGreatBxb
import Derived.Test.YtokncfhpmjohdaaGreatMp11
import Derived.Test.YtokncfhpmjohdaaGreatM3
import Derived.Test.YtokncfhpmjohdaaGreatIs10
import Derived.Test.YtokncfhpmjohdaaGreatWg11
import Derived.Test.YtokncfhpmjohdaaGreatWw10
import Derived.Deep.RegionHeld3
set_option linter.unusedVariables false
set_option linter.unusedSimpArgs false
namespace Go.Proofs.YtokncfhpmjohdaaGreat.fnExactWetWind
open Go.ChangeShapes Go.WideShapes Go.ChangeAt Go.RowKit Go.WideMaps Go.WideElems Go.Proofs.YtokncfhpmjohdaaGreat.Mem
open Go.ChangeMaps (open_string shut_string)
set_option linter.unusedVariables false
set_option linter.unusedSimpArgs false

theorem own : ownKnob Tryz.prog.godebug = none := by kernel_rfl
theorem laidOut : laidOutB Tryz.prog = true := by kernel_rfl

open Go.Proofs.YtokncfhpmjohdaaGreat.P2 Go.Proofs.YtokncfhpmjohdaaGreat.Bk Go.Proofs.YtokncfhpmjohdaaGreat.Sp Go.Proofs.YtokncfhpmjohdaaGreat.Sq Go.Proofs.YtokncfhpmjohdaaGreat.St9 Go.Proofs.YtokncfhpmjohdaaGreat.Ww10 Go.Proofs.YtokncfhpmjohdaaGreat.Wg11
open Go.Proofs.YtokncfhpmjohdaaGreat.Rw (owns_below owns_grown owns_base)
open Go.Proofs.YtokncfhpmjohdaaGreat.Pls (pls)

theorem sz_top {n0 : Nat} {ds : List D} {n1 : Nat} {cs : List C} {n2 : Nat} {R : Int} (h : szA n0 ds n1 cs n2 = R) : R ≤ 1048576 := by
  subst h
  have a := szV_le n0 ds
  have b := szW_le (Dl.szV n0 ds) n1 cs
  unfold szA
  split
  · omega
  split
  · omega
  split <;> omega
theorem szP_yes (A : Option Addr) (n c : Nat) (L : Int) (hL2 : IntKind.i64.wrap (L - (n : Int)) = L - n) (hL : wrap64 (L - (n : Int)) = L - n) (h : ¬ L - (n : Int) < 0) (w : World) :
    Calls Tryz.prog 8 #[.slice A n c, .int .i64 L] w fun e w' => e = .returned (.int .i64 (L - (n : Int))) ∧ Below w.heap.size w w' := by
  go_enter Tryz.func8, Tryz.ntmps8
  go_wp2
  go_ret
  exact ⟨rfl, Below.refl _ _⟩
theorem szP_no (A : Option Addr) (n c : Nat) (L : Int) (hL2 : IntKind.i64.wrap (L - (n : Int)) = L - n) (hL : wrap64 (L - (n : Int)) = L - n) (h : L - (n : Int) < 0) (w : World) :
    Calls Tryz.prog 8 #[.slice A n c, .int .i64 L] w fun e w' => e = .returned (.int .i64 (-1)) ∧ Below w.heap.size w w' := by
  go_enter Tryz.func8, Tryz.ntmps8
  go_wp2
  go_ret
  exact ⟨rfl, Below.refl _ _⟩

theorem wwL_len (ps : List (Int × Int)) (o : Option Nat) : (wwL ps o).length ≤ 65 := by
  cases o with
  | none => simp [wwL]
  | some k => exact Wg.lat_len _ _

set_option maxRecDepth 100000 in
set_option maxHeartbeats 8000000 in
theorem walk (A0 : Option Addr) (n0 c0 : Nat) (A1 : Option Addr) (n1 c1 : Nat) (A2 : Option Addr) (n2 c2 : Nat) (T : Int) (ds : List D) (cs : List C) (gs : List G) (hn0 : ds.length = n0) (hm0 : n0 ≤ maxLen) (hn1 : cs.length = n1) (hm1 : n1 ≤ maxLen) (hn2 : gs.length = n2) (hm2 : n2 ≤ maxLen) (wT : (Lit.int .i64 T).wf = true) (A9 : Option Addr) (n9 c9 : Nat) (ps : List (Int × Int)) (hn9 : ps.length = n9) (hm9 : n9 ≤ maxLen) (x2 y2 z2 u2 : Int) (wx2 : (Lit.int .i64 x2).wf = true) (wy2 : (Lit.int .i64 y2).wf = true) (wz2 : (Lit.int .i64 z2).wf = true) (wu2 : (Lit.int .i64 u2).wf = true) (w : World) (hr0 : Rd w w.heap.size A0 (Dd.dls ds)) (h0 : ∀ z ∈ ds, Dd.Dok z) (hr1 : Rd w w.heap.size A1 (Cd.dls cs)) (h1 : ∀ z ∈ cs, Cd.Dok z) (hr2 : Rd w w.heap.size A2 (Gs.gls gs)) (hr9 : Rd w w.heap.size A9 (pls ps)) (hw9 : ∀ z ∈ ps, (Lit.int .i64 z.1).wf = true ∧ (Lit.int .i64 z.2).wf = true) :
    Calls Tryz.prog 3 #[sv A0 n0 c0 A1 n1 c1 A2 n2 c2 T, .slice A9 n9 c9, .agg #[.int .i64 x2, .int .i64 y2, .int .i64 z2, .int .i64 u2]] w fun e w' => e = .returned (.bool true) ∧ Below w.heap.size w w' := by
  unfold maxLen at hm9
  clear hw9 wx2 wy2 wz2 wu2
  have hz0 : (w.alloc (.cells (sc A0 n0 c0 A1 n1 c1 A2 n2 c2 T) 26)).heap.size = w.heap.size + 1 := by simp [go_sem]
  have B0_0 := (Below.refl w.heap.size w).alloc (Nat.le_refl _) (.cells (sc A0 n0 c0 A1 n1 c1 A2 n2 c2 T) 26)
  have B0 := B0_0.alloc B0_0.size (.cells #[.int .i64 x2, .int .i64 y2, .int .i64 z2, .int .i64 u2] 31)
  have K0 := Lib.hid ((Bk.new w (sc A0 n0 c0 A1 n1 c1 A2 n2 c2 T) 26).alloc (o := (.cells #[.int .i64 x2, .int .i64 y2, .int .i64 z2, .int .i64 u2] 31)))
  have KE := Bk.new (w.alloc (.cells (sc A0 n0 c0 A1 n1 c1 A2 n2 c2 T) 26)) #[.int .i64 x2, .int .i64 y2, .int .i64 z2, .int .i64 u2] 31
  rw [hz0] at KE
  have KE := Lib.hid KE
  have SZ := Lib.hid (szShow A0 n0 c0 A1 n1 c1 A2 n2 c2 T ds cs gs ((w.alloc (.cells (sc A0 n0 c0 A1 n1 c1 A2 n2 c2 T) 26)).alloc (.cells #[.int .i64 x2, .int .i64 y2, .int .i64 z2, .int .i64 u2] 31)) hn0 hm0 hn1 hm1 hm2 (SR.below (show SR w A0 A1 A2 ds cs gs from ⟨hr0, hr1, hr2⟩) B0) h0 h1)
  obtain ⟨R, hR⟩ : ∃ R, szA n0 ds n1 cs n2 = R := ⟨_, rfl⟩
  by_cases hz : R < 0
  · rw [hR] at SZ
    have BB := Lib.hid B0
    clear hn0 hm0 hn1 hm1 hn2 hm2 hr0 hr1 hr2 h0 h1 hR B0 B0_0 hn9 hm9 hr9 hz0
    go_enter Tryz.func3, Tryz.ntmps3

    go_wp2_with fail
    refine SZ.out.mono ?_
    rintro e w1 ⟨rfl, hb⟩
    have B2 := BB.out.trans (hb.mono BB.out.size)
    clear hb SZ BB
    go_wp2_with fail
    go_returns
    exact ⟨rfl, B2⟩
  have hfit := sz_fit (n0 := n0) (ds := ds) (n1 := n1) (cs := cs) (n2 := n2) (by rw [hR]; exact hz)
  have hRu : R ≤ 1048576 := sz_top hR
  rw [hR] at SZ
  clear hR
  have hsz : ∀ z ∈ ds, z.nm.size ≤ 1048576 ∧ z.ln.size ≤ 1048576 := fun z hm => by
    obtain ⟨k, hk, rfl⟩ := List.getElem_of_mem hm
    have h1 := Dl.bulk_take (List.getElem?_eq_getElem hk)
    have h2 := Dl.bulk_le ds (k + 1)
    omega
  have hsc : ∀ z ∈ cs, z.nm.size ≤ 1048576 := fun z hm => by
    obtain ⟨k, hk, rfl⟩ := List.getElem_of_mem hm
    have h1 := Cl.bulk_take (List.getElem?_eq_getElem hk)
    have h2 := Cl.bulk_le cs (k + 1)
    omega
  have HF := Lib.hid (show Fit n0 n1 n2 ds cs gs from ⟨⟨hn0, by omega⟩, ⟨hn1, by omega⟩, hn2, by omega⟩)
  have HS := Lib.hid (show SR w A0 A1 A2 ds cs gs from ⟨hr0, hr1, hr2⟩)
  have hL9 : wrap64 (R - (n9 : Int)) = R - n9 := IntWalk.wrap64_in _ (by omega)
  have hL8 : IntKind.i64.wrap (R - (n9 : Int)) = R - n9 := IntWalk.i64_in _ (by omega)
  by_cases hz9 : R - (n9 : Int) < 0
  · have BB := Lib.hid B0
    have SP := Lib.hid (fun (W : World) => szP_no A9 n9 c9 R hL8 hL9 hz9 W)
    clear hn0 hm0 hn1 hm1 hn2 hm2 hr0 hr1 hr2 h0 h1 B0 B0_0 hfit hsz hsc hn9 hm9 hr9 hz0 HF HS hL9 hL8 hRu
    go_enter Tryz.func3, Tryz.ntmps3
    go_wp2_with fail
    refine SZ.out.mono ?_
    rintro e w1 ⟨rfl, hb⟩
    have B2 := Lib.hid (BB.out.trans (hb.mono BB.out.size))
    clear hb SZ BB
    go_wp2_with fail
    refine (SP.out _).mono ?_
    rintro e w2 ⟨rfl, hb⟩
    have B3 := B2.out.trans (hb.mono B2.out.size)
    clear hb SP B2
    go_wp2_with fail
    go_returns
    exact ⟨rfl, B3⟩
  have SP := Lib.hid (fun (W : World) => szP_yes A9 n9 c9 R hL8 hL9 hz9 W)
  have HN9 := Lib.hid (show ps.length = n9 ∧ n9 ≤ 1048576 from ⟨hn9, by omega⟩)
  have HR9 := Lib.hid hr9
  have TO := Lib.hid (fun (W : World) (h : SR W A0 A1 A2 ds cs gs) => toShow A0 n0 c0 A1 n1 c1 A2 n2 c2 T ds cs gs W HF.out h)
  have TB := Lib.hid (fun (W : World) => Bxb.toBox x2 y2 z2 u2 W)
  have EQW := Lib.hid (fun (g0 g1 g2 k0 k1 k2 : Nat) (W : World) (h : SR W (some ⟨g0, 0, none⟩) (some ⟨g1, 0, none⟩) (some ⟨g2, 0, none⟩) ds cs gs) (k : SR W (some ⟨k0, 0, none⟩) (some ⟨k1, 0, none⟩) (some ⟨k2, 0, none⟩) ds cs gs) => eqShow (some ⟨g0, 0, none⟩) n0 n0 (some ⟨g1, 0, none⟩) n1 n1 (some ⟨g2, 0, none⟩) n2 n2 T (some ⟨k0, 0, none⟩) n0 (some ⟨k1, 0, none⟩) n1 (some ⟨k2, 0, none⟩) n2 ds cs gs W HF.out h k)
  obtain ⟨q9, hq9⟩ : ∃ q, wwO ds cs gs T ps x2 y2 z2 u2 = q := ⟨_, rfl⟩
  obtain ⟨zr, hzr⟩ : ∃ z, wwL ps q9 = z := ⟨_, rfl⟩
  obtain ⟨r, hrr⟩ : ∃ r : Bool, q9.isSome = r := ⟨_, rfl⟩
  obtain ⟨m, hm⟩ : ∃ m, zr.length = m := ⟨_, rfl⟩
  have hbm : m ≤ 1048576 := by have := wwL_len ps q9; rw [hzr, hm] at this; omega
  have CS := Lib.hid (show ∀ (g0 g1 g2 g9 : Nat) (W : World) (h : SR W (some ⟨g0, 0, none⟩) (some ⟨g1, 0, none⟩) (some ⟨g2, 0, none⟩) ds cs gs) (h9 : Rd W W.heap.size (some ⟨g9, 0, none⟩) (pls ps)), Calls Tryz.prog 9 #[sv (some ⟨g0, 0, none⟩) n0 n0 (some ⟨g1, 0, none⟩) n1 n1 (some ⟨g2, 0, none⟩) n2 n2 T, .slice (some ⟨g9, 0, none⟩) n9 n9, .agg #[.int .i64 x2, .int .i64 y2, .int .i64 z2, .int .i64 u2]] W (fun e w' => ∃ g c, e = .returned (.tuple #[.slice (some ⟨g, 0, none⟩) m c, .bool r]) ∧ w'.ownsRow W.heap.size 89 3 (.slice (some ⟨g, 0, none⟩) m c) m (Gs.gls zr) ∧ Below W.heap.size W w') from fun g0 g1 g2 g9 W h h9 => by have := wetWindS _ n0 n0 _ n1 n1 _ n2 n2 T ds cs gs _ n9 n9 ps x2 y2 z2 u2 W HF.out h HN9.out.1 HN9.out.2 h9 hsz hsc; rw [hq9, hzr, hrr] at this; unfold RowW at this; rw [hm] at this; exact this)
  have CI := Lib.hid (show ∀ (g0 g1 g2 g9 : Nat) (W : World) (h : SR W (some ⟨g0, 0, none⟩) (some ⟨g1, 0, none⟩) (some ⟨g2, 0, none⟩) ds cs gs) (h9 : Rd W W.heap.size (some ⟨g9, 0, none⟩) (pls ps)), Calls Tryz.prog 13 #[sv (some ⟨g0, 0, none⟩) n0 n0 (some ⟨g1, 0, none⟩) n1 n1 (some ⟨g2, 0, none⟩) n2 n2 T, .slice (some ⟨g9, 0, none⟩) n9 n9, .agg #[.int .i64 x2, .int .i64 y2, .int .i64 z2, .int .i64 u2]] W (fun e w' => ∃ g c, e = .returned (.tuple #[.slice (some ⟨g, 0, none⟩) m c, .bool r]) ∧ w'.ownsRow W.heap.size 89 3 (.slice (some ⟨g, 0, none⟩) m c) m (Gs.gls zr) ∧ Below W.heap.size W w') from fun g0 g1 g2 g9 W h h9 => by have := wetWindI _ n0 n0 _ n1 n1 _ n2 n2 T ds cs gs _ n9 n9 ps x2 y2 z2 u2 W HF.out h HN9.out.1 HN9.out.2 h9; rw [hq9, hzr, hrr] at this; unfold RowW at this; rw [hm] at this; exact this)
  obtain ⟨K9, hK9⟩ : ∃ K : Nat, 1 + n0 * 8 + n1 * 4 + n2 * 3 = K := ⟨_, rfl⟩
  have pK9 : ¬ (K9 : Int) < 0 := by omega
  have MS := Lib.hid (fun (g0 g1 g2 : Nat) (h01 : g0 < g1) (h12 : g1 < g2) (W : World) o0 o1 o2 => (by have := Mk9.markShow w.heap.size n0 n1 n2 g0 g1 g2 n0 n1 n2 T ds cs gs W HF.out (by omega) h01 h12 o0 o1 o2; rw [hK9] at this; exact this : Calls Tryz.prog 17 #[sv (some ⟨g0, 0, none⟩) n0 n0 (some ⟨g1, 0, none⟩) n1 n1 (some ⟨g2, 0, none⟩) n2 n2 T, .int .i64 1] W _))
  obtain ⟨KP, hKP⟩ : ∃ K : Int, (K9 : Int) + ((n9 * 2 : Nat) : Int) = K := ⟨_, rfl⟩
  have pKP : ¬ KP < 0 := by omega
  have MP := Lib.hid (show ∀ (B g c : Nat) (W : World), W.ownsRow B 44 2 (.slice (some ⟨g, 0, none⟩) n9 c) n9 (pls ps) → Calls Tryz.prog 18 #[.slice (some ⟨g, 0, none⟩) n9 c, .int .i64 K9] W (fun e w' => e = .returned (.int .i64 KP) ∧ w'.ownsRow B 44 2 (.slice (some ⟨g, 0, none⟩) n9 c) n9 (Rw.mk K9 (n9 * 2)) ∧ W.grownBy w' (some g)) from fun B g c W h => by have := Mp11.markPlaceS B g n9 c K9 (pls ps) W (by rw [Pls.pls_len, HN9.out.1]) HN9.out.2 (by omega) h; unfold Mp11.Laid at this; rw [hKP] at this; exact this)
  obtain ⟨KR, hKR⟩ : ∃ K : Int, 1 + ((m * 3 : Nat) : Int) = K := ⟨_, rfl⟩
  have pKR : ¬ KR < 0 := by omega
  have MG := Lib.hid (show ∀ (B g c : Nat) (W : World), W.ownsRow B 89 3 (.slice (some ⟨g, 0, none⟩) m c) m (Gs.gls zr) → Calls Tryz.prog 19 #[.slice (some ⟨g, 0, none⟩) m c, .int .i64 1] W (fun e w' => e = .returned (.int .i64 KR) ∧ w'.ownsRow B 89 3 (.slice (some ⟨g, 0, none⟩) m c) m (Rw.mk 1 (m * 3)) ∧ W.grownBy w' (some g)) from fun B g c W h => by have := Gs.markGustS B g m c 1 (Gs.gls zr) W (by rw [Gs.gls_len, hm]) hbm (by omega) h; unfold Gs.Laid at this; rw [show (((1 : Nat) : Int) + ((m * 3 : Nat) : Int)) = KR by omega, show ((1 : Nat) : Int) = 1 by omega] at this; exact this)
  have HG := Lib.hid (show ∀ (A : Option Addr) (c : Nat) (W : World), Rd W W.heap.size A (Rw.mk 1 (m * 3)) → Calls Tryz.prog 20 #[.slice A m c, .int .i64 1] W (fun e w' => e = .returned (.int .i64 KR) ∧ Below W.heap.size W w') from fun A c W h => by have := Gs.heldGustS A m c 1 W.heap.size W hbm (by omega) h; rw [show (((1 : Nat) : Int) + ((m * 3 : Nat) : Int)) = KR by omega, show ((1 : Nat) : Int) = 1 by omega] at this; exact this.mono fun e w9 ⟨h1, h2⟩ => ⟨h1, by rw [← h2]; exact Below.refl _ _⟩)
  have EQ := Lib.hid (show ∀ (A B : Option Addr) (c d : Nat) (W : World), Rd W W.heap.size A (Gs.gls zr) → Rd W W.heap.size B (Gs.gls zr) → Calls Tryz.prog 14 #[.slice A m c, .slice B m d] W (fun e w' => e = .returned (.bool true) ∧ Below W.heap.size W w') from fun A B c d W h k => Gs.eqGustS A B m c d zr _ W hm hbm (Nat.le_refl _) h k)
  have BB := Lib.hid B0
  have hu : undef = Value.tuple #[] := rfl
  clear hn0 hm0 hn1 hm1 hn2 hm2 hr0 hr1 hr2 h0 h1 B0 B0_0 hfit hsz hsc wT hq9 hzr hrr hm hn9 hm9 hr9 hz0 hL9 hL8 hRu hKR hK9 hKP
  cases r
  all_goals
    go_enter Tryz.func3, Tryz.ntmps3
    have fK0_0 := K0.out.cell (i := 0) rfl
    have fK0_1 := K0.out.cell (i := 1) rfl
    have fK0_2 := K0.out.cell (i := 2) rfl
    have fK0_3 := K0.out.cell (i := 3) rfl
    have fKE_0 := KE.out.cell (i := 0) rfl
    have fKE_1 := KE.out.cell (i := 1) rfl
    have fKE_2 := KE.out.cell (i := 2) rfl
    have fKE_3 := KE.out.cell (i := 3) rfl
    go_wp2_with fail
    clear fK0_0 fK0_1 fK0_2 fK0_3 fKE_0 fKE_1 fKE_2 fKE_3
    refine (SZ.out).mono ?_
    rintro e V1 ⟨rfl, hb⟩
    have K01 := Lib.hid (K0.out.below hb)
    have KE1 := Lib.hid (KE.out.below hb)
    have B2 := Lib.hid (BB.out.trans (hb.mono BB.out.size))
    clear hb K0 KE BB
    have K0 := K01
    clear K01
    have KE := KE1
    clear KE1
    have BB := B2
    clear B2
    have fK0_0 := K0.out.cell (i := 0) rfl
    have fK0_1 := K0.out.cell (i := 1) rfl
    have fK0_2 := K0.out.cell (i := 2) rfl
    have fK0_3 := K0.out.cell (i := 3) rfl
    have fKE_0 := KE.out.cell (i := 0) rfl
    have fKE_1 := KE.out.cell (i := 1) rfl
    have fKE_2 := KE.out.cell (i := 2) rfl
    have fKE_3 := KE.out.cell (i := 3) rfl
    clear SZ
    go_wp2_with fail
    clear fK0_0 fK0_1 fK0_2 fK0_3 fKE_0 fKE_1 fKE_2 fKE_3
    refine (SP.out _).mono ?_
    rintro e V2 ⟨rfl, hb⟩
    have K01 := Lib.hid (K0.out.below hb)
    have KE1 := Lib.hid (KE.out.below hb)
    have B2 := Lib.hid (BB.out.trans (hb.mono BB.out.size))
    clear hb K0 KE BB
    have K0 := K01
    clear K01
    have KE := KE1
    clear KE1
    have BB := B2
    clear B2
    have fK0_0 := K0.out.cell (i := 0) rfl
    have fK0_1 := K0.out.cell (i := 1) rfl
    have fK0_2 := K0.out.cell (i := 2) rfl
    have fK0_3 := K0.out.cell (i := 3) rfl
    have fKE_0 := KE.out.cell (i := 0) rfl
    have fKE_1 := KE.out.cell (i := 1) rfl
    have fKE_2 := KE.out.cell (i := 2) rfl
    have fKE_3 := KE.out.cell (i := 3) rfl
    clear SP
    go_wp2_with fail
    refine wp_region_noPanic ?_
    refine wp_region_held_drew (S := (fun w' => w'.cell? ⟨w.heap.size, 0, none⟩ = some (.slice A0 n0 c0) ∧ w'.cell? ⟨w.heap.size, 1, none⟩ = some (.slice A1 n1 c1) ∧ w'.cell? ⟨w.heap.size, 2, none⟩ = some (.slice A2 n2 c2) ∧ w'.cell? ⟨w.heap.size, 3, none⟩ = some (.int .i64 T) ∧ w'.cell? ⟨w.heap.size + 1, 0, none⟩ = some (.int .i64 x2) ∧ w'.cell? ⟨w.heap.size + 1, 1, none⟩ = some (.int .i64 y2) ∧ w'.cell? ⟨w.heap.size + 1, 2, none⟩ = some (.int .i64 z2) ∧ w'.cell? ⟨w.heap.size + 1, 3, none⟩ = some (.int .i64 u2) ∧ Below V2.heap.size V2 w')) (by kernel_rfl) ?_ (fun hH => ?_)
    · exact ⟨fK0_0, fK0_1, fK0_2, fK0_3, fKE_0, fKE_1, fKE_2, fKE_3, (Below.refl _ _).drew⟩
    refine wpAnyH_take (i := 0) (oi := { dst := some 30, op := _, type := _, pos := _, after := _, guard := _ }) (v := ?_) rfl (by kernel_rfl) (by kernel_rfl) (by kernel_rfl) (fun _ _ _ h => h) (Or.inl ⟨by rfl, ?_⟩) hH ?_
    rotate_left 1
    · intro W hSw
      (try dsimp only at hSw)
      go_simp
      (try with_reducible rfl)
    try simp only [Act.put, List.setIfInBounds_toArray, List.set_cons_zero, List.set_cons_succ]
    refine wpAnyH_take (i := 2) (oi := { dst := some 32, op := _, type := _, pos := _, after := _, guard := _ }) (v := ?_) rfl (by kernel_rfl) (by kernel_rfl) (by kernel_rfl) (fun _ _ _ h => h) (Or.inl ⟨by rfl, ?_⟩) hH ?_
    rotate_left 1
    · intro W hSw
      (try dsimp only at hSw)
      go_simp
      (try with_reducible rfl)
    try simp only [Act.put, List.setIfInBounds_toArray, List.set_cons_zero, List.set_cons_succ]
    refine wpAnyH_take (i := 4) (oi := { dst := some 34, op := _, type := _, pos := _, after := _, guard := _ }) (v := ?_) rfl (by kernel_rfl) (by kernel_rfl) (by kernel_rfl) (fun _ _ _ h => h) (Or.inl ⟨by rfl, ?_⟩) hH ?_
    rotate_left 1
    · intro W hSw
      (try dsimp only at hSw)
      go_simp
      (try with_reducible rfl)
    try simp only [Act.put, List.setIfInBounds_toArray, List.set_cons_zero, List.set_cons_succ]
    refine wpAnyH_ready (rs := [1]) (by kernel_rfl) (by simp) (AllReadyH.cons rfl (fun K hK => ?_) AllReadyH.nil)
    go_simp
    go_at_call 10; ((with_reducible refine (TO.out _ (HS.out.below (BB.out.trans (hH.2.2.2.2.2.2.2.2.mono BB.out.size)))).mono ?_); rintro e r8_0 ⟨ya0, yb0, yc0, rfl, oa0, ob0, oc0, _, _, hb0⟩); go_wp2_with fail
    refine hK.out _ _ ?_ (fun hG => ?_)
    · exact ⟨cell_below hb0 hH.1, cell_below hb0 hH.2.1, cell_below hb0 hH.2.2.1, cell_below hb0 hH.2.2.2.1, cell_below hb0 hH.2.2.2.2.1, cell_below hb0 hH.2.2.2.2.2.1, cell_below hb0 hH.2.2.2.2.2.2.1, cell_below hb0 hH.2.2.2.2.2.2.2.1, hH.2.2.2.2.2.2.2.2.trans (hb0.mono hH.2.2.2.2.2.2.2.2.size)⟩
    replace hH := hG
    clear hK K hG
    try simp only [Act.put, List.setIfInBounds_toArray, List.set_cons_zero, List.set_cons_succ]
    refine wpAnyH_ready (rs := [3]) (by kernel_rfl) (by simp) (AllReadyH.cons rfl (fun K hK => ?_) AllReadyH.nil)
    go_simp
    go_at_call 11; ((with_reducible refine (Pls.toPlaceS A9 n9 c9 ps _ HN9.out.1 HN9.out.2 ((HR9.out.below (BB.out.trans (hH.2.2.2.2.2.2.2.2.mono BB.out.size))).more (BB.out.trans (hH.2.2.2.2.2.2.2.2.mono BB.out.size)).size)).mono ?_); rintro e r8_1 ⟨gp1, rfl, _, op1, hb1⟩); go_wp2_with fail
    refine hK.out _ _ ?_ (fun hG => ?_)
    · exact ⟨cell_below hb1 hH.1, cell_below hb1 hH.2.1, cell_below hb1 hH.2.2.1, cell_below hb1 hH.2.2.2.1, cell_below hb1 hH.2.2.2.2.1, cell_below hb1 hH.2.2.2.2.2.1, cell_below hb1 hH.2.2.2.2.2.2.1, cell_below hb1 hH.2.2.2.2.2.2.2.1, hH.2.2.2.2.2.2.2.2.trans (hb1.mono hH.2.2.2.2.2.2.2.2.size)⟩
    replace hH := hG
    clear hK K hG
    try simp only [Act.put, List.setIfInBounds_toArray, List.set_cons_zero, List.set_cons_succ]
    refine wpAnyH_ready (rs := [5]) (by kernel_rfl) (by simp) (AllReadyH.cons rfl (fun K hK => ?_) AllReadyH.nil)
    go_simp
    go_at_call 12; ((with_reducible refine (TB.out _).mono ?_); rintro e r8_2 ⟨rfl, hb2⟩); go_wp2_with fail
    refine hK.out _ _ ?_ (fun hG => ?_)
    · exact ⟨cell_below hb2 hH.1, cell_below hb2 hH.2.1, cell_below hb2 hH.2.2.1, cell_below hb2 hH.2.2.2.1, cell_below hb2 hH.2.2.2.2.1, cell_below hb2 hH.2.2.2.2.2.1, cell_below hb2 hH.2.2.2.2.2.2.1, cell_below hb2 hH.2.2.2.2.2.2.2.1, hH.2.2.2.2.2.2.2.2.trans (hb2.mono hH.2.2.2.2.2.2.2.2.size)⟩
    replace hH := hG
    clear hK K hG
    try simp only [Act.put, List.setIfInBounds_toArray, List.set_cons_zero, List.set_cons_succ]
    refine wpAnyH_ready (rs := [6]) (by kernel_rfl) (by simp) (AllReadyH.cons rfl (fun K hK => ?_) AllReadyH.nil)
    go_simp
    go_at_call 9; ((with_reducible refine (CS.out _ _ _ _ _ (((SR.own oa0 ob0 oc0).below hb1).below hb2) (((Rd.own op1).below hb2).more hb2.size)).mono ?_); rintro e r8_3 ⟨gW0, cW0, rfl, ho, hb3⟩); go_wp2_with fail
    refine hK.out _ _ ?_ (fun hG => ?_)
    · exact ⟨cell_below hb3 hH.1, cell_below hb3 hH.2.1, cell_below hb3 hH.2.2.1, cell_below hb3 hH.2.2.2.1, cell_below hb3 hH.2.2.2.2.1, cell_below hb3 hH.2.2.2.2.2.1, cell_below hb3 hH.2.2.2.2.2.2.1, cell_below hb3 hH.2.2.2.2.2.2.2.1, hH.2.2.2.2.2.2.2.2.trans (hb3.mono hH.2.2.2.2.2.2.2.2.size)⟩
    replace hH := hG
    clear hK K hG
    try simp only [Act.put, List.setIfInBounds_toArray, List.set_cons_zero, List.set_cons_succ]
    refine wpAnyH_take (i := 7) (oi := { dst := some 29, op := _, type := _, pos := _, after := _, guard := _ }) (v := ?_) rfl (by kernel_rfl) (by kernel_rfl) (by kernel_rfl) (fun _ _ _ h => h) (Or.inl ⟨by rfl, ?_⟩) hH ?_
    rotate_left 1
    · intro W hSw
      (try dsimp only at hSw)
      go_simp
      (try with_reducible rfl)
    try simp only [Act.put, List.setIfInBounds_toArray, List.set_cons_zero, List.set_cons_succ]
    refine wpAnyH_take (i := 8) (oi := { dst := some 37, op := _, type := _, pos := _, after := _, guard := _ }) (v := ?_) rfl (by kernel_rfl) (by kernel_rfl) (by kernel_rfl) (fun _ _ _ h => h) (Or.inl ⟨by rfl, ?_⟩) hH ?_
    rotate_left 1
    · intro W hSw
      (try dsimp only at hSw)
      go_simp
      (try with_reducible rfl)
    try simp only [Act.put, List.setIfInBounds_toArray, List.set_cons_zero, List.set_cons_succ]
    refine wpAnyH_take (i := 9) (oi := { dst := some 38, op := _, type := _, pos := _, after := _, guard := _ }) (v := ?_) rfl (by kernel_rfl) (by kernel_rfl) (by kernel_rfl) (fun _ _ _ h => h) (Or.inl ⟨by rfl, ?_⟩) hH ?_
    rotate_left 1
    · intro W hSw
      (try dsimp only at hSw)
      go_simp
      (try with_reducible rfl)
    try simp only [Act.put, List.setIfInBounds_toArray, List.set_cons_zero, List.set_cons_succ]
    refine wpAnyH_take (i := 10) (oi := { dst := some 8, op := _, type := _, pos := _, after := _, guard := _ }) (v := ?_) rfl (by kernel_rfl) (by kernel_rfl) (by kernel_rfl) (fun _ _ _ h => h) (Or.inl ⟨by rfl, ?_⟩) hH ?_
    rotate_left 1
    · intro W hSw
      (try dsimp only at hSw)
      go_simp
      (try with_reducible rfl)
    try simp only [Act.put, List.setIfInBounds_toArray, List.set_cons_zero, List.set_cons_succ]
    refine wpAnyH_take (i := 11) (oi := { dst := some 9, op := _, type := _, pos := _, after := _, guard := _ }) (v := ?_) rfl (by kernel_rfl) (by kernel_rfl) (by kernel_rfl) (fun _ _ _ h => h) (Or.inl ⟨by rfl, ?_⟩) hH ?_
    rotate_left 1
    · intro W hSw
      (try dsimp only at hSw)
      go_simp
      (try with_reducible rfl)
    try simp only [Act.put, List.setIfInBounds_toArray, List.set_cons_zero, List.set_cons_succ]
    refine wpAnyH_done (by kernel_rfl) ?_ _
    refine NoPanic.normal ?_
    have hb := hH.2.2.2.2.2.2.2.2
    have hsz9 := (Nat.le_trans (Nat.le_trans (Nat.le_trans (Nat.le_refl _) hb0.size) hb1.size) hb2.size)
    have hlt9 := KE.out.lt
    have ch_W0 : w.heap.size + 1 < gW0 := Nat.lt_of_lt_of_le (Nat.lt_of_lt_of_le hlt9 hsz9) (own_at ho)
    have XN_W0 := Lib.hid (owns_base ho (by omega : w.heap.size ≤ gW0))
    clear hsz9 hlt9
    clear hH hb0 oa0 ob0 oc0 hb1 op1 hb2 hb3 ho
    clear fK0_0 fK0_1 fK0_2 fK0_3 fKE_0 fKE_1 fKE_2 fKE_3
    have K01 := Lib.hid (K0.out.below hb)
    have KE1 := Lib.hid (KE.out.below hb)
    have B2 := Lib.hid (BB.out.trans (hb.mono BB.out.size))
    clear hb K0 KE BB
    have K0 := K01
    clear K01
    have KE := KE1
    clear KE1
    have BB := B2
    clear B2
    have W0 := XN_W0
    clear XN_W0
    have fK0_0 := K0.out.cell (i := 0) rfl
    have fK0_1 := K0.out.cell (i := 1) rfl
    have fK0_2 := K0.out.cell (i := 2) rfl
    have fK0_3 := K0.out.cell (i := 3) rfl
    have fKE_0 := KE.out.cell (i := 0) rfl
    have fKE_1 := KE.out.cell (i := 1) rfl
    have fKE_2 := KE.out.cell (i := 2) rfl
    have fKE_3 := KE.out.cell (i := 3) rfl
    go_wp2_with fail
    clear fK0_0 fK0_1 fK0_2 fK0_3 fKE_0 fKE_1 fKE_2 fKE_3
    refine (TO.out _ (HS.out.below BB.out)).mono ?_
    rintro e V3 ⟨gv0, gv1, gv2, rfl, o0, o1, o2, l01, l12, hb⟩
    have ch_v0 : gW0 < gv0 := Nat.lt_of_lt_of_le (own_lt W0.out) (own_at o0)
    have ch_v1 := l01
    have ch_v2 := l12
    have XN_v0 := Lib.hid (owns_base o0 (by omega : w.heap.size ≤ gv0))
    have XN_v1 := Lib.hid (owns_base o1 (by omega : w.heap.size ≤ gv1))
    have XN_v2 := Lib.hid (owns_base o2 (by omega : w.heap.size ≤ gv2))
    have hlv := own_lt o2
    clear o0 o1 o2
    have K01 := Lib.hid (K0.out.below hb)
    have KE1 := Lib.hid (KE.out.below hb)
    have B2 := Lib.hid (BB.out.trans (hb.mono BB.out.size))
    have W0n := Lib.hid (owns_below W0.out hb)
    clear hb K0 KE BB
    clear W0
    have K0 := K01
    clear K01
    have KE := KE1
    clear KE1
    have BB := B2
    clear B2
    have W0 := W0n
    clear W0n
    have v0 := XN_v0
    clear XN_v0
    have v1 := XN_v1
    clear XN_v1
    have v2 := XN_v2
    clear XN_v2
    have hb := (Below.refl V3.heap.size V3).alloc (Nat.le_refl _) (.cells (#[.slice (some ⟨gv0, 0, none⟩) n0 n0, .slice (some ⟨gv1, 0, none⟩) n1 n1, .slice (some ⟨gv2, 0, none⟩) n2 n2, .int .i64 T]) 40)
    have KXn := Lib.hid (Bk.new V3 (#[.slice (some ⟨gv0, 0, none⟩) n0 n0, .slice (some ⟨gv1, 0, none⟩) n1 n1, .slice (some ⟨gv2, 0, none⟩) n2 n2, .int .i64 T]) 40)
    have ch_KX : gv2 < V3.heap.size := hlv
    clear hlv
    have K01 := Lib.hid (K0.out.below hb)
    have KE1 := Lib.hid (KE.out.below hb)
    have B2 := Lib.hid (BB.out.trans (hb.mono BB.out.size))
    have W0n := Lib.hid (owns_below W0.out hb)
    have v0n := Lib.hid (owns_below v0.out hb)
    have v1n := Lib.hid (owns_below v1.out hb)
    have v2n := Lib.hid (owns_below v2.out hb)
    clear hb K0 KE BB
    clear W0 v0 v1 v2
    have K0 := K01
    clear K01
    have KE := KE1
    clear KE1
    have BB := B2
    clear B2
    have W0 := W0n
    clear W0n
    have v0 := v0n
    clear v0n
    have v1 := v1n
    clear v1n
    have v2 := v2n
    clear v2n
    have KX := KXn
    clear KXn
    have fK0_0 := K0.out.cell (i := 0) rfl
    have fK0_1 := K0.out.cell (i := 1) rfl
    have fK0_2 := K0.out.cell (i := 2) rfl
    have fK0_3 := K0.out.cell (i := 3) rfl
    have fKE_0 := KE.out.cell (i := 0) rfl
    have fKE_1 := KE.out.cell (i := 1) rfl
    have fKE_2 := KE.out.cell (i := 2) rfl
    have fKE_3 := KE.out.cell (i := 3) rfl
    have fKX_0 := KX.out.cell (i := 0) rfl
    have fKX_1 := KX.out.cell (i := 1) rfl
    have fKX_2 := KX.out.cell (i := 2) rfl
    have fKX_3 := KX.out.cell (i := 3) rfl
    go_wp2_with fail
    clear fK0_0 fK0_1 fK0_2 fK0_3 fKE_0 fKE_1 fKE_2 fKE_3 fKX_0 fKX_1 fKX_2 fKX_3
    refine (Pls.toPlaceS A9 n9 c9 ps _ HN9.out.1 HN9.out.2 ((HR9.out.below BB.out).more BB.out.size)).mono ?_
    rintro e V4 ⟨gx, rfl, _, ho, hb⟩
    have ch_x : V3.heap.size < gx := Nat.lt_of_lt_of_le KX.out.lt (own_at ho)
    have XN_x := Lib.hid (owns_base ho (by omega : w.heap.size ≤ gx))
    clear ho
    have K01 := Lib.hid (K0.out.below hb)
    have KE1 := Lib.hid (KE.out.below hb)
    have KX1 := Lib.hid (KX.out.below hb)
    have B2 := Lib.hid (BB.out.trans (hb.mono BB.out.size))
    have W0n := Lib.hid (owns_below W0.out hb)
    have v0n := Lib.hid (owns_below v0.out hb)
    have v1n := Lib.hid (owns_below v1.out hb)
    have v2n := Lib.hid (owns_below v2.out hb)
    clear hb K0 KE KX BB
    clear W0 v0 v1 v2
    have K0 := K01
    clear K01
    have KE := KE1
    clear KE1
    have KX := KX1
    clear KX1
    have BB := B2
    clear B2
    have W0 := W0n
    clear W0n
    have v0 := v0n
    clear v0n
    have v1 := v1n
    clear v1n
    have v2 := v2n
    clear v2n
    have x := XN_x
    clear XN_x
    have fK0_0 := K0.out.cell (i := 0) rfl
    have fK0_1 := K0.out.cell (i := 1) rfl
    have fK0_2 := K0.out.cell (i := 2) rfl
    have fK0_3 := K0.out.cell (i := 3) rfl
    have fKE_0 := KE.out.cell (i := 0) rfl
    have fKE_1 := KE.out.cell (i := 1) rfl
    have fKE_2 := KE.out.cell (i := 2) rfl
    have fKE_3 := KE.out.cell (i := 3) rfl
    have fKX_0 := KX.out.cell (i := 0) rfl
    have fKX_1 := KX.out.cell (i := 1) rfl
    have fKX_2 := KX.out.cell (i := 2) rfl
    have fKX_3 := KX.out.cell (i := 3) rfl
    go_wp2_with fail
    refine wp_region_noPanic ?_
    refine wp_region_held_drew (S := (fun w' => w'.cell? ⟨w.heap.size, 0, none⟩ = some (.slice A0 n0 c0) ∧ w'.cell? ⟨w.heap.size, 1, none⟩ = some (.slice A1 n1 c1) ∧ w'.cell? ⟨w.heap.size, 2, none⟩ = some (.slice A2 n2 c2) ∧ w'.cell? ⟨w.heap.size, 3, none⟩ = some (.int .i64 T) ∧ w'.cell? ⟨w.heap.size + 1, 0, none⟩ = some (.int .i64 x2) ∧ w'.cell? ⟨w.heap.size + 1, 1, none⟩ = some (.int .i64 y2) ∧ w'.cell? ⟨w.heap.size + 1, 2, none⟩ = some (.int .i64 z2) ∧ w'.cell? ⟨w.heap.size + 1, 3, none⟩ = some (.int .i64 u2) ∧ w'.cell? ⟨V3.heap.size, 0, none⟩ = some (.slice (some ⟨gv0, 0, none⟩) n0 n0) ∧ w'.cell? ⟨V3.heap.size, 1, none⟩ = some (.slice (some ⟨gv1, 0, none⟩) n1 n1) ∧ w'.cell? ⟨V3.heap.size, 2, none⟩ = some (.slice (some ⟨gv2, 0, none⟩) n2 n2) ∧ w'.cell? ⟨V3.heap.size, 3, none⟩ = some (.int .i64 T) ∧ Below V4.heap.size V4 w')) (by kernel_rfl) ?_ (fun hH => ?_)
    · exact ⟨fK0_0, fK0_1, fK0_2, fK0_3, fKE_0, fKE_1, fKE_2, fKE_3, fKX_0, fKX_1, fKX_2, fKX_3, (Below.refl _ _).drew⟩
    refine wpAnyH_take (i := 0) (oi := { dst := some 44, op := _, type := _, pos := _, after := _, guard := _ }) (v := ?_) rfl (by kernel_rfl) (by kernel_rfl) (by kernel_rfl) (fun _ _ _ h => h) (Or.inl ⟨by rfl, ?_⟩) hH ?_
    rotate_left 1
    · intro W hSw
      (try dsimp only at hSw)
      go_simp
      (try with_reducible rfl)
    try simp only [Act.put, List.setIfInBounds_toArray, List.set_cons_zero, List.set_cons_succ]
    refine wpAnyH_take (i := 1) (oi := { dst := some 45, op := _, type := _, pos := _, after := _, guard := _ }) (v := ?_) rfl (by kernel_rfl) (by kernel_rfl) (by kernel_rfl) (fun _ _ _ h => h) (Or.inl ⟨by rfl, ?_⟩) hH ?_
    rotate_left 1
    · intro W hSw
      (try dsimp only at hSw)
      go_simp
      (try with_reducible rfl)
    try simp only [Act.put, List.setIfInBounds_toArray, List.set_cons_zero, List.set_cons_succ]
    refine wpAnyH_take (i := 2) (oi := { dst := some 46, op := _, type := _, pos := _, after := _, guard := _ }) (v := ?_) rfl (by kernel_rfl) (by kernel_rfl) (by kernel_rfl) (fun _ _ _ h => h) (Or.inl ⟨by rfl, ?_⟩) hH ?_
    rotate_left 1
    · intro W hSw
      (try dsimp only at hSw)
      go_simp
      (try with_reducible rfl)
    try simp only [Act.put, List.setIfInBounds_toArray, List.set_cons_zero, List.set_cons_succ]
    refine wpAnyH_ready (rs := [3]) (by kernel_rfl) (by simp) (AllReadyH.cons rfl (fun K hK => ?_) AllReadyH.nil)
    go_simp
    go_at_call 12; ((with_reducible refine (TB.out _).mono ?_); rintro e r11_0 ⟨rfl, hb0⟩); go_wp2_with fail
    refine hK.out _ _ ?_ (fun hG => ?_)
    · exact ⟨cell_below hb0 hH.1, cell_below hb0 hH.2.1, cell_below hb0 hH.2.2.1, cell_below hb0 hH.2.2.2.1, cell_below hb0 hH.2.2.2.2.1, cell_below hb0 hH.2.2.2.2.2.1, cell_below hb0 hH.2.2.2.2.2.2.1, cell_below hb0 hH.2.2.2.2.2.2.2.1, cell_below hb0 hH.2.2.2.2.2.2.2.2.1, cell_below hb0 hH.2.2.2.2.2.2.2.2.2.1, cell_below hb0 hH.2.2.2.2.2.2.2.2.2.2.1, cell_below hb0 hH.2.2.2.2.2.2.2.2.2.2.2.1, hH.2.2.2.2.2.2.2.2.2.2.2.2.trans (hb0.mono hH.2.2.2.2.2.2.2.2.2.2.2.2.size)⟩
    replace hH := hG
    clear hK K hG
    try simp only [Act.put, List.setIfInBounds_toArray, List.set_cons_zero, List.set_cons_succ]
    refine wpAnyH_ready (rs := [4]) (by kernel_rfl) (by simp) (AllReadyH.cons rfl (fun K hK => ?_) AllReadyH.nil)
    go_simp
    go_at_call 13; ((with_reducible refine (CI.out _ _ _ _ _ ((SR.own v0.out v1.out v2.out).below hH.2.2.2.2.2.2.2.2.2.2.2.2) (((Rd.own x.out).below hH.2.2.2.2.2.2.2.2.2.2.2.2).more hH.2.2.2.2.2.2.2.2.2.2.2.2.size)).mono ?_); rintro e r11_1 ⟨gG0, cG0, rfl, ho, hb1⟩); go_wp2_with fail
    refine hK.out _ _ ?_ (fun hG => ?_)
    · exact ⟨cell_below hb1 hH.1, cell_below hb1 hH.2.1, cell_below hb1 hH.2.2.1, cell_below hb1 hH.2.2.2.1, cell_below hb1 hH.2.2.2.2.1, cell_below hb1 hH.2.2.2.2.2.1, cell_below hb1 hH.2.2.2.2.2.2.1, cell_below hb1 hH.2.2.2.2.2.2.2.1, cell_below hb1 hH.2.2.2.2.2.2.2.2.1, cell_below hb1 hH.2.2.2.2.2.2.2.2.2.1, cell_below hb1 hH.2.2.2.2.2.2.2.2.2.2.1, cell_below hb1 hH.2.2.2.2.2.2.2.2.2.2.2.1, hH.2.2.2.2.2.2.2.2.2.2.2.2.trans (hb1.mono hH.2.2.2.2.2.2.2.2.2.2.2.2.size)⟩
    replace hH := hG
    clear hK K hG
    try simp only [Act.put, List.setIfInBounds_toArray, List.set_cons_zero, List.set_cons_succ]
    refine wpAnyH_take (i := 5) (oi := { dst := some 43, op := _, type := _, pos := _, after := _, guard := _ }) (v := ?_) rfl (by kernel_rfl) (by kernel_rfl) (by kernel_rfl) (fun _ _ _ h => h) (Or.inl ⟨by rfl, ?_⟩) hH ?_
    rotate_left 1
    · intro W hSw
      (try dsimp only at hSw)
      go_simp
      (try with_reducible rfl)
    try simp only [Act.put, List.setIfInBounds_toArray, List.set_cons_zero, List.set_cons_succ]
    refine wpAnyH_take (i := 6) (oi := { dst := some 49, op := _, type := _, pos := _, after := _, guard := _ }) (v := ?_) rfl (by kernel_rfl) (by kernel_rfl) (by kernel_rfl) (fun _ _ _ h => h) (Or.inl ⟨by rfl, ?_⟩) hH ?_
    rotate_left 1
    · intro W hSw
      (try dsimp only at hSw)
      go_simp
      (try with_reducible rfl)
    try simp only [Act.put, List.setIfInBounds_toArray, List.set_cons_zero, List.set_cons_succ]
    refine wpAnyH_take (i := 7) (oi := { dst := some 50, op := _, type := _, pos := _, after := _, guard := _ }) (v := ?_) rfl (by kernel_rfl) (by kernel_rfl) (by kernel_rfl) (fun _ _ _ h => h) (Or.inl ⟨by rfl, ?_⟩) hH ?_
    rotate_left 1
    · intro W hSw
      (try dsimp only at hSw)
      go_simp
      (try with_reducible rfl)
    try simp only [Act.put, List.setIfInBounds_toArray, List.set_cons_zero, List.set_cons_succ]
    refine wpAnyH_take (i := 8) (oi := { dst := some 12, op := _, type := _, pos := _, after := _, guard := _ }) (v := ?_) rfl (by kernel_rfl) (by kernel_rfl) (by kernel_rfl) (fun _ _ _ h => h) (Or.inl ⟨by rfl, ?_⟩) hH ?_
    rotate_left 1
    · intro W hSw
      (try dsimp only at hSw)
      go_simp
      (try with_reducible rfl)
    try simp only [Act.put, List.setIfInBounds_toArray, List.set_cons_zero, List.set_cons_succ]
    refine wpAnyH_take (i := 9) (oi := { dst := some 13, op := _, type := _, pos := _, after := _, guard := _ }) (v := ?_) rfl (by kernel_rfl) (by kernel_rfl) (by kernel_rfl) (fun _ _ _ h => h) (Or.inl ⟨by rfl, ?_⟩) hH ?_
    rotate_left 1
    · intro W hSw
      (try dsimp only at hSw)
      go_simp
      (try with_reducible rfl)
    try simp only [Act.put, List.setIfInBounds_toArray, List.set_cons_zero, List.set_cons_succ]
    refine wpAnyH_done (by kernel_rfl) ?_ _
    refine NoPanic.normal ?_
    have hb := hH.2.2.2.2.2.2.2.2.2.2.2.2
    have hsz9 := (Nat.le_trans (Nat.le_refl _) hb0.size)
    have hlt9 := (own_lt x.out)
    have ch_G0 : gx < gG0 := Nat.lt_of_lt_of_le (Nat.lt_of_lt_of_le hlt9 hsz9) (own_at ho)
    have XN_G0 := Lib.hid (owns_base ho (by omega : w.heap.size ≤ gG0))
    clear hsz9 hlt9
    clear hH hb0 hb1 ho
    clear fK0_0 fK0_1 fK0_2 fK0_3 fKE_0 fKE_1 fKE_2 fKE_3 fKX_0 fKX_1 fKX_2 fKX_3
    have K01 := Lib.hid (K0.out.below hb)
    have KE1 := Lib.hid (KE.out.below hb)
    have KX1 := Lib.hid (KX.out.below hb)
    have B2 := Lib.hid (BB.out.trans (hb.mono BB.out.size))
    have W0n := Lib.hid (owns_below W0.out hb)
    have v0n := Lib.hid (owns_below v0.out hb)
    have v1n := Lib.hid (owns_below v1.out hb)
    have v2n := Lib.hid (owns_below v2.out hb)
    have xn := Lib.hid (owns_below x.out hb)
    clear hb K0 KE KX BB
    clear W0 v0 v1 v2 x
    have K0 := K01
    clear K01
    have KE := KE1
    clear KE1
    have KX := KX1
    clear KX1
    have BB := B2
    clear B2
    have W0 := W0n
    clear W0n
    have v0 := v0n
    clear v0n
    have v1 := v1n
    clear v1n
    have v2 := v2n
    clear v2n
    have x := xn
    clear xn
    have G0 := XN_G0
    clear XN_G0
    have fK0_0 := K0.out.cell (i := 0) rfl
    have fK0_1 := K0.out.cell (i := 1) rfl
    have fK0_2 := K0.out.cell (i := 2) rfl
    have fK0_3 := K0.out.cell (i := 3) rfl
    have fKE_0 := KE.out.cell (i := 0) rfl
    have fKE_1 := KE.out.cell (i := 1) rfl
    have fKE_2 := KE.out.cell (i := 2) rfl
    have fKE_3 := KE.out.cell (i := 3) rfl
    have fKX_0 := KX.out.cell (i := 0) rfl
    have fKX_1 := KX.out.cell (i := 1) rfl
    have fKX_2 := KX.out.cell (i := 2) rfl
    have fKX_3 := KX.out.cell (i := 3) rfl
    go_wp2_with fail
    clear fK0_0 fK0_1 fK0_2 fK0_3 fKE_0 fKE_1 fKE_2 fKE_3 fKX_0 fKX_1 fKX_2 fKX_3
    refine (EQ.out _ _ _ _ _ (Rd.own G0.out) (Rd.own W0.out)).mono ?_
    rintro e V5 ⟨rfl, hb⟩
    have K01 := Lib.hid (K0.out.below hb)
    have KE1 := Lib.hid (KE.out.below hb)
    have KX1 := Lib.hid (KX.out.below hb)
    have B2 := Lib.hid (BB.out.trans (hb.mono BB.out.size))
    have W0n := Lib.hid (owns_below W0.out hb)
    have v0n := Lib.hid (owns_below v0.out hb)
    have v1n := Lib.hid (owns_below v1.out hb)
    have v2n := Lib.hid (owns_below v2.out hb)
    have xn := Lib.hid (owns_below x.out hb)
    have G0n := Lib.hid (owns_below G0.out hb)
    clear hb K0 KE KX BB
    clear W0 v0 v1 v2 x G0
    have K0 := K01
    clear K01
    have KE := KE1
    clear KE1
    have KX := KX1
    clear KX1
    have BB := B2
    clear B2
    have W0 := W0n
    clear W0n
    have v0 := v0n
    clear v0n
    have v1 := v1n
    clear v1n
    have v2 := v2n
    clear v2n
    have x := xn
    clear xn
    have G0 := G0n
    clear G0n
    have fK0_0 := K0.out.cell (i := 0) rfl
    have fK0_1 := K0.out.cell (i := 1) rfl
    have fK0_2 := K0.out.cell (i := 2) rfl
    have fK0_3 := K0.out.cell (i := 3) rfl
    have fKE_0 := KE.out.cell (i := 0) rfl
    have fKE_1 := KE.out.cell (i := 1) rfl
    have fKE_2 := KE.out.cell (i := 2) rfl
    have fKE_3 := KE.out.cell (i := 3) rfl
    have fKX_0 := KX.out.cell (i := 0) rfl
    have fKX_1 := KX.out.cell (i := 1) rfl
    have fKX_2 := KX.out.cell (i := 2) rfl
    have fKX_3 := KX.out.cell (i := 3) rfl
    go_wp2_with fail
    refine wp_region_noPanic ?_
    refine wp_region_held_drew (S := (fun w' => w'.cell? ⟨w.heap.size, 0, none⟩ = some (.slice A0 n0 c0) ∧ w'.cell? ⟨w.heap.size, 1, none⟩ = some (.slice A1 n1 c1) ∧ w'.cell? ⟨w.heap.size, 2, none⟩ = some (.slice A2 n2 c2) ∧ w'.cell? ⟨w.heap.size, 3, none⟩ = some (.int .i64 T) ∧ w'.cell? ⟨w.heap.size + 1, 0, none⟩ = some (.int .i64 x2) ∧ w'.cell? ⟨w.heap.size + 1, 1, none⟩ = some (.int .i64 y2) ∧ w'.cell? ⟨w.heap.size + 1, 2, none⟩ = some (.int .i64 z2) ∧ w'.cell? ⟨w.heap.size + 1, 3, none⟩ = some (.int .i64 u2) ∧ w'.cell? ⟨V3.heap.size, 0, none⟩ = some (.slice (some ⟨gv0, 0, none⟩) n0 n0) ∧ w'.cell? ⟨V3.heap.size, 1, none⟩ = some (.slice (some ⟨gv1, 0, none⟩) n1 n1) ∧ w'.cell? ⟨V3.heap.size, 2, none⟩ = some (.slice (some ⟨gv2, 0, none⟩) n2 n2) ∧ w'.cell? ⟨V3.heap.size, 3, none⟩ = some (.int .i64 T) ∧ Below V5.heap.size V5 w')) (by kernel_rfl) ?_ (fun hH => ?_)
    · exact ⟨fK0_0, fK0_1, fK0_2, fK0_3, fKE_0, fKE_1, fKE_2, fKE_3, fKX_0, fKX_1, fKX_2, fKX_3, (Below.refl _ _).drew⟩
    refine wpAnyH_take (i := 0) (oi := { dst := some 60, op := _, type := _, pos := _, after := _, guard := _ }) (v := ?_) rfl (by kernel_rfl) (by kernel_rfl) (by kernel_rfl) (fun _ _ _ h => h) (Or.inl ⟨by rfl, ?_⟩) hH ?_
    rotate_left 1
    · intro W hSw
      (try dsimp only at hSw)
      go_simp
      (try with_reducible rfl)
    try simp only [Act.put, List.setIfInBounds_toArray, List.set_cons_zero, List.set_cons_succ]
    refine wpAnyH_take (i := 1) (oi := { dst := some 61, op := _, type := _, pos := _, after := _, guard := _ }) (v := ?_) rfl (by kernel_rfl) (by kernel_rfl) (by kernel_rfl) (fun _ _ _ h => h) (Or.inl ⟨by rfl, ?_⟩) hH ?_
    rotate_left 1
    · intro W hSw
      (try dsimp only at hSw)
      go_simp
      (try with_reducible rfl)
    try simp only [Act.put, List.setIfInBounds_toArray, List.set_cons_zero, List.set_cons_succ]
    refine wpAnyH_ready (rs := [2]) (by kernel_rfl) (by simp) (AllReadyH.cons rfl (fun K hK => ?_) AllReadyH.nil)
    go_simp
    go_at_call 10; ((with_reducible refine (TO.out _ (HS.out.below (BB.out.trans (hH.2.2.2.2.2.2.2.2.2.2.2.2.mono BB.out.size)))).mono ?_); rintro e r14_0 ⟨ya0, yb0, yc0, rfl, oa0, ob0, oc0, _, _, hb0⟩); go_wp2_with fail
    refine hK.out _ _ ?_ (fun hG => ?_)
    · exact ⟨cell_below hb0 hH.1, cell_below hb0 hH.2.1, cell_below hb0 hH.2.2.1, cell_below hb0 hH.2.2.2.1, cell_below hb0 hH.2.2.2.2.1, cell_below hb0 hH.2.2.2.2.2.1, cell_below hb0 hH.2.2.2.2.2.2.1, cell_below hb0 hH.2.2.2.2.2.2.2.1, cell_below hb0 hH.2.2.2.2.2.2.2.2.1, cell_below hb0 hH.2.2.2.2.2.2.2.2.2.1, cell_below hb0 hH.2.2.2.2.2.2.2.2.2.2.1, cell_below hb0 hH.2.2.2.2.2.2.2.2.2.2.2.1, hH.2.2.2.2.2.2.2.2.2.2.2.2.trans (hb0.mono hH.2.2.2.2.2.2.2.2.2.2.2.2.size)⟩
    replace hH := hG
    clear hK K hG
    try simp only [Act.put, List.setIfInBounds_toArray, List.set_cons_zero, List.set_cons_succ]
    refine wpAnyH_ready (rs := [3]) (by kernel_rfl) (by simp) (AllReadyH.cons rfl (fun K hK => ?_) AllReadyH.nil)
    go_simp
    go_at_call 15; ((with_reducible refine (EQW.out _ _ _ _ _ _ _ ((SR.own v0.out v1.out v2.out).below hH.2.2.2.2.2.2.2.2.2.2.2.2) (SR.own oa0 ob0 oc0)).mono ?_); rintro e r14_1 ⟨rfl, hb1⟩); go_wp2_with fail
    refine hK.out _ _ ?_ (fun hG => ?_)
    · exact ⟨cell_below hb1 hH.1, cell_below hb1 hH.2.1, cell_below hb1 hH.2.2.1, cell_below hb1 hH.2.2.2.1, cell_below hb1 hH.2.2.2.2.1, cell_below hb1 hH.2.2.2.2.2.1, cell_below hb1 hH.2.2.2.2.2.2.1, cell_below hb1 hH.2.2.2.2.2.2.2.1, cell_below hb1 hH.2.2.2.2.2.2.2.2.1, cell_below hb1 hH.2.2.2.2.2.2.2.2.2.1, cell_below hb1 hH.2.2.2.2.2.2.2.2.2.2.1, cell_below hb1 hH.2.2.2.2.2.2.2.2.2.2.2.1, hH.2.2.2.2.2.2.2.2.2.2.2.2.trans (hb1.mono hH.2.2.2.2.2.2.2.2.2.2.2.2.size)⟩
    replace hH := hG
    clear hK K hG
    try simp only [Act.put, List.setIfInBounds_toArray, List.set_cons_zero, List.set_cons_succ]
    refine wpAnyH_take (i := 4) (oi := { dst := some 64, op := _, type := _, pos := _, after := _, guard := _ }) (v := ?_) rfl (by kernel_rfl) (by kernel_rfl) (by kernel_rfl) (fun _ _ _ h => h) (Or.inl ⟨by rfl, ?_⟩) hH ?_
    rotate_left 1
    · intro W hSw
      (try dsimp only at hSw)
      go_simp
      (try with_reducible rfl)
    try simp only [Act.put, List.setIfInBounds_toArray, List.set_cons_zero, List.set_cons_succ]
    refine wpAnyH_done (by kernel_rfl) ?_ _
    refine NoPanic.normal ?_
    have hb := hH.2.2.2.2.2.2.2.2.2.2.2.2
    clear hH hb0 oa0 ob0 oc0 hb1
    clear fK0_0 fK0_1 fK0_2 fK0_3 fKE_0 fKE_1 fKE_2 fKE_3 fKX_0 fKX_1 fKX_2 fKX_3
    have K01 := Lib.hid (K0.out.below hb)
    have KE1 := Lib.hid (KE.out.below hb)
    have KX1 := Lib.hid (KX.out.below hb)
    have B2 := Lib.hid (BB.out.trans (hb.mono BB.out.size))
    have W0n := Lib.hid (owns_below W0.out hb)
    have v0n := Lib.hid (owns_below v0.out hb)
    have v1n := Lib.hid (owns_below v1.out hb)
    have v2n := Lib.hid (owns_below v2.out hb)
    have xn := Lib.hid (owns_below x.out hb)
    have G0n := Lib.hid (owns_below G0.out hb)
    clear hb K0 KE KX BB
    clear W0 v0 v1 v2 x G0
    have K0 := K01
    clear K01
    have KE := KE1
    clear KE1
    have KX := KX1
    clear KX1
    have BB := B2
    clear B2
    have W0 := W0n
    clear W0n
    have v0 := v0n
    clear v0n
    have v1 := v1n
    clear v1n
    have v2 := v2n
    clear v2n
    have x := xn
    clear xn
    have G0 := G0n
    clear G0n
    have fK0_0 := K0.out.cell (i := 0) rfl
    have fK0_1 := K0.out.cell (i := 1) rfl
    have fK0_2 := K0.out.cell (i := 2) rfl
    have fK0_3 := K0.out.cell (i := 3) rfl
    have fKE_0 := KE.out.cell (i := 0) rfl
    have fKE_1 := KE.out.cell (i := 1) rfl
    have fKE_2 := KE.out.cell (i := 2) rfl
    have fKE_3 := KE.out.cell (i := 3) rfl
    have fKX_0 := KX.out.cell (i := 0) rfl
    have fKX_1 := KX.out.cell (i := 1) rfl
    have fKX_2 := KX.out.cell (i := 2) rfl
    have fKX_3 := KX.out.cell (i := 3) rfl
    go_wp2_with fail
    clear fK0_0 fK0_1 fK0_2 fK0_3 fKE_0 fKE_1 fKE_2 fKE_3 fKX_0 fKX_1 fKX_2 fKX_3
    refine (Pls.toPlaceS A9 n9 c9 ps _ HN9.out.1 HN9.out.2 ((HR9.out.below BB.out).more BB.out.size)).mono ?_
    rintro e V6 ⟨gy, rfl, _, ho, hb⟩
    have XN_y := Lib.hid ho
    clear ho
    have K01 := Lib.hid (K0.out.below hb)
    have KE1 := Lib.hid (KE.out.below hb)
    have KX1 := Lib.hid (KX.out.below hb)
    have B2 := Lib.hid (BB.out.trans (hb.mono BB.out.size))
    have W0n := Lib.hid (owns_below W0.out hb)
    have v0n := Lib.hid (owns_below v0.out hb)
    have v1n := Lib.hid (owns_below v1.out hb)
    have v2n := Lib.hid (owns_below v2.out hb)
    have xn := Lib.hid (owns_below x.out hb)
    have G0n := Lib.hid (owns_below G0.out hb)
    clear hb K0 KE KX BB
    clear W0 v0 v1 v2 x G0
    have K0 := K01
    clear K01
    have KE := KE1
    clear KE1
    have KX := KX1
    clear KX1
    have BB := B2
    clear B2
    have W0 := W0n
    clear W0n
    have v0 := v0n
    clear v0n
    have v1 := v1n
    clear v1n
    have v2 := v2n
    clear v2n
    have x := xn
    clear xn
    have G0 := G0n
    clear G0n
    have y := XN_y
    clear XN_y
    have fK0_0 := K0.out.cell (i := 0) rfl
    have fK0_1 := K0.out.cell (i := 1) rfl
    have fK0_2 := K0.out.cell (i := 2) rfl
    have fK0_3 := K0.out.cell (i := 3) rfl
    have fKE_0 := KE.out.cell (i := 0) rfl
    have fKE_1 := KE.out.cell (i := 1) rfl
    have fKE_2 := KE.out.cell (i := 2) rfl
    have fKE_3 := KE.out.cell (i := 3) rfl
    have fKX_0 := KX.out.cell (i := 0) rfl
    have fKX_1 := KX.out.cell (i := 1) rfl
    have fKX_2 := KX.out.cell (i := 2) rfl
    have fKX_3 := KX.out.cell (i := 3) rfl
    go_wp2_with fail
    clear fK0_0 fK0_1 fK0_2 fK0_3 fKE_0 fKE_1 fKE_2 fKE_3 fKX_0 fKX_1 fKX_2 fKX_3
    refine (Pls.eqPlaceS _ _ n9 n9 n9 ps _ _ HN9.out.1 HN9.out.2 (Nat.le_refl _) (Rd.own x.out) (Rd.own y.out)).mono ?_
    rintro e V7 ⟨rfl, hb⟩
    have K01 := Lib.hid (K0.out.below hb)
    have KE1 := Lib.hid (KE.out.below hb)
    have KX1 := Lib.hid (KX.out.below hb)
    have B2 := Lib.hid (BB.out.trans (hb.mono BB.out.size))
    have W0n := Lib.hid (owns_below W0.out hb)
    have v0n := Lib.hid (owns_below v0.out hb)
    have v1n := Lib.hid (owns_below v1.out hb)
    have v2n := Lib.hid (owns_below v2.out hb)
    have xn := Lib.hid (owns_below x.out hb)
    have G0n := Lib.hid (owns_below G0.out hb)
    have yn := Lib.hid (owns_below y.out hb)
    clear hb K0 KE KX BB
    clear W0 v0 v1 v2 x G0 y
    have K0 := K01
    clear K01
    have KE := KE1
    clear KE1
    have KX := KX1
    clear KX1
    have BB := B2
    clear B2
    have W0 := W0n
    clear W0n
    have v0 := v0n
    clear v0n
    have v1 := v1n
    clear v1n
    have v2 := v2n
    clear v2n
    have x := xn
    clear xn
    have G0 := G0n
    clear G0n
    have y := yn
    clear yn
    have fK0_0 := K0.out.cell (i := 0) rfl
    have fK0_1 := K0.out.cell (i := 1) rfl
    have fK0_2 := K0.out.cell (i := 2) rfl
    have fK0_3 := K0.out.cell (i := 3) rfl
    have fKE_0 := KE.out.cell (i := 0) rfl
    have fKE_1 := KE.out.cell (i := 1) rfl
    have fKE_2 := KE.out.cell (i := 2) rfl
    have fKE_3 := KE.out.cell (i := 3) rfl
    have fKX_0 := KX.out.cell (i := 0) rfl
    have fKX_1 := KX.out.cell (i := 1) rfl
    have fKX_2 := KX.out.cell (i := 2) rfl
    have fKX_3 := KX.out.cell (i := 3) rfl
    clear y
    go_wp2_with fail
    clear fK0_0 fK0_1 fK0_2 fK0_3 fKE_0 fKE_1 fKE_2 fKE_3 fKX_0 fKX_1 fKX_2 fKX_3
    refine (MS.out _ _ _ ch_v1 ch_v2 _ v0.out v1.out v2.out).mono ?_
    rintro e V8 ⟨rfl, _, _, _, hg⟩
    clear v0 v1 v2
    have K01 := Lib.hid (hg.bk K0.out (by omega) (by omega) (by omega))
    have KE1 := Lib.hid (hg.bk KE.out (by omega) (by omega) (by omega))
    have KX1 := Lib.hid (hg.bk KX.out (by omega) (by omega) (by omega))
    have B2 := Lib.hid (hg.below BB.out (by omega) (by omega) (by omega))
    have W0n := Lib.hid (hg.own W0.out (by omega) (by omega) (by omega))
    have xn := Lib.hid (hg.own x.out (by omega) (by omega) (by omega))
    have G0n := Lib.hid (hg.own G0.out (by omega) (by omega) (by omega))
    clear hg K0 KE KX BB
    clear W0 x G0
    have K0 := K01
    clear K01
    have KE := KE1
    clear KE1
    have KX := KX1
    clear KX1
    have BB := B2
    clear B2
    have W0 := W0n
    clear W0n
    have x := xn
    clear xn
    have G0 := G0n
    clear G0n
    have fK0_0 := K0.out.cell (i := 0) rfl
    have fK0_1 := K0.out.cell (i := 1) rfl
    have fK0_2 := K0.out.cell (i := 2) rfl
    have fK0_3 := K0.out.cell (i := 3) rfl
    have fKE_0 := KE.out.cell (i := 0) rfl
    have fKE_1 := KE.out.cell (i := 1) rfl
    have fKE_2 := KE.out.cell (i := 2) rfl
    have fKE_3 := KE.out.cell (i := 3) rfl
    have fKX_0 := KX.out.cell (i := 0) rfl
    have fKX_1 := KX.out.cell (i := 1) rfl
    have fKX_2 := KX.out.cell (i := 2) rfl
    have fKX_3 := KX.out.cell (i := 3) rfl
    go_wp2_with fail
    clear fK0_0 fK0_1 fK0_2 fK0_3 fKE_0 fKE_1 fKE_2 fKE_3 fKX_0 fKX_1 fKX_2 fKX_3
    refine (MP.out _ _ _ _ x.out).mono ?_
    rintro e V9 ⟨rfl, ho, hg⟩
    have XN := Lib.hid ho
    have K01 := Lib.hid (K0.out.grown hg (fun e => by have e := Option.some.inj e; omega))
    have KE1 := Lib.hid (KE.out.grown hg (fun e => by have e := Option.some.inj e; omega))
    have KX1 := Lib.hid (KX.out.grown hg (fun e => by have e := Option.some.inj e; omega))
    have B2 := Lib.hid (BB.out.grown hg BB.out.size (fun k e => by have e := Option.some.inj e; omega))
    have W0n := Lib.hid (owns_grown W0.out hg (Mk9.ne_blk (by omega)))
    have G0n := Lib.hid (owns_grown G0.out hg (Mk9.ne_blk (by omega)))
    clear hg ho x K0 KE KX BB
    clear W0 G0
    have K0 := K01
    clear K01
    have KE := KE1
    clear KE1
    have KX := KX1
    clear KX1
    have BB := B2
    clear B2
    have W0 := W0n
    clear W0n
    have G0 := G0n
    clear G0n
    have x := XN
    clear XN
    have fK0_0 := K0.out.cell (i := 0) rfl
    have fK0_1 := K0.out.cell (i := 1) rfl
    have fK0_2 := K0.out.cell (i := 2) rfl
    have fK0_3 := K0.out.cell (i := 3) rfl
    have fKE_0 := KE.out.cell (i := 0) rfl
    have fKE_1 := KE.out.cell (i := 1) rfl
    have fKE_2 := KE.out.cell (i := 2) rfl
    have fKE_3 := KE.out.cell (i := 3) rfl
    have fKX_0 := KX.out.cell (i := 0) rfl
    have fKX_1 := KX.out.cell (i := 1) rfl
    have fKX_2 := KX.out.cell (i := 2) rfl
    have fKX_3 := KX.out.cell (i := 3) rfl
    clear x
    go_wp2_with fail
    clear fK0_0 fK0_1 fK0_2 fK0_3 fKE_0 fKE_1 fKE_2 fKE_3 fKX_0 fKX_1 fKX_2 fKX_3
    refine (EQ.out _ _ _ _ _ (Rd.own G0.out) (Rd.own W0.out)).mono ?_
    rintro e V10 ⟨rfl, hb⟩
    have K01 := Lib.hid (K0.out.below hb)
    have KE1 := Lib.hid (KE.out.below hb)
    have KX1 := Lib.hid (KX.out.below hb)
    have B2 := Lib.hid (BB.out.trans (hb.mono BB.out.size))
    have W0n := Lib.hid (owns_below W0.out hb)
    have G0n := Lib.hid (owns_below G0.out hb)
    clear hb K0 KE KX BB
    clear W0 G0
    have K0 := K01
    clear K01
    have KE := KE1
    clear KE1
    have KX := KX1
    clear KX1
    have BB := B2
    clear B2
    have W0 := W0n
    clear W0n
    have G0 := G0n
    clear G0n
    have fK0_0 := K0.out.cell (i := 0) rfl
    have fK0_1 := K0.out.cell (i := 1) rfl
    have fK0_2 := K0.out.cell (i := 2) rfl
    have fK0_3 := K0.out.cell (i := 3) rfl
    have fKE_0 := KE.out.cell (i := 0) rfl
    have fKE_1 := KE.out.cell (i := 1) rfl
    have fKE_2 := KE.out.cell (i := 2) rfl
    have fKE_3 := KE.out.cell (i := 3) rfl
    have fKX_0 := KX.out.cell (i := 0) rfl
    have fKX_1 := KX.out.cell (i := 1) rfl
    have fKX_2 := KX.out.cell (i := 2) rfl
    have fKX_3 := KX.out.cell (i := 3) rfl
    go_wp2_with fail
    clear fK0_0 fK0_1 fK0_2 fK0_3 fKE_0 fKE_1 fKE_2 fKE_3 fKX_0 fKX_1 fKX_2 fKX_3
    refine (MG.out _ _ _ _ G0.out).mono ?_
    rintro e V11 ⟨rfl, ho, hg⟩
    have XN := Lib.hid ho
    have K01 := Lib.hid (K0.out.grown hg (fun e => by have e := Option.some.inj e; omega))
    have KE1 := Lib.hid (KE.out.grown hg (fun e => by have e := Option.some.inj e; omega))
    have KX1 := Lib.hid (KX.out.grown hg (fun e => by have e := Option.some.inj e; omega))
    have B2 := Lib.hid (BB.out.grown hg BB.out.size (fun k e => by have e := Option.some.inj e; omega))
    have W0n := Lib.hid (owns_grown W0.out hg (Mk9.ne_blk (by omega)))
    clear hg ho G0 K0 KE KX BB
    clear W0
    have K0 := K01
    clear K01
    have KE := KE1
    clear KE1
    have KX := KX1
    clear KX1
    have BB := B2
    clear B2
    have W0 := W0n
    clear W0n
    have G0 := XN
    clear XN
    have fK0_0 := K0.out.cell (i := 0) rfl
    have fK0_1 := K0.out.cell (i := 1) rfl
    have fK0_2 := K0.out.cell (i := 2) rfl
    have fK0_3 := K0.out.cell (i := 3) rfl
    have fKE_0 := KE.out.cell (i := 0) rfl
    have fKE_1 := KE.out.cell (i := 1) rfl
    have fKE_2 := KE.out.cell (i := 2) rfl
    have fKE_3 := KE.out.cell (i := 3) rfl
    have fKX_0 := KX.out.cell (i := 0) rfl
    have fKX_1 := KX.out.cell (i := 1) rfl
    have fKX_2 := KX.out.cell (i := 2) rfl
    have fKX_3 := KX.out.cell (i := 3) rfl
    go_wp2_with fail
    clear fK0_0 fK0_1 fK0_2 fK0_3 fKE_0 fKE_1 fKE_2 fKE_3 fKX_0 fKX_1 fKX_2 fKX_3
    refine (HG.out _ _ _ (Rd.own G0.out)).mono ?_
    rintro e V12 ⟨rfl, hb⟩
    have K01 := Lib.hid (K0.out.below hb)
    have KE1 := Lib.hid (KE.out.below hb)
    have KX1 := Lib.hid (KX.out.below hb)
    have B2 := Lib.hid (BB.out.trans (hb.mono BB.out.size))
    have W0n := Lib.hid (owns_below W0.out hb)
    have G0n := Lib.hid (owns_below G0.out hb)
    clear hb K0 KE KX BB
    clear W0 G0
    have K0 := K01
    clear K01
    have KE := KE1
    clear KE1
    have KX := KX1
    clear KX1
    have BB := B2
    clear B2
    have W0 := W0n
    clear W0n
    have G0 := G0n
    clear G0n
    have fK0_0 := K0.out.cell (i := 0) rfl
    have fK0_1 := K0.out.cell (i := 1) rfl
    have fK0_2 := K0.out.cell (i := 2) rfl
    have fK0_3 := K0.out.cell (i := 3) rfl
    have fKE_0 := KE.out.cell (i := 0) rfl
    have fKE_1 := KE.out.cell (i := 1) rfl
    have fKE_2 := KE.out.cell (i := 2) rfl
    have fKE_3 := KE.out.cell (i := 3) rfl
    have fKX_0 := KX.out.cell (i := 0) rfl
    have fKX_1 := KX.out.cell (i := 1) rfl
    have fKX_2 := KX.out.cell (i := 2) rfl
    have fKX_3 := KX.out.cell (i := 3) rfl
    go_wp2_with fail
    refine wp_region_noPanic ?_
    refine wp_region_held_drew (S := (fun w' => w'.cell? ⟨w.heap.size, 0, none⟩ = some (.slice A0 n0 c0) ∧ w'.cell? ⟨w.heap.size, 1, none⟩ = some (.slice A1 n1 c1) ∧ w'.cell? ⟨w.heap.size, 2, none⟩ = some (.slice A2 n2 c2) ∧ w'.cell? ⟨w.heap.size, 3, none⟩ = some (.int .i64 T) ∧ w'.cell? ⟨w.heap.size + 1, 0, none⟩ = some (.int .i64 x2) ∧ w'.cell? ⟨w.heap.size + 1, 1, none⟩ = some (.int .i64 y2) ∧ w'.cell? ⟨w.heap.size + 1, 2, none⟩ = some (.int .i64 z2) ∧ w'.cell? ⟨w.heap.size + 1, 3, none⟩ = some (.int .i64 u2) ∧ w'.cell? ⟨V3.heap.size, 0, none⟩ = some (.slice (some ⟨gv0, 0, none⟩) n0 n0) ∧ w'.cell? ⟨V3.heap.size, 1, none⟩ = some (.slice (some ⟨gv1, 0, none⟩) n1 n1) ∧ w'.cell? ⟨V3.heap.size, 2, none⟩ = some (.slice (some ⟨gv2, 0, none⟩) n2 n2) ∧ w'.cell? ⟨V3.heap.size, 3, none⟩ = some (.int .i64 T) ∧ Below V12.heap.size V12 w')) (by kernel_rfl) ?_ (fun hH => ?_)
    · exact ⟨fK0_0, fK0_1, fK0_2, fK0_3, fKE_0, fKE_1, fKE_2, fKE_3, fKX_0, fKX_1, fKX_2, fKX_3, (Below.refl _ _).drew⟩
    refine wpAnyH_take (i := 0) (oi := { dst := some 101, op := _, type := _, pos := _, after := _, guard := _ }) (v := ?_) rfl (by kernel_rfl) (by kernel_rfl) (by kernel_rfl) (fun _ _ _ h => h) (Or.inl ⟨by rfl, ?_⟩) hH ?_
    rotate_left 1
    · intro W hSw
      (try dsimp only at hSw)
      go_simp
      (try with_reducible rfl)
    try simp only [Act.put, List.setIfInBounds_toArray, List.set_cons_zero, List.set_cons_succ]
    refine wpAnyH_take (i := 2) (oi := { dst := some 103, op := _, type := _, pos := _, after := _, guard := _ }) (v := ?_) rfl (by kernel_rfl) (by kernel_rfl) (by kernel_rfl) (fun _ _ _ h => h) (Or.inl ⟨by rfl, ?_⟩) hH ?_
    rotate_left 1
    · intro W hSw
      (try dsimp only at hSw)
      go_simp
      (try with_reducible rfl)
    try simp only [Act.put, List.setIfInBounds_toArray, List.set_cons_zero, List.set_cons_succ]
    refine wpAnyH_take (i := 4) (oi := { dst := some 105, op := _, type := _, pos := _, after := _, guard := _ }) (v := ?_) rfl (by kernel_rfl) (by kernel_rfl) (by kernel_rfl) (fun _ _ _ h => h) (Or.inl ⟨by rfl, ?_⟩) hH ?_
    rotate_left 1
    · intro W hSw
      (try dsimp only at hSw)
      go_simp
      (try with_reducible rfl)
    try simp only [Act.put, List.setIfInBounds_toArray, List.set_cons_zero, List.set_cons_succ]
    refine wpAnyH_ready (rs := [1]) (by kernel_rfl) (by simp) (AllReadyH.cons rfl (fun K hK => ?_) AllReadyH.nil)
    go_simp
    go_at_call 10; ((with_reducible refine (TO.out _ (HS.out.below (BB.out.trans (hH.2.2.2.2.2.2.2.2.2.2.2.2.mono BB.out.size)))).mono ?_); rintro e r31_0 ⟨ya0, yb0, yc0, rfl, oa0, ob0, oc0, _, _, hb0⟩); go_wp2_with fail
    refine hK.out _ _ ?_ (fun hG => ?_)
    · exact ⟨cell_below hb0 hH.1, cell_below hb0 hH.2.1, cell_below hb0 hH.2.2.1, cell_below hb0 hH.2.2.2.1, cell_below hb0 hH.2.2.2.2.1, cell_below hb0 hH.2.2.2.2.2.1, cell_below hb0 hH.2.2.2.2.2.2.1, cell_below hb0 hH.2.2.2.2.2.2.2.1, cell_below hb0 hH.2.2.2.2.2.2.2.2.1, cell_below hb0 hH.2.2.2.2.2.2.2.2.2.1, cell_below hb0 hH.2.2.2.2.2.2.2.2.2.2.1, cell_below hb0 hH.2.2.2.2.2.2.2.2.2.2.2.1, hH.2.2.2.2.2.2.2.2.2.2.2.2.trans (hb0.mono hH.2.2.2.2.2.2.2.2.2.2.2.2.size)⟩
    replace hH := hG
    clear hK K hG
    try simp only [Act.put, List.setIfInBounds_toArray, List.set_cons_zero, List.set_cons_succ]
    refine wpAnyH_ready (rs := [3]) (by kernel_rfl) (by simp) (AllReadyH.cons rfl (fun K hK => ?_) AllReadyH.nil)
    go_simp
    go_at_call 11; ((with_reducible refine (Pls.toPlaceS A9 n9 c9 ps _ HN9.out.1 HN9.out.2 ((HR9.out.below (BB.out.trans (hH.2.2.2.2.2.2.2.2.2.2.2.2.mono BB.out.size))).more (BB.out.trans (hH.2.2.2.2.2.2.2.2.2.2.2.2.mono BB.out.size)).size)).mono ?_); rintro e r31_1 ⟨gp1, rfl, _, op1, hb1⟩); go_wp2_with fail
    refine hK.out _ _ ?_ (fun hG => ?_)
    · exact ⟨cell_below hb1 hH.1, cell_below hb1 hH.2.1, cell_below hb1 hH.2.2.1, cell_below hb1 hH.2.2.2.1, cell_below hb1 hH.2.2.2.2.1, cell_below hb1 hH.2.2.2.2.2.1, cell_below hb1 hH.2.2.2.2.2.2.1, cell_below hb1 hH.2.2.2.2.2.2.2.1, cell_below hb1 hH.2.2.2.2.2.2.2.2.1, cell_below hb1 hH.2.2.2.2.2.2.2.2.2.1, cell_below hb1 hH.2.2.2.2.2.2.2.2.2.2.1, cell_below hb1 hH.2.2.2.2.2.2.2.2.2.2.2.1, hH.2.2.2.2.2.2.2.2.2.2.2.2.trans (hb1.mono hH.2.2.2.2.2.2.2.2.2.2.2.2.size)⟩
    replace hH := hG
    clear hK K hG
    try simp only [Act.put, List.setIfInBounds_toArray, List.set_cons_zero, List.set_cons_succ]
    refine wpAnyH_ready (rs := [5]) (by kernel_rfl) (by simp) (AllReadyH.cons rfl (fun K hK => ?_) AllReadyH.nil)
    go_simp
    go_at_call 12; ((with_reducible refine (TB.out _).mono ?_); rintro e r31_2 ⟨rfl, hb2⟩); go_wp2_with fail
    refine hK.out _ _ ?_ (fun hG => ?_)
    · exact ⟨cell_below hb2 hH.1, cell_below hb2 hH.2.1, cell_below hb2 hH.2.2.1, cell_below hb2 hH.2.2.2.1, cell_below hb2 hH.2.2.2.2.1, cell_below hb2 hH.2.2.2.2.2.1, cell_below hb2 hH.2.2.2.2.2.2.1, cell_below hb2 hH.2.2.2.2.2.2.2.1, cell_below hb2 hH.2.2.2.2.2.2.2.2.1, cell_below hb2 hH.2.2.2.2.2.2.2.2.2.1, cell_below hb2 hH.2.2.2.2.2.2.2.2.2.2.1, cell_below hb2 hH.2.2.2.2.2.2.2.2.2.2.2.1, hH.2.2.2.2.2.2.2.2.2.2.2.2.trans (hb2.mono hH.2.2.2.2.2.2.2.2.2.2.2.2.size)⟩
    replace hH := hG
    clear hK K hG
    try simp only [Act.put, List.setIfInBounds_toArray, List.set_cons_zero, List.set_cons_succ]
    refine wpAnyH_ready (rs := [6]) (by kernel_rfl) (by simp) (AllReadyH.cons rfl (fun K hK => ?_) AllReadyH.nil)
    go_simp
    go_at_call 13; ((with_reducible refine (CI.out _ _ _ _ _ (((SR.own oa0 ob0 oc0).below hb1).below hb2) (((Rd.own op1).below hb2).more hb2.size)).mono ?_); rintro e r31_3 ⟨gH0, cH0, rfl, ho, hb3⟩); go_wp2_with fail
    refine hK.out _ _ ?_ (fun hG => ?_)
    · exact ⟨cell_below hb3 hH.1, cell_below hb3 hH.2.1, cell_below hb3 hH.2.2.1, cell_below hb3 hH.2.2.2.1, cell_below hb3 hH.2.2.2.2.1, cell_below hb3 hH.2.2.2.2.2.1, cell_below hb3 hH.2.2.2.2.2.2.1, cell_below hb3 hH.2.2.2.2.2.2.2.1, cell_below hb3 hH.2.2.2.2.2.2.2.2.1, cell_below hb3 hH.2.2.2.2.2.2.2.2.2.1, cell_below hb3 hH.2.2.2.2.2.2.2.2.2.2.1, cell_below hb3 hH.2.2.2.2.2.2.2.2.2.2.2.1, hH.2.2.2.2.2.2.2.2.2.2.2.2.trans (hb3.mono hH.2.2.2.2.2.2.2.2.2.2.2.2.size)⟩
    replace hH := hG
    clear hK K hG
    try simp only [Act.put, List.setIfInBounds_toArray, List.set_cons_zero, List.set_cons_succ]
    refine wpAnyH_take (i := 7) (oi := { dst := some 100, op := _, type := _, pos := _, after := _, guard := _ }) (v := ?_) rfl (by kernel_rfl) (by kernel_rfl) (by kernel_rfl) (fun _ _ _ h => h) (Or.inl ⟨by rfl, ?_⟩) hH ?_
    rotate_left 1
    · intro W hSw
      (try dsimp only at hSw)
      go_simp
      (try with_reducible rfl)
    try simp only [Act.put, List.setIfInBounds_toArray, List.set_cons_zero, List.set_cons_succ]
    refine wpAnyH_take (i := 8) (oi := { dst := some 108, op := _, type := _, pos := _, after := _, guard := _ }) (v := ?_) rfl (by kernel_rfl) (by kernel_rfl) (by kernel_rfl) (fun _ _ _ h => h) (Or.inl ⟨by rfl, ?_⟩) hH ?_
    rotate_left 1
    · intro W hSw
      (try dsimp only at hSw)
      go_simp
      (try with_reducible rfl)
    try simp only [Act.put, List.setIfInBounds_toArray, List.set_cons_zero, List.set_cons_succ]
    refine wpAnyH_take (i := 9) (oi := { dst := some 109, op := _, type := _, pos := _, after := _, guard := _ }) (v := ?_) rfl (by kernel_rfl) (by kernel_rfl) (by kernel_rfl) (fun _ _ _ h => h) (Or.inl ⟨by rfl, ?_⟩) hH ?_
    rotate_left 1
    · intro W hSw
      (try dsimp only at hSw)
      go_simp
      (try with_reducible rfl)
    try simp only [Act.put, List.setIfInBounds_toArray, List.set_cons_zero, List.set_cons_succ]
    refine wpAnyH_take (i := 10) (oi := { dst := some 17, op := _, type := _, pos := _, after := _, guard := _ }) (v := ?_) rfl (by kernel_rfl) (by kernel_rfl) (by kernel_rfl) (fun _ _ _ h => h) (Or.inl ⟨by rfl, ?_⟩) hH ?_
    rotate_left 1
    · intro W hSw
      (try dsimp only at hSw)
      go_simp
      (try with_reducible rfl)
    try simp only [Act.put, List.setIfInBounds_toArray, List.set_cons_zero, List.set_cons_succ]
    refine wpAnyH_take (i := 11) (oi := { dst := some 18, op := _, type := _, pos := _, after := _, guard := _ }) (v := ?_) rfl (by kernel_rfl) (by kernel_rfl) (by kernel_rfl) (fun _ _ _ h => h) (Or.inl ⟨by rfl, ?_⟩) hH ?_
    rotate_left 1
    · intro W hSw
      (try dsimp only at hSw)
      go_simp
      (try with_reducible rfl)
    try simp only [Act.put, List.setIfInBounds_toArray, List.set_cons_zero, List.set_cons_succ]
    refine wpAnyH_done (by kernel_rfl) ?_ _
    refine NoPanic.normal ?_
    have hb := hH.2.2.2.2.2.2.2.2.2.2.2.2
    have hsz9 := (Nat.le_trans (Nat.le_trans (Nat.le_trans (Nat.le_refl _) hb0.size) hb1.size) hb2.size)
    have hlt9 := (own_lt G0.out)
    have ch_H0 : gG0 < gH0 := Nat.lt_of_lt_of_le (Nat.lt_of_lt_of_le hlt9 hsz9) (own_at ho)
    have XN_H0 := Lib.hid (owns_base ho (by omega : w.heap.size ≤ gH0))
    clear hsz9 hlt9
    clear hH hb0 oa0 ob0 oc0 hb1 op1 hb2 hb3 ho
    clear fK0_0 fK0_1 fK0_2 fK0_3 fKE_0 fKE_1 fKE_2 fKE_3 fKX_0 fKX_1 fKX_2 fKX_3
    have K01 := Lib.hid (K0.out.below hb)
    have KE1 := Lib.hid (KE.out.below hb)
    have KX1 := Lib.hid (KX.out.below hb)
    have B2 := Lib.hid (BB.out.trans (hb.mono BB.out.size))
    have W0n := Lib.hid (owns_below W0.out hb)
    have G0n := Lib.hid (owns_below G0.out hb)
    clear hb K0 KE KX BB
    clear W0 G0
    have K0 := K01
    clear K01
    have KE := KE1
    clear KE1
    have KX := KX1
    clear KX1
    have BB := B2
    clear B2
    have W0 := W0n
    clear W0n
    have G0 := G0n
    clear G0n
    have H0 := XN_H0
    clear XN_H0
    have fK0_0 := K0.out.cell (i := 0) rfl
    have fK0_1 := K0.out.cell (i := 1) rfl
    have fK0_2 := K0.out.cell (i := 2) rfl
    have fK0_3 := K0.out.cell (i := 3) rfl
    have fKE_0 := KE.out.cell (i := 0) rfl
    have fKE_1 := KE.out.cell (i := 1) rfl
    have fKE_2 := KE.out.cell (i := 2) rfl
    have fKE_3 := KE.out.cell (i := 3) rfl
    have fKX_0 := KX.out.cell (i := 0) rfl
    have fKX_1 := KX.out.cell (i := 1) rfl
    have fKX_2 := KX.out.cell (i := 2) rfl
    have fKX_3 := KX.out.cell (i := 3) rfl
    go_wp2_with fail
    clear fK0_0 fK0_1 fK0_2 fK0_3 fKE_0 fKE_1 fKE_2 fKE_3 fKX_0 fKX_1 fKX_2 fKX_3
    refine (EQ.out _ _ _ _ _ (Rd.own H0.out) (Rd.own W0.out)).mono ?_
    rintro e V13 ⟨rfl, hb⟩
    have K01 := Lib.hid (K0.out.below hb)
    have KE1 := Lib.hid (KE.out.below hb)
    have KX1 := Lib.hid (KX.out.below hb)
    have B2 := Lib.hid (BB.out.trans (hb.mono BB.out.size))
    have W0n := Lib.hid (owns_below W0.out hb)
    have G0n := Lib.hid (owns_below G0.out hb)
    have H0n := Lib.hid (owns_below H0.out hb)
    clear hb K0 KE KX BB
    clear W0 G0 H0
    have K0 := K01
    clear K01
    have KE := KE1
    clear KE1
    have KX := KX1
    clear KX1
    have BB := B2
    clear B2
    have W0 := W0n
    clear W0n
    have G0 := G0n
    clear G0n
    have H0 := H0n
    clear H0n
    have fK0_0 := K0.out.cell (i := 0) rfl
    have fK0_1 := K0.out.cell (i := 1) rfl
    have fK0_2 := K0.out.cell (i := 2) rfl
    have fK0_3 := K0.out.cell (i := 3) rfl
    have fKE_0 := KE.out.cell (i := 0) rfl
    have fKE_1 := KE.out.cell (i := 1) rfl
    have fKE_2 := KE.out.cell (i := 2) rfl
    have fKE_3 := KE.out.cell (i := 3) rfl
    have fKX_0 := KX.out.cell (i := 0) rfl
    have fKX_1 := KX.out.cell (i := 1) rfl
    have fKX_2 := KX.out.cell (i := 2) rfl
    have fKX_3 := KX.out.cell (i := 3) rfl
    go_wp2_with fail
    clear fK0_0 fK0_1 fK0_2 fK0_3 fKE_0 fKE_1 fKE_2 fKE_3 fKX_0 fKX_1 fKX_2 fKX_3
    refine (HG.out _ _ _ (Rd.own G0.out)).mono ?_
    rintro e V14 ⟨rfl, hb⟩
    have K01 := Lib.hid (K0.out.below hb)
    have KE1 := Lib.hid (KE.out.below hb)
    have KX1 := Lib.hid (KX.out.below hb)
    have B2 := Lib.hid (BB.out.trans (hb.mono BB.out.size))
    have W0n := Lib.hid (owns_below W0.out hb)
    have G0n := Lib.hid (owns_below G0.out hb)
    have H0n := Lib.hid (owns_below H0.out hb)
    clear hb K0 KE KX BB
    clear W0 G0 H0
    have K0 := K01
    clear K01
    have KE := KE1
    clear KE1
    have KX := KX1
    clear KX1
    have BB := B2
    clear B2
    have W0 := W0n
    clear W0n
    have G0 := G0n
    clear G0n
    have H0 := H0n
    clear H0n
    have fK0_0 := K0.out.cell (i := 0) rfl
    have fK0_1 := K0.out.cell (i := 1) rfl
    have fK0_2 := K0.out.cell (i := 2) rfl
    have fK0_3 := K0.out.cell (i := 3) rfl
    have fKE_0 := KE.out.cell (i := 0) rfl
    have fKE_1 := KE.out.cell (i := 1) rfl
    have fKE_2 := KE.out.cell (i := 2) rfl
    have fKE_3 := KE.out.cell (i := 3) rfl
    have fKX_0 := KX.out.cell (i := 0) rfl
    have fKX_1 := KX.out.cell (i := 1) rfl
    have fKX_2 := KX.out.cell (i := 2) rfl
    have fKX_3 := KX.out.cell (i := 3) rfl
    go_wp2_with fail
    go_ret
    exact ⟨rfl, BB.out⟩

set_option maxRecDepth 100000 in
theorem lifted (os : Os) (started : os.Started) (H : Type) (enc : TypeId × Value → H) :
    ReturnsInHanded {} Tryz.checked os 3 .any (Rows.fnExactWetWindSpec.pre6 enc Tryz.prog Tryz.f3 Rows.fnExactWetWindRow.domain false) (Rows.fnExactWetWindSpec.post enc Tryz.prog Tryz.f3 false true false false) := by
  refine returnsInHanded_of_change (C := Tryz.checked) own started (by kernel_rfl) Tryz.func3
    (ChangeSpec.witness6 (enc := enc) (C := Tryz.checked) false ⟨#[], #[.agg #[.slice none 0 0, .slice none 0 0, .slice none 0 0, .int .i64 0], .slice none 0 0, .agg #[.int .i64 0, .int .i64 0, .int .i64 0, .int .i64 0]], []⟩ 8 (by kernel_rfl) (by kernel_rfl) (by kernel_rfl) (by kernel_rfl)) ?_
  intro W base args ds gs before hval0 hW hcnd hsz
  have hval : ∀ (j : Nat) t v, Tryz.f3.params[j]? = some t → args[j]? = some v → Value.okWide Tryz.prog W .any base t v := hval0
  have hW' := hW
  obtain ⟨p, q, hA0, hV, rfl, hfz, hnd⟩ := hW
  have hA1 := hA0
  have hA : DataW.TrodAll enc Tryz.prog W 0 (fun _ => true) true Tryz.f3.params.toList args.toList ds p := hA0
  rw [Tryz.params3] at hA hval
  obtain ⟨v0, vs0, d0, ds0, p0, q0, hargs, rfl, rfl, h0, r0⟩ := trodAll_cons hA
  obtain ⟨v1, vs1, d1, ds1, p1, q1, rfl, rfl, rfl, h1, r1⟩ := trodAll_cons r0
  obtain ⟨v2, vs2, d2, ds2, p2, q2, rfl, rfl, rfl, h2, r2⟩ := trodAll_cons r1
  obtain ⟨rfl, rfl, rfl⟩ := trodAll_nil r2
  obtain rfl : args = #[v0, v1, v2] := by cases args; simp_all
  obtain ⟨rfl, rfl⟩ := trodVars_none hV
  obtain ⟨A0, n0, c0, ds, A1, n1, c1, cs, A2, n2, c2, gs, T, rfl, ⟨l0, m0⟩, ⟨l1, m1⟩, ⟨l2, m2⟩, wT, ⟨g0, zz0⟩, ⟨g1, zz1⟩, g2, _⟩ := Sp.take_show (hval 0 26 v0 rfl rfl) h0
  obtain ⟨A9, n9, c9, a9, rfl, l9, m9, g9, w9⟩ := Pls.take_places Tryz.underlying27 Tryz.underlying29 (by kernel_rfl) rfl rfl (by kernel_rfl) (by kernel_rfl) Tryz.underlying3 Tryz.underlying3 (hval 1 27 v1 rfl rfl) h1
  obtain ⟨x2, y2, z2, u2, rfl, wx2, wy2, wz2, wu2⟩ := Str.take_box Tryz.underlying31 (by kernel_rfl) rfl rfl rfl rfl Tryz.underlying29 (by kernel_rfl) (by kernel_rfl) Tryz.underlying3 Tryz.underlying3 (hval 2 31 v2 rfl rfl) h2
  clear hA0 hval0
  rw [List.append_nil] at hW'
  refine (walk A0 n0 c0 A1 n1 c1 A2 n2 c2 T ds cs gs l0 m0 l1 m1 l2 m2 wT A9 n9 c9 a9 l9 m9 x2 y2 z2 u2 wx2 wy2 wz2 wu2 W g0 zz0 g1 zz1 g2 g9 w9).mono fun e W' ⟨he, hb⟩ => ?_
  subst he
  exact ⟨_, rfl, post_law rfl hW' hA1 laidOut (by rw [Tryz.params3]; exact of_decide_eq_true (by kernel_rfl)) 4 (by kernel_rfl) Tryz.underlying4 rfl hb⟩

theorem over : Rows.fnExactWetWindRow.holds Tryz.pinned (OpenSpec.ofChange Rows.fnExactWetWindSpec) :=
  OpenClaim.holds_of_wide 3 Tryz.f3 rfl rfl rfl rfl rfl rfl rfl ⟨rfl, rfl, rfl, rfl, rfl⟩ rfl rfl rfl rfl rfl (by kernel_rfl) Tryz.func3 (by kernel_rfl)
    (of_decide_eq_true (by kernel_rfl)) (by unfold Func.isWrapper; first | (rw [if_pos (by decide +kernel)]; kernel_rfl) | (rw [if_neg (by decide +kernel)]; exact ⟨rfl, rfl⟩))
    (fun os started H enc _ => lifted os started H enc)

/-- The statement. -/
theorem proved : Rows.FnExactWetWindSaid :=
  over
#print axioms proved
end Go.Proofs.YtokncfhpmjohdaaGreat.fnExactWetWind
