/- The law FnExactLiftLimit holds at every input. The step from the walk to the row follows the guide's own template. -/
import Derived.Test.YtejeikfgmiadhabMem
import Derived.Test.YtejeikfgmiadhabPls4
import Derived.Test.YtejeikfgmiadhabBxb
import Derived.Test.YtejeikfgmiadhabQ2
import Derived.Test.YtejeikfgmiadhabLl10
import Derived.Test.YtejeikfgmiadhabLm10
import Derived.Deep.RegionHeld3
namespace Go.Proofs.Ytejeikfgmiadhab.fnExactLiftLimit
open Go.ChangeShapes Go.WideShapes Go.ChangeAt Go.RowKit Go.WideMaps Go.WideElems Go.Proofs.Ytejeikfgmiadhab.Mem
open Go.ChangeMaps (open_string shut_string)
set_option linter.unusedVariables false
set_option linter.unusedSimpArgs false

theorem own : ownKnob Try.prog.godebug = none := by kernel_rfl
theorem laidOut : laidOutB Try.prog = true := by kernel_rfl

open Go.Proofs.Ytejeikfgmiadhab.Rw (owns_below owns_grown owns_base)
open Go.Proofs.Ytejeikfgmiadhab.Bk Go.Proofs.Ytejeikfgmiadhab.P2
open Go.Proofs.Ytejeikfgmiadhab.Pls (pls)
open Go.Proofs.Ytejeikfgmiadhab.Ll10 (llV llI)
open Go.Proofs.Ytejeikfgmiadhab.Lm10 (llS)
open Go.Proofs.Ytejeikfgmiadhab.Dd (Dok)
open Go.Proofs.Ytejeikfgmiadhab.Dv (szYes szNo toDevice)

theorem szP_yes (A : Option Addr) (n c : Nat) (L : Int) (hL2 : IntKind.i64.wrap (L - (n : Int)) = L - n) (hL : wrap64 (L - (n : Int)) = L - n) (h : ¬ L - (n : Int) < 0) (w : World) :
    Calls Try.prog 5 #[.slice A n c, .int .i64 L] w fun e w' => e = .returned (.int .i64 (L - (n : Int))) ∧ Below w.heap.size w w' := by
  go_enter Try.func5, Try.ntmps5
  go_wp2
  go_ret
  exact ⟨rfl, Below.refl _ _⟩
theorem szP_no (A : Option Addr) (n c : Nat) (L : Int) (hL2 : IntKind.i64.wrap (L - (n : Int)) = L - n) (hL : wrap64 (L - (n : Int)) = L - n) (h : L - (n : Int) < 0) (w : World) :
    Calls Try.prog 5 #[.slice A n c, .int .i64 L] w fun e w' => e = .returned (.int .i64 (-1)) ∧ Below w.heap.size w w' := by
  go_enter Try.func5, Try.ntmps5
  go_wp2
  go_ret
  exact ⟨rfl, Below.refl _ _⟩

theorem sz_no (nm : ByteArray) (kd : Int) (ln : ByteArray) (jx jy h t m : Int) (hn : nm.size ≤ maxLen) (hl : ln.size ≤ maxLen) (hR : (1048576 : Int) - (nm.size : Int) - (ln.size : Int) < 0) (W : World) :
    Calls Try.prog 4 #[Dd.va nm kd ln jx jy h t m, .int .i64 1048576] W fun e w' => e = .returned (.int .i64 (-1)) ∧ Below W.heap.size W w' :=
  (szNo nm kd ln jx jy h t m 1048576 (by omega) (by omega) hn hl hR W).mono fun _ _ k => ⟨k.1, by rw [k.2]; exact (Below.refl _ _).alloc (Nat.le_refl _) _⟩
theorem sz_yes (nm : ByteArray) (kd : Int) (ln : ByteArray) (jx jy h t m R : Int) (hR : (1048576 : Int) - (nm.size : Int) - (ln.size : Int) = R) (hp : 0 ≤ R) (W : World) :
    Calls Try.prog 4 #[Dd.va nm kd ln jx jy h t m, .int .i64 1048576] W fun e w' => e = .returned (.int .i64 R) ∧ Below W.heap.size W w' :=
  (szYes nm kd ln jx jy h t m 1048576 R (by omega) hR hp W).mono fun _ _ k => ⟨k.1, by rw [k.2]; exact (Below.refl _ _).alloc (Nat.le_refl _) _⟩
set_option maxRecDepth 100000 in
set_option maxHeartbeats 8000000 in
theorem walk (d : Dd.D) (hd : Dok d) (A9 : Option Addr) (n9 c9 : Nat) (ps : List (Int × Int)) (hn9 : ps.length = n9) (hm9 : n9 ≤ maxLen) (x2 y2 z2 u2 : Int) (wx2 : (Lit.int .i64 x2).wf = true) (wy2 : (Lit.int .i64 y2).wf = true) (wz2 : (Lit.int .i64 z2).wf = true) (wu2 : (Lit.int .i64 u2).wf = true) (w : World) (hr9 : Rd w w.heap.size A9 (pls ps)) (hw9 : ∀ z ∈ ps, (Lit.int .i64 z.1).wf = true ∧ (Lit.int .i64 z.2).wf = true) :
    Calls Try.prog 3 #[Dd.va d.nm d.kd d.ln d.x d.y d.hd d.tl d.ms, .slice A9 n9 c9, .agg #[.int .i64 x2, .int .i64 y2, .int .i64 z2, .int .i64 u2]] w fun e w' => e = .returned (.bool true) ∧ Below w.heap.size w w' := by
  obtain ⟨nm, kd, ln, jx, jy, h, t, m⟩ := d
  obtain ⟨hn, hl, _⟩ := hd
  show Calls Try.prog 3 #[Dd.va nm kd ln jx jy h t m, .slice A9 n9 c9, .agg #[.int .i64 x2, .int .i64 y2, .int .i64 z2, .int .i64 u2]] w fun e w' => e = .returned (.bool true) ∧ Below w.heap.size w w'
  simp only [] at hn hl
  unfold maxLen at hm9
  clear hw9 wx2 wy2 wz2 wu2
  have hz0 : (w.alloc (.cells #[.string nm, .int .i64 kd, .string ln, .int .i64 jx, .int .i64 jy, .int .i64 h, .int .i64 t, .int .i64 m] 25)).heap.size = w.heap.size + 1 := by simp [go_sem]
  have B0_0 := (Below.refl w.heap.size w).alloc (Nat.le_refl _) (.cells #[.string nm, .int .i64 kd, .string ln, .int .i64 jx, .int .i64 jy, .int .i64 h, .int .i64 t, .int .i64 m] 25)
  have B0 := B0_0.alloc B0_0.size (.cells #[.int .i64 x2, .int .i64 y2, .int .i64 z2, .int .i64 u2] 28)
  have K0 := Lib.hid ((Bk.new w #[.string nm, .int .i64 kd, .string ln, .int .i64 jx, .int .i64 jy, .int .i64 h, .int .i64 t, .int .i64 m] 25).alloc (o := (.cells #[.int .i64 x2, .int .i64 y2, .int .i64 z2, .int .i64 u2] 28)))
  have KE := Bk.new (w.alloc (.cells #[.string nm, .int .i64 kd, .string ln, .int .i64 jx, .int .i64 jy, .int .i64 h, .int .i64 t, .int .i64 m] 25)) #[.int .i64 x2, .int .i64 y2, .int .i64 z2, .int .i64 u2] 28
  rw [hz0] at KE
  have KE := Lib.hid KE
  by_cases hR : (1048576 : Int) - (nm.size : Int) - (ln.size : Int) < 0
  · have SZ := Lib.hid (fun (W : World) => sz_no nm kd ln jx jy h t m hn hl hR W)
    have BB := Lib.hid B0
    clear hn hl hR hn9 hm9 hr9 hz0 B0_0 B0 KE
    have k0 := K0.out.cell (i := 0) rfl
    have k1 := K0.out.cell (i := 1) rfl
    have k2 := K0.out.cell (i := 2) rfl
    have k3 := K0.out.cell (i := 3) rfl
    have k4 := K0.out.cell (i := 4) rfl
    have k5 := K0.out.cell (i := 5) rfl
    have k6 := K0.out.cell (i := 6) rfl
    have k7 := K0.out.cell (i := 7) rfl
    go_enter Try.func3, Try.ntmps3
    go_wp2_with fail
    refine (SZ.out _).mono ?_
    rintro e w1 ⟨rfl, hb⟩
    have B2 := BB.out.trans (hb.mono BB.out.size)
    clear hb SZ BB
    go_wp2_with fail
    go_returns
    exact ⟨rfl, B2⟩
  obtain ⟨R, hRR⟩ : ∃ R : Int, (1048576 : Int) - (nm.size : Int) - (ln.size : Int) = R := ⟨_, rfl⟩
  have hp : ¬ R < 0 := by omega
  have SZ := Lib.hid (fun (W : World) => sz_yes nm kd ln jx jy h t m R hRR (by omega) W)
  have hL9 : wrap64 (R - (n9 : Int)) = R - n9 := IntWalk.wrap64_in _ (by omega)
  have hL8 : IntKind.i64.wrap (R - (n9 : Int)) = R - n9 := IntWalk.i64_in _ (by omega)
  by_cases hz9 : R - (n9 : Int) < 0
  · have BB := Lib.hid B0
    have SP := Lib.hid (fun (W : World) => szP_no A9 n9 c9 R hL8 hL9 hz9 W)
    clear hn hl hR hRR B0 B0_0 hn9 hm9 hr9 hz0 hL9 hL8 KE
    have k0 := K0.out.cell (i := 0) rfl
    have k1 := K0.out.cell (i := 1) rfl
    have k2 := K0.out.cell (i := 2) rfl
    have k3 := K0.out.cell (i := 3) rfl
    have k4 := K0.out.cell (i := 4) rfl
    have k5 := K0.out.cell (i := 5) rfl
    have k6 := K0.out.cell (i := 6) rfl
    have k7 := K0.out.cell (i := 7) rfl
    go_enter Try.func3, Try.ntmps3
    go_wp2_with fail
    refine (SZ.out _).mono ?_
    rintro e w1 ⟨rfl, hb⟩
    have B2 := Lib.hid (BB.out.trans (hb.mono BB.out.size))
    clear hb SZ BB
    go_wp2_with fail
    refine (SP.out _).mono ?_
    rintro e w2 ⟨rfl, hb⟩
    have B3 := B2.out.trans (hb.mono B2.out.size)
    clear hb SP B2
    go_wp2_with fail
    go_returns
    exact ⟨rfl, B3⟩
  have SP := Lib.hid (fun (W : World) => szP_yes A9 n9 c9 R hL8 hL9 hz9 W)
  have HN9 := Lib.hid (show ps.length = n9 ∧ n9 ≤ 1048576 from ⟨hn9, by omega⟩)
  have HR9 := Lib.hid hr9
  have HS1 := Lib.hid (show nm.size ≤ 1048576 ∧ ln.size ≤ 1048576 from ⟨by omega, by omega⟩)
  have TD := Lib.hid (fun (W : World) => toDevice nm kd ln jx jy h t m W)
  have TB := Lib.hid (fun (W : World) => Bxb.toBox x2 y2 z2 u2 W)
  obtain ⟨r, hrr⟩ : ∃ r : Int, llV nm kd ln jx jy h t m ps x2 y2 z2 u2 = r := ⟨_, rfl⟩
  have CS := Lib.hid (show ∀ (g9 : Nat) (W : World) (h9 : Rd W W.heap.size (some ⟨g9, 0, none⟩) (pls ps)), Calls Try.prog 6 #[Dd.va nm kd ln jx jy h t m, .slice (some ⟨g9, 0, none⟩) n9 n9, .agg #[.int .i64 x2, .int .i64 y2, .int .i64 z2, .int .i64 u2]] W (fun e w' => e = .returned (.int .i64 r) ∧ Below W.heap.size W w') from fun g9 W h9 => by have := llS nm kd ln jx jy h t m _ n9 n9 ps x2 y2 z2 u2 W HS1.out.1 HS1.out.2 HN9.out.1 HN9.out.2 h9; rw [hrr] at this; exact this)
  have CI := Lib.hid (show ∀ (g9 : Nat) (W : World) (h9 : Rd W W.heap.size (some ⟨g9, 0, none⟩) (pls ps)), Calls Try.prog 10 #[Dd.va nm kd ln jx jy h t m, .slice (some ⟨g9, 0, none⟩) n9 n9, .agg #[.int .i64 x2, .int .i64 y2, .int .i64 z2, .int .i64 u2]] W (fun e w' => e = .returned (.int .i64 r) ∧ Below W.heap.size W w') from fun g9 W h9 => by have := llI nm kd ln jx jy h t m _ n9 n9 ps x2 y2 z2 u2 W HN9.out.1 HN9.out.2 h9; rw [hrr] at this; exact this)
  have BB := Lib.hid B0
  have hu : undef = Value.tuple #[] := rfl
  clear hn hl hR hRR B0 B0_0 hn9 hm9 hr9 hz0 hL9 hL8 hrr HS1
  go_enter Try.func3, Try.ntmps3
  have fK0_0 := K0.out.cell (i := 0) rfl
  have fK0_1 := K0.out.cell (i := 1) rfl
  have fK0_2 := K0.out.cell (i := 2) rfl
  have fK0_3 := K0.out.cell (i := 3) rfl
  have fK0_4 := K0.out.cell (i := 4) rfl
  have fK0_5 := K0.out.cell (i := 5) rfl
  have fK0_6 := K0.out.cell (i := 6) rfl
  have fK0_7 := K0.out.cell (i := 7) rfl
  have fKE_0 := KE.out.cell (i := 0) rfl
  have fKE_1 := KE.out.cell (i := 1) rfl
  have fKE_2 := KE.out.cell (i := 2) rfl
  have fKE_3 := KE.out.cell (i := 3) rfl
  go_wp2_with fail
  clear fK0_0 fK0_1 fK0_2 fK0_3 fK0_4 fK0_5 fK0_6 fK0_7 fKE_0 fKE_1 fKE_2 fKE_3
  refine (SZ.out _).mono ?_
  rintro e V1 ⟨rfl, hb⟩
  have K01 := Lib.hid (K0.out.below hb)
  have KE1 := Lib.hid (KE.out.below hb)
  have B2 := Lib.hid (BB.out.trans (hb.mono BB.out.size))
  clear hb K0 KE BB
  have K0 := K01
  clear K01
  have KE := KE1
  clear KE1
  have BB := B2
  clear B2
  have fK0_0 := K0.out.cell (i := 0) rfl
  have fK0_1 := K0.out.cell (i := 1) rfl
  have fK0_2 := K0.out.cell (i := 2) rfl
  have fK0_3 := K0.out.cell (i := 3) rfl
  have fK0_4 := K0.out.cell (i := 4) rfl
  have fK0_5 := K0.out.cell (i := 5) rfl
  have fK0_6 := K0.out.cell (i := 6) rfl
  have fK0_7 := K0.out.cell (i := 7) rfl
  have fKE_0 := KE.out.cell (i := 0) rfl
  have fKE_1 := KE.out.cell (i := 1) rfl
  have fKE_2 := KE.out.cell (i := 2) rfl
  have fKE_3 := KE.out.cell (i := 3) rfl
  clear SZ
  go_wp2_with fail
  clear fK0_0 fK0_1 fK0_2 fK0_3 fK0_4 fK0_5 fK0_6 fK0_7 fKE_0 fKE_1 fKE_2 fKE_3
  refine (SP.out _).mono ?_
  rintro e V2 ⟨rfl, hb⟩
  have K01 := Lib.hid (K0.out.below hb)
  have KE1 := Lib.hid (KE.out.below hb)
  have B2 := Lib.hid (BB.out.trans (hb.mono BB.out.size))
  clear hb K0 KE BB
  have K0 := K01
  clear K01
  have KE := KE1
  clear KE1
  have BB := B2
  clear B2
  have fK0_0 := K0.out.cell (i := 0) rfl
  have fK0_1 := K0.out.cell (i := 1) rfl
  have fK0_2 := K0.out.cell (i := 2) rfl
  have fK0_3 := K0.out.cell (i := 3) rfl
  have fK0_4 := K0.out.cell (i := 4) rfl
  have fK0_5 := K0.out.cell (i := 5) rfl
  have fK0_6 := K0.out.cell (i := 6) rfl
  have fK0_7 := K0.out.cell (i := 7) rfl
  have fKE_0 := KE.out.cell (i := 0) rfl
  have fKE_1 := KE.out.cell (i := 1) rfl
  have fKE_2 := KE.out.cell (i := 2) rfl
  have fKE_3 := KE.out.cell (i := 3) rfl
  clear SP
  go_wp2_with fail
  refine wp_region_noPanic ?_
  refine wp_region_held_drew (S := (fun w' => w'.cell? ⟨w.heap.size, 0, none⟩ = some (.string nm) ∧ w'.cell? ⟨w.heap.size, 1, none⟩ = some (.int .i64 kd) ∧ w'.cell? ⟨w.heap.size, 2, none⟩ = some (.string ln) ∧ w'.cell? ⟨w.heap.size, 3, none⟩ = some (.int .i64 jx) ∧ w'.cell? ⟨w.heap.size, 4, none⟩ = some (.int .i64 jy) ∧ w'.cell? ⟨w.heap.size, 5, none⟩ = some (.int .i64 h) ∧ w'.cell? ⟨w.heap.size, 6, none⟩ = some (.int .i64 t) ∧ w'.cell? ⟨w.heap.size, 7, none⟩ = some (.int .i64 m) ∧ w'.cell? ⟨w.heap.size + 1, 0, none⟩ = some (.int .i64 x2) ∧ w'.cell? ⟨w.heap.size + 1, 1, none⟩ = some (.int .i64 y2) ∧ w'.cell? ⟨w.heap.size + 1, 2, none⟩ = some (.int .i64 z2) ∧ w'.cell? ⟨w.heap.size + 1, 3, none⟩ = some (.int .i64 u2) ∧ Below V2.heap.size V2 w')) (by kernel_rfl) ?_ (fun hH => ?_)
  · exact ⟨fK0_0, fK0_1, fK0_2, fK0_3, fK0_4, fK0_5, fK0_6, fK0_7, fKE_0, fKE_1, fKE_2, fKE_3, (Below.refl _ _).drew⟩
  refine wpAnyH_take (i := 0) (oi := { dst := some 21, op := _, type := _, pos := _, after := _, guard := _ }) (v := ?_) rfl (by kernel_rfl) (by kernel_rfl) (by kernel_rfl) (fun _ _ _ h => h) (Or.inl ⟨by rfl, ?_⟩) hH ?_
  rotate_left 1
  · intro W hSw
    (try dsimp only at hSw)
    go_simp
    (try with_reducible rfl)
  try simp only [Act.put, List.setIfInBounds_toArray, List.set_cons_zero, List.set_cons_succ]
  refine wpAnyH_take (i := 2) (oi := { dst := some 23, op := _, type := _, pos := _, after := _, guard := _ }) (v := ?_) rfl (by kernel_rfl) (by kernel_rfl) (by kernel_rfl) (fun _ _ _ h => h) (Or.inl ⟨by rfl, ?_⟩) hH ?_
  rotate_left 1
  · intro W hSw
    (try dsimp only at hSw)
    go_simp
    (try with_reducible rfl)
  try simp only [Act.put, List.setIfInBounds_toArray, List.set_cons_zero, List.set_cons_succ]
  refine wpAnyH_take (i := 4) (oi := { dst := some 25, op := _, type := _, pos := _, after := _, guard := _ }) (v := ?_) rfl (by kernel_rfl) (by kernel_rfl) (by kernel_rfl) (fun _ _ _ h => h) (Or.inl ⟨by rfl, ?_⟩) hH ?_
  rotate_left 1
  · intro W hSw
    (try dsimp only at hSw)
    go_simp
    (try with_reducible rfl)
  try simp only [Act.put, List.setIfInBounds_toArray, List.set_cons_zero, List.set_cons_succ]
  refine wpAnyH_ready (rs := [1]) (by kernel_rfl) (by simp) (AllReadyH.cons rfl (fun K hK => ?_) AllReadyH.nil)
  go_simp
  go_at_call 7; ((with_reducible refine (TD.out _).mono ?_); rintro e r8_0 ⟨rfl, hb0⟩); go_wp2_with fail
  refine hK.out _ _ ?_ (fun hG => ?_)
  · exact ⟨cell_below hb0 hH.1, cell_below hb0 hH.2.1, cell_below hb0 hH.2.2.1, cell_below hb0 hH.2.2.2.1, cell_below hb0 hH.2.2.2.2.1, cell_below hb0 hH.2.2.2.2.2.1, cell_below hb0 hH.2.2.2.2.2.2.1, cell_below hb0 hH.2.2.2.2.2.2.2.1, cell_below hb0 hH.2.2.2.2.2.2.2.2.1, cell_below hb0 hH.2.2.2.2.2.2.2.2.2.1, cell_below hb0 hH.2.2.2.2.2.2.2.2.2.2.1, cell_below hb0 hH.2.2.2.2.2.2.2.2.2.2.2.1, hH.2.2.2.2.2.2.2.2.2.2.2.2.trans (hb0.mono hH.2.2.2.2.2.2.2.2.2.2.2.2.size)⟩
  replace hH := hG
  clear hK K hG
  try simp only [Act.put, List.setIfInBounds_toArray, List.set_cons_zero, List.set_cons_succ]
  refine wpAnyH_ready (rs := [3]) (by kernel_rfl) (by simp) (AllReadyH.cons rfl (fun K hK => ?_) AllReadyH.nil)
  go_simp
  go_at_call 8; ((with_reducible refine (Pls.toPlaceS A9 n9 c9 ps _ HN9.out.1 HN9.out.2 ((HR9.out.below (BB.out.trans (hH.2.2.2.2.2.2.2.2.2.2.2.2.mono BB.out.size))).more (BB.out.trans (hH.2.2.2.2.2.2.2.2.2.2.2.2.mono BB.out.size)).size)).mono ?_); rintro e r8_1 ⟨gp1, rfl, _, op1, hb1⟩); go_wp2_with fail
  refine hK.out _ _ ?_ (fun hG => ?_)
  · exact ⟨cell_below hb1 hH.1, cell_below hb1 hH.2.1, cell_below hb1 hH.2.2.1, cell_below hb1 hH.2.2.2.1, cell_below hb1 hH.2.2.2.2.1, cell_below hb1 hH.2.2.2.2.2.1, cell_below hb1 hH.2.2.2.2.2.2.1, cell_below hb1 hH.2.2.2.2.2.2.2.1, cell_below hb1 hH.2.2.2.2.2.2.2.2.1, cell_below hb1 hH.2.2.2.2.2.2.2.2.2.1, cell_below hb1 hH.2.2.2.2.2.2.2.2.2.2.1, cell_below hb1 hH.2.2.2.2.2.2.2.2.2.2.2.1, hH.2.2.2.2.2.2.2.2.2.2.2.2.trans (hb1.mono hH.2.2.2.2.2.2.2.2.2.2.2.2.size)⟩
  replace hH := hG
  clear hK K hG
  try simp only [Act.put, List.setIfInBounds_toArray, List.set_cons_zero, List.set_cons_succ]
  refine wpAnyH_ready (rs := [5]) (by kernel_rfl) (by simp) (AllReadyH.cons rfl (fun K hK => ?_) AllReadyH.nil)
  go_simp
  go_at_call 9; ((with_reducible refine (TB.out _).mono ?_); rintro e r8_2 ⟨rfl, hb2⟩); go_wp2_with fail
  refine hK.out _ _ ?_ (fun hG => ?_)
  · exact ⟨cell_below hb2 hH.1, cell_below hb2 hH.2.1, cell_below hb2 hH.2.2.1, cell_below hb2 hH.2.2.2.1, cell_below hb2 hH.2.2.2.2.1, cell_below hb2 hH.2.2.2.2.2.1, cell_below hb2 hH.2.2.2.2.2.2.1, cell_below hb2 hH.2.2.2.2.2.2.2.1, cell_below hb2 hH.2.2.2.2.2.2.2.2.1, cell_below hb2 hH.2.2.2.2.2.2.2.2.2.1, cell_below hb2 hH.2.2.2.2.2.2.2.2.2.2.1, cell_below hb2 hH.2.2.2.2.2.2.2.2.2.2.2.1, hH.2.2.2.2.2.2.2.2.2.2.2.2.trans (hb2.mono hH.2.2.2.2.2.2.2.2.2.2.2.2.size)⟩
  replace hH := hG
  clear hK K hG
  try simp only [Act.put, List.setIfInBounds_toArray, List.set_cons_zero, List.set_cons_succ]
  refine wpAnyH_ready (rs := [6]) (by kernel_rfl) (by simp) (AllReadyH.cons rfl (fun K hK => ?_) AllReadyH.nil)
  go_simp
  go_at_call 6; ((with_reducible refine (CS.out _ _ (((Rd.own op1).below hb2).more hb2.size)).mono ?_); rintro e r8_3 ⟨rfl, hb3⟩); go_wp2_with fail
  refine hK.out _ _ ?_ (fun hG => ?_)
  · exact ⟨cell_below hb3 hH.1, cell_below hb3 hH.2.1, cell_below hb3 hH.2.2.1, cell_below hb3 hH.2.2.2.1, cell_below hb3 hH.2.2.2.2.1, cell_below hb3 hH.2.2.2.2.2.1, cell_below hb3 hH.2.2.2.2.2.2.1, cell_below hb3 hH.2.2.2.2.2.2.2.1, cell_below hb3 hH.2.2.2.2.2.2.2.2.1, cell_below hb3 hH.2.2.2.2.2.2.2.2.2.1, cell_below hb3 hH.2.2.2.2.2.2.2.2.2.2.1, cell_below hb3 hH.2.2.2.2.2.2.2.2.2.2.2.1, hH.2.2.2.2.2.2.2.2.2.2.2.2.trans (hb3.mono hH.2.2.2.2.2.2.2.2.2.2.2.2.size)⟩
  replace hH := hG
  clear hK K hG
  try simp only [Act.put, List.setIfInBounds_toArray, List.set_cons_zero, List.set_cons_succ]
  refine wpAnyH_take (i := 7) (oi := { dst := some 8, op := _, type := _, pos := _, after := _, guard := _ }) (v := ?_) rfl (by kernel_rfl) (by kernel_rfl) (by kernel_rfl) (fun _ _ _ h => h) (Or.inl ⟨by rfl, ?_⟩) hH ?_
  rotate_left 1
  · intro W hSw
    (try dsimp only at hSw)
    go_simp
    (try with_reducible rfl)
  try simp only [Act.put, List.setIfInBounds_toArray, List.set_cons_zero, List.set_cons_succ]
  refine wpAnyH_done (by kernel_rfl) ?_ _
  refine NoPanic.normal ?_
  have hb := hH.2.2.2.2.2.2.2.2.2.2.2.2
  clear hH hb0 hb1 op1 hb2 hb3
  clear fK0_0 fK0_1 fK0_2 fK0_3 fK0_4 fK0_5 fK0_6 fK0_7 fKE_0 fKE_1 fKE_2 fKE_3
  have K01 := Lib.hid (K0.out.below hb)
  have KE1 := Lib.hid (KE.out.below hb)
  have B2 := Lib.hid (BB.out.trans (hb.mono BB.out.size))
  clear hb K0 KE BB
  have K0 := K01
  clear K01
  have KE := KE1
  clear KE1
  have BB := B2
  clear B2
  have fK0_0 := K0.out.cell (i := 0) rfl
  have fK0_1 := K0.out.cell (i := 1) rfl
  have fK0_2 := K0.out.cell (i := 2) rfl
  have fK0_3 := K0.out.cell (i := 3) rfl
  have fK0_4 := K0.out.cell (i := 4) rfl
  have fK0_5 := K0.out.cell (i := 5) rfl
  have fK0_6 := K0.out.cell (i := 6) rfl
  have fK0_7 := K0.out.cell (i := 7) rfl
  have fKE_0 := KE.out.cell (i := 0) rfl
  have fKE_1 := KE.out.cell (i := 1) rfl
  have fKE_2 := KE.out.cell (i := 2) rfl
  have fKE_3 := KE.out.cell (i := 3) rfl
  go_wp2_with fail
  clear fK0_0 fK0_1 fK0_2 fK0_3 fK0_4 fK0_5 fK0_6 fK0_7 fKE_0 fKE_1 fKE_2 fKE_3
  refine (Pls.toPlaceS A9 n9 c9 ps _ HN9.out.1 HN9.out.2 ((HR9.out.below BB.out).more BB.out.size)).mono ?_
  rintro e V3 ⟨gx, rfl, _, ho, hb⟩
  have XN_x := Lib.hid ho
  clear ho
  have K01 := Lib.hid (K0.out.below hb)
  have KE1 := Lib.hid (KE.out.below hb)
  have B2 := Lib.hid (BB.out.trans (hb.mono BB.out.size))
  clear hb K0 KE BB
  have K0 := K01
  clear K01
  have KE := KE1
  clear KE1
  have BB := B2
  clear B2
  have x := XN_x
  clear XN_x
  have fK0_0 := K0.out.cell (i := 0) rfl
  have fK0_1 := K0.out.cell (i := 1) rfl
  have fK0_2 := K0.out.cell (i := 2) rfl
  have fK0_3 := K0.out.cell (i := 3) rfl
  have fK0_4 := K0.out.cell (i := 4) rfl
  have fK0_5 := K0.out.cell (i := 5) rfl
  have fK0_6 := K0.out.cell (i := 6) rfl
  have fK0_7 := K0.out.cell (i := 7) rfl
  have fKE_0 := KE.out.cell (i := 0) rfl
  have fKE_1 := KE.out.cell (i := 1) rfl
  have fKE_2 := KE.out.cell (i := 2) rfl
  have fKE_3 := KE.out.cell (i := 3) rfl
  go_wp2_with fail
  refine wp_region_noPanic ?_
  refine wp_region_held_drew (S := (fun w' => w'.cell? ⟨w.heap.size, 0, none⟩ = some (.string nm) ∧ w'.cell? ⟨w.heap.size, 1, none⟩ = some (.int .i64 kd) ∧ w'.cell? ⟨w.heap.size, 2, none⟩ = some (.string ln) ∧ w'.cell? ⟨w.heap.size, 3, none⟩ = some (.int .i64 jx) ∧ w'.cell? ⟨w.heap.size, 4, none⟩ = some (.int .i64 jy) ∧ w'.cell? ⟨w.heap.size, 5, none⟩ = some (.int .i64 h) ∧ w'.cell? ⟨w.heap.size, 6, none⟩ = some (.int .i64 t) ∧ w'.cell? ⟨w.heap.size, 7, none⟩ = some (.int .i64 m) ∧ w'.cell? ⟨w.heap.size + 1, 0, none⟩ = some (.int .i64 x2) ∧ w'.cell? ⟨w.heap.size + 1, 1, none⟩ = some (.int .i64 y2) ∧ w'.cell? ⟨w.heap.size + 1, 2, none⟩ = some (.int .i64 z2) ∧ w'.cell? ⟨w.heap.size + 1, 3, none⟩ = some (.int .i64 u2) ∧ Below V3.heap.size V3 w')) (by kernel_rfl) ?_ (fun hH => ?_)
  · exact ⟨fK0_0, fK0_1, fK0_2, fK0_3, fK0_4, fK0_5, fK0_6, fK0_7, fKE_0, fKE_1, fKE_2, fKE_3, (Below.refl _ _).drew⟩
  refine wpAnyH_take (i := 0) (oi := { dst := some 30, op := _, type := _, pos := _, after := _, guard := _ }) (v := ?_) rfl (by kernel_rfl) (by kernel_rfl) (by kernel_rfl) (fun _ _ _ h => h) (Or.inl ⟨by rfl, ?_⟩) hH ?_
  rotate_left 1
  · intro W hSw
    (try dsimp only at hSw)
    go_simp
    (try with_reducible rfl)
  try simp only [Act.put, List.setIfInBounds_toArray, List.set_cons_zero, List.set_cons_succ]
  refine wpAnyH_take (i := 2) (oi := { dst := some 32, op := _, type := _, pos := _, after := _, guard := _ }) (v := ?_) rfl (by kernel_rfl) (by kernel_rfl) (by kernel_rfl) (fun _ _ _ h => h) (Or.inl ⟨by rfl, ?_⟩) hH ?_
  rotate_left 1
  · intro W hSw
    (try dsimp only at hSw)
    go_simp
    (try with_reducible rfl)
  try simp only [Act.put, List.setIfInBounds_toArray, List.set_cons_zero, List.set_cons_succ]
  refine wpAnyH_take (i := 3) (oi := { dst := some 33, op := _, type := _, pos := _, after := _, guard := _ }) (v := ?_) rfl (by kernel_rfl) (by kernel_rfl) (by kernel_rfl) (fun _ _ _ h => h) (Or.inl ⟨by rfl, ?_⟩) hH ?_
  rotate_left 1
  · intro W hSw
    (try dsimp only at hSw)
    go_simp
    (try with_reducible rfl)
  try simp only [Act.put, List.setIfInBounds_toArray, List.set_cons_zero, List.set_cons_succ]
  refine wpAnyH_ready (rs := [1]) (by kernel_rfl) (by simp) (AllReadyH.cons rfl (fun K hK => ?_) AllReadyH.nil)
  go_simp
  go_at_call 7; ((with_reducible refine (TD.out _).mono ?_); rintro e r10_0 ⟨rfl, hb0⟩); go_wp2_with fail
  refine hK.out _ _ ?_ (fun hG => ?_)
  · exact ⟨cell_below hb0 hH.1, cell_below hb0 hH.2.1, cell_below hb0 hH.2.2.1, cell_below hb0 hH.2.2.2.1, cell_below hb0 hH.2.2.2.2.1, cell_below hb0 hH.2.2.2.2.2.1, cell_below hb0 hH.2.2.2.2.2.2.1, cell_below hb0 hH.2.2.2.2.2.2.2.1, cell_below hb0 hH.2.2.2.2.2.2.2.2.1, cell_below hb0 hH.2.2.2.2.2.2.2.2.2.1, cell_below hb0 hH.2.2.2.2.2.2.2.2.2.2.1, cell_below hb0 hH.2.2.2.2.2.2.2.2.2.2.2.1, hH.2.2.2.2.2.2.2.2.2.2.2.2.trans (hb0.mono hH.2.2.2.2.2.2.2.2.2.2.2.2.size)⟩
  replace hH := hG
  clear hK K hG
  try simp only [Act.put, List.setIfInBounds_toArray, List.set_cons_zero, List.set_cons_succ]
  refine wpAnyH_ready (rs := [4]) (by kernel_rfl) (by simp) (AllReadyH.cons rfl (fun K hK => ?_) AllReadyH.nil)
  go_simp
  go_at_call 9; ((with_reducible refine (TB.out _).mono ?_); rintro e r10_1 ⟨rfl, hb1⟩); go_wp2_with fail
  refine hK.out _ _ ?_ (fun hG => ?_)
  · exact ⟨cell_below hb1 hH.1, cell_below hb1 hH.2.1, cell_below hb1 hH.2.2.1, cell_below hb1 hH.2.2.2.1, cell_below hb1 hH.2.2.2.2.1, cell_below hb1 hH.2.2.2.2.2.1, cell_below hb1 hH.2.2.2.2.2.2.1, cell_below hb1 hH.2.2.2.2.2.2.2.1, cell_below hb1 hH.2.2.2.2.2.2.2.2.1, cell_below hb1 hH.2.2.2.2.2.2.2.2.2.1, cell_below hb1 hH.2.2.2.2.2.2.2.2.2.2.1, cell_below hb1 hH.2.2.2.2.2.2.2.2.2.2.2.1, hH.2.2.2.2.2.2.2.2.2.2.2.2.trans (hb1.mono hH.2.2.2.2.2.2.2.2.2.2.2.2.size)⟩
  replace hH := hG
  clear hK K hG
  try simp only [Act.put, List.setIfInBounds_toArray, List.set_cons_zero, List.set_cons_succ]
  refine wpAnyH_ready (rs := [5]) (by kernel_rfl) (by simp) (AllReadyH.cons rfl (fun K hK => ?_) AllReadyH.nil)
  go_simp
  go_at_call 10; ((with_reducible refine (CI.out _ _ (((Rd.own x.out).below hH.2.2.2.2.2.2.2.2.2.2.2.2).more hH.2.2.2.2.2.2.2.2.2.2.2.2.size)).mono ?_); rintro e r10_2 ⟨rfl, hb2⟩); go_wp2_with fail
  refine hK.out _ _ ?_ (fun hG => ?_)
  · exact ⟨cell_below hb2 hH.1, cell_below hb2 hH.2.1, cell_below hb2 hH.2.2.1, cell_below hb2 hH.2.2.2.1, cell_below hb2 hH.2.2.2.2.1, cell_below hb2 hH.2.2.2.2.2.1, cell_below hb2 hH.2.2.2.2.2.2.1, cell_below hb2 hH.2.2.2.2.2.2.2.1, cell_below hb2 hH.2.2.2.2.2.2.2.2.1, cell_below hb2 hH.2.2.2.2.2.2.2.2.2.1, cell_below hb2 hH.2.2.2.2.2.2.2.2.2.2.1, cell_below hb2 hH.2.2.2.2.2.2.2.2.2.2.2.1, hH.2.2.2.2.2.2.2.2.2.2.2.2.trans (hb2.mono hH.2.2.2.2.2.2.2.2.2.2.2.2.size)⟩
  replace hH := hG
  clear hK K hG
  try simp only [Act.put, List.setIfInBounds_toArray, List.set_cons_zero, List.set_cons_succ]
  refine wpAnyH_take (i := 6) (oi := { dst := some 10, op := _, type := _, pos := _, after := _, guard := _ }) (v := ?_) rfl (by kernel_rfl) (by kernel_rfl) (by kernel_rfl) (fun _ _ _ h => h) (Or.inl ⟨by rfl, ?_⟩) hH ?_
  rotate_left 1
  · intro W hSw
    (try dsimp only at hSw)
    go_simp
    (try with_reducible rfl)
  try simp only [Act.put, List.setIfInBounds_toArray, List.set_cons_zero, List.set_cons_succ]
  refine wpAnyH_done (by kernel_rfl) ?_ _
  refine NoPanic.normal ?_
  have hb := hH.2.2.2.2.2.2.2.2.2.2.2.2
  clear hH hb0 hb1 hb2
  clear fK0_0 fK0_1 fK0_2 fK0_3 fK0_4 fK0_5 fK0_6 fK0_7 fKE_0 fKE_1 fKE_2 fKE_3
  have K01 := Lib.hid (K0.out.below hb)
  have KE1 := Lib.hid (KE.out.below hb)
  have B2 := Lib.hid (BB.out.trans (hb.mono BB.out.size))
  have xn := Lib.hid (owns_below x.out hb)
  clear hb K0 KE BB
  clear x
  have K0 := K01
  clear K01
  have KE := KE1
  clear KE1
  have BB := B2
  clear B2
  have x := xn
  clear xn
  have fK0_0 := K0.out.cell (i := 0) rfl
  have fK0_1 := K0.out.cell (i := 1) rfl
  have fK0_2 := K0.out.cell (i := 2) rfl
  have fK0_3 := K0.out.cell (i := 3) rfl
  have fK0_4 := K0.out.cell (i := 4) rfl
  have fK0_5 := K0.out.cell (i := 5) rfl
  have fK0_6 := K0.out.cell (i := 6) rfl
  have fK0_7 := K0.out.cell (i := 7) rfl
  have fKE_0 := KE.out.cell (i := 0) rfl
  have fKE_1 := KE.out.cell (i := 1) rfl
  have fKE_2 := KE.out.cell (i := 2) rfl
  have fKE_3 := KE.out.cell (i := 3) rfl
  go_wp2_with fail
  clear fK0_0 fK0_1 fK0_2 fK0_3 fK0_4 fK0_5 fK0_6 fK0_7 fKE_0 fKE_1 fKE_2 fKE_3
  refine (Pls.toPlaceS A9 n9 c9 ps _ HN9.out.1 HN9.out.2 ((HR9.out.below BB.out).more BB.out.size)).mono ?_
  rintro e V4 ⟨gy, rfl, _, ho, hb⟩
  have XN_y := Lib.hid ho
  clear ho
  have K01 := Lib.hid (K0.out.below hb)
  have KE1 := Lib.hid (KE.out.below hb)
  have B2 := Lib.hid (BB.out.trans (hb.mono BB.out.size))
  have xn := Lib.hid (owns_below x.out hb)
  clear hb K0 KE BB
  clear x
  have K0 := K01
  clear K01
  have KE := KE1
  clear KE1
  have BB := B2
  clear B2
  have x := xn
  clear xn
  have y := XN_y
  clear XN_y
  have fK0_0 := K0.out.cell (i := 0) rfl
  have fK0_1 := K0.out.cell (i := 1) rfl
  have fK0_2 := K0.out.cell (i := 2) rfl
  have fK0_3 := K0.out.cell (i := 3) rfl
  have fK0_4 := K0.out.cell (i := 4) rfl
  have fK0_5 := K0.out.cell (i := 5) rfl
  have fK0_6 := K0.out.cell (i := 6) rfl
  have fK0_7 := K0.out.cell (i := 7) rfl
  have fKE_0 := KE.out.cell (i := 0) rfl
  have fKE_1 := KE.out.cell (i := 1) rfl
  have fKE_2 := KE.out.cell (i := 2) rfl
  have fKE_3 := KE.out.cell (i := 3) rfl
  go_wp2_with fail
  clear fK0_0 fK0_1 fK0_2 fK0_3 fK0_4 fK0_5 fK0_6 fK0_7 fKE_0 fKE_1 fKE_2 fKE_3
  refine (Pls.eqPlaceS _ _ n9 n9 n9 ps _ _ HN9.out.1 HN9.out.2 (Nat.le_refl _) (Rd.own x.out) (Rd.own y.out)).mono ?_
  rintro e V5 ⟨rfl, hb⟩
  have K01 := Lib.hid (K0.out.below hb)
  have KE1 := Lib.hid (KE.out.below hb)
  have B2 := Lib.hid (BB.out.trans (hb.mono BB.out.size))
  have xn := Lib.hid (owns_below x.out hb)
  have yn := Lib.hid (owns_below y.out hb)
  clear hb K0 KE BB
  clear x y
  have K0 := K01
  clear K01
  have KE := KE1
  clear KE1
  have BB := B2
  clear B2
  have x := xn
  clear xn
  have y := yn
  clear yn
  have fK0_0 := K0.out.cell (i := 0) rfl
  have fK0_1 := K0.out.cell (i := 1) rfl
  have fK0_2 := K0.out.cell (i := 2) rfl
  have fK0_3 := K0.out.cell (i := 3) rfl
  have fK0_4 := K0.out.cell (i := 4) rfl
  have fK0_5 := K0.out.cell (i := 5) rfl
  have fK0_6 := K0.out.cell (i := 6) rfl
  have fK0_7 := K0.out.cell (i := 7) rfl
  have fKE_0 := KE.out.cell (i := 0) rfl
  have fKE_1 := KE.out.cell (i := 1) rfl
  have fKE_2 := KE.out.cell (i := 2) rfl
  have fKE_3 := KE.out.cell (i := 3) rfl
  go_wp2_with fail
  go_ret
  exact ⟨rfl, BB.out⟩

set_option maxRecDepth 100000 in
theorem lifted (os : Os) (started : os.Started) (H : Type) (enc : TypeId × Value → H) :
    ReturnsInHanded {} Try.checked os 3 .any (Rows.fnExactLiftLimitSpec.pre6 enc Try.prog Try.f3 Rows.fnExactLiftLimitRow.domain false) (Rows.fnExactLiftLimitSpec.post enc Try.prog Try.f3 false true false false) := by
  refine returnsInHanded_of_change (C := Try.checked) own started (by kernel_rfl) Try.func3
    (ChangeSpec.witness6 (enc := enc) (C := Try.checked) false ⟨#[], #[.agg #[.string ByteArray.empty, .int .i64 0, .string ByteArray.empty, .int .i64 0, .int .i64 0, .int .i64 0, .int .i64 0, .int .i64 0], .slice none 0 0, .agg #[.int .i64 0, .int .i64 0, .int .i64 0, .int .i64 0]], []⟩ 8 (by kernel_rfl) (by kernel_rfl) (by kernel_rfl) (by kernel_rfl)) ?_
  intro W base args ds gs before hval0 hW hcnd hsz
  have hval : ∀ (j : Nat) t v, Try.f3.params[j]? = some t → args[j]? = some v → Value.okWide Try.prog W .any base t v := hval0
  have hW' := hW
  obtain ⟨p, q, hA0, hV, rfl, hfz, hnd⟩ := hW
  have hA1 := hA0
  have hA : DataW.TrodAll enc Try.prog W 0 (fun _ => true) true Try.f3.params.toList args.toList ds p := hA0
  rw [Try.params3] at hA hval
  obtain ⟨v0, vs0, d0, ds0, p0, q0, hargs, rfl, rfl, h0, r0⟩ := trodAll_cons hA
  obtain ⟨v1, vs1, d1, ds1, p1, q1, rfl, rfl, rfl, h1, r1⟩ := trodAll_cons r0
  obtain ⟨v2, vs2, d2, ds2, p2, q2, rfl, rfl, rfl, h2, r2⟩ := trodAll_cons r1
  obtain ⟨rfl, rfl, rfl⟩ := trodAll_nil r2
  obtain rfl : args = #[v0, v1, v2] := by cases args; simp_all
  obtain ⟨rfl, rfl⟩ := trodVars_none hV
  obtain ⟨D0, rfl, w0⟩ := Dd.take_device Try.underlying25 (by kernel_rfl) Dd.read_this (hval 0 25 v0 rfl rfl) h0
  obtain ⟨A9, n9, c9, a9, rfl, l9, m9, g9, w9⟩ := Pls.take_places Try.underlying26 Try.underlying23 (by kernel_rfl) rfl rfl (by kernel_rfl) (by kernel_rfl) Try.underlying3 Try.underlying3 (hval 1 26 v1 rfl rfl) h1
  obtain ⟨x2, y2, z2, u2, rfl, wx2, wy2, wz2, wu2⟩ := Str.take_box Try.underlying28 (by kernel_rfl) rfl rfl rfl rfl Try.underlying23 (by kernel_rfl) (by kernel_rfl) Try.underlying3 Try.underlying3 (hval 2 28 v2 rfl rfl) h2
  clear hA0 hval0
  rw [List.append_nil] at hW'
  refine (walk D0 w0 A9 n9 c9 a9 l9 m9 x2 y2 z2 u2 wx2 wy2 wz2 wu2 W g9 w9).mono fun e W' ⟨he, hb⟩ => ?_
  subst he
  exact ⟨_, rfl, post_law rfl hW' hA1 laidOut (by rw [Try.params3]; exact of_decide_eq_true (by kernel_rfl)) 4 (by kernel_rfl) Try.underlying4 rfl hb⟩

theorem over : Rows.fnExactLiftLimitRow.holds Try.pinned (OpenSpec.ofChange Rows.fnExactLiftLimitSpec) :=
  OpenClaim.holds_of_wide 3 Try.f3 rfl rfl rfl rfl rfl rfl rfl ⟨rfl, rfl, rfl, rfl, rfl⟩ rfl rfl rfl rfl rfl (by kernel_rfl) Try.func3 (by kernel_rfl)
    (of_decide_eq_true (by kernel_rfl)) (by unfold Func.isWrapper; first | (rw [if_pos (by decide +kernel)]; kernel_rfl) | (rw [if_neg (by decide +kernel)]; exact ⟨rfl, rfl⟩))
    (fun os started H enc _ => lifted os started H enc)

/-- The statement. -/
theorem proved : Rows.FnExactLiftLimitSaid :=
  over
#print axioms proved
end Go.Proofs.Ytejeikfgmiadhab.fnExactLiftLimit
