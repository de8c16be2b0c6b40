/- The law FnExactAddDevice holds at every input. The step from the walk to the row follows the guide's own template. -/
import Derived.Test.YtgcheplneolonabMem
import Derived.Test.YtgcheplneolonabDl
import Derived.Test.YtgcheplneolonabDs
import Derived.Test.YtgcheplneolonabDmk
import Derived.Test.YtgcheplneolonabAd
import Derived.Test.YtgcheplneolonabAi6
import Derived.Deep.SlicePairs
import Derived.Deep.RegionHeld3
namespace Go.Proofs.Ytgcheplneolonab.fnExactAddDevice
open Go.ChangeShapes Go.WideShapes Go.ChangeAt Go.RowKit Go.WideMaps Go.WideElems Go.Proofs.Ytgcheplneolonab.Mem
open Go.ChangeMaps (open_string shut_string)
set_option linter.unusedVariables false
set_option linter.unusedSimpArgs false

theorem own : ownKnob Try.prog.godebug = none := by kernel_rfl
theorem laidOut : laidOutB Try.prog = true := by kernel_rfl

open Go.Proofs.Ytgcheplneolonab.Pw Go.Proofs.Ytgcheplneolonab.P2 Go.Proofs.Ytgcheplneolonab.Dd Go.Proofs.Ytgcheplneolonab.Dv Go.Proofs.Ytgcheplneolonab.Dl Go.Proofs.Ytgcheplneolonab.Ds Go.Proofs.Ytgcheplneolonab.Dmk Go.Proofs.Ytgcheplneolonab.Ig Go.Proofs.Ytgcheplneolonab.Mo Go.Proofs.Ytgcheplneolonab.Adn Go.Proofs.Ytgcheplneolonab.Ad Go.Proofs.Ytgcheplneolonab.Ai6 Go.Proofs.Ytgcheplneolonab.Rz
open Go.Proofs.Ytgcheplneolonab.Rw (owns_below owns_grown owns_base)

theorem owns_far {w w' : World} {base : Nat} {e : TypeId} {size g n c B : Nat} {xs : List Value} (h : w.ownsRow base e size (.slice (some ⟨g, 0, none⟩) n c) n xs) (hb : Below B w w') (hl : g < B) : w'.ownsRow base e size (.slice (some ⟨g, 0, none⟩) n c) n xs := by
  refine ⟨h.1, h.2.imp id fun ⟨g', cap, cur, e1, e2, e3, e4⟩ => ⟨g', cap, cur, e1, e2, (hb.block g' ?_).trans e3, e4⟩⟩
  injection e1 with e1; injection e1 with e1; injection e1 with e1
  omega
theorem own_at {w : World} {base : Nat} {e : TypeId} {size g n c : Nat} {xs : List Value} (h : w.ownsRow base e size (.slice (some ⟨g, 0, none⟩) n c) n xs) : base ≤ g := (h.lt g rfl).1

set_option maxRecDepth 100000 in
set_option maxHeartbeats 8000000 in
theorem walk (A0 : Option Addr) (n0 c0 : Nat) (zs : List D) (hn0 : zs.length = n0) (hm0 : n0 ≤ maxLen) (d : D) (hd : Dok d) (wa : World) (hr0 : Rd wa wa.heap.size A0 (dls zs)) (hwf : ∀ z ∈ zs, Dok z) :
    Calls Try.prog 4 #[.slice A0 n0 c0, va d.nm d.kd d.ln d.x d.y d.hd d.tl d.ms] wa fun e w' => e = .returned (.bool true) ∧ Below wa.heap.size wa w' := by
  obtain ⟨n, q, l, x, y, h, t, m9⟩ := d
  obtain ⟨hns, hls, _⟩ := hd
  show Calls Try.prog 4 #[.slice A0 n0 c0, va n q l x y h t m9] wa fun e w' => e = .returned (.bool true) ∧ Below wa.heap.size wa w'
  simp only [] at hns hls
  obtain ⟨w, hw⟩ : ∃ w, w = wa.alloc (.cells (ca n q l x y h t m9) 42) := ⟨_, rfl⟩
  have ba : Below wa.heap.size wa w := by rw [hw]; exact (Below.refl _ _).alloc (Nat.le_refl _) _
  have hx : wa.heap.size < w.heap.size := by rw [hw]; simp
  have d0 : w.cell? ⟨wa.heap.size, 0, none⟩ = some (.string n) := by rw [hw]; exact cell_here rfl
  have d1 : w.cell? ⟨wa.heap.size, 1, none⟩ = some (.int .i64 q) := by rw [hw]; exact cell_here rfl
  have d2 : w.cell? ⟨wa.heap.size, 2, none⟩ = some (.string l) := by rw [hw]; exact cell_here rfl
  have d3 : w.cell? ⟨wa.heap.size, 3, none⟩ = some (.int .i64 x) := by rw [hw]; exact cell_here rfl
  have d4 : w.cell? ⟨wa.heap.size, 4, none⟩ = some (.int .i64 y) := by rw [hw]; exact cell_here rfl
  have d5 : w.cell? ⟨wa.heap.size, 5, none⟩ = some (.int .i64 h) := by rw [hw]; exact cell_here rfl
  have d6 : w.cell? ⟨wa.heap.size, 6, none⟩ = some (.int .i64 t) := by rw [hw]; exact cell_here rfl
  have d7 : w.cell? ⟨wa.heap.size, 7, none⟩ = some (.int .i64 m9) := by rw [hw]; exact cell_here rfl
  replace hr0 : Rd w w.heap.size A0 (dls zs) := (hr0.below ba).more ba.size
  have HB := Lib.hid ba
  have HW := Lib.hid hw
  clear ba hw
  have SZ0 := Lib.hid (fun (W : World) (hW : Below w.heap.size w W) => szDeviceS A0 n0 c0 zs W hn0 hm0 ((hr0.below hW).more hW.size) hwf)
  obtain ⟨L0, hL0⟩ : ∃ L, szV n0 zs = L := ⟨_, rfl⟩
  have hB0 : ¬ L0 < 0 → n0 ≤ 1048576 ∧ L0 ≤ 1048576 ∧ bulk zs ≤ 1048576 := by
    intro hh
    rw [← hL0] at hh ⊢
    unfold szV at hh ⊢
    split at hh <;> split <;> omega
  rw [hL0] at SZ0
  by_cases hz0 : L0 < 0
  · clear hB0
    have BB := Lib.hid (Below.refl w.heap.size w)
    clear hr0 hwf hm0 hn0
    go_enter Try.func4, Try.ntmps4
    go_wp2_with fail
    rw [← HW.out]
    refine (SZ0.out _ BB.out).mono ?_
    rintro e w10 ⟨rfl, hb⟩
    have BB2 := Lib.hid (BB.out.trans (hb.mono BB.out.size))
    clear hb SZ0 BB
    have BB := BB2
    clear BB2
    go_wp2_with fail
    go_returns
    exact ⟨rfl, HB.out.trans (BB.out.mono HB.out.size)⟩
  obtain ⟨hb0, hl0, hk0⟩ := hB0 hz0
  clear hL0 hB0
  by_cases hR : L0 - (n.size : Int) - (l.size : Int) < 0
  · have C := Lib.hid (szNo n q l x y h t m9 L0 (by omega) (by omega) hns hls hR)
    have BB := Lib.hid (Below.refl w.heap.size w)
    clear hr0 hwf hm0 hn0 hns hls hR
    go_enter Try.func4, Try.ntmps4
    go_wp2_with fail
    rw [← HW.out]
    refine (SZ0.out _ BB.out).mono ?_
    rintro e w10 ⟨rfl, hb⟩
    replace d0 := cell_below hb d0
    replace d1 := cell_below hb d1
    replace d2 := cell_below hb d2
    replace d3 := cell_below hb d3
    replace d4 := cell_below hb d4
    replace d5 := cell_below hb d5
    replace d6 := cell_below hb d6
    replace d7 := cell_below hb d7
    have BB2 := Lib.hid (BB.out.trans (hb.mono BB.out.size))
    clear hb SZ0 BB
    have BB := BB2
    clear BB2
    go_wp2_with fail
    refine (C.out _).mono ?_
    rintro e w11 ⟨rfl, rfl⟩
    have BB2 := Lib.hid (BB.out.alloc BB.out.size (.cells (ca n q l x y h t m9) 42))
    clear BB
    have BB := BB2
    clear BB2
    go_wp2_with fail
    go_returns
    exact ⟨rfl, HB.out.trans (BB.out.mono HB.out.size)⟩
  obtain ⟨R, hRR⟩ : ∃ R : Int, L0 - (n.size : Int) - (l.size : Int) = R := ⟨_, rfl⟩
  have hp : ¬ R < 0 := by omega
  have SC := Lib.hid (szYes n q l x y h t m9 L0 R (by omega) hRR (by omega))
  have hsn : n.size ≤ 1048576 := by omega
  have hsl : l.size ≤ 1048576 := by omega
  have hsz : ∀ z ∈ zs, z.nm.size ≤ 1048576 ∧ z.ln.size ≤ 1048576 := fun z hm => by
    obtain ⟨k, hk, rfl⟩ := List.getElem_of_mem hm
    have h1 := bulk_take (List.getElem?_eq_getElem hk)
    have h2 := bulk_le zs (k + 1)
    omega
  obtain ⟨zr, hzr⟩ : ∃ z, adL zs ⟨n, q, l, x, y, h, t, m9⟩ = z := ⟨_, rfl⟩
  obtain ⟨m, hm⟩ : ∃ m, zr.length = m := ⟨_, rfl⟩
  have hbm : m ≤ 1048576 := by
    rw [← hm, ← hzr]
    cases hg : adG zs ⟨n, q, l, x, y, h, t, m9⟩
    · rw [adL_no hg]; omega
    · have h1 := adL_len zs ⟨n, q, l, x, y, h, t, m9⟩
      unfold adG at hg
      rw [Bool.and_eq_true] at hg
      have := (rig_of hg.1).1
      omega
  have HM := Lib.hid hm
  obtain ⟨r, hrr⟩ : ∃ r, adG zs ⟨n, q, l, x, y, h, t, m9⟩ = r := ⟨_, rfl⟩
  have CS := Lib.hid (show ∀ (b0 : Nat) (W : World) (h0 : Rd W W.heap.size (some ⟨b0, 0, none⟩) (dls zs)), Calls Try.prog 15 #[.slice (some ⟨b0, 0, none⟩) n0 n0, va n q l x y h t m9] W (fun e w' => ∃ g c, e = .returned (.tuple #[.slice (some ⟨g, 0, none⟩) m c, .bool r]) ∧ w'.ownsRow W.heap.size 28 8 (.slice (some ⟨g, 0, none⟩) m c) m (dls zr) ∧ Below W.heap.size W w') from fun b0 W h0 => by have := addS b0 0 n0 n0 zs n q l x y h t m9 W hn0 hb0 hsz hsn hsl h0; rw [hzr, hrr] at this; unfold RowB at this; rw [hm] at this; exact this)
  have CI := Lib.hid (show ∀ (b0 : Nat) (W : World) (h0 : Rd W W.heap.size (some ⟨b0, 0, none⟩) (dls zs)), Calls Try.prog 7 #[.slice (some ⟨b0, 0, none⟩) n0 n0, va n q l x y h t m9] W (fun e w' => ∃ g c, e = .returned (.tuple #[.slice (some ⟨g, 0, none⟩) m c, .bool r]) ∧ w'.ownsRow W.heap.size 28 8 (.slice (some ⟨g, 0, none⟩) m c) m (dls zr) ∧ Below W.heap.size W w') from fun b0 W h0 => by have := addI ⟨b0, 0, none⟩ n0 n0 zs n q l x y h t m9 W hn0 hb0 h0; rw [hzr, hrr] at this; unfold RowB at this; rw [hm] at this; exact this)
  obtain ⟨K1, hK1⟩ : ∃ K : Int, 1 + ((n0 * 8 : Nat) : Int) = K := ⟨_, rfl⟩
  have pK1 : ¬ K1 < 0 := by omega
  have MX := Lib.hid (show ∀ (B g c : Nat) (W : World), W.ownsRow B 28 8 (.slice (some ⟨g, 0, none⟩) n0 c) n0 (dls zs) → Calls Try.prog 19 #[.slice (some ⟨g, 0, none⟩) n0 c, .int .i64 1] W (fun e w' => e = .returned (.int .i64 K1) ∧ w'.ownsRow B 28 8 (.slice (some ⟨g, 0, none⟩) n0 c) n0 (dls (mkd 1 n0)) ∧ W.grownBy w' (some g)) from fun B g c W h => by have := markDeviceS B g n0 c 1 zs W hn0 hb0 (by omega) (by omega) h; unfold Dmk.Laid at this; rw [show (((1 : Nat) : Int) + ((n0 * 8 : Nat) : Int)) = K1 by omega, show ((1 : Nat) : Int) = 1 by omega] at this; exact this)
  obtain ⟨K2, hK2⟩ : ∃ K : Int, 1 + ((m * 8 : Nat) : Int) = K := ⟨_, rfl⟩
  have pK2 : ¬ K2 < 0 := by omega
  have MG := Lib.hid (show ∀ (B g c : Nat) (W : World), W.ownsRow B 28 8 (.slice (some ⟨g, 0, none⟩) m c) m (dls zr) → Calls Try.prog 19 #[.slice (some ⟨g, 0, none⟩) m c, .int .i64 1] W (fun e w' => e = .returned (.int .i64 K2) ∧ w'.ownsRow B 28 8 (.slice (some ⟨g, 0, none⟩) m c) m (dls (mkd 1 m)) ∧ W.grownBy w' (some g)) from fun B g c W h => by have := markDeviceS B g m c 1 zr W hm hbm (by omega) (by omega) h; unfold Dmk.Laid at this; rw [show (((1 : Nat) : Int) + ((m * 8 : Nat) : Int)) = K2 by omega, show ((1 : Nat) : Int) = 1 by omega] at this; exact this)
  have HG := Lib.hid (show ∀ (A : Option Addr) (c : Nat) (W : World), Rd W W.heap.size A (dls (mkd 1 m)) → Calls Try.prog 20 #[.slice A m c, .int .i64 1] W (fun e w' => e = .returned (.int .i64 K2) ∧ Below W.heap.size W w') from fun A c W h => by have := heldDeviceS A m c 1 W hbm (by omega) (by omega) h; rw [show (((1 : Nat) : Int) + ((m * 8 : Nat) : Int)) = K2 by omega, show ((1 : Nat) : Int) = 1 by omega] at this; exact this)
  have EQ := Lib.hid (show ∀ (A B : Option Addr) (c d : Nat) (W : World), Rd W W.heap.size A (dls zr) → Rd W W.heap.size B (dls zr) → Calls Try.prog 18 #[.slice A m c, .slice B m d] W (fun e w' => e = .returned (.bool true) ∧ Below W.heap.size W w') from fun A B c d W h k => eqDeviceS A B m c d zr _ W hm hbm (Nat.le_refl _) h k)
  have HR0 := Lib.hid hr0
  have HN0 := Lib.hid hn0
  have hu : undef = Value.tuple #[] := rfl
  have BB := Lib.hid (Below.refl w.heap.size w)
  clear hr0 hn0 hwf hm0 hsz hk0 hzr hm hK1 hK2 hrr hns hls hR hRR hsn hsl
  cases r
  all_goals
    go_enter Try.func4, Try.ntmps4
    go_wp2_with fail
    rw [← HW.out]
    refine (SZ0.out _ BB.out).mono ?_
    rintro e u1 ⟨rfl, hb⟩
    replace d0 := cell_below hb d0
    replace d1 := cell_below hb d1
    replace d2 := cell_below hb d2
    replace d3 := cell_below hb d3
    replace d4 := cell_below hb d4
    replace d5 := cell_below hb d5
    replace d6 := cell_below hb d6
    replace d7 := cell_below hb d7
    have BB2 := Lib.hid (BB.out.trans (hb.mono BB.out.size))
    clear hb BB
    have BB := BB2
    clear BB2
    clear SZ0
    go_wp2_with fail
    refine (SC.out _).mono ?_
    rintro e u2 ⟨rfl, rfl⟩
    have hb : Below u1.heap.size u1 (u1.alloc (.cells (ca n q l x y h t m9) 42)) := (Below.refl _ _).alloc (Nat.le_refl _) _
    generalize u1.alloc (.cells (ca n q l x y h t m9) 42) = u2 at *
    replace d0 := cell_below hb d0
    replace d1 := cell_below hb d1
    replace d2 := cell_below hb d2
    replace d3 := cell_below hb d3
    replace d4 := cell_below hb d4
    replace d5 := cell_below hb d5
    replace d6 := cell_below hb d6
    replace d7 := cell_below hb d7
    have BB2 := Lib.hid (BB.out.trans (hb.mono BB.out.size))
    clear hb BB
    have BB := BB2
    clear BB2
    go_wp2_with fail
    refine wp_region_noPanic ?_
    refine wp_region_held_drew (S := (fun w' => w'.cell? ⟨wa.heap.size, 0, none⟩ = some (.string n) ∧ w'.cell? ⟨wa.heap.size, 1, none⟩ = some (.int .i64 q) ∧ w'.cell? ⟨wa.heap.size, 2, none⟩ = some (.string l) ∧ w'.cell? ⟨wa.heap.size, 3, none⟩ = some (.int .i64 x) ∧ w'.cell? ⟨wa.heap.size, 4, none⟩ = some (.int .i64 y) ∧ w'.cell? ⟨wa.heap.size, 5, none⟩ = some (.int .i64 h) ∧ w'.cell? ⟨wa.heap.size, 6, none⟩ = some (.int .i64 t) ∧ w'.cell? ⟨wa.heap.size, 7, none⟩ = some (.int .i64 m9) ∧ Below u2.heap.size u2 w')) (by kernel_rfl) ?_ (fun hH => ?_)
    · exact ⟨d0, d1, d2, d3, d4, d5, d6, d7, by go_grown⟩
    refine wpAnyH_take (i := 0) (oi := { dst := some 27, op := _, type := _, pos := _, after := _, guard := _ }) (v := ?_) rfl (by kernel_rfl) (by kernel_rfl) (by kernel_rfl) (fun _ _ _ h => h) (Or.inl ⟨by rfl, ?_⟩) hH ?_
    rotate_left 1
    · intro W hSw
      (try dsimp only at hSw)
      go_simp
      (try with_reducible rfl)
    try simp only [Act.put, List.setIfInBounds_toArray, List.set_cons_zero, List.set_cons_succ]
    refine wpAnyH_take (i := 2) (oi := { dst := some 29, op := _, type := _, pos := _, after := _, guard := _ }) (v := ?_) rfl (by kernel_rfl) (by kernel_rfl) (by kernel_rfl) (fun _ _ _ h => h) (Or.inl ⟨by rfl, ?_⟩) hH ?_
    rotate_left 1
    · intro W hSw
      (try dsimp only at hSw)
      go_simp
      (try with_reducible rfl)
    try simp only [Act.put, List.setIfInBounds_toArray, List.set_cons_zero, List.set_cons_succ]
    refine wpAnyH_ready (rs := [1]) (by kernel_rfl) (by simp) (AllReadyH.cons rfl (fun K hK => ?_) AllReadyH.nil)
    go_simp
    go_at_call 16; ((with_reducible refine (toDeviceS A0 n0 c0 zs _ HN0.out hb0 ((HR0.out.below (BB.out.trans (hH.2.2.2.2.2.2.2.2.mono BB.out.size))).more (BB.out.trans (hH.2.2.2.2.2.2.2.2.mono BB.out.size)).size)).mono ?_); rintro e r1 ⟨gP, rfl, _, ho, hb9⟩); go_wp2_with fail
    refine hK.out _ _ ?_ (fun hG => ?_)
    · exact ⟨cell_below hb9 hH.1, cell_below hb9 hH.2.1, cell_below hb9 hH.2.2.1, cell_below hb9 hH.2.2.2.1, cell_below hb9 hH.2.2.2.2.1, cell_below hb9 hH.2.2.2.2.2.1, cell_below hb9 hH.2.2.2.2.2.2.1, cell_below hb9 hH.2.2.2.2.2.2.2.1, hH.2.2.2.2.2.2.2.2.trans (hb9.mono hH.2.2.2.2.2.2.2.2.size)⟩
    replace hH := hG
    clear hK K hG
    try simp only [Act.put, List.setIfInBounds_toArray, List.set_cons_zero, List.set_cons_succ]
    refine wpAnyH_ready (rs := [3]) (by kernel_rfl) (by simp) (AllReadyH.cons rfl (fun K hK => ?_) AllReadyH.nil)
    go_simp
    go_at_call 17; ((with_reducible refine (toDevice n q l x y h t m9 _).mono ?_); rintro e r2 ⟨rfl, hb8⟩); go_wp2_with fail
    refine hK.out _ _ ?_ (fun hG => ?_)
    · exact ⟨cell_below hb8 hH.1, cell_below hb8 hH.2.1, cell_below hb8 hH.2.2.1, cell_below hb8 hH.2.2.2.1, cell_below hb8 hH.2.2.2.2.1, cell_below hb8 hH.2.2.2.2.2.1, cell_below hb8 hH.2.2.2.2.2.2.1, cell_below hb8 hH.2.2.2.2.2.2.2.1, hH.2.2.2.2.2.2.2.2.trans (hb8.mono hH.2.2.2.2.2.2.2.2.size)⟩
    replace hH := hG
    clear hK K hG
    try simp only [Act.put, List.setIfInBounds_toArray, List.set_cons_zero, List.set_cons_succ]
    refine wpAnyH_ready (rs := [4]) (by kernel_rfl) (by simp) (AllReadyH.cons rfl (fun K hK => ?_) AllReadyH.nil)
    go_simp
    go_at_call 15; ((with_reducible refine (CS.out _ _ (Rd.own (owns_below ho hb8))).mono ?_); rintro e r3 ⟨gW0, cW0, rfl, ho3, hb7⟩); go_wp2_with fail
    refine hK.out _ _ ?_ (fun hG => ?_)
    · exact ⟨cell_below hb7 hH.1, cell_below hb7 hH.2.1, cell_below hb7 hH.2.2.1, cell_below hb7 hH.2.2.2.1, cell_below hb7 hH.2.2.2.2.1, cell_below hb7 hH.2.2.2.2.2.1, cell_below hb7 hH.2.2.2.2.2.2.1, cell_below hb7 hH.2.2.2.2.2.2.2.1, hH.2.2.2.2.2.2.2.2.trans (hb7.mono hH.2.2.2.2.2.2.2.2.size)⟩
    replace hH := hG
    clear hK K hG
    try simp only [Act.put, List.setIfInBounds_toArray, List.set_cons_zero, List.set_cons_succ]
    refine wpAnyH_take (i := 5) (oi := { dst := some 26, op := _, type := _, pos := _, after := _, guard := _ }) (v := ?_) rfl (by kernel_rfl) (by kernel_rfl) (by kernel_rfl) (fun _ _ _ h => h) (Or.inl ⟨by rfl, ?_⟩) hH ?_
    rotate_left 1
    · intro W hSw
      (try dsimp only at hSw)
      go_simp
      (try with_reducible rfl)
    try simp only [Act.put, List.setIfInBounds_toArray, List.set_cons_zero, List.set_cons_succ]
    refine wpAnyH_take (i := 6) (oi := { dst := some 32, op := _, type := _, pos := _, after := _, guard := _ }) (v := ?_) rfl (by kernel_rfl) (by kernel_rfl) (by kernel_rfl) (fun _ _ _ h => h) (Or.inl ⟨by rfl, ?_⟩) hH ?_
    rotate_left 1
    · intro W hSw
      (try dsimp only at hSw)
      go_simp
      (try with_reducible rfl)
    try simp only [Act.put, List.setIfInBounds_toArray, List.set_cons_zero, List.set_cons_succ]
    refine wpAnyH_take (i := 7) (oi := { dst := some 33, op := _, type := _, pos := _, after := _, guard := _ }) (v := ?_) rfl (by kernel_rfl) (by kernel_rfl) (by kernel_rfl) (fun _ _ _ h => h) (Or.inl ⟨by rfl, ?_⟩) hH ?_
    rotate_left 1
    · intro W hSw
      (try dsimp only at hSw)
      go_simp
      (try with_reducible rfl)
    try simp only [Act.put, List.setIfInBounds_toArray, List.set_cons_zero, List.set_cons_succ]
    refine wpAnyH_take (i := 8) (oi := { dst := some 6, op := _, type := _, pos := _, after := _, guard := _ }) (v := ?_) rfl (by kernel_rfl) (by kernel_rfl) (by kernel_rfl) (fun _ _ _ h => h) (Or.inl ⟨by rfl, ?_⟩) hH ?_
    rotate_left 1
    · intro W hSw
      (try dsimp only at hSw)
      go_simp
      (try with_reducible rfl)
    try simp only [Act.put, List.setIfInBounds_toArray, List.set_cons_zero, List.set_cons_succ]
    refine wpAnyH_take (i := 9) (oi := { dst := some 7, op := _, type := _, pos := _, after := _, guard := _ }) (v := ?_) rfl (by kernel_rfl) (by kernel_rfl) (by kernel_rfl) (fun _ _ _ h => h) (Or.inl ⟨by rfl, ?_⟩) hH ?_
    rotate_left 1
    · intro W hSw
      (try dsimp only at hSw)
      go_simp
      (try with_reducible rfl)
    try simp only [Act.put, List.setIfInBounds_toArray, List.set_cons_zero, List.set_cons_succ]
    refine wpAnyH_done (by kernel_rfl) ?_ _
    refine NoPanic.normal ?_
    obtain ⟨d0n, d1n, d2n, d3n, d4n, d5n, d6n, d7n, hBR⟩ := hH
    have hsz3 : u2.heap.size ≤ r2.heap.size := Nat.le_trans (Below.size (Below.trans (by first | exact Below.drew (Below.refl _ _) | go_grown) hb9)) hb8.size
    have hgW : w.heap.size ≤ gW0 := Nat.le_trans (Nat.le_trans BB.out.size hsz3) (own_at ho3)
    have wlW0 := hgW
    have XN := Lib.hid (owns_base ho3 hgW)
    have BB2 := Lib.hid (BB.out.trans (hBR.mono BB.out.size))
    clear d0 d1 d2 d3 d4 d5 d6 d7 ho ho3 hb9 hb8 hb7 hBR hgW BB
    have BB := BB2
    clear BB2
    have d0 := d0n
    have d1 := d1n
    have d2 := d2n
    have d3 := d3n
    have d4 := d4n
    have d5 := d5n
    have d6 := d6n
    have d7 := d7n
    clear d0n d1n d2n d3n d4n d5n d6n d7n
    generalize r3 = u3 at *
    have W0 := XN
    clear XN
    go_wp2_with fail
    refine (toDeviceS A0 n0 c0 zs _ HN0.out hb0 ((HR0.out.below BB.out).more BB.out.size)).mono ?_
    rintro e u4 ⟨gX0, rfl, _, ho, hb⟩
    replace d0 := cell_below hb d0
    replace d1 := cell_below hb d1
    replace d2 := cell_below hb d2
    replace d3 := cell_below hb d3
    replace d4 := cell_below hb d4
    replace d5 := cell_below hb d5
    replace d6 := cell_below hb d6
    replace d7 := cell_below hb d7
    have wlX0 : w.heap.size ≤ gX0 := Nat.le_trans BB.out.size (own_at ho)
    have ne_W0_X0 : gW0 < gX0 := Nat.lt_of_lt_of_le (W0.out.lt _ rfl).2 (own_at ho)
    have XN := Lib.hid (owns_base ho wlX0)
    clear ho
    have BB2 := Lib.hid (BB.out.trans (hb.mono BB.out.size))
    have W0n := Lib.hid (owns_below W0.out hb)
    clear hb BB W0
    have BB := BB2
    clear BB2
    have W0 := W0n
    clear W0n
    have X0 := XN
    clear XN
    go_wp2_with fail
    refine (toDevice n q l x y h t m9 _).mono ?_
    rintro e u5 ⟨rfl, hb⟩
    replace d0 := cell_below hb d0
    replace d1 := cell_below hb d1
    replace d2 := cell_below hb d2
    replace d3 := cell_below hb d3
    replace d4 := cell_below hb d4
    replace d5 := cell_below hb d5
    replace d6 := cell_below hb d6
    replace d7 := cell_below hb d7
    have BB2 := Lib.hid (BB.out.trans (hb.mono BB.out.size))
    have W0n := Lib.hid (owns_below W0.out hb)
    have X0n := Lib.hid (owns_below X0.out hb)
    clear hb BB W0 X0
    have BB := BB2
    clear BB2
    have W0 := W0n
    clear W0n
    have X0 := X0n
    clear X0n
    go_wp2_with fail
    refine (CI.out _ _ (Rd.own X0.out)).mono ?_
    rintro e u6 ⟨gG0, cG0, rfl, ho, hb⟩
    replace d0 := cell_below hb d0
    replace d1 := cell_below hb d1
    replace d2 := cell_below hb d2
    replace d3 := cell_below hb d3
    replace d4 := cell_below hb d4
    replace d5 := cell_below hb d5
    replace d6 := cell_below hb d6
    replace d7 := cell_below hb d7
    have wlG0 : w.heap.size ≤ gG0 := Nat.le_trans BB.out.size (own_at ho)
    have ne_W0_G0 : gW0 < gG0 := Nat.lt_of_lt_of_le (W0.out.lt _ rfl).2 (own_at ho)
    have ne_X0_G0 : gX0 < gG0 := Nat.lt_of_lt_of_le (X0.out.lt _ rfl).2 (own_at ho)
    have XN := Lib.hid (owns_base ho wlG0)
    clear ho
    have BB2 := Lib.hid (BB.out.trans (hb.mono BB.out.size))
    have W0n := Lib.hid (owns_below W0.out hb)
    have X0n := Lib.hid (owns_below X0.out hb)
    clear hb BB W0 X0
    have BB := BB2
    clear BB2
    have W0 := W0n
    clear W0n
    have X0 := X0n
    clear X0n
    have G0 := XN
    clear XN
    go_wp2_with fail
    refine (EQ.out _ _ _ _ _ (Rd.own G0.out) (Rd.own W0.out)).mono ?_
    rintro e u7 ⟨rfl, hb⟩
    replace d0 := cell_below hb d0
    replace d1 := cell_below hb d1
    replace d2 := cell_below hb d2
    replace d3 := cell_below hb d3
    replace d4 := cell_below hb d4
    replace d5 := cell_below hb d5
    replace d6 := cell_below hb d6
    replace d7 := cell_below hb d7
    have BB2 := Lib.hid (BB.out.trans (hb.mono BB.out.size))
    have W0n := Lib.hid (owns_below W0.out hb)
    have X0n := Lib.hid (owns_below X0.out hb)
    have G0n := Lib.hid (owns_below G0.out hb)
    clear hb BB W0 X0 G0
    have BB := BB2
    clear BB2
    have W0 := W0n
    clear W0n
    have X0 := X0n
    clear X0n
    have G0 := G0n
    clear G0n
    go_wp2_with fail
    refine (toDeviceS A0 n0 c0 zs _ HN0.out hb0 ((HR0.out.below BB.out).more BB.out.size)).mono ?_
    rintro e u8 ⟨gY0, rfl, _, ho, hb⟩
    replace d0 := cell_below hb d0
    replace d1 := cell_below hb d1
    replace d2 := cell_below hb d2
    replace d3 := cell_below hb d3
    replace d4 := cell_below hb d4
    replace d5 := cell_below hb d5
    replace d6 := cell_below hb d6
    replace d7 := cell_below hb d7
    have wlY0 : w.heap.size ≤ gY0 := Nat.le_trans BB.out.size (own_at ho)
    have ne_W0_Y0 : gW0 < gY0 := Nat.lt_of_lt_of_le (W0.out.lt _ rfl).2 (own_at ho)
    have ne_X0_Y0 : gX0 < gY0 := Nat.lt_of_lt_of_le (X0.out.lt _ rfl).2 (own_at ho)
    have ne_G0_Y0 : gG0 < gY0 := Nat.lt_of_lt_of_le (G0.out.lt _ rfl).2 (own_at ho)
    have XN := Lib.hid (owns_base ho wlY0)
    clear ho
    have BB2 := Lib.hid (BB.out.trans (hb.mono BB.out.size))
    have W0n := Lib.hid (owns_below W0.out hb)
    have X0n := Lib.hid (owns_below X0.out hb)
    have G0n := Lib.hid (owns_below G0.out hb)
    clear hb BB W0 X0 G0
    have BB := BB2
    clear BB2
    have W0 := W0n
    clear W0n
    have X0 := X0n
    clear X0n
    have G0 := G0n
    clear G0n
    have Y0 := XN
    clear XN
    go_wp2_with fail
    refine (eqDeviceS _ _ n0 n0 n0 zs _ _ HN0.out hb0 (Nat.le_refl _) (Rd.own X0.out) (Rd.own Y0.out)).mono ?_
    rintro e u9 ⟨rfl, hb⟩
    replace d0 := cell_below hb d0
    replace d1 := cell_below hb d1
    replace d2 := cell_below hb d2
    replace d3 := cell_below hb d3
    replace d4 := cell_below hb d4
    replace d5 := cell_below hb d5
    replace d6 := cell_below hb d6
    replace d7 := cell_below hb d7
    have BB2 := Lib.hid (BB.out.trans (hb.mono BB.out.size))
    have W0n := Lib.hid (owns_below W0.out hb)
    have X0n := Lib.hid (owns_below X0.out hb)
    have G0n := Lib.hid (owns_below G0.out hb)
    have Y0n := Lib.hid (owns_below Y0.out hb)
    clear hb BB W0 X0 G0 Y0
    have BB := BB2
    clear BB2
    have W0 := W0n
    clear W0n
    have X0 := X0n
    clear X0n
    have G0 := G0n
    clear G0n
    have Y0 := Y0n
    clear Y0n
    clear Y0
    go_wp2_with fail
    refine (MX.out _ _ _ _ X0.out).mono ?_
    rintro e u10 ⟨rfl, ho, hg⟩
    replace d0 := hg.cell d0 (fun e => by have e := Option.some.inj e; simp at e; omega)
    replace d1 := hg.cell d1 (fun e => by have e := Option.some.inj e; simp at e; omega)
    replace d2 := hg.cell d2 (fun e => by have e := Option.some.inj e; simp at e; omega)
    replace d3 := hg.cell d3 (fun e => by have e := Option.some.inj e; simp at e; omega)
    replace d4 := hg.cell d4 (fun e => by have e := Option.some.inj e; simp at e; omega)
    replace d5 := hg.cell d5 (fun e => by have e := Option.some.inj e; simp at e; omega)
    replace d6 := hg.cell d6 (fun e => by have e := Option.some.inj e; simp at e; omega)
    replace d7 := hg.cell d7 (fun e => by have e := Option.some.inj e; simp at e; omega)
    have BB2 := Lib.hid (BB.out.grown hg BB.out.size (fun k hk => by cases hk; exact wlX0))
    have W0n := Lib.hid (owns_grown W0.out hg (fun k hk => by cases hk; intro hk2; cases hk2; exact absurd ne_W0_X0 (Nat.lt_irrefl _)))
    have G0n := Lib.hid (owns_grown G0.out hg (fun k hk => by cases hk; intro hk2; cases hk2; exact absurd ne_X0_G0 (Nat.lt_irrefl _)))
    have X0n := Lib.hid ho
    clear ho hg BB W0 X0 G0
    have BB := BB2
    clear BB2
    have W0 := W0n
    clear W0n
    have X0 := X0n
    clear X0n
    have G0 := G0n
    clear G0n
    go_wp2_with fail
    refine (EQ.out _ _ _ _ _ (Rd.own G0.out) (Rd.own W0.out)).mono ?_
    rintro e u11 ⟨rfl, hb⟩
    replace d0 := cell_below hb d0
    replace d1 := cell_below hb d1
    replace d2 := cell_below hb d2
    replace d3 := cell_below hb d3
    replace d4 := cell_below hb d4
    replace d5 := cell_below hb d5
    replace d6 := cell_below hb d6
    replace d7 := cell_below hb d7
    have BB2 := Lib.hid (BB.out.trans (hb.mono BB.out.size))
    have W0n := Lib.hid (owns_below W0.out hb)
    have X0n := Lib.hid (owns_below X0.out hb)
    have G0n := Lib.hid (owns_below G0.out hb)
    clear hb BB W0 X0 G0
    have BB := BB2
    clear BB2
    have W0 := W0n
    clear W0n
    have X0 := X0n
    clear X0n
    have G0 := G0n
    clear G0n
    go_wp2_with fail
    refine (MG.out _ _ _ _ G0.out).mono ?_
    rintro e u12 ⟨rfl, ho, hg⟩
    replace d0 := hg.cell d0 (fun e => by have e := Option.some.inj e; simp at e; omega)
    replace d1 := hg.cell d1 (fun e => by have e := Option.some.inj e; simp at e; omega)
    replace d2 := hg.cell d2 (fun e => by have e := Option.some.inj e; simp at e; omega)
    replace d3 := hg.cell d3 (fun e => by have e := Option.some.inj e; simp at e; omega)
    replace d4 := hg.cell d4 (fun e => by have e := Option.some.inj e; simp at e; omega)
    replace d5 := hg.cell d5 (fun e => by have e := Option.some.inj e; simp at e; omega)
    replace d6 := hg.cell d6 (fun e => by have e := Option.some.inj e; simp at e; omega)
    replace d7 := hg.cell d7 (fun e => by have e := Option.some.inj e; simp at e; omega)
    have BB2 := Lib.hid (BB.out.grown hg BB.out.size (fun k hk => by cases hk; exact wlG0))
    have W0n := Lib.hid (owns_grown W0.out hg (fun k hk => by cases hk; intro hk2; cases hk2; exact absurd ne_W0_G0 (Nat.lt_irrefl _)))
    have X0n := Lib.hid (owns_grown X0.out hg (fun k hk => by cases hk; intro hk2; cases hk2; exact absurd ne_X0_G0 (Nat.lt_irrefl _)))
    have G0n := Lib.hid ho
    clear ho hg BB W0 X0 G0
    have BB := BB2
    clear BB2
    have W0 := W0n
    clear W0n
    have X0 := X0n
    clear X0n
    have G0 := G0n
    clear G0n
    clear X0
    go_wp2_with fail
    refine (HG.out _ _ _ (Rd.own G0.out)).mono ?_
    rintro e u13 ⟨rfl, hb⟩
    replace d0 := cell_below hb d0
    replace d1 := cell_below hb d1
    replace d2 := cell_below hb d2
    replace d3 := cell_below hb d3
    replace d4 := cell_below hb d4
    replace d5 := cell_below hb d5
    replace d6 := cell_below hb d6
    replace d7 := cell_below hb d7
    have BB2 := Lib.hid (BB.out.trans (hb.mono BB.out.size))
    have W0n := Lib.hid (owns_below W0.out hb)
    have G0n := Lib.hid (owns_below G0.out hb)
    clear hb BB W0 G0
    have BB := BB2
    clear BB2
    have W0 := W0n
    clear W0n
    have G0 := G0n
    clear G0n
    go_wp2_with fail
    refine wp_region_noPanic ?_
    refine wp_region_held_drew (S := (fun w' => w'.cell? ⟨wa.heap.size, 0, none⟩ = some (.string n) ∧ w'.cell? ⟨wa.heap.size, 1, none⟩ = some (.int .i64 q) ∧ w'.cell? ⟨wa.heap.size, 2, none⟩ = some (.string l) ∧ w'.cell? ⟨wa.heap.size, 3, none⟩ = some (.int .i64 x) ∧ w'.cell? ⟨wa.heap.size, 4, none⟩ = some (.int .i64 y) ∧ w'.cell? ⟨wa.heap.size, 5, none⟩ = some (.int .i64 h) ∧ w'.cell? ⟨wa.heap.size, 6, none⟩ = some (.int .i64 t) ∧ w'.cell? ⟨wa.heap.size, 7, none⟩ = some (.int .i64 m9) ∧ Below u13.heap.size u13 w')) (by kernel_rfl) ?_ (fun hH => ?_)
    · exact ⟨d0, d1, d2, d3, d4, d5, d6, d7, by go_grown⟩
    refine wpAnyH_take (i := 0) (oi := { dst := some 85, op := _, type := _, pos := _, after := _, guard := _ }) (v := ?_) rfl (by kernel_rfl) (by kernel_rfl) (by kernel_rfl) (fun _ _ _ h => h) (Or.inl ⟨by rfl, ?_⟩) hH ?_
    rotate_left 1
    · intro W hSw
      (try dsimp only at hSw)
      go_simp
      (try with_reducible rfl)
    try simp only [Act.put, List.setIfInBounds_toArray, List.set_cons_zero, List.set_cons_succ]
    refine wpAnyH_take (i := 2) (oi := { dst := some 87, op := _, type := _, pos := _, after := _, guard := _ }) (v := ?_) rfl (by kernel_rfl) (by kernel_rfl) (by kernel_rfl) (fun _ _ _ h => h) (Or.inl ⟨by rfl, ?_⟩) hH ?_
    rotate_left 1
    · intro W hSw
      (try dsimp only at hSw)
      go_simp
      (try with_reducible rfl)
    try simp only [Act.put, List.setIfInBounds_toArray, List.set_cons_zero, List.set_cons_succ]
    refine wpAnyH_ready (rs := [1]) (by kernel_rfl) (by simp) (AllReadyH.cons rfl (fun K hK => ?_) AllReadyH.nil)
    go_simp
    go_at_call 16; ((with_reducible refine (toDeviceS A0 n0 c0 zs _ HN0.out hb0 ((HR0.out.below (BB.out.trans (hH.2.2.2.2.2.2.2.2.mono BB.out.size))).more (BB.out.trans (hH.2.2.2.2.2.2.2.2.mono BB.out.size)).size)).mono ?_); rintro e r1 ⟨gP, rfl, _, ho, hb9⟩); go_wp2_with fail
    refine hK.out _ _ ?_ (fun hG => ?_)
    · exact ⟨cell_below hb9 hH.1, cell_below hb9 hH.2.1, cell_below hb9 hH.2.2.1, cell_below hb9 hH.2.2.2.1, cell_below hb9 hH.2.2.2.2.1, cell_below hb9 hH.2.2.2.2.2.1, cell_below hb9 hH.2.2.2.2.2.2.1, cell_below hb9 hH.2.2.2.2.2.2.2.1, hH.2.2.2.2.2.2.2.2.trans (hb9.mono hH.2.2.2.2.2.2.2.2.size)⟩
    replace hH := hG
    clear hK K hG
    try simp only [Act.put, List.setIfInBounds_toArray, List.set_cons_zero, List.set_cons_succ]
    refine wpAnyH_ready (rs := [3]) (by kernel_rfl) (by simp) (AllReadyH.cons rfl (fun K hK => ?_) AllReadyH.nil)
    go_simp
    go_at_call 17; ((with_reducible refine (toDevice n q l x y h t m9 _).mono ?_); rintro e r2 ⟨rfl, hb8⟩); go_wp2_with fail
    refine hK.out _ _ ?_ (fun hG => ?_)
    · exact ⟨cell_below hb8 hH.1, cell_below hb8 hH.2.1, cell_below hb8 hH.2.2.1, cell_below hb8 hH.2.2.2.1, cell_below hb8 hH.2.2.2.2.1, cell_below hb8 hH.2.2.2.2.2.1, cell_below hb8 hH.2.2.2.2.2.2.1, cell_below hb8 hH.2.2.2.2.2.2.2.1, hH.2.2.2.2.2.2.2.2.trans (hb8.mono hH.2.2.2.2.2.2.2.2.size)⟩
    replace hH := hG
    clear hK K hG
    try simp only [Act.put, List.setIfInBounds_toArray, List.set_cons_zero, List.set_cons_succ]
    refine wpAnyH_ready (rs := [4]) (by kernel_rfl) (by simp) (AllReadyH.cons rfl (fun K hK => ?_) AllReadyH.nil)
    go_simp
    go_at_call 7; ((with_reducible refine (CI.out _ _ (Rd.own (owns_below ho hb8))).mono ?_); rintro e r3 ⟨gH0, cH0, rfl, ho3, hb7⟩); go_wp2_with fail
    refine hK.out _ _ ?_ (fun hG => ?_)
    · exact ⟨cell_below hb7 hH.1, cell_below hb7 hH.2.1, cell_below hb7 hH.2.2.1, cell_below hb7 hH.2.2.2.1, cell_below hb7 hH.2.2.2.2.1, cell_below hb7 hH.2.2.2.2.2.1, cell_below hb7 hH.2.2.2.2.2.2.1, cell_below hb7 hH.2.2.2.2.2.2.2.1, hH.2.2.2.2.2.2.2.2.trans (hb7.mono hH.2.2.2.2.2.2.2.2.size)⟩
    replace hH := hG
    clear hK K hG
    try simp only [Act.put, List.setIfInBounds_toArray, List.set_cons_zero, List.set_cons_succ]
    refine wpAnyH_take (i := 5) (oi := { dst := some 84, op := _, type := _, pos := _, after := _, guard := _ }) (v := ?_) rfl (by kernel_rfl) (by kernel_rfl) (by kernel_rfl) (fun _ _ _ h => h) (Or.inl ⟨by rfl, ?_⟩) hH ?_
    rotate_left 1
    · intro W hSw
      (try dsimp only at hSw)
      go_simp
      (try with_reducible rfl)
    try simp only [Act.put, List.setIfInBounds_toArray, List.set_cons_zero, List.set_cons_succ]
    refine wpAnyH_take (i := 6) (oi := { dst := some 90, op := _, type := _, pos := _, after := _, guard := _ }) (v := ?_) rfl (by kernel_rfl) (by kernel_rfl) (by kernel_rfl) (fun _ _ _ h => h) (Or.inl ⟨by rfl, ?_⟩) hH ?_
    rotate_left 1
    · intro W hSw
      (try dsimp only at hSw)
      go_simp
      (try with_reducible rfl)
    try simp only [Act.put, List.setIfInBounds_toArray, List.set_cons_zero, List.set_cons_succ]
    refine wpAnyH_take (i := 7) (oi := { dst := some 91, op := _, type := _, pos := _, after := _, guard := _ }) (v := ?_) rfl (by kernel_rfl) (by kernel_rfl) (by kernel_rfl) (fun _ _ _ h => h) (Or.inl ⟨by rfl, ?_⟩) hH ?_
    rotate_left 1
    · intro W hSw
      (try dsimp only at hSw)
      go_simp
      (try with_reducible rfl)
    try simp only [Act.put, List.setIfInBounds_toArray, List.set_cons_zero, List.set_cons_succ]
    refine wpAnyH_take (i := 8) (oi := { dst := some 14, op := _, type := _, pos := _, after := _, guard := _ }) (v := ?_) rfl (by kernel_rfl) (by kernel_rfl) (by kernel_rfl) (fun _ _ _ h => h) (Or.inl ⟨by rfl, ?_⟩) hH ?_
    rotate_left 1
    · intro W hSw
      (try dsimp only at hSw)
      go_simp
      (try with_reducible rfl)
    try simp only [Act.put, List.setIfInBounds_toArray, List.set_cons_zero, List.set_cons_succ]
    refine wpAnyH_take (i := 9) (oi := { dst := some 15, op := _, type := _, pos := _, after := _, guard := _ }) (v := ?_) rfl (by kernel_rfl) (by kernel_rfl) (by kernel_rfl) (fun _ _ _ h => h) (Or.inl ⟨by rfl, ?_⟩) hH ?_
    rotate_left 1
    · intro W hSw
      (try dsimp only at hSw)
      go_simp
      (try with_reducible rfl)
    try simp only [Act.put, List.setIfInBounds_toArray, List.set_cons_zero, List.set_cons_succ]
    refine wpAnyH_done (by kernel_rfl) ?_ _
    refine NoPanic.normal ?_
    obtain ⟨d0n, d1n, d2n, d3n, d4n, d5n, d6n, d7n, hBR⟩ := hH
    have hsz3 : u13.heap.size ≤ r2.heap.size := Nat.le_trans (Below.size (Below.trans (by first | exact Below.drew (Below.refl _ _) | go_grown) hb9)) hb8.size
    have hgW : w.heap.size ≤ gH0 := Nat.le_trans (Nat.le_trans BB.out.size hsz3) (own_at ho3)
    have wlH0 := hgW
    have ne_W0_H0 : gW0 < gH0 := Nat.lt_of_lt_of_le (Nat.lt_of_lt_of_le (W0.out.lt _ rfl).2 hsz3) (own_at ho3)
    have ne_G0_H0 : gG0 < gH0 := Nat.lt_of_lt_of_le (Nat.lt_of_lt_of_le (G0.out.lt _ rfl).2 hsz3) (own_at ho3)
    have XN := Lib.hid (owns_base ho3 hgW)
    have BB2 := Lib.hid (BB.out.trans (hBR.mono BB.out.size))
    have W0n := Lib.hid (owns_below W0.out hBR)
    have G0n := Lib.hid (owns_below G0.out hBR)
    clear d0 d1 d2 d3 d4 d5 d6 d7 ho ho3 hb9 hb8 hb7 hBR hgW BB W0 G0
    have BB := BB2
    clear BB2
    have d0 := d0n
    have d1 := d1n
    have d2 := d2n
    have d3 := d3n
    have d4 := d4n
    have d5 := d5n
    have d6 := d6n
    have d7 := d7n
    clear d0n d1n d2n d3n d4n d5n d6n d7n
    generalize r3 = u14 at *
    have W0 := W0n
    clear W0n
    have G0 := G0n
    clear G0n
    have H0 := XN
    clear XN
    go_wp2_with fail
    refine (EQ.out _ _ _ _ _ (Rd.own H0.out) (Rd.own W0.out)).mono ?_
    rintro e u15 ⟨rfl, hb⟩
    replace d0 := cell_below hb d0
    replace d1 := cell_below hb d1
    replace d2 := cell_below hb d2
    replace d3 := cell_below hb d3
    replace d4 := cell_below hb d4
    replace d5 := cell_below hb d5
    replace d6 := cell_below hb d6
    replace d7 := cell_below hb d7
    have BB2 := Lib.hid (BB.out.trans (hb.mono BB.out.size))
    have W0n := Lib.hid (owns_below W0.out hb)
    have G0n := Lib.hid (owns_below G0.out hb)
    have H0n := Lib.hid (owns_below H0.out hb)
    clear hb BB W0 G0 H0
    have BB := BB2
    clear BB2
    have W0 := W0n
    clear W0n
    have G0 := G0n
    clear G0n
    have H0 := H0n
    clear H0n
    go_wp2_with fail
    refine (HG.out _ _ _ (Rd.own G0.out)).mono ?_
    rintro e u16 ⟨rfl, hb⟩
    replace d0 := cell_below hb d0
    replace d1 := cell_below hb d1
    replace d2 := cell_below hb d2
    replace d3 := cell_below hb d3
    replace d4 := cell_below hb d4
    replace d5 := cell_below hb d5
    replace d6 := cell_below hb d6
    replace d7 := cell_below hb d7
    have BB2 := Lib.hid (BB.out.trans (hb.mono BB.out.size))
    have W0n := Lib.hid (owns_below W0.out hb)
    have G0n := Lib.hid (owns_below G0.out hb)
    have H0n := Lib.hid (owns_below H0.out hb)
    clear hb BB W0 G0 H0
    have BB := BB2
    clear BB2
    have W0 := W0n
    clear W0n
    have G0 := G0n
    clear G0n
    have H0 := H0n
    clear H0n
    go_wp2_with fail
    go_ret
    exact ⟨rfl, HB.out.trans (BB.out.mono HB.out.size)⟩

set_option maxRecDepth 100000 in
theorem lifted (os : Os) (started : os.Started) (H : Type) (enc : TypeId × Value → H) :
    ReturnsInHanded {} Try.checked os 4 .any (Rows.fnExactAddDeviceSpec.pre6 enc Try.prog Try.f4 Rows.fnExactAddDeviceRow.domain false) (Rows.fnExactAddDeviceSpec.post enc Try.prog Try.f4 false true false false) := by
  refine returnsInHanded_of_change (C := Try.checked) own started (by kernel_rfl) Try.func4
    (ChangeSpec.witness6 (enc := enc) (C := Try.checked) false ⟨#[], #[.slice none 0 0, .agg #[.string ByteArray.empty, .int .i64 0, .string ByteArray.empty, .int .i64 0, .int .i64 0, .int .i64 0, .int .i64 0, .int .i64 0]], []⟩ 8 (by kernel_rfl) (by kernel_rfl) (by kernel_rfl) (by kernel_rfl)) ?_
  intro W base args ds gs before hval0 hW hcnd hsz
  have hval : ∀ (j : Nat) t v, Try.f4.params[j]? = some t → args[j]? = some v → Value.okWide Try.prog W .any base t v := hval0
  have hW' := hW
  obtain ⟨p, q, hA0, hV, rfl, hfz, hnd⟩ := hW
  have hA1 := hA0
  have hA : DataW.TrodAll enc Try.prog W 0 (fun _ => true) true Try.f4.params.toList args.toList ds p := hA0
  rw [Try.params4] at hA hval
  obtain ⟨v0, vs0, d0, ds0, p0, q0, hargs, rfl, rfl, h0, r0⟩ := trodAll_cons hA
  obtain ⟨v1, vs1, d1, ds1, p1, q1, rfl, rfl, rfl, h1, r1⟩ := trodAll_cons r0
  obtain ⟨rfl, rfl, rfl⟩ := trodAll_nil r1
  obtain rfl : args = #[v0, v1] := by cases args; simp_all
  obtain ⟨rfl, rfl⟩ := trodVars_none hV
  obtain ⟨A0, n0, c0, a0, rfl, l0, m0, g0, w0⟩ := Dd.take_devices Try.underlying39 (by kernel_rfl) Dd.read_this (hval 0 39 v0 rfl rfl) h0
  obtain ⟨D1, rfl, w1⟩ := Dd.take_device Try.underlying42 (by kernel_rfl) Dd.read_this (hval 1 42 v1 rfl rfl) h1
  clear hA0 hval0
  rw [List.append_nil] at hW'
  refine (walk A0 n0 c0 a0 l0 m0 D1 w1 W g0 w0).mono fun e W' ⟨he, hb⟩ => ?_
  subst he
  exact ⟨_, rfl, post_law rfl hW' hA1 laidOut (by rw [Try.params4]; exact of_decide_eq_true (by kernel_rfl)) 4 (by kernel_rfl) Try.underlying4 rfl hb⟩

theorem over : Rows.fnExactAddDeviceRow.holds Try.pinned (OpenSpec.ofChange Rows.fnExactAddDeviceSpec) :=
  OpenClaim.holds_of_wide 4 Try.f4 rfl rfl rfl rfl rfl rfl rfl ⟨rfl, rfl, rfl, rfl, rfl⟩ rfl rfl rfl rfl rfl (by kernel_rfl) Try.func4 (by kernel_rfl)
    (of_decide_eq_true (by kernel_rfl)) (by unfold Func.isWrapper; first | (rw [if_pos (by decide +kernel)]; kernel_rfl) | (rw [if_neg (by decide +kernel)]; exact ⟨rfl, rfl⟩))
    (fun os started H enc _ => lifted os started H enc)

/-- The statement. -/
theorem proved : Rows.FnExactAddDeviceSaid :=
  over
#print axioms proved
end Go.Proofs.Ytgcheplneolonab.fnExactAddDevice
