/- The drop that the program makes of a valid jet. -/
import Derived.Test.YtokncfhpmjohdabGreatM10
import Derived.Deep.DeepCutAuto
import Derived.Test.YtokncfhpmjohdabGreatM6
import Derived.BigRegion
import Derived.Lib.SliceRun
import Derived.Deep.RegionLaw
set_option linter.unusedVariables false
set_option linter.unusedSimpArgs false
namespace Go.Proofs.YtokncfhpmjohdabGreat.Dp
open Go.RowKit Go.Proofs.YtokncfhpmjohdabGreat.Cx Go.Proofs.YtokncfhpmjohdabGreat.Cm Go.Proofs.YtokncfhpmjohdabGreat.Pl Go.Proofs.YtokncfhpmjohdabGreat.Str Go.Proofs.YtokncfhpmjohdabGreat.Pw Go.Proofs.YtokncfhpmjohdabGreat.P2 Go.Proofs.YtokncfhpmjohdabGreat.Hd Go.Proofs.YtokncfhpmjohdabGreat.Sf Go.Proofs.YtokncfhpmjohdabGreat.Jt
set_option linter.unusedVariables false
set_option linter.unusedSimpArgs false

/-- What a new drop is: behind k ticks, in a block of its own. -/
def Born (w : World) (X Y P Q l : Int) (k : Nat) (e : Ending) (w' : World) : Prop :=
  ∃ b, e = .returned (.pointer (some ⟨b, 0, none⟩)) ∧ w.heap.size ≤ b ∧ At w' b X Y P Q l k ∧ Below w.heap.size w w'

theorem ok_of {x y h t l : Int} (hj : jt x y h t l = true) : Ok x y (tx h.toNat t 0) (ty h.toNat t 0) l := by
  obtain ⟨hx, hy, hh, ht, hl⟩ := jt_iff.1 hj
  exact ⟨hx, hy, txle (by omega) (by omega), tyle (by omega) (by omega), hl⟩

theorem newAt {w : World} {b : Nat} (hb : b = w.heap.size) (x y p q h s : Nat) : DB (w.alloc (.cells #[.complex .f32 x y, .complex .f32 p q, .float .f32 h, .float .f32 s] 122)).drew.drew b x y p q h s := by
  subst hb; exact DB.new _ _ _ _ _ _ _

theorem at_zero {w : World} {b : Nat} {X Y P Q l : Int} {x y p q s : Nat} (d : DB w b x y p q 0 s) (i1 : I32 X x) (i2 : I32 Y y) (i3 : I32 P p) (i4 : I32 Q q) (i6 : I32 l s) : At w b X Y P Q l 0 := by
  unfold At
  rw [wy_zero, wy_zero, hg_zero, show l - 2 * ((0 : Nat) : Int) = l by omega]
  exact ⟨x, y, p, q, 0, s, d, i1, i2, i3, i4, i32_0, i6⟩

/-- Block b holds a jet. -/
abbrev J5 (w : World) (b : Nat) (x y h t l : Int) : Prop := w.cell? ⟨b, 0, none⟩ = some (.int .i64 x) ∧ w.cell? ⟨b, 1, none⟩ = some (.int .i64 y) ∧ w.cell? ⟨b, 2, none⟩ = some (.int .i64 h) ∧ w.cell? ⟨b, 3, none⟩ = some (.int .i64 t) ∧ w.cell? ⟨b, 4, none⟩ = some (.int .i64 l)
theorem J5.new (w : World) (x y h t l : Int) (k : TypeId) : J5 (w.alloc (.cells (jc x y h t l) k)) w.heap.size x y h t l := ⟨cell_here rfl, cell_here rfl, cell_here rfl, cell_here rfl, cell_here rfl⟩
theorem J5.alloc {w : World} {b : Nat} {x y h t l : Int} {o : Obj} (k : J5 w b x y h t l) : J5 (w.alloc o) b x y h t l := ⟨cell_alloc k.1, cell_alloc k.2.1, cell_alloc k.2.2.1, cell_alloc k.2.2.2.1, cell_alloc k.2.2.2.2⟩
theorem J5.drew {w : World} {b : Nat} {x y h t l : Int} (k : J5 w b x y h t l) : J5 w.drew b x y h t l := k
theorem J5.below {w w' : World} {b : Nat} {x y h t l : Int} (k : J5 w b x y h t l) (hb : Below w.heap.size w w') : J5 w' b x y h t l := ⟨cell_below hb k.1, cell_below hb k.2.1, cell_below hb k.2.2.1, cell_below hb k.2.2.2.1, cell_below hb k.2.2.2.2⟩

theorem wpAnyH_to {P : Program} {md : Region.Mode} {ops : Array Oper} {Q : Exit → Act → World → Prop} {S S' : World → Prop} (hSS : ∀ w, S' w → S w) : ∀ (fuel : Nat) (listed : Array Bool) (a : Act) (w : World), wpAnyH P md ops Q S' fuel listed a w → wpAnyH P md ops Q S fuel listed a w
  | 0, _, _, _, h => h
  | fuel + 1, _, _, _, h => ⟨h.1, fun i hi => wpOp_mono (fun a' w' r => ⟨hSS _ r.1, wpAnyH_to hSS fuel _ a' w' r.2⟩) (h.2 i hi)⟩

set_option maxHeartbeats 4000000 in
set_option maxRecDepth 100000 in
theorem newDrop {x y h t l : Int} (hj : jt x y h t l = true) (w : World) :
    Calls Tryz.prog 48 #[jv x y h t l] w (Born w x y (tx h.toNat t 0) (ty h.toNat t 0) l 0) := by
  obtain ⟨hx, hy, hh, ht, hl⟩ := jt_iff.1 hj
  have C4 := Lib.hid (Meas.wholesOf t (by omega))
  have C6 := Lib.hid (Meas.wholesOf l (by omega))
  have C5 := Lib.hid (complexOf x y (by omega) (by omega))
  have U := Lib.hid units
  have hm : ∃ u v re im, ((h = 0 ∧ u = 1065353216 ∧ v = 0) ∨ (h = 1 ∧ u = 0 ∧ v = 1065353216) ∨ (h = 2 ∧ u = 3212836864 ∧ v = 0) ∨ (h = 3 ∧ u = 0 ∧ v = 3212836864)) ∧ (∀ t' w, (binOp .mul t' (.complex .f32 u v) (.complex .f32 (Meas.f32 t) 0)).run Tryz.prog w = .ok (.complex .f32 re im) w) ∧ I32 (tx h.toNat t 0) re ∧ I32 (ty h.toNat t 0) im := by
    have go : ∀ (c d : Int) (u v : Nat), c.natAbs < 2 → d.natAbs < 2 → U32 c u → U32 d v → ∃ re im, (∀ t' w, (binOp .mul t' (.complex .f32 u v) (.complex .f32 (Meas.f32 t) 0)).run Tryz.prog w = .ok (.complex .f32 re im) w) ∧ I32 (c * t - d * 0) re ∧ I32 (c * 0 + d * t) im :=
      fun c d u v h1 h2 h3 h4 => cmulU (P := Tryz.prog) (by omega) (by decide) h1 h2 (i32_f32 t) i32_0 h3 h4
    rcases (by omega : h = 0 ∨ h = 1 ∨ h = 2 ∨ h = 3) with rfl | rfl | rfl | rfl
    · obtain ⟨re, im, e1, e2, e3⟩ := go 1 0 _ _ (by decide) (by decide) u32_1 u32_0
      exact ⟨_, _, re, im, Or.inl ⟨rfl, rfl, rfl⟩, e1, by simpa [tx] using e2, by simpa [ty] using e3⟩
    · obtain ⟨re, im, e1, e2, e3⟩ := go 0 1 _ _ (by decide) (by decide) u32_0 u32_1
      exact ⟨_, _, re, im, Or.inr (Or.inl ⟨rfl, rfl, rfl⟩), e1, by simpa [tx] using e2, by simpa [ty] using e3⟩
    · obtain ⟨re, im, e1, e2, e3⟩ := go (-1) 0 _ _ (by decide) (by decide) u32_m1 u32_0
      exact ⟨_, _, re, im, Or.inr (Or.inr (Or.inl ⟨rfl, rfl, rfl⟩)), e1, by simpa [tx, Int.neg_one_mul] using e2, by simpa [ty] using e3⟩
    · obtain ⟨re, im, e1, e2, e3⟩ := go 0 (-1) _ _ (by decide) (by decide) u32_0 u32_m1
      exact ⟨_, _, re, im, Or.inr (Or.inr (Or.inr ⟨rfl, rfl, rfl⟩)), e1, by simpa [tx] using e2, by simpa [ty, Int.neg_one_mul] using e3⟩
  obtain ⟨u, v, re, im, hcase, hmul, i1, i2⟩ := hm
  generalize tx h.toNat t 0 = X at *
  generalize ty h.toNat t 0 = Y at *
  have A0 := Lib.hid (fun (w' : World) (b : Nat) (d : DB w' b (Meas.f32 x) (Meas.f32 y) re im 0 (Meas.f32 l)) => at_zero d (i32_f32 x) (i32_f32 y) i1 i2 (i32_f32 l))
  clear hj hx hy hh ht hl i1 i2
  rcases hcase with ⟨rfl, rfl, rfl⟩ | ⟨rfl, rfl, rfl⟩ | ⟨rfl, rfl, rfl⟩ | ⟨rfl, rfl, rfl⟩
  · go_enter Tryz.func48, Tryz.ntmps48
    go_wp2_with fail
    refine wp_region_noPanic ?_
    refine wp_region_held_drew (S := (fun w' => w'.cell? ⟨w.heap.size, 0, none⟩ = some (.int .i64 x) ∧ w'.cell? ⟨w.heap.size, 1, none⟩ = some (.int .i64 y) ∧ w'.cell? ⟨w.heap.size, 2, none⟩ = some (.int .i64 0) ∧ w'.cell? ⟨w.heap.size, 3, none⟩ = some (.int .i64 t) ∧ w'.cell? ⟨w.heap.size, 4, none⟩ = some (.int .i64 l))) (by kernel_rfl) ?_ (fun hH => ?_)
    · exact J5.drew (J5.new _ _ _ _ _ _ _)
    refine wpAnyH_take (i := 0) (oi := _) (v := ?_) rfl (by kernel_rfl) (by kernel_rfl) (by kernel_rfl) (fun _ _ _ h => h) (Or.inl ⟨by rfl, ?_⟩) hH ?_
    rotate_left 1
    · intro W hSw
      (try dsimp only at hSw)
      go_simp
      (try with_reducible rfl)
    try simp only [Act.put, List.setIfInBounds_toArray, List.set_cons_zero, List.set_cons_succ]
    refine wpAnyH_take (i := 1) (oi := _) (v := ?_) rfl (by kernel_rfl) (by kernel_rfl) (by kernel_rfl) (fun _ _ _ h => h) (Or.inl ⟨by rfl, ?_⟩) hH ?_
    rotate_left 1
    · intro W hSw
      (try dsimp only at hSw)
      go_simp
      (try with_reducible rfl)
    try simp only [Act.put, List.setIfInBounds_toArray, List.set_cons_zero, List.set_cons_succ]
    refine wpAnyH_take (i := 4) (oi := _) (v := ?_) rfl (by kernel_rfl) (by kernel_rfl) (by kernel_rfl) (fun _ _ _ h => h) (Or.inl ⟨by rfl, ?_⟩) hH ?_
    rotate_left 1
    · intro W hSw
      (try dsimp only at hSw)
      go_simp
      (try with_reducible rfl)
    try simp only [Act.put, List.setIfInBounds_toArray, List.set_cons_zero, List.set_cons_succ]
    refine wpAnyH_take (i := 5) (oi := _) (v := ?_) rfl (by kernel_rfl) (by kernel_rfl) (by kernel_rfl) (fun _ _ _ h => h) (Or.inl ⟨by rfl, ?_⟩) hH ?_
    rotate_left 1
    · intro W hSw
      (try dsimp only at hSw)
      go_simp
      (try with_reducible rfl)
    try simp only [Act.put, List.setIfInBounds_toArray, List.set_cons_zero, List.set_cons_succ]
    refine wpAnyH_take (i := 8) (oi := _) (v := ?_) rfl (by kernel_rfl) (by kernel_rfl) (by kernel_rfl) (fun _ _ _ h => h) (Or.inl ⟨by rfl, ?_⟩) hH ?_
    rotate_left 1
    · intro W hSw
      (try dsimp only at hSw)
      go_simp
      (try with_reducible rfl)
    try simp only [Act.put, List.setIfInBounds_toArray, List.set_cons_zero, List.set_cons_succ]
    refine wpAnyH_take (i := 9) (oi := _) (v := ?_) rfl (by kernel_rfl) (by kernel_rfl) (by kernel_rfl) (fun _ _ _ h => h) (Or.inl ⟨by rfl, ?_⟩) hH ?_
    rotate_left 1
    · intro W hSw
      (try dsimp only at hSw)
      go_simp
      (try with_reducible rfl)
    try simp only [Act.put, List.setIfInBounds_toArray, List.set_cons_zero, List.set_cons_succ]
    refine wpAnyH_take (i := 13) (oi := _) (v := ?_) rfl (by kernel_rfl) (by kernel_rfl) (by kernel_rfl) (fun _ _ _ h => h) (Or.inl ⟨by rfl, ?_⟩) hH ?_
    rotate_left 1
    · intro W hSw
      (try dsimp only at hSw)
      go_simp
      (try with_reducible rfl)
    try simp only [Act.put, List.setIfInBounds_toArray, List.set_cons_zero, List.set_cons_succ]
    refine wpAnyH_take (i := 14) (oi := _) (v := ?_) rfl (by kernel_rfl) (by kernel_rfl) (by kernel_rfl) (fun _ _ _ h => h) (Or.inl ⟨by rfl, ?_⟩) hH ?_
    rotate_left 1
    · intro W hSw
      (try dsimp only at hSw)
      go_simp
      (try with_reducible rfl)
    try simp only [Act.put, List.setIfInBounds_toArray, List.set_cons_zero, List.set_cons_succ]
    refine wpAnyH_ready (rs := [2]) (by kernel_rfl) (by simp) (AllReadyH.cons rfl (fun K hK => ?_) AllReadyH.nil)
    go_simp
    go_at_call 86; refine (C5.out _).mono ?_; rintro e w' ⟨rfl, rfl⟩; go_wp2_with fail
    refine hK.out _ _ ?_ (fun hG => ?_)
    · exact J5.drew (J5.alloc hH)
    replace hH := hG
    clear hK K hG
    try simp only [Act.put, List.setIfInBounds_toArray, List.set_cons_zero, List.set_cons_succ]
    refine wpAnyH_ready (rs := [3]) (by kernel_rfl) (by simp) (AllReadyH.cons rfl (fun K hK => ?_) AllReadyH.nil)
    go_simp
    go_at_call 87; refine (U.out _).mono ?_; rintro e w' ⟨rfl, rfl⟩; go_wp2_with fail
    refine hK.out _ _ ?_ (fun hG => ?_)
    · exact J5.drew (J5.drew (J5.alloc (J5.alloc (J5.new _ _ _ _ _ _ _))))
    replace hH := hG
    clear hK K hG
    try simp only [Act.put, List.setIfInBounds_toArray, List.set_cons_zero, List.set_cons_succ]
    have hU : (((w.alloc (.cells (jc x y 0 t l) 47)).alloc (.cells #[.int .i64 x, .int .i64 y] 34)).alloc (.cells #[.complex .f32 1065353216 0, .complex .f32 0 1065353216, .complex .f32 3212836864 0, .complex .f32 0 3212836864] 71)).cell? ⟨w.heap.size + 1 + 1, 0, none⟩ = some (.complex .f32 1065353216 0) := by simp [go_sem]
    refine wpAnyH_to (S' := (fun w' => w'.cell? ⟨w.heap.size + 1 + 1, 0, none⟩ = some (.complex .f32 1065353216 0) ∧ w'.cell? ⟨w.heap.size, 0, none⟩ = some (.int .i64 x) ∧ w'.cell? ⟨w.heap.size, 1, none⟩ = some (.int .i64 y) ∧ w'.cell? ⟨w.heap.size, 2, none⟩ = some (.int .i64 0) ∧ w'.cell? ⟨w.heap.size, 3, none⟩ = some (.int .i64 t) ∧ w'.cell? ⟨w.heap.size, 4, none⟩ = some (.int .i64 l))) (fun _ h => h.2) _ _ _ _ ?_
    replace hH := And.intro hU hH
    clear hU
    refine wpAnyH_take (i := 6) (oi := _) (v := ?_) rfl (by kernel_rfl) (by kernel_rfl) (by kernel_rfl) (fun _ _ _ h => h) (Or.inl ⟨by rfl, ?_⟩) hH ?_
    rotate_left 1
    · intro W hSw
      (try dsimp only at hSw)
      go_simp
      (try with_reducible rfl)
    try simp only [Act.put, List.setIfInBounds_toArray, List.set_cons_zero, List.set_cons_succ]
    refine wpAnyH_take (i := 7) (oi := _) (v := ?_) rfl (by kernel_rfl) (by kernel_rfl) (by kernel_rfl) (fun _ _ _ h => h) (Or.inl ⟨by rfl, ?_⟩) hH ?_
    rotate_left 1
    · intro W hSw
      (try dsimp only at hSw)
      go_simp
      (try with_reducible rfl)
    try simp only [Act.put, List.setIfInBounds_toArray, List.set_cons_zero, List.set_cons_succ]
    refine wpAnyH_ready (rs := [10]) (by kernel_rfl) (by simp) (AllReadyH.cons rfl (fun K hK => ?_) AllReadyH.nil)
    go_simp
    go_at_call 88; refine (C4.out _).mono ?_; rintro e w' ⟨rfl, rfl⟩; go_wp2_with fail
    refine hK.out _ _ ?_ (fun hG => ?_)
    · exact hH
    replace hH := hG
    clear hK K hG
    try simp only [Act.put, List.setIfInBounds_toArray, List.set_cons_zero, List.set_cons_succ]
    refine wpAnyH_take (i := 11) (oi := _) (v := ?_) rfl (by kernel_rfl) (by kernel_rfl) (by kernel_rfl) (fun _ _ _ h => h) (Or.inl ⟨by rfl, ?_⟩) hH ?_
    rotate_left 1
    · intro W hSw
      (try dsimp only at hSw)
      go_simp
      (try with_reducible rfl)
    try simp only [Act.put, List.setIfInBounds_toArray, List.set_cons_zero, List.set_cons_succ]
    refine wpAnyH_take (i := 12) (oi := _) (v := ?_) rfl (by kernel_rfl) (by kernel_rfl) (by kernel_rfl) (fun _ _ _ h => h) (Or.inl ⟨by rfl, ?_⟩) hH ?_
    rotate_left 1
    · intro W hSw
      (try dsimp only at hSw)
      go_simp
      (try with_reducible rfl)
    try simp only [Act.put, List.setIfInBounds_toArray, List.set_cons_zero, List.set_cons_succ]
    refine wpAnyH_ready (rs := [15]) (by kernel_rfl) (by simp) (AllReadyH.cons rfl (fun K hK => ?_) AllReadyH.nil)
    go_simp
    go_at_call 88; refine (C6.out _).mono ?_; rintro e w' ⟨rfl, rfl⟩; go_wp2_with fail
    refine hK.out _ _ ?_ (fun hG => ?_)
    · exact hH
    replace hH := hG
    clear hK K hG
    try simp only [Act.put, List.setIfInBounds_toArray, List.set_cons_zero, List.set_cons_succ]
    refine wpAnyH_take (i := 16) (oi := _) (v := ?_) rfl (by kernel_rfl) (by kernel_rfl) (by kernel_rfl) (fun _ _ _ h => h) (Or.inl ⟨by rfl, ?_⟩) hH ?_
    rotate_left 1
    · intro W hSw
      (try dsimp only at hSw)
      go_simp
      (try with_reducible rfl)
    try simp only [Act.put, List.setIfInBounds_toArray, List.set_cons_zero, List.set_cons_succ]
    refine wpAnyH_ready (rs := [17]) (by kernel_rfl) (by simp) (AllReadyH.cons rfl (fun K hK => ?_) AllReadyH.nil)
    go_simp
    refine hK.out _ _ ?_ (fun hG => ?_)
    · exact ⟨cell_alloc hH.1, J5.alloc hH.2⟩
    replace hH := hG
    clear hK K hG
    try simp only [Act.put, List.setIfInBounds_toArray, List.set_cons_zero, List.set_cons_succ]
    refine wpAnyH_ready (rs := [18]) (by kernel_rfl) (by simp) (AllReadyH.cons rfl (fun K hK => ?_) AllReadyH.nil)
    go_simp
    refine hK.out _ _ ?_ (fun hG => ?_)
    · exact hH
    replace hH := hG
    clear hK K hG
    try simp only [Act.put, List.setIfInBounds_toArray, List.set_cons_zero, List.set_cons_succ]
    refine wpAnyH_done (by kernel_rfl) ?_ _
    refine NoPanic.normal ?_
    go_wp2_with fail
    go_returns
    exact ⟨_, rfl, by go_size, A0.out _ _ (newAt (by simp) _ _ _ _ _ _), by go_grown⟩
  · go_enter Tryz.func48, Tryz.ntmps48
    go_wp2_with fail
    refine wp_region_noPanic ?_
    refine wp_region_held_drew (S := (fun w' => w'.cell? ⟨w.heap.size, 0, none⟩ = some (.int .i64 x) ∧ w'.cell? ⟨w.heap.size, 1, none⟩ = some (.int .i64 y) ∧ w'.cell? ⟨w.heap.size, 2, none⟩ = some (.int .i64 1) ∧ w'.cell? ⟨w.heap.size, 3, none⟩ = some (.int .i64 t) ∧ w'.cell? ⟨w.heap.size, 4, none⟩ = some (.int .i64 l))) (by kernel_rfl) ?_ (fun hH => ?_)
    · exact J5.drew (J5.new _ _ _ _ _ _ _)
    refine wpAnyH_take (i := 0) (oi := _) (v := ?_) rfl (by kernel_rfl) (by kernel_rfl) (by kernel_rfl) (fun _ _ _ h => h) (Or.inl ⟨by rfl, ?_⟩) hH ?_
    rotate_left 1
    · intro W hSw
      (try dsimp only at hSw)
      go_simp
      (try with_reducible rfl)
    try simp only [Act.put, List.setIfInBounds_toArray, List.set_cons_zero, List.set_cons_succ]
    refine wpAnyH_take (i := 1) (oi := _) (v := ?_) rfl (by kernel_rfl) (by kernel_rfl) (by kernel_rfl) (fun _ _ _ h => h) (Or.inl ⟨by rfl, ?_⟩) hH ?_
    rotate_left 1
    · intro W hSw
      (try dsimp only at hSw)
      go_simp
      (try with_reducible rfl)
    try simp only [Act.put, List.setIfInBounds_toArray, List.set_cons_zero, List.set_cons_succ]
    refine wpAnyH_take (i := 4) (oi := _) (v := ?_) rfl (by kernel_rfl) (by kernel_rfl) (by kernel_rfl) (fun _ _ _ h => h) (Or.inl ⟨by rfl, ?_⟩) hH ?_
    rotate_left 1
    · intro W hSw
      (try dsimp only at hSw)
      go_simp
      (try with_reducible rfl)
    try simp only [Act.put, List.setIfInBounds_toArray, List.set_cons_zero, List.set_cons_succ]
    refine wpAnyH_take (i := 5) (oi := _) (v := ?_) rfl (by kernel_rfl) (by kernel_rfl) (by kernel_rfl) (fun _ _ _ h => h) (Or.inl ⟨by rfl, ?_⟩) hH ?_
    rotate_left 1
    · intro W hSw
      (try dsimp only at hSw)
      go_simp
      (try with_reducible rfl)
    try simp only [Act.put, List.setIfInBounds_toArray, List.set_cons_zero, List.set_cons_succ]
    refine wpAnyH_take (i := 8) (oi := _) (v := ?_) rfl (by kernel_rfl) (by kernel_rfl) (by kernel_rfl) (fun _ _ _ h => h) (Or.inl ⟨by rfl, ?_⟩) hH ?_
    rotate_left 1
    · intro W hSw
      (try dsimp only at hSw)
      go_simp
      (try with_reducible rfl)
    try simp only [Act.put, List.setIfInBounds_toArray, List.set_cons_zero, List.set_cons_succ]
    refine wpAnyH_take (i := 9) (oi := _) (v := ?_) rfl (by kernel_rfl) (by kernel_rfl) (by kernel_rfl) (fun _ _ _ h => h) (Or.inl ⟨by rfl, ?_⟩) hH ?_
    rotate_left 1
    · intro W hSw
      (try dsimp only at hSw)
      go_simp
      (try with_reducible rfl)
    try simp only [Act.put, List.setIfInBounds_toArray, List.set_cons_zero, List.set_cons_succ]
    refine wpAnyH_take (i := 13) (oi := _) (v := ?_) rfl (by kernel_rfl) (by kernel_rfl) (by kernel_rfl) (fun _ _ _ h => h) (Or.inl ⟨by rfl, ?_⟩) hH ?_
    rotate_left 1
    · intro W hSw
      (try dsimp only at hSw)
      go_simp
      (try with_reducible rfl)
    try simp only [Act.put, List.setIfInBounds_toArray, List.set_cons_zero, List.set_cons_succ]
    refine wpAnyH_take (i := 14) (oi := _) (v := ?_) rfl (by kernel_rfl) (by kernel_rfl) (by kernel_rfl) (fun _ _ _ h => h) (Or.inl ⟨by rfl, ?_⟩) hH ?_
    rotate_left 1
    · intro W hSw
      (try dsimp only at hSw)
      go_simp
      (try with_reducible rfl)
    try simp only [Act.put, List.setIfInBounds_toArray, List.set_cons_zero, List.set_cons_succ]
    refine wpAnyH_ready (rs := [2]) (by kernel_rfl) (by simp) (AllReadyH.cons rfl (fun K hK => ?_) AllReadyH.nil)
    go_simp
    go_at_call 86; refine (C5.out _).mono ?_; rintro e w' ⟨rfl, rfl⟩; go_wp2_with fail
    refine hK.out _ _ ?_ (fun hG => ?_)
    · exact J5.drew (J5.alloc hH)
    replace hH := hG
    clear hK K hG
    try simp only [Act.put, List.setIfInBounds_toArray, List.set_cons_zero, List.set_cons_succ]
    refine wpAnyH_ready (rs := [3]) (by kernel_rfl) (by simp) (AllReadyH.cons rfl (fun K hK => ?_) AllReadyH.nil)
    go_simp
    go_at_call 87; refine (U.out _).mono ?_; rintro e w' ⟨rfl, rfl⟩; go_wp2_with fail
    refine hK.out _ _ ?_ (fun hG => ?_)
    · exact J5.drew (J5.drew (J5.alloc (J5.alloc (J5.new _ _ _ _ _ _ _))))
    replace hH := hG
    clear hK K hG
    try simp only [Act.put, List.setIfInBounds_toArray, List.set_cons_zero, List.set_cons_succ]
    have hU : (((w.alloc (.cells (jc x y 1 t l) 47)).alloc (.cells #[.int .i64 x, .int .i64 y] 34)).alloc (.cells #[.complex .f32 1065353216 0, .complex .f32 0 1065353216, .complex .f32 3212836864 0, .complex .f32 0 3212836864] 71)).cell? ⟨w.heap.size + 1 + 1, 1, none⟩ = some (.complex .f32 0 1065353216) := by simp [go_sem]
    refine wpAnyH_to (S' := (fun w' => w'.cell? ⟨w.heap.size + 1 + 1, 1, none⟩ = some (.complex .f32 0 1065353216) ∧ w'.cell? ⟨w.heap.size, 0, none⟩ = some (.int .i64 x) ∧ w'.cell? ⟨w.heap.size, 1, none⟩ = some (.int .i64 y) ∧ w'.cell? ⟨w.heap.size, 2, none⟩ = some (.int .i64 1) ∧ w'.cell? ⟨w.heap.size, 3, none⟩ = some (.int .i64 t) ∧ w'.cell? ⟨w.heap.size, 4, none⟩ = some (.int .i64 l))) (fun _ h => h.2) _ _ _ _ ?_
    replace hH := And.intro hU hH
    clear hU
    refine wpAnyH_take (i := 6) (oi := _) (v := ?_) rfl (by kernel_rfl) (by kernel_rfl) (by kernel_rfl) (fun _ _ _ h => h) (Or.inl ⟨by rfl, ?_⟩) hH ?_
    rotate_left 1
    · intro W hSw
      (try dsimp only at hSw)
      go_simp
      (try with_reducible rfl)
    try simp only [Act.put, List.setIfInBounds_toArray, List.set_cons_zero, List.set_cons_succ]
    refine wpAnyH_take (i := 7) (oi := _) (v := ?_) rfl (by kernel_rfl) (by kernel_rfl) (by kernel_rfl) (fun _ _ _ h => h) (Or.inl ⟨by rfl, ?_⟩) hH ?_
    rotate_left 1
    · intro W hSw
      (try dsimp only at hSw)
      go_simp
      (try with_reducible rfl)
    try simp only [Act.put, List.setIfInBounds_toArray, List.set_cons_zero, List.set_cons_succ]
    refine wpAnyH_ready (rs := [10]) (by kernel_rfl) (by simp) (AllReadyH.cons rfl (fun K hK => ?_) AllReadyH.nil)
    go_simp
    go_at_call 88; refine (C4.out _).mono ?_; rintro e w' ⟨rfl, rfl⟩; go_wp2_with fail
    refine hK.out _ _ ?_ (fun hG => ?_)
    · exact hH
    replace hH := hG
    clear hK K hG
    try simp only [Act.put, List.setIfInBounds_toArray, List.set_cons_zero, List.set_cons_succ]
    refine wpAnyH_take (i := 11) (oi := _) (v := ?_) rfl (by kernel_rfl) (by kernel_rfl) (by kernel_rfl) (fun _ _ _ h => h) (Or.inl ⟨by rfl, ?_⟩) hH ?_
    rotate_left 1
    · intro W hSw
      (try dsimp only at hSw)
      go_simp
      (try with_reducible rfl)
    try simp only [Act.put, List.setIfInBounds_toArray, List.set_cons_zero, List.set_cons_succ]
    refine wpAnyH_take (i := 12) (oi := _) (v := ?_) rfl (by kernel_rfl) (by kernel_rfl) (by kernel_rfl) (fun _ _ _ h => h) (Or.inl ⟨by rfl, ?_⟩) hH ?_
    rotate_left 1
    · intro W hSw
      (try dsimp only at hSw)
      go_simp
      (try with_reducible rfl)
    try simp only [Act.put, List.setIfInBounds_toArray, List.set_cons_zero, List.set_cons_succ]
    refine wpAnyH_ready (rs := [15]) (by kernel_rfl) (by simp) (AllReadyH.cons rfl (fun K hK => ?_) AllReadyH.nil)
    go_simp
    go_at_call 88; refine (C6.out _).mono ?_; rintro e w' ⟨rfl, rfl⟩; go_wp2_with fail
    refine hK.out _ _ ?_ (fun hG => ?_)
    · exact hH
    replace hH := hG
    clear hK K hG
    try simp only [Act.put, List.setIfInBounds_toArray, List.set_cons_zero, List.set_cons_succ]
    refine wpAnyH_take (i := 16) (oi := _) (v := ?_) rfl (by kernel_rfl) (by kernel_rfl) (by kernel_rfl) (fun _ _ _ h => h) (Or.inl ⟨by rfl, ?_⟩) hH ?_
    rotate_left 1
    · intro W hSw
      (try dsimp only at hSw)
      go_simp
      (try with_reducible rfl)
    try simp only [Act.put, List.setIfInBounds_toArray, List.set_cons_zero, List.set_cons_succ]
    refine wpAnyH_ready (rs := [17]) (by kernel_rfl) (by simp) (AllReadyH.cons rfl (fun K hK => ?_) AllReadyH.nil)
    go_simp
    refine hK.out _ _ ?_ (fun hG => ?_)
    · exact ⟨cell_alloc hH.1, J5.alloc hH.2⟩
    replace hH := hG
    clear hK K hG
    try simp only [Act.put, List.setIfInBounds_toArray, List.set_cons_zero, List.set_cons_succ]
    refine wpAnyH_ready (rs := [18]) (by kernel_rfl) (by simp) (AllReadyH.cons rfl (fun K hK => ?_) AllReadyH.nil)
    go_simp
    refine hK.out _ _ ?_ (fun hG => ?_)
    · exact hH
    replace hH := hG
    clear hK K hG
    try simp only [Act.put, List.setIfInBounds_toArray, List.set_cons_zero, List.set_cons_succ]
    refine wpAnyH_done (by kernel_rfl) ?_ _
    refine NoPanic.normal ?_
    go_wp2_with fail
    go_returns
    exact ⟨_, rfl, by go_size, A0.out _ _ (newAt (by simp) _ _ _ _ _ _), by go_grown⟩
  · go_enter Tryz.func48, Tryz.ntmps48
    go_wp2_with fail
    refine wp_region_noPanic ?_
    refine wp_region_held_drew (S := (fun w' => w'.cell? ⟨w.heap.size, 0, none⟩ = some (.int .i64 x) ∧ w'.cell? ⟨w.heap.size, 1, none⟩ = some (.int .i64 y) ∧ w'.cell? ⟨w.heap.size, 2, none⟩ = some (.int .i64 2) ∧ w'.cell? ⟨w.heap.size, 3, none⟩ = some (.int .i64 t) ∧ w'.cell? ⟨w.heap.size, 4, none⟩ = some (.int .i64 l))) (by kernel_rfl) ?_ (fun hH => ?_)
    · exact J5.drew (J5.new _ _ _ _ _ _ _)
    refine wpAnyH_take (i := 0) (oi := _) (v := ?_) rfl (by kernel_rfl) (by kernel_rfl) (by kernel_rfl) (fun _ _ _ h => h) (Or.inl ⟨by rfl, ?_⟩) hH ?_
    rotate_left 1
    · intro W hSw
      (try dsimp only at hSw)
      go_simp
      (try with_reducible rfl)
    try simp only [Act.put, List.setIfInBounds_toArray, List.set_cons_zero, List.set_cons_succ]
    refine wpAnyH_take (i := 1) (oi := _) (v := ?_) rfl (by kernel_rfl) (by kernel_rfl) (by kernel_rfl) (fun _ _ _ h => h) (Or.inl ⟨by rfl, ?_⟩) hH ?_
    rotate_left 1
    · intro W hSw
      (try dsimp only at hSw)
      go_simp
      (try with_reducible rfl)
    try simp only [Act.put, List.setIfInBounds_toArray, List.set_cons_zero, List.set_cons_succ]
    refine wpAnyH_take (i := 4) (oi := _) (v := ?_) rfl (by kernel_rfl) (by kernel_rfl) (by kernel_rfl) (fun _ _ _ h => h) (Or.inl ⟨by rfl, ?_⟩) hH ?_
    rotate_left 1
    · intro W hSw
      (try dsimp only at hSw)
      go_simp
      (try with_reducible rfl)
    try simp only [Act.put, List.setIfInBounds_toArray, List.set_cons_zero, List.set_cons_succ]
    refine wpAnyH_take (i := 5) (oi := _) (v := ?_) rfl (by kernel_rfl) (by kernel_rfl) (by kernel_rfl) (fun _ _ _ h => h) (Or.inl ⟨by rfl, ?_⟩) hH ?_
    rotate_left 1
    · intro W hSw
      (try dsimp only at hSw)
      go_simp
      (try with_reducible rfl)
    try simp only [Act.put, List.setIfInBounds_toArray, List.set_cons_zero, List.set_cons_succ]
    refine wpAnyH_take (i := 8) (oi := _) (v := ?_) rfl (by kernel_rfl) (by kernel_rfl) (by kernel_rfl) (fun _ _ _ h => h) (Or.inl ⟨by rfl, ?_⟩) hH ?_
    rotate_left 1
    · intro W hSw
      (try dsimp only at hSw)
      go_simp
      (try with_reducible rfl)
    try simp only [Act.put, List.setIfInBounds_toArray, List.set_cons_zero, List.set_cons_succ]
    refine wpAnyH_take (i := 9) (oi := _) (v := ?_) rfl (by kernel_rfl) (by kernel_rfl) (by kernel_rfl) (fun _ _ _ h => h) (Or.inl ⟨by rfl, ?_⟩) hH ?_
    rotate_left 1
    · intro W hSw
      (try dsimp only at hSw)
      go_simp
      (try with_reducible rfl)
    try simp only [Act.put, List.setIfInBounds_toArray, List.set_cons_zero, List.set_cons_succ]
    refine wpAnyH_take (i := 13) (oi := _) (v := ?_) rfl (by kernel_rfl) (by kernel_rfl) (by kernel_rfl) (fun _ _ _ h => h) (Or.inl ⟨by rfl, ?_⟩) hH ?_
    rotate_left 1
    · intro W hSw
      (try dsimp only at hSw)
      go_simp
      (try with_reducible rfl)
    try simp only [Act.put, List.setIfInBounds_toArray, List.set_cons_zero, List.set_cons_succ]
    refine wpAnyH_take (i := 14) (oi := _) (v := ?_) rfl (by kernel_rfl) (by kernel_rfl) (by kernel_rfl) (fun _ _ _ h => h) (Or.inl ⟨by rfl, ?_⟩) hH ?_
    rotate_left 1
    · intro W hSw
      (try dsimp only at hSw)
      go_simp
      (try with_reducible rfl)
    try simp only [Act.put, List.setIfInBounds_toArray, List.set_cons_zero, List.set_cons_succ]
    refine wpAnyH_ready (rs := [2]) (by kernel_rfl) (by simp) (AllReadyH.cons rfl (fun K hK => ?_) AllReadyH.nil)
    go_simp
    go_at_call 86; refine (C5.out _).mono ?_; rintro e w' ⟨rfl, rfl⟩; go_wp2_with fail
    refine hK.out _ _ ?_ (fun hG => ?_)
    · exact J5.drew (J5.alloc hH)
    replace hH := hG
    clear hK K hG
    try simp only [Act.put, List.setIfInBounds_toArray, List.set_cons_zero, List.set_cons_succ]
    refine wpAnyH_ready (rs := [3]) (by kernel_rfl) (by simp) (AllReadyH.cons rfl (fun K hK => ?_) AllReadyH.nil)
    go_simp
    go_at_call 87; refine (U.out _).mono ?_; rintro e w' ⟨rfl, rfl⟩; go_wp2_with fail
    refine hK.out _ _ ?_ (fun hG => ?_)
    · exact J5.drew (J5.drew (J5.alloc (J5.alloc (J5.new _ _ _ _ _ _ _))))
    replace hH := hG
    clear hK K hG
    try simp only [Act.put, List.setIfInBounds_toArray, List.set_cons_zero, List.set_cons_succ]
    have hU : (((w.alloc (.cells (jc x y 2 t l) 47)).alloc (.cells #[.int .i64 x, .int .i64 y] 34)).alloc (.cells #[.complex .f32 1065353216 0, .complex .f32 0 1065353216, .complex .f32 3212836864 0, .complex .f32 0 3212836864] 71)).cell? ⟨w.heap.size + 1 + 1, 2, none⟩ = some (.complex .f32 3212836864 0) := by simp [go_sem]
    refine wpAnyH_to (S' := (fun w' => w'.cell? ⟨w.heap.size + 1 + 1, 2, none⟩ = some (.complex .f32 3212836864 0) ∧ w'.cell? ⟨w.heap.size, 0, none⟩ = some (.int .i64 x) ∧ w'.cell? ⟨w.heap.size, 1, none⟩ = some (.int .i64 y) ∧ w'.cell? ⟨w.heap.size, 2, none⟩ = some (.int .i64 2) ∧ w'.cell? ⟨w.heap.size, 3, none⟩ = some (.int .i64 t) ∧ w'.cell? ⟨w.heap.size, 4, none⟩ = some (.int .i64 l))) (fun _ h => h.2) _ _ _ _ ?_
    replace hH := And.intro hU hH
    clear hU
    refine wpAnyH_take (i := 6) (oi := _) (v := ?_) rfl (by kernel_rfl) (by kernel_rfl) (by kernel_rfl) (fun _ _ _ h => h) (Or.inl ⟨by rfl, ?_⟩) hH ?_
    rotate_left 1
    · intro W hSw
      (try dsimp only at hSw)
      go_simp
      (try with_reducible rfl)
    try simp only [Act.put, List.setIfInBounds_toArray, List.set_cons_zero, List.set_cons_succ]
    refine wpAnyH_take (i := 7) (oi := _) (v := ?_) rfl (by kernel_rfl) (by kernel_rfl) (by kernel_rfl) (fun _ _ _ h => h) (Or.inl ⟨by rfl, ?_⟩) hH ?_
    rotate_left 1
    · intro W hSw
      (try dsimp only at hSw)
      go_simp
      (try with_reducible rfl)
    try simp only [Act.put, List.setIfInBounds_toArray, List.set_cons_zero, List.set_cons_succ]
    refine wpAnyH_ready (rs := [10]) (by kernel_rfl) (by simp) (AllReadyH.cons rfl (fun K hK => ?_) AllReadyH.nil)
    go_simp
    go_at_call 88; refine (C4.out _).mono ?_; rintro e w' ⟨rfl, rfl⟩; go_wp2_with fail
    refine hK.out _ _ ?_ (fun hG => ?_)
    · exact hH
    replace hH := hG
    clear hK K hG
    try simp only [Act.put, List.setIfInBounds_toArray, List.set_cons_zero, List.set_cons_succ]
    refine wpAnyH_take (i := 11) (oi := _) (v := ?_) rfl (by kernel_rfl) (by kernel_rfl) (by kernel_rfl) (fun _ _ _ h => h) (Or.inl ⟨by rfl, ?_⟩) hH ?_
    rotate_left 1
    · intro W hSw
      (try dsimp only at hSw)
      go_simp
      (try with_reducible rfl)
    try simp only [Act.put, List.setIfInBounds_toArray, List.set_cons_zero, List.set_cons_succ]
    refine wpAnyH_take (i := 12) (oi := _) (v := ?_) rfl (by kernel_rfl) (by kernel_rfl) (by kernel_rfl) (fun _ _ _ h => h) (Or.inl ⟨by rfl, ?_⟩) hH ?_
    rotate_left 1
    · intro W hSw
      (try dsimp only at hSw)
      go_simp
      (try with_reducible rfl)
    try simp only [Act.put, List.setIfInBounds_toArray, List.set_cons_zero, List.set_cons_succ]
    refine wpAnyH_ready (rs := [15]) (by kernel_rfl) (by simp) (AllReadyH.cons rfl (fun K hK => ?_) AllReadyH.nil)
    go_simp
    go_at_call 88; refine (C6.out _).mono ?_; rintro e w' ⟨rfl, rfl⟩; go_wp2_with fail
    refine hK.out _ _ ?_ (fun hG => ?_)
    · exact hH
    replace hH := hG
    clear hK K hG
    try simp only [Act.put, List.setIfInBounds_toArray, List.set_cons_zero, List.set_cons_succ]
    refine wpAnyH_take (i := 16) (oi := _) (v := ?_) rfl (by kernel_rfl) (by kernel_rfl) (by kernel_rfl) (fun _ _ _ h => h) (Or.inl ⟨by rfl, ?_⟩) hH ?_
    rotate_left 1
    · intro W hSw
      (try dsimp only at hSw)
      go_simp
      (try with_reducible rfl)
    try simp only [Act.put, List.setIfInBounds_toArray, List.set_cons_zero, List.set_cons_succ]
    refine wpAnyH_ready (rs := [17]) (by kernel_rfl) (by simp) (AllReadyH.cons rfl (fun K hK => ?_) AllReadyH.nil)
    go_simp
    refine hK.out _ _ ?_ (fun hG => ?_)
    · exact ⟨cell_alloc hH.1, J5.alloc hH.2⟩
    replace hH := hG
    clear hK K hG
    try simp only [Act.put, List.setIfInBounds_toArray, List.set_cons_zero, List.set_cons_succ]
    refine wpAnyH_ready (rs := [18]) (by kernel_rfl) (by simp) (AllReadyH.cons rfl (fun K hK => ?_) AllReadyH.nil)
    go_simp
    refine hK.out _ _ ?_ (fun hG => ?_)
    · exact hH
    replace hH := hG
    clear hK K hG
    try simp only [Act.put, List.setIfInBounds_toArray, List.set_cons_zero, List.set_cons_succ]
    refine wpAnyH_done (by kernel_rfl) ?_ _
    refine NoPanic.normal ?_
    go_wp2_with fail
    go_returns
    exact ⟨_, rfl, by go_size, A0.out _ _ (newAt (by simp) _ _ _ _ _ _), by go_grown⟩
  · go_enter Tryz.func48, Tryz.ntmps48
    go_wp2_with fail
    refine wp_region_noPanic ?_
    refine wp_region_held_drew (S := (fun w' => w'.cell? ⟨w.heap.size, 0, none⟩ = some (.int .i64 x) ∧ w'.cell? ⟨w.heap.size, 1, none⟩ = some (.int .i64 y) ∧ w'.cell? ⟨w.heap.size, 2, none⟩ = some (.int .i64 3) ∧ w'.cell? ⟨w.heap.size, 3, none⟩ = some (.int .i64 t) ∧ w'.cell? ⟨w.heap.size, 4, none⟩ = some (.int .i64 l))) (by kernel_rfl) ?_ (fun hH => ?_)
    · exact J5.drew (J5.new _ _ _ _ _ _ _)
    refine wpAnyH_take (i := 0) (oi := _) (v := ?_) rfl (by kernel_rfl) (by kernel_rfl) (by kernel_rfl) (fun _ _ _ h => h) (Or.inl ⟨by rfl, ?_⟩) hH ?_
    rotate_left 1
    · intro W hSw
      (try dsimp only at hSw)
      go_simp
      (try with_reducible rfl)
    try simp only [Act.put, List.setIfInBounds_toArray, List.set_cons_zero, List.set_cons_succ]
    refine wpAnyH_take (i := 1) (oi := _) (v := ?_) rfl (by kernel_rfl) (by kernel_rfl) (by kernel_rfl) (fun _ _ _ h => h) (Or.inl ⟨by rfl, ?_⟩) hH ?_
    rotate_left 1
    · intro W hSw
      (try dsimp only at hSw)
      go_simp
      (try with_reducible rfl)
    try simp only [Act.put, List.setIfInBounds_toArray, List.set_cons_zero, List.set_cons_succ]
    refine wpAnyH_take (i := 4) (oi := _) (v := ?_) rfl (by kernel_rfl) (by kernel_rfl) (by kernel_rfl) (fun _ _ _ h => h) (Or.inl ⟨by rfl, ?_⟩) hH ?_
    rotate_left 1
    · intro W hSw
      (try dsimp only at hSw)
      go_simp
      (try with_reducible rfl)
    try simp only [Act.put, List.setIfInBounds_toArray, List.set_cons_zero, List.set_cons_succ]
    refine wpAnyH_take (i := 5) (oi := _) (v := ?_) rfl (by kernel_rfl) (by kernel_rfl) (by kernel_rfl) (fun _ _ _ h => h) (Or.inl ⟨by rfl, ?_⟩) hH ?_
    rotate_left 1
    · intro W hSw
      (try dsimp only at hSw)
      go_simp
      (try with_reducible rfl)
    try simp only [Act.put, List.setIfInBounds_toArray, List.set_cons_zero, List.set_cons_succ]
    refine wpAnyH_take (i := 8) (oi := _) (v := ?_) rfl (by kernel_rfl) (by kernel_rfl) (by kernel_rfl) (fun _ _ _ h => h) (Or.inl ⟨by rfl, ?_⟩) hH ?_
    rotate_left 1
    · intro W hSw
      (try dsimp only at hSw)
      go_simp
      (try with_reducible rfl)
    try simp only [Act.put, List.setIfInBounds_toArray, List.set_cons_zero, List.set_cons_succ]
    refine wpAnyH_take (i := 9) (oi := _) (v := ?_) rfl (by kernel_rfl) (by kernel_rfl) (by kernel_rfl) (fun _ _ _ h => h) (Or.inl ⟨by rfl, ?_⟩) hH ?_
    rotate_left 1
    · intro W hSw
      (try dsimp only at hSw)
      go_simp
      (try with_reducible rfl)
    try simp only [Act.put, List.setIfInBounds_toArray, List.set_cons_zero, List.set_cons_succ]
    refine wpAnyH_take (i := 13) (oi := _) (v := ?_) rfl (by kernel_rfl) (by kernel_rfl) (by kernel_rfl) (fun _ _ _ h => h) (Or.inl ⟨by rfl, ?_⟩) hH ?_
    rotate_left 1
    · intro W hSw
      (try dsimp only at hSw)
      go_simp
      (try with_reducible rfl)
    try simp only [Act.put, List.setIfInBounds_toArray, List.set_cons_zero, List.set_cons_succ]
    refine wpAnyH_take (i := 14) (oi := _) (v := ?_) rfl (by kernel_rfl) (by kernel_rfl) (by kernel_rfl) (fun _ _ _ h => h) (Or.inl ⟨by rfl, ?_⟩) hH ?_
    rotate_left 1
    · intro W hSw
      (try dsimp only at hSw)
      go_simp
      (try with_reducible rfl)
    try simp only [Act.put, List.setIfInBounds_toArray, List.set_cons_zero, List.set_cons_succ]
    refine wpAnyH_ready (rs := [2]) (by kernel_rfl) (by simp) (AllReadyH.cons rfl (fun K hK => ?_) AllReadyH.nil)
    go_simp
    go_at_call 86; refine (C5.out _).mono ?_; rintro e w' ⟨rfl, rfl⟩; go_wp2_with fail
    refine hK.out _ _ ?_ (fun hG => ?_)
    · exact J5.drew (J5.alloc hH)
    replace hH := hG
    clear hK K hG
    try simp only [Act.put, List.setIfInBounds_toArray, List.set_cons_zero, List.set_cons_succ]
    refine wpAnyH_ready (rs := [3]) (by kernel_rfl) (by simp) (AllReadyH.cons rfl (fun K hK => ?_) AllReadyH.nil)
    go_simp
    go_at_call 87; refine (U.out _).mono ?_; rintro e w' ⟨rfl, rfl⟩; go_wp2_with fail
    refine hK.out _ _ ?_ (fun hG => ?_)
    · exact J5.drew (J5.drew (J5.alloc (J5.alloc (J5.new _ _ _ _ _ _ _))))
    replace hH := hG
    clear hK K hG
    try simp only [Act.put, List.setIfInBounds_toArray, List.set_cons_zero, List.set_cons_succ]
    have hU : (((w.alloc (.cells (jc x y 3 t l) 47)).alloc (.cells #[.int .i64 x, .int .i64 y] 34)).alloc (.cells #[.complex .f32 1065353216 0, .complex .f32 0 1065353216, .complex .f32 3212836864 0, .complex .f32 0 3212836864] 71)).cell? ⟨w.heap.size + 1 + 1, 3, none⟩ = some (.complex .f32 0 3212836864) := by simp [go_sem]
    refine wpAnyH_to (S' := (fun w' => w'.cell? ⟨w.heap.size + 1 + 1, 3, none⟩ = some (.complex .f32 0 3212836864) ∧ w'.cell? ⟨w.heap.size, 0, none⟩ = some (.int .i64 x) ∧ w'.cell? ⟨w.heap.size, 1, none⟩ = some (.int .i64 y) ∧ w'.cell? ⟨w.heap.size, 2, none⟩ = some (.int .i64 3) ∧ w'.cell? ⟨w.heap.size, 3, none⟩ = some (.int .i64 t) ∧ w'.cell? ⟨w.heap.size, 4, none⟩ = some (.int .i64 l))) (fun _ h => h.2) _ _ _ _ ?_
    replace hH := And.intro hU hH
    clear hU
    refine wpAnyH_take (i := 6) (oi := _) (v := ?_) rfl (by kernel_rfl) (by kernel_rfl) (by kernel_rfl) (fun _ _ _ h => h) (Or.inl ⟨by rfl, ?_⟩) hH ?_
    rotate_left 1
    · intro W hSw
      (try dsimp only at hSw)
      go_simp
      (try with_reducible rfl)
    try simp only [Act.put, List.setIfInBounds_toArray, List.set_cons_zero, List.set_cons_succ]
    refine wpAnyH_take (i := 7) (oi := _) (v := ?_) rfl (by kernel_rfl) (by kernel_rfl) (by kernel_rfl) (fun _ _ _ h => h) (Or.inl ⟨by rfl, ?_⟩) hH ?_
    rotate_left 1
    · intro W hSw
      (try dsimp only at hSw)
      go_simp
      (try with_reducible rfl)
    try simp only [Act.put, List.setIfInBounds_toArray, List.set_cons_zero, List.set_cons_succ]
    refine wpAnyH_ready (rs := [10]) (by kernel_rfl) (by simp) (AllReadyH.cons rfl (fun K hK => ?_) AllReadyH.nil)
    go_simp
    go_at_call 88; refine (C4.out _).mono ?_; rintro e w' ⟨rfl, rfl⟩; go_wp2_with fail
    refine hK.out _ _ ?_ (fun hG => ?_)
    · exact hH
    replace hH := hG
    clear hK K hG
    try simp only [Act.put, List.setIfInBounds_toArray, List.set_cons_zero, List.set_cons_succ]
    refine wpAnyH_take (i := 11) (oi := _) (v := ?_) rfl (by kernel_rfl) (by kernel_rfl) (by kernel_rfl) (fun _ _ _ h => h) (Or.inl ⟨by rfl, ?_⟩) hH ?_
    rotate_left 1
    · intro W hSw
      (try dsimp only at hSw)
      go_simp
      (try with_reducible rfl)
    try simp only [Act.put, List.setIfInBounds_toArray, List.set_cons_zero, List.set_cons_succ]
    refine wpAnyH_take (i := 12) (oi := _) (v := ?_) rfl (by kernel_rfl) (by kernel_rfl) (by kernel_rfl) (fun _ _ _ h => h) (Or.inl ⟨by rfl, ?_⟩) hH ?_
    rotate_left 1
    · intro W hSw
      (try dsimp only at hSw)
      go_simp
      (try with_reducible rfl)
    try simp only [Act.put, List.setIfInBounds_toArray, List.set_cons_zero, List.set_cons_succ]
    refine wpAnyH_ready (rs := [15]) (by kernel_rfl) (by simp) (AllReadyH.cons rfl (fun K hK => ?_) AllReadyH.nil)
    go_simp
    go_at_call 88; refine (C6.out _).mono ?_; rintro e w' ⟨rfl, rfl⟩; go_wp2_with fail
    refine hK.out _ _ ?_ (fun hG => ?_)
    · exact hH
    replace hH := hG
    clear hK K hG
    try simp only [Act.put, List.setIfInBounds_toArray, List.set_cons_zero, List.set_cons_succ]
    refine wpAnyH_take (i := 16) (oi := _) (v := ?_) rfl (by kernel_rfl) (by kernel_rfl) (by kernel_rfl) (fun _ _ _ h => h) (Or.inl ⟨by rfl, ?_⟩) hH ?_
    rotate_left 1
    · intro W hSw
      (try dsimp only at hSw)
      go_simp
      (try with_reducible rfl)
    try simp only [Act.put, List.setIfInBounds_toArray, List.set_cons_zero, List.set_cons_succ]
    refine wpAnyH_ready (rs := [17]) (by kernel_rfl) (by simp) (AllReadyH.cons rfl (fun K hK => ?_) AllReadyH.nil)
    go_simp
    refine hK.out _ _ ?_ (fun hG => ?_)
    · exact ⟨cell_alloc hH.1, J5.alloc hH.2⟩
    replace hH := hG
    clear hK K hG
    try simp only [Act.put, List.setIfInBounds_toArray, List.set_cons_zero, List.set_cons_succ]
    refine wpAnyH_ready (rs := [18]) (by kernel_rfl) (by simp) (AllReadyH.cons rfl (fun K hK => ?_) AllReadyH.nil)
    go_simp
    refine hK.out _ _ ?_ (fun hG => ?_)
    · exact hH
    replace hH := hG
    clear hK K hG
    try simp only [Act.put, List.setIfInBounds_toArray, List.set_cons_zero, List.set_cons_succ]
    refine wpAnyH_done (by kernel_rfl) ?_ _
    refine NoPanic.normal ?_
    go_wp2_with fail
    go_returns
    exact ⟨_, rfl, by go_size, A0.out _ _ (newAt (by simp) _ _ _ _ _ _), by go_grown⟩

end Go.Proofs.YtokncfhpmjohdabGreat.Dp
namespace Go.Proofs.YtokncfhpmjohdabGreat.Dr4
open Go.RowKit Go.Proofs.YtokncfhpmjohdabGreat.Cm Go.Proofs.YtokncfhpmjohdabGreat.Pl Go.Proofs.YtokncfhpmjohdabGreat.Str Go.Proofs.YtokncfhpmjohdabGreat.Pw Go.Proofs.YtokncfhpmjohdabGreat.P2 Go.Proofs.YtokncfhpmjohdabGreat.Hd Go.Proofs.YtokncfhpmjohdabGreat.Jt Go.Proofs.YtokncfhpmjohdabGreat.Dp
set_option linter.unusedVariables false
set_option linter.unusedSimpArgs false

/-- Block b is a jet of the call's own. -/
def JB (w : World) (b : Nat) (x y h t l : Int) : Prop := w.heap[b]? = some (.cells (jc x y h t l) 47 (0, 0))
section
variable {w w' : World} {b b' : Nat} {x y h t l u : Int}
theorem JB.c (k : JB w b x y h t l) : J5 w b x y h t l := by
  have e : w.heap[b]? = _ := k
  refine ⟨?_, ?_, ?_, ?_, ?_⟩ <;> simp [World.cell?, e]
theorem JB.f (k : JB w b x y h t l) (i : Nat) (hi : i < 5 := by omega) : w.frozen? ⟨b, i, none⟩ = false := by simp [World.frozen?, show w.heap[b]? = _ from k]
theorem JB.lt (k : JB w b x y h t l) : b < w.heap.size := (Array.getElem?_eq_some_iff.1 k).1
theorem JB.new (w : World) (x y h t l : Int) : JB (w.alloc (.cells (jc x y h t l) 47)) w.heap.size x y h t l := heap_alloc_new w _
theorem JB.alloc (k : JB w b x y h t l) (o : Obj) : JB (w.alloc o) b x y h t l := (Below.heap_alloc _ _ _ k.lt).trans k
theorem JB.below (k : JB w b x y h t l) (hb : Below w.heap.size w w') : JB w' b x y h t l := (hb.block b k.lt).trans k
theorem JB.drew (k : JB w b x y h t l) : JB w.drew b x y h t l := k
theorem JB.grown {r : Option Nat} (k : JB w b x y h t l) (g : w.grownBy w' r) (hr : some b ≠ r) : JB w' b x y h t l := (g.block b k.lt hr).trans k
theorem JB.other (k : JB w b x y h t l) (j : Nat) (v : Value) (hne : b ≠ b') : JB (w.setCell ⟨b', j, none⟩ v) b x y h t l := (Below.heap_setCell _ _ _ _ hne).trans k
theorem JB.set0 (u : Int) (k : JB w b x y h t l) : JB (w.setCell ⟨b, 0, none⟩ (.int .i64 u)) b u y h t l := by
  obtain ⟨hlt, hk⟩ := Array.getElem?_eq_some_iff.1 k
  show (w.heap.modify b _)[b]? = _
  rw [Array.getElem?_eq_getElem (by rw [Array.size_modify]; exact hlt), Array.getElem_modify_self, hk]
  rfl
theorem JB.set1 (u : Int) (k : JB w b x y h t l) : JB (w.setCell ⟨b, 1, none⟩ (.int .i64 u)) b x u h t l := by
  obtain ⟨hlt, hk⟩ := Array.getElem?_eq_some_iff.1 k
  show (w.heap.modify b _)[b]? = _
  rw [Array.getElem?_eq_getElem (by rw [Array.size_modify]; exact hlt), Array.getElem_modify_self, hk]
  rfl
theorem JB.set2 (u : Int) (k : JB w b x y h t l) : JB (w.setCell ⟨b, 2, none⟩ (.int .i64 u)) b x y u t l := by
  obtain ⟨hlt, hk⟩ := Array.getElem?_eq_some_iff.1 k
  show (w.heap.modify b _)[b]? = _
  rw [Array.getElem?_eq_getElem (by rw [Array.size_modify]; exact hlt), Array.getElem_modify_self, hk]
  rfl
theorem JB.set3 (u : Int) (k : JB w b x y h t l) : JB (w.setCell ⟨b, 3, none⟩ (.int .i64 u)) b x y h u l := by
  obtain ⟨hlt, hk⟩ := Array.getElem?_eq_some_iff.1 k
  show (w.heap.modify b _)[b]? = _
  rw [Array.getElem?_eq_getElem (by rw [Array.size_modify]; exact hlt), Array.getElem_modify_self, hk]
  rfl
theorem JB.set4 (u : Int) (k : JB w b x y h t l) : JB (w.setCell ⟨b, 4, none⟩ (.int .i64 u)) b x y h t u := by
  obtain ⟨hlt, hk⟩ := Array.getElem?_eq_some_iff.1 k
  show (w.heap.modify b _)[b]? = _
  rw [Array.getElem?_eq_getElem (by rw [Array.size_modify]; exact hlt), Array.getElem_modify_self, hk]
  rfl
theorem JB.set (k : JB w b x y h t l) (x' y' h' t' l' : Int) : JB (((((w.setCell ⟨b, 0, none⟩ (.int .i64 x')).setCell ⟨b, 1, none⟩ (.int .i64 y')).setCell ⟨b, 2, none⟩ (.int .i64 h')).setCell ⟨b, 3, none⟩ (.int .i64 t')).setCell ⟨b, 4, none⟩ (.int .i64 l')) b x' y' h' t' l' :=
  ((((k.set0 x').set1 y').set2 h').set3 t').set4 l'
end

end Go.Proofs.YtokncfhpmjohdabGreat.Dr4
namespace Go.Proofs.YtokncfhpmjohdabGreat.Tp
open Go.RowKit Go.Proofs.YtokncfhpmjohdabGreat.Cm Go.Proofs.YtokncfhpmjohdabGreat.Pl Go.Proofs.YtokncfhpmjohdabGreat.Str Go.Proofs.YtokncfhpmjohdabGreat.Pw Go.Proofs.YtokncfhpmjohdabGreat.P2
set_option linter.unusedVariables false

/-- Block b's first two cells hold the place x, y. -/
def CB (w : World) (b : Nat) (x y : Int) : Prop := w.cell? ⟨b, 0, none⟩ = some (.int .i64 x) ∧ w.cell? ⟨b, 1, none⟩ = some (.int .i64 y)
theorem CB.c0 {w : World} {b : Nat} {x y : Int} (h : CB w b x y) : w.cell? ⟨b, 0, none⟩ = some (.int .i64 x) := h.1
theorem CB.c1 {w : World} {b : Nat} {x y : Int} (h : CB w b x y) : w.cell? ⟨b, 1, none⟩ = some (.int .i64 y) := h.2
theorem CB.lt {w : World} {b : Nat} {x y : Int} (h : CB w b x y) : b < w.heap.size := World.block_lt_of_cell? w _ h.1
theorem CB.alloc {w : World} {b : Nat} {x y : Int} (h : CB w b x y) (o : Obj) : CB (w.alloc o) b x y := ⟨cell_alloc h.1, cell_alloc h.2⟩
theorem CB.below {w w' : World} {b : Nat} {x y : Int} (h : CB w b x y) (hb : Below w.heap.size w w') : CB w' b x y := ⟨cell_below hb h.1, cell_below hb h.2⟩
theorem CB.new (w : World) (x y : Int) : CB (w.alloc (.cells #[.int .i64 x, .int .i64 y] 34)) w.heap.size x y := ⟨cell_here rfl, cell_here rfl⟩
end Go.Proofs.YtokncfhpmjohdabGreat.Tp
namespace Go.Proofs.YtokncfhpmjohdabGreat.Dr4
open Go.RowKit Go.Proofs.YtokncfhpmjohdabGreat.Cx Go.Proofs.YtokncfhpmjohdabGreat.Cm Go.Proofs.YtokncfhpmjohdabGreat.Pl Go.Proofs.YtokncfhpmjohdabGreat.Str Go.Proofs.YtokncfhpmjohdabGreat.Pw Go.Proofs.YtokncfhpmjohdabGreat.P2 Go.Proofs.YtokncfhpmjohdabGreat.Hd Go.Proofs.YtokncfhpmjohdabGreat.Jt Go.Proofs.YtokncfhpmjohdabGreat.Dp
set_option linter.unusedVariables false
set_option linter.unusedSimpArgs false

end Go.Proofs.YtokncfhpmjohdabGreat.Dr4
namespace Go.Proofs.YtokncfhpmjohdabGreat.Tr
open Go.RowKit Go.ChangeShapes Go.WideShapes Go.WideElems Go.Deep Go.Proofs.YtokncfhpmjohdabGreat.Mem Go.Proofs.YtokncfhpmjohdabGreat.Rw Go.Proofs.YtokncfhpmjohdabGreat.Pw Go.Proofs.YtokncfhpmjohdabGreat.P2 Go.Proofs.YtokncfhpmjohdabGreat.Dd Go.Proofs.YtokncfhpmjohdabGreat.Dv Go.Proofs.YtokncfhpmjohdabGreat.Dl Go.Proofs.YtokncfhpmjohdabGreat.Ds Go.Proofs.YtokncfhpmjohdabGreat.Fd Go.Proofs.YtokncfhpmjohdabGreat.Ch Go.Proofs.YtokncfhpmjohdabGreat.Hn Go.Proofs.YtokncfhpmjohdabGreat.Po
set_option linter.unusedVariables false
set_option linter.unusedSimpArgs false
open Go.Proofs.YtokncfhpmjohdabGreat.Cm Go.Proofs.YtokncfhpmjohdabGreat.Pl Go.Proofs.YtokncfhpmjohdabGreat.Str Go.Proofs.YtokncfhpmjohdabGreat.Hd Go.Proofs.YtokncfhpmjohdabGreat.Jt Go.Proofs.YtokncfhpmjohdabGreat.Ho Go.Proofs.YtokncfhpmjohdabGreat.Pa Go.Proofs.YtokncfhpmjohdabGreat.Di Go.Proofs.YtokncfhpmjohdabGreat.Ig Go.Proofs.YtokncfhpmjohdabGreat.Ir Go.Proofs.YtokncfhpmjohdabGreat.Iq Go.Proofs.YtokncfhpmjohdabGreat.IsName Go.Proofs.YtokncfhpmjohdabGreat.Mo

open Go.Proofs.YtokncfhpmjohdabGreat.Rw (owns_below owns_grown)

end Go.Proofs.YtokncfhpmjohdabGreat.Tr
namespace Go.Proofs.YtokncfhpmjohdabGreat.Sg
open Go.RowKit Go.ChangeShapes Go.WideShapes Go.WideElems Go.Deep Go.Proofs.YtokncfhpmjohdabGreat.Mem Go.Proofs.YtokncfhpmjohdabGreat.Rw Go.Proofs.YtokncfhpmjohdabGreat.Pw Go.Proofs.YtokncfhpmjohdabGreat.P2 Go.Proofs.YtokncfhpmjohdabGreat.Dd Go.Proofs.YtokncfhpmjohdabGreat.Dv Go.Proofs.YtokncfhpmjohdabGreat.Dl Go.Proofs.YtokncfhpmjohdabGreat.Ds Go.Proofs.YtokncfhpmjohdabGreat.Fd Go.Proofs.YtokncfhpmjohdabGreat.Ch Go.Proofs.YtokncfhpmjohdabGreat.Hn Go.Proofs.YtokncfhpmjohdabGreat.Po
set_option linter.unusedVariables false
set_option linter.unusedSimpArgs false
open Go.Proofs.YtokncfhpmjohdabGreat.Cm Go.Proofs.YtokncfhpmjohdabGreat.Pl Go.Proofs.YtokncfhpmjohdabGreat.Str Go.Proofs.YtokncfhpmjohdabGreat.Hd Go.Proofs.YtokncfhpmjohdabGreat.Jt Go.Proofs.YtokncfhpmjohdabGreat.Ho Go.Proofs.YtokncfhpmjohdabGreat.Pa Go.Proofs.YtokncfhpmjohdabGreat.Di Go.Proofs.YtokncfhpmjohdabGreat.Ig Go.Proofs.YtokncfhpmjohdabGreat.Ir Go.Proofs.YtokncfhpmjohdabGreat.Iq Go.Proofs.YtokncfhpmjohdabGreat.IsName Go.Proofs.YtokncfhpmjohdabGreat.Mo Go.Proofs.YtokncfhpmjohdabGreat.Tr
open Go.Proofs.YtokncfhpmjohdabGreat.Rw (owns_below owns_grown)

theorem dls_cell {zs : List D} {v : Value} (h : v ∈ dls zs) : v.oneCell' = true := by
  unfold dls at h
  obtain ⟨d, _, hd⟩ := List.mem_flatMap.1 h
  unfold dc at hd
  simp at hd
  rcases hd with rfl | rfl | rfl | rfl | rfl | rfl | rfl | rfl <;> rfl

end Go.Proofs.YtokncfhpmjohdabGreat.Sg
namespace Go.Proofs.YtokncfhpmjohdabGreat.Rm
open Go.RowKit Go.ChangeShapes Go.WideShapes Go.WideElems Go.Deep Go.Proofs.YtokncfhpmjohdabGreat.Mem Go.Proofs.YtokncfhpmjohdabGreat.Rw Go.Proofs.YtokncfhpmjohdabGreat.Pw Go.Proofs.YtokncfhpmjohdabGreat.P2 Go.Proofs.YtokncfhpmjohdabGreat.Dd Go.Proofs.YtokncfhpmjohdabGreat.Dv Go.Proofs.YtokncfhpmjohdabGreat.Dl Go.Proofs.YtokncfhpmjohdabGreat.Ds Go.Proofs.YtokncfhpmjohdabGreat.Fd Go.Proofs.YtokncfhpmjohdabGreat.Ch Go.Proofs.YtokncfhpmjohdabGreat.Hn Go.Proofs.YtokncfhpmjohdabGreat.Po
set_option linter.unusedVariables false
set_option linter.unusedSimpArgs false
open Go.Proofs.YtokncfhpmjohdabGreat.Cm Go.Proofs.YtokncfhpmjohdabGreat.Pl Go.Proofs.YtokncfhpmjohdabGreat.Str Go.Proofs.YtokncfhpmjohdabGreat.Hd Go.Proofs.YtokncfhpmjohdabGreat.Jt Go.Proofs.YtokncfhpmjohdabGreat.Ho Go.Proofs.YtokncfhpmjohdabGreat.Pa Go.Proofs.YtokncfhpmjohdabGreat.Di Go.Proofs.YtokncfhpmjohdabGreat.Ig Go.Proofs.YtokncfhpmjohdabGreat.Ir Go.Proofs.YtokncfhpmjohdabGreat.Iq Go.Proofs.YtokncfhpmjohdabGreat.IsName Go.Proofs.YtokncfhpmjohdabGreat.Mo Go.Proofs.YtokncfhpmjohdabGreat.Tr Go.Proofs.YtokncfhpmjohdabGreat.Sg
open Go.Proofs.YtokncfhpmjohdabGreat.Rw (owns_below owns_grown)

/-- Cells written over a list, one after another. -/
def layL : List Value → Nat → List Value → List Value
  | xs, _, [] => xs
  | xs, o, u :: r => layL (xs.set o u) (o + 1) r
theorem layL_len : ∀ (r xs : List Value) (o : Nat), (layL xs o r).length = xs.length
  | [], _, _ => rfl
  | u :: r, xs, o => by rw [layL, layL_len r]; simp
theorem layL_get : ∀ (r xs : List Value) (o : Nat), o + r.length ≤ xs.length → ∀ t, (layL xs o r)[t]? = if t < o then xs[t]? else if t < o + r.length then r[t - o]? else xs[t]?
  | [], xs, o, _, t => by
    rw [layL]
    split
    · rfl
    · rw [if_neg (by simp only [List.length_nil]; omega)]
  | u :: r, xs, o, h, t => by
    simp only [List.length_cons] at h
    rw [layL, layL_get r (xs.set o u) (o + 1) (by rw [List.length_set]; omega) t]
    by_cases c1 : t < o
    · rw [if_pos (by omega), if_pos c1, List.getElem?_set_ne (by omega)]
    · rw [if_neg c1]
      by_cases c2 : t = o
      · subst c2
        rw [if_pos (by omega), if_pos (by simp only [List.length_cons]; omega), Nat.sub_self, List.getElem?_set_self (by omega)]; rfl
      · rw [if_neg (by omega)]
        by_cases c3 : t < o + (r.length + 1)
        · rw [if_pos (by omega), if_pos (by simp only [List.length_cons]; exact c3), show t - o = (t - (o + 1)) + 1 by omega, List.getElem?_cons_succ]
        · rw [if_neg (by omega), if_neg (by simp only [List.length_cons]; exact c3), List.getElem?_set_ne (by omega)]
theorem gtrans {a b c : World} {row : Option Nat} (h : a.grownBy b row) (k : b.grownBy c row) : a.grownBy c row :=
  ⟨k.os.trans h.os, k.tape.trans h.tape, k.output.trans h.output, Nat.le_trans h.size k.size, fun i hi hne => (k.block i (Nat.lt_of_lt_of_le hi h.size) hne).trans (h.block i hi hne)⟩
theorem owns_lay {base : Nat} {e : TypeId} {size g n cap : Nat} : ∀ (r : List Value) (o : Nat) (w : World) (xs : List Value), w.ownsRow base e size (.slice (some ⟨g, 0, none⟩) n cap) n xs → (w.setCells g o r).ownsRow base e size (.slice (some ⟨g, 0, none⟩) n cap) n (layL xs o r) ∧ w.grownBy (w.setCells g o r) (some g)
  | [], _, w, _, h => ⟨h, World.grownBy.refl _ _⟩
  | u :: r, o, w, xs, h => by
    obtain ⟨h1, g1⟩ := h.stored o u
    obtain ⟨h2, g2⟩ := owns_lay r (o + 1) _ _ h1
    exact ⟨h2, gtrans g1 g2⟩
theorem owns_fewer {w : World} {base : Nat} {e : TypeId} {size g n cap : Nat} {xs : List Value} (h : w.ownsRow base e size (.slice (some ⟨g, 0, none⟩) n cap) n xs) {m : Nat} (hm : m ≤ n) : w.ownsRow base e size (.slice (some ⟨g, 0, none⟩) m cap) m (xs.take (m * size)) := by
  rcases h.2 with ⟨h', _⟩ | ⟨g', cap', cur, h', hb, hg, hnc, hcm, hcs, htake⟩
  · simp at h'
  · simp only [Value.slice.injEq, Option.some.injEq, Addr.mk.injEq, and_true, true_and] at h'
    obtain ⟨rfl, rfl⟩ := h'
    have hle : m * size ≤ n * size := Nat.mul_le_mul_right _ hm
    refine ⟨by rw [List.length_take, h.1]; omega, .inr ⟨g, cap, cur, rfl, hb, hg, by omega, hcm, hcs, ?_⟩⟩
    rw [← htake, List.take_take, Nat.min_eq_left hle]
theorem owns_cap {w : World} {base : Nat} {e : TypeId} {size g n cap : Nat} {xs : List Value} (h : w.ownsRow base e size (.slice (some ⟨g, 0, none⟩) n cap) n xs) : n ≤ cap ∧ cap ≤ maxLen := by
  rcases h.2 with ⟨h', _⟩ | ⟨g', cap', cur, h', hb, hg, hnc, hcm, hcs, htake⟩
  · simp at h'
  · simp only [Value.slice.injEq, Option.some.injEq, Addr.mk.injEq, and_true, true_and] at h'
    obtain ⟨rfl, rfl⟩ := h'
    exact ⟨hnc, hcm⟩
theorem rd_take {w : World} {B : Nat} {A : Option Addr} {xs : List Value} (h : Rd w B A xs) (k : Nat) : Rd w B A (xs.take k) := by
  rcases h with h | ⟨b, o, e, hb, hc⟩
  · exact Or.inl (by rw [h]; simp)
  · exact Or.inr ⟨b, o, e, hb, fun j u hj => hc j u (by rw [List.getElem?_take] at hj; split at hj; exact hj; cases hj)⟩

theorem dls_app (xs ys : List D) : dls (xs ++ ys) = dls xs ++ dls ys := by unfold dls; rw [List.flatMap_append]
theorem dls_part {zs : List D} {k : Nat} (h : k ≤ zs.length) : dls (zs.take k) = (dls zs).take (k * 8) ∧ dls (zs.drop k) = (dls zs).drop (k * 8) := by
  have e : dls zs = dls (zs.take k) ++ dls (zs.drop k) := by rw [← dls_app, List.take_append_drop]
  have l : (dls (zs.take k)).length = k * 8 := by rw [dls_len, List.length_take]; omega
  rw [e, ← l]
  exact ⟨(List.take_left).symm, (List.drop_left).symm⟩
/-- The list without its j-th. -/
def cut (zs : List D) (j : Nat) : List D := zs.take j ++ zs.drop (j + 1)
theorem cut_len {zs : List D} {j : Nat} (h : j < zs.length) : (cut zs j).length = zs.length - 1 := by unfold cut; simp; omega
theorem cut_lay {zs : List D} {j : Nat} (h : j < zs.length) {z : List Value} (hz : z.length = 8) : (layL (layL (dls zs) (j * 8) (dls (zs.drop (j + 1)))) ((zs.length - 1) * 8) z).take ((zs.length - 1) * 8) = dls (cut zs j) := by
  have l0 := dls_len zs
  have l1 : (dls (zs.drop (j + 1))).length = (zs.length - (j + 1)) * 8 := by rw [dls_len, List.length_drop]
  have l2 : (dls (zs.take j)).length = j * 8 := by rw [dls_len, List.length_take]; omega
  unfold cut
  rw [dls_app]
  apply List.ext_getElem?
  intro t
  rw [List.getElem?_take]
  by_cases c : t < (zs.length - 1) * 8
  · rw [if_pos c, layL_get _ _ _ (by rw [layL_len, hz, l0]; omega), if_pos c, layL_get _ _ _ (by rw [l1, l0]; omega)]
    by_cases c1 : t < j * 8
    · rw [if_pos c1, List.getElem?_append_left (by omega), (dls_part (Nat.le_of_lt h)).1, List.getElem?_take, if_pos c1]
    · rw [if_neg c1, if_pos (by omega), List.getElem?_append_right (by omega), l2]
  · rw [if_neg c, List.getElem?_eq_none (by rw [List.length_append, l1, l2]; omega)]

set_option maxRecDepth 100000 in
set_option maxHeartbeats 400000 in
theorem copiesD (a : Addr) (n0 c9 : Nat) (zs : List D) (w : World) (hn : zs.length = n0) (hb : n0 ≤ 1048576) (hr : Rd w w.heap.size (some a) (dls zs)) :
    Calls Tryz.prog 129 #[.slice (some a) n0 c9] w (RowD w zs) := by
  obtain ⟨i0, hi, hz0, hz1, hz2⟩ := info_of infoD
  have R0 := Lib.hid (World.ownsRow_lit (base := w.heap.size) (e := 36) (size := 8) w #[] 0 (Nat.le_refl _) (Nat.zero_le _) rfl)
  have HC := Lib.hid (show ∀ j u, (dls zs)[j]? = some u → (w.alloc (.cells #[] 36)).cell? (a.add j) = some u by
    intro j u hj
    have hl := (List.getElem?_eq_some_iff.1 hj).1
    obtain ⟨b, o, e, hbl, hc⟩ := hr.get hl
    injection e with e
    subst e
    have := hc j u hj
    rw [show (⟨b, o, none⟩ : Addr).add j = ⟨b, o + j, none⟩ by simp [Addr.add]]
    exact cell_alloc this)
  have HN := Lib.hid hn
  have HW := Lib.hid (show w.heap.size ≤ (w.alloc (.cells #[] 36)).heap.size by simp)
  clear hr hn
  go_enter Tryz.func129, Tryz.ntmps129
  go_wp2_with (at_builtin; refine wpList_append_own _ rfl _ _ 24 rfl w.heap.size 36 i0 (.agg #[.string ⟨#[]⟩, .int .i64 0, .string ⟨#[]⟩, .int .i64 0, .int .i64 0, .int .i64 0, .int .i64 0, .int .i64 0]) 8 80 Tryz.underlying24 hi hz0 hz1 hz2 rfl (by decide) _ _ _ rfl R0.out a n0 _ (dls zs) rfl (by rw [dls_len, HN.out]) HC.out (fun u hu => dls_cell hu) (by unfold maxLen; omega) (by omega) HW.out ?_; intro v' w5 hown' hgrow hnil)
  have hg : ∃ g c, v' = .slice (some ⟨g, 0, none⟩) n0 c := by
    rcases hown'.2 with ⟨e1, _⟩ | ⟨g, cap, cur, e1, _⟩
    · exact absurd (hnil.1 e1).1 (by intro h; cases h)
    · exact ⟨g, cap, by rw [e1, Nat.zero_add]⟩
  obtain ⟨g, c, rfl⟩ := hg
  have RO := Lib.hid (show w5.ownsRow w.heap.size 36 8 (.slice (some ⟨g, 0, none⟩) n0 c) n0 (dls zs) by
    have := hown'; rw [Nat.zero_add] at this; exact this)
  have B5 := Lib.hid (show Below w.heap.size w w5 from Below.grown (by go_grown) hgrow (by simp) (fun j hj => by cases hj; exact Nat.le_refl _))
  clear hown' hgrow hnil R0 HC
  go_wp2_with fail
  go_ret
  exact ⟨g, c, by rw [HN.out]; rfl, by rw [HN.out]; exact RO.out, B5.out⟩

end Go.Proofs.YtokncfhpmjohdabGreat.Rm
