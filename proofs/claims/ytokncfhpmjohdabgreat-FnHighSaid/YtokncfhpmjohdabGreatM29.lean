/- The drops of the program, told. -/
import Derived.Test.YtokncfhpmjohdabGreatM28
import Derived.Test.YtokncfhpmjohdabGreatLy
import Derived.Test.YtokncfhpmjohdabGreatM26
import Derived.Test.YtokncfhpmjohdabGreatM27
import Derived.Test.YtokncfhpmjohdabGreatM17
import Derived.Test.YtokncfhpmjohdabGreatM23
import Derived.Maps.OwnOps
import Derived.Deep.RegionHeld3
import Derived.Deep.MidRow
import Derived.StillTailTactics
import Derived.Lib.SliceRun
import Derived.Deep.RegionLaw
import Derived.Deep.DeepCutAuto
set_option linter.unusedVariables false
set_option linter.unusedSimpArgs false
namespace Go.Proofs.YtokncfhpmjohdabGreat.Td9
open Go.RowKit Go.ChangeShapes Go.WideShapes Go.WideElems Go.Deep Go.Proofs.YtokncfhpmjohdabGreat.Mem Go.Proofs.YtokncfhpmjohdabGreat.Rw Go.Proofs.YtokncfhpmjohdabGreat.P2 Go.Proofs.YtokncfhpmjohdabGreat.Bk Go.Proofs.YtokncfhpmjohdabGreat.Sp Go.Proofs.YtokncfhpmjohdabGreat.Sq Go.Proofs.YtokncfhpmjohdabGreat.Jt Go.Proofs.YtokncfhpmjohdabGreat.Cm Go.Proofs.YtokncfhpmjohdabGreat.Cx Go.Proofs.YtokncfhpmjohdabGreat.Pl
open Go.Proofs.YtokncfhpmjohdabGreat.Sv hiding D C G
open Go.Proofs.YtokncfhpmjohdabGreat.Am9 Go.Proofs.YtokncfhpmjohdabGreat.Fo9 Go.Proofs.YtokncfhpmjohdabGreat.Tw9 Go.Proofs.YtokncfhpmjohdabGreat.Ar9 Go.Proofs.YtokncfhpmjohdabGreat.Pd9
open Go.Proofs.YtokncfhpmjohdabGreat.Wm (wd dr drs plus dr_bound drs_get drs_len)
open Go.Proofs.YtokncfhpmjohdabGreat.Gs (gls)
open Go.Proofs.YtokncfhpmjohdabGreat.Wc (infoC made_c zs2 zv zs2_len zs2_get)
open Go.Proofs.YtokncfhpmjohdabGreat.Pl9 (RowP pls pls_len pls_get infoP d0 pls_made)
open Go.Proofs.YtokncfhpmjohdabGreat.Dp (ha heightI)
open Go.Proofs.YtokncfhpmjohdabGreat.Pl9 (mixed mixed_zero mixed_all mixed_put)
open Go.Proofs.YtokncfhpmjohdabGreat.Ly (layL owns_lay)
set_option linter.unusedVariables false
set_option linter.unusedSimpArgs false


theorem lay_mixed {X Y : List Value} (h : Y.length = X.length) : ∀ (r : List Value) (k : Nat), (∀ j v, r[j]? = some v → X[k + j]? = some v) → layL (mixed X Y k) k r = mixed X Y (k + r.length)
  | [], k, _ => by rw [layL]; rfl
  | v :: r, k, hr => by
    rw [layL, mixed_put h (by have := hr 0 v rfl; simpa using this), lay_mixed h r (k + 1) (fun j u hj => by rw [show k + 1 + j = k + (j + 1) by omega]; exact hr (j + 1) u hj)]
    rw [List.length_cons, show k + 1 + r.length = k + (r.length + 1) by omega]
theorem there_own {w : World} {base g n c : Nat} {xs : List Value} (o : w.ownsRow base 44 5 (.slice (some ⟨g, 0, none⟩) n c) n xs) {k : Nat} (hk : k < n) : w.there g (k * 5) 5 := by
  intro j hj
  refine ⟨?_, o.frozenAt _⟩
  have hl := o.1
  rw [o.cellAt _ (by omega), List.getElem?_eq_getElem (by rw [hl]; omega)]; rfl
theorem tellV (gs : List G) (t : Nat) (ts : List T9) {k : Nat} {u : T9} (hu : ts[k]? = some u) : (ts.map (fun u => tell gs t u.z))[k]? = some ⟨u.z.d.nm, u.z.b, (pAt gs u.z t).1, (pAt gs u.z t).2, ha u.z.d.x u.z.d.y u.z.d.hd u.z.d.tl u.z.l ((t : Int) - u.z.b)⟩ := by
  rw [List.getElem?_map, hu]; rfl

set_option maxRecDepth 100000 in
set_option maxHeartbeats 2000000 in
theorem toldNone (A0 : Option Addr) (n0 c0 : Nat) (A1 : Option Addr) (n1 c1 : Nat) (A2 : Option Addr) (n2 c2 : Nat) (T : Int) (g c : Nat) (t : Int) (w : World) :
    Calls Tryz.prog 45 #[sv A0 n0 c0 A1 n1 c1 A2 n2 c2 T, .slice (some ⟨g, 0, none⟩) 0 c, .int .i64 t] w (RowP w []) := by
  obtain ⟨i0, hi, hz0, hz1, hz2⟩ := info_of infoP
  have hz : (w.alloc (.cells (sc A0 n0 c0 A1 n1 c1 A2 n2 c2 T) 28)).heap.size = w.heap.size + 1 := by simp [go_sem]
  have B0 := Lib.hid ((Below.refl w.heap.size w).alloc (Nat.le_refl _) (.cells (sc A0 n0 c0 A1 n1 c1 A2 n2 c2 T) 28))
  go_enter Tryz.func45, Tryz.ntmps45
  go_wp2_with (at_make; refine wpList_make_full _ rfl _ _ 41 rfl w.heap.size 44 i0 (.agg #[.string ⟨#[]⟩, .int .i64 0, .int .i64 0, .int .i64 0, .int .i64 0]) 5 Tryz.underlying41 hi hz0 hz1 .i64 .i64 0 0 0 rfl rfl rfl rfl (by rw [hz2]; omega) (by unfold maxLen; omega) (by rw [hz]; omega) ?_; intro w1 hown hgrow; clear hi hz0 hz1 hz2)
  rw [hz] at hown
  have R0 := Lib.hid (show w1.ownsRow w.heap.size 44 5 (.slice (some ⟨w.heap.size + 1, 0, none⟩) 0 0) 0 (pls []) by
    have h9 := hown
    rw [show (madeCells (Value.agg #[.string ⟨#[]⟩, .int .i64 0, .int .i64 0, .int .i64 0, .int .i64 0]).cells (0 * 5)).toList = pls (List.replicate 0 d0) from pls_made 0] at h9
    exact h9)
  have B1 := Lib.hid (B0.out.grown hgrow (by rw [hz]; omega) (fun k hk => by cases hk))
  clear hown hgrow B0 hz
  go_wp2_with fail
  go_ret
  exact ⟨_, _, rfl, R0.out, B1.out⟩

set_option maxRecDepth 100000 in
set_option maxHeartbeats 4000000 in
theorem toldSome (A0 : Option Addr) (n0 c0 : Nat) (A1 : Option Addr) (n1 c1 : Nat) (A2 : Option Addr) (n2 c2 : Nat) (T : Int) (gs : List G) (g n c : Nat) (ts : List T9) (t : Nat) (w : World) (hn0 : 0 < n) (hn : ts.length = n) (hnb : n ≤ 512) (ht : t ≤ 128) (hok : ∀ u ∈ ts, TOk u) (hap : Apart (ts.map T9.z)) (hr : Rd w w.heap.size (some ⟨g, 0, none⟩) (tls ts)) (hw : wd gs = true) (hn2 : gs.length = n2) (hb2 : n2 ≤ 1048576) (hr2 : Rd w w.heap.size A2 (gls gs)) :
    Calls Tryz.prog 45 #[sv A0 n0 c0 A1 n1 c1 A2 n2 c2 T, .slice (some ⟨g, 0, none⟩) n c, .int .i64 (t : Int)] w (RowP w (ts.map (fun u => tell gs t u.z))) := by
  obtain ⟨i0, hi, hz0, hz1, hz2⟩ := info_of infoP
  have hz : (w.alloc (.cells (sc A0 n0 c0 A1 n1 c1 A2 n2 c2 T) 28)).heap.size = w.heap.size + 1 := by simp [go_sem]
  have B0 := Lib.hid ((Below.refl w.heap.size w).alloc (Nat.le_refl _) (.cells (sc A0 n0 c0 A1 n1 c1 A2 n2 c2 T) 28))
  have KS := Lib.hid (Bk.new w (sc A0 n0 c0 A1 n1 c1 A2 n2 c2 T) 28)
  obtain ⟨zs, hzs⟩ : ∃ zs, (ts.map (fun u => tell gs t u.z)) = zs := ⟨_, rfl⟩
  have hzl : zs.length = n := by rw [← hzs, List.length_map]; exact hn
  have HV := Lib.hid (fun (k : Nat) (u : T9) (hu : ts[k]? = some u) => (by rw [← hzs]; exact tellV gs t ts hu : zs[k]? = some ⟨u.z.d.nm, u.z.b, (pAt gs u.z t).1, (pAt gs u.z t).2, ha u.z.d.x u.z.d.y u.z.d.hd u.z.d.tl u.z.l ((t : Int) - u.z.b)⟩))
  rw [hzs]
  have HR := Lib.hid hr
  have HN := Lib.hid hn
  have HK := Lib.hid hok
  have HW := Lib.hid hw
  have HZL := Lib.hid (show (pls (List.replicate n d0)).length = (pls zs).length by rw [pls_len, pls_len, List.length_replicate, hzl])
  have HZN := Lib.hid hzl
  have CF := Lib.hid (fun (W : World) (h : Below w.heap.size w W) => flown A2 n2 c2 gs g n c ts t W hn hnb ht hok hap ((hr.below h).more h.size) hw hn2 hb2 ((hr2.below h).more h.size))
  have hn9 : ¬ ((n : Int) = 0) := by omega
  have hu : undef = Value.tuple #[] := rfl
  clear hr hn hok hap hw hr2 hn2 hb2 hzs hzl
  go_enter Tryz.func45, Tryz.ntmps45
  go_wp2_with (at_make; refine wpList_make_full _ rfl _ _ 41 rfl w.heap.size 44 i0 (.agg #[.string ⟨#[]⟩, .int .i64 0, .int .i64 0, .int .i64 0, .int .i64 0]) 5 Tryz.underlying41 hi hz0 hz1 .i64 .i64 n n n rfl rfl rfl rfl (by rw [hz2]; omega) (by unfold maxLen; omega) (by rw [hz]; omega) ?_; intro w1 hown hgrow; clear hi hz0 hz1 hz2; have KS1 := Lib.hid (KS.out.grown hgrow (by intro e9; cases e9)); have s2 := KS1.out.cell (i := 2) rfl)
  rw [hz] at hown
  have R0 := Lib.hid (show w1.ownsRow w.heap.size 44 5 (.slice (some ⟨w.heap.size + 1, 0, none⟩) n n) n (mixed (pls zs) (pls (List.replicate n d0)) 0) by
    rw [mixed_zero, ← pls_made]; exact hown)
  have B1 := Lib.hid (B0.out.grown hgrow (by rw [hz]; omega) (fun k hk => by cases hk))
  clear hown hgrow B0 hz KS
  go_wp2_with fail
  refine (CF.out _ B1.out).mono ?_
  rintro e w2 ⟨b, M, rfl, hA, hT, hb⟩
  have AB := Lib.hid hA
  have TB := Lib.hid hT
  have R2 := Lib.hid (owns_below R0.out hb)
  have B2 := Lib.hid (B1.out.trans (hb.mono B1.out.size))
  have hbase : w.heap.size ≤ w1.heap.size := B1.out.size
  have hgD : w.heap.size + 1 < w1.heap.size := (R0.out.lt _ rfl).2
  obtain ⟨base, hB9⟩ : ∃ x, w1.heap.size = x := ⟨_, rfl⟩
  rw [hB9] at AB hgD hbase
  clear hA hT hb R0 B1 CF KS1 s2 hB9
  go_wp2_with fail
  go_loopw [25] (fun i wr => ∃ k : Nat, k ≤ n ∧ i = .int .i64 k ∧ Hid (wr.ownsRow w.heap.size 44 5 (.slice (some ⟨w.heap.size + 1, 0, none⟩) n n) n (mixed (pls zs) (pls (List.replicate n d0)) (k * 5))) ∧ Hid (Air wr base b M) ∧ Hid (Below w.heap.size w wr)) (fun i _ => n - (intOf i).toNat)
  case atStart => exact ⟨0, Nat.zero_le _, rfl, by rw [Nat.zero_mul]; exact R2, AB, B2⟩
  case round =>
    obtain ⟨k, hk, rfl, RK, AK, BK⟩ := hrel
    clear R2 AB B2
    have hbs := BK.out.size
    by_cases hlt : k < n
    · obtain ⟨u, hu9⟩ : ∃ u, ts[k]? = some u := ⟨_, List.getElem?_eq_getElem (by rw [HN.out]; exact hlt)⟩
      obtain ⟨x0, x1, x2, x3, x4, x5, x6, x7, x8⟩ := cR (HR.out.below BK.out) hu9
      have hko := HK.out u (List.mem_of_getElem? hu9)
      have hpq := pAt_le (gs := gs) HW.out hko.2.1 t
      have hL := (jt_iff.1 hko.2.1).2.2.2.2
      have hz9 := HV.out k u hu9
      obtain ⟨px, hpx⟩ : ∃ x, (pAt gs u.z t).1 = x := ⟨_, rfl⟩
      obtain ⟨py, hpy⟩ : ∃ x, (pAt gs u.z t).2 = x := ⟨_, rfl⟩
      have HH := TB.out k u t hu9 rfl
      have CP := Lib.hid (fun (W : World) (h : Air W base b M) => (by have := placeOf u W h hko (pAt gs u.z t) (by omega) HH; rw [hpx, hpy] at this; exact this : Calls Tryz.prog 83 #[.map (some b), tv u] W fun e w' => e = .returned (.agg #[.int .i64 px, .int .i64 py]) ∧ Below W.heap.size W w'))
      rw [hpx, hpy] at hz9
      obtain ⟨hh, hhh⟩ : ∃ x, ha u.z.d.x u.z.d.y u.z.d.hd u.z.d.tl u.z.l ((t : Int) - u.z.b) = x := ⟨_, rfl⟩
      rw [hhh] at hz9
      have CH := Lib.hid (fun (W : World) => (by have := heightI u.z.d.x u.z.d.y u.z.d.hd u.z.d.tl u.z.l ((t : Int) - u.z.b) W; rw [hhh] at this; exact this : Calls Tryz.prog 84 #[jv u.z.d.x u.z.d.y u.z.d.hd u.z.d.tl u.z.l, .int .i64 ((t : Int) - u.z.b)] W fun e w' => e = .returned (.int .i64 hh) ∧ Below W.heap.size W w'))
      have ZG := Lib.hid (pls_get hz9)
      have hbb := hko.2.2
      have w1 : IntKind.i64.wrap ((t : Int) - (u.z.b : Int)) = (t : Int) - u.z.b := IntWalk.i64_in _ (by omega)
      have w2 : wrap64 ((t : Int) - (u.z.b : Int)) = (t : Int) - u.z.b := IntWalk.wrap64_in _ (by omega)
      have R1 := Lib.hid (RK.out.alloc (.cells (tca u) 73))
      have A1 := Lib.hid (AK.out.alloc (.cells (tca u) 73))
      have B1 := Lib.hid (BK.out.alloc hbs (.cells (tca u) 73))
      have KU := Lib.hid (Bk.new wr (tca u) 73)
      have hwr : w.heap.size + 1 < wr.heap.size := (RK.out.lt _ rfl).2
      clear hu9 hko hpq hL hz9 HH hpx hpy hhh RK AK BK
      go_upto_region 8 with fail
      clear x0 x1 x2 x3 x4 x5 x6 x7 x8
      refine wp_region_noPanic ?_
      refine wp_region_held_drew (S := (fun w' => w'.cell? ⟨wr.heap.size, 0, none⟩ = some (.string u.z.d.nm) ∧ w'.cell? ⟨wr.heap.size, 1, none⟩ = some (.int .i64 u.z.b) ∧ w'.cell? ⟨wr.heap.size, 2, none⟩ = some (.int .i64 (u.z.b + (u.z.l + 1))) ∧ w'.cell? ⟨wr.heap.size, 3, none⟩ = some (.int .i64 u.z.d.x) ∧ w'.cell? ⟨wr.heap.size, 4, none⟩ = some (.int .i64 u.z.d.y) ∧ w'.cell? ⟨wr.heap.size, 5, none⟩ = some (.int .i64 u.z.d.hd) ∧ w'.cell? ⟨wr.heap.size, 6, none⟩ = some (.int .i64 u.z.d.tl) ∧ w'.cell? ⟨wr.heap.size, 7, none⟩ = some (.int .i64 u.z.l) ∧ w'.cell? ⟨wr.heap.size, 8, none⟩ = some (.complex .f32 u.re u.im) ∧ Air w' base b M ∧ Below w.heap.size w w')) (by kernel_rfl) ?_ (fun hH => ?_)
      · exact ⟨KU.out.drew.cell (i := 0) rfl, KU.out.drew.cell (i := 1) rfl, KU.out.drew.cell (i := 2) rfl, KU.out.drew.cell (i := 3) rfl, KU.out.drew.cell (i := 4) rfl, KU.out.drew.cell (i := 5) rfl, KU.out.drew.cell (i := 6) rfl, KU.out.drew.cell (i := 7) rfl, KU.out.drew.cell (i := 8) rfl, A1.out.drew, B1.out.drew⟩
      refine wpAnyH_take (i := 0) (oi := { dst := some 30, op := _, type := _, pos := _, after := _, guard := _ }) (v := ?_) rfl (by kernel_rfl) (by kernel_rfl) (by kernel_rfl) (fun _ _ _ h => h) (Or.inl ⟨by rfl, ?_⟩) hH ?_
      rotate_left 1
      · intro W hSw
        (try dsimp only at hSw)
        go_simp
        (try with_reducible rfl)
      try simp only [Act.put, List.setIfInBounds_toArray, List.set_cons_zero, List.set_cons_succ]
      refine wpAnyH_take (i := 1) (oi := { dst := some 31, op := _, type := _, pos := _, after := _, guard := _ }) (v := ?_) rfl (by kernel_rfl) (by kernel_rfl) (by kernel_rfl) (fun _ _ _ h => h) (Or.inl ⟨by rfl, ?_⟩) hH ?_
      rotate_left 1
      · intro W hSw
        (try dsimp only at hSw)
        go_simp
        (try with_reducible rfl)
      try simp only [Act.put, List.setIfInBounds_toArray, List.set_cons_zero, List.set_cons_succ]
      refine wpAnyH_take (i := 2) (oi := { dst := some 32, op := _, type := _, pos := _, after := _, guard := _ }) (v := ?_) rfl (by kernel_rfl) (by kernel_rfl) (by kernel_rfl) (fun _ _ _ h => h) (Or.inl ⟨by rfl, ?_⟩) hH ?_
      rotate_left 1
      · intro W hSw
        (try dsimp only at hSw)
        go_simp
        (try with_reducible rfl)
      try simp only [Act.put, List.setIfInBounds_toArray, List.set_cons_zero, List.set_cons_succ]
      refine wpAnyH_take (i := 3) (oi := { dst := some 33, op := _, type := _, pos := _, after := _, guard := _ }) (v := ?_) rfl (by kernel_rfl) (by kernel_rfl) (by kernel_rfl) (fun _ _ _ h => h) (Or.inl ⟨by rfl, ?_⟩) hH ?_
      rotate_left 1
      · intro W hSw
        (try dsimp only at hSw)
        go_simp
        (try with_reducible rfl)
      try simp only [Act.put, List.setIfInBounds_toArray, List.set_cons_zero, List.set_cons_succ]
      refine wpAnyH_take (i := 4) (oi := { dst := some 34, op := _, type := _, pos := _, after := _, guard := _ }) (v := ?_) rfl (by kernel_rfl) (by kernel_rfl) (by kernel_rfl) (fun _ _ _ h => h) (Or.inl ⟨by rfl, ?_⟩) hH ?_
      rotate_left 1
      · intro W hSw
        (try dsimp only at hSw)
        go_simp
        (try with_reducible rfl)
      try simp only [Act.put, List.setIfInBounds_toArray, List.set_cons_zero, List.set_cons_succ]
      refine wpAnyH_take (i := 5) (oi := { dst := some 35, op := _, type := _, pos := _, after := _, guard := _ }) (v := ?_) rfl (by kernel_rfl) (by kernel_rfl) (by kernel_rfl) (fun _ _ _ h => h) (Or.inl ⟨by rfl, ?_⟩) hH ?_
      rotate_left 1
      · intro W hSw
        (try dsimp only at hSw)
        go_simp
        (try with_reducible rfl)
      try simp only [Act.put, List.setIfInBounds_toArray, List.set_cons_zero, List.set_cons_succ]
      refine wpAnyH_take (i := 6) (oi := { dst := some 36, op := _, type := _, pos := _, after := _, guard := _ }) (v := ?_) rfl (by kernel_rfl) (by kernel_rfl) (by kernel_rfl) (fun _ _ _ h => h) (Or.inl ⟨by rfl, ?_⟩) hH ?_
      rotate_left 1
      · intro W hSw
        (try dsimp only at hSw)
        go_simp
        (try with_reducible rfl)
      try simp only [Act.put, List.setIfInBounds_toArray, List.set_cons_zero, List.set_cons_succ]
      refine wpAnyH_take (i := 7) (oi := { dst := some 37, op := _, type := _, pos := _, after := _, guard := _ }) (v := ?_) rfl (by kernel_rfl) (by kernel_rfl) (by kernel_rfl) (fun _ _ _ h => h) (Or.inl ⟨by rfl, ?_⟩) hH ?_
      rotate_left 1
      · intro W hSw
        (try dsimp only at hSw)
        go_simp
        (try with_reducible rfl)
      try simp only [Act.put, List.setIfInBounds_toArray, List.set_cons_zero, List.set_cons_succ]
      refine wpAnyH_take (i := 9) (oi := { dst := some 39, op := _, type := _, pos := _, after := _, guard := _ }) (v := ?_) rfl (by kernel_rfl) (by kernel_rfl) (by kernel_rfl) (fun _ _ _ h => h) (Or.inl ⟨by rfl, ?_⟩) hH ?_
      rotate_left 1
      · intro W hSw
        (try dsimp only at hSw)
        go_simp
        (try with_reducible rfl)
      try simp only [Act.put, List.setIfInBounds_toArray, List.set_cons_zero, List.set_cons_succ]
      refine wpAnyH_take (i := 10) (oi := { dst := some 40, op := _, type := _, pos := _, after := _, guard := _ }) (v := ?_) rfl (by kernel_rfl) (by kernel_rfl) (by kernel_rfl) (fun _ _ _ h => h) (Or.inl ⟨by rfl, ?_⟩) hH ?_
      rotate_left 1
      · intro W hSw
        (try dsimp only at hSw)
        go_simp
        (try with_reducible rfl)
      try simp only [Act.put, List.setIfInBounds_toArray, List.set_cons_zero, List.set_cons_succ]
      refine wpAnyH_take (i := 11) (oi := { dst := some 41, op := _, type := _, pos := _, after := _, guard := _ }) (v := ?_) rfl (by kernel_rfl) (by kernel_rfl) (by kernel_rfl) (fun _ _ _ h => h) (Or.inl ⟨by rfl, ?_⟩) hH ?_
      rotate_left 1
      · intro W hSw
        (try dsimp only at hSw)
        go_simp
        (try with_reducible rfl)
      try simp only [Act.put, List.setIfInBounds_toArray, List.set_cons_zero, List.set_cons_succ]
      refine wpAnyH_take (i := 12) (oi := { dst := some 42, op := _, type := _, pos := _, after := _, guard := _ }) (v := ?_) rfl (by kernel_rfl) (by kernel_rfl) (by kernel_rfl) (fun _ _ _ h => h) (Or.inl ⟨by rfl, ?_⟩) hH ?_
      rotate_left 1
      · intro W hSw
        (try dsimp only at hSw)
        go_simp
        (try with_reducible rfl)
      try simp only [Act.put, List.setIfInBounds_toArray, List.set_cons_zero, List.set_cons_succ]
      refine wpAnyH_take (i := 13) (oi := { dst := some 43, op := _, type := _, pos := _, after := _, guard := _ }) (v := ?_) rfl (by kernel_rfl) (by kernel_rfl) (by kernel_rfl) (fun _ _ _ h => h) (Or.inl ⟨by rfl, ?_⟩) hH ?_
      rotate_left 1
      · intro W hSw
        (try dsimp only at hSw)
        go_simp
        (try with_reducible rfl)
      try simp only [Act.put, List.setIfInBounds_toArray, List.set_cons_zero, List.set_cons_succ]
      refine wpAnyH_take (i := 14) (oi := { dst := some 44, op := _, type := _, pos := _, after := _, guard := _ }) (v := ?_) rfl (by kernel_rfl) (by kernel_rfl) (by kernel_rfl) (fun _ _ _ h => h) (Or.inl ⟨by rfl, ?_⟩) hH ?_
      rotate_left 1
      · intro W hSw
        (try dsimp only at hSw)
        go_simp
        (try with_reducible rfl)
      try simp only [Act.put, List.setIfInBounds_toArray, List.set_cons_zero, List.set_cons_succ]
      refine wpAnyH_ready (rs := [8]) (by kernel_rfl) (by simp) (AllReadyH.cons rfl (fun K hK => ?_) AllReadyH.nil)
      go_simp
      go_at_call 83; ((with_reducible refine (CP.out _ hH.2.2.2.2.2.2.2.2.2.1).mono ?_); rintro e9 r1 ⟨rfl, hb1⟩); have D1 := owns_below R1.out.drew hb1; go_wp2_with fail
      refine hK.out _ _ ?_ (fun hG => ?_)
      · exact ⟨cell_below hb1 hH.1, cell_below hb1 hH.2.1, cell_below hb1 hH.2.2.1, cell_below hb1 hH.2.2.2.1, cell_below hb1 hH.2.2.2.2.1, cell_below hb1 hH.2.2.2.2.2.1, cell_below hb1 hH.2.2.2.2.2.2.1, cell_below hb1 hH.2.2.2.2.2.2.2.1, cell_below hb1 hH.2.2.2.2.2.2.2.2.1, hH.2.2.2.2.2.2.2.2.2.1.below hb1, hH.2.2.2.2.2.2.2.2.2.2.trans (hb1.mono hH.2.2.2.2.2.2.2.2.2.2.size)⟩
      replace hH := hG
      clear hK K hG
      try simp only [Act.put, List.setIfInBounds_toArray, List.set_cons_zero, List.set_cons_succ]
      refine wpAnyH_ready (rs := [15]) (by kernel_rfl) (by simp) (AllReadyH.cons rfl (fun K hK => ?_) AllReadyH.nil)
      go_simp
      go_at_call 84; ((with_reducible refine (CH.out _).mono ?_); rintro e9 r2 ⟨rfl, hb2⟩); have D2 := owns_below D1 hb2; go_wp2_with fail
      refine hK.out _ _ ?_ (fun hG => ?_)
      · exact ⟨cell_below hb2 hH.1, cell_below hb2 hH.2.1, cell_below hb2 hH.2.2.1, cell_below hb2 hH.2.2.2.1, cell_below hb2 hH.2.2.2.2.1, cell_below hb2 hH.2.2.2.2.2.1, cell_below hb2 hH.2.2.2.2.2.2.1, cell_below hb2 hH.2.2.2.2.2.2.2.1, cell_below hb2 hH.2.2.2.2.2.2.2.2.1, hH.2.2.2.2.2.2.2.2.2.1.below hb2, hH.2.2.2.2.2.2.2.2.2.2.trans (hb2.mono hH.2.2.2.2.2.2.2.2.2.2.size)⟩
      replace hH := hG
      clear hK K hG
      try simp only [Act.put, List.setIfInBounds_toArray, List.set_cons_zero, List.set_cons_succ]
      refine wpAnyH_take (i := 16) (oi := { dst := some 46, op := _, type := _, pos := _, after := _, guard := _ }) (v := ?_) rfl (by kernel_rfl) (by kernel_rfl) (by kernel_rfl) (fun _ _ _ h => h) (Or.inl ⟨by rfl, ?_⟩) hH ?_
      rotate_left 1
      · intro W hSw
        (try dsimp only at hSw)
        go_simp
        (try with_reducible rfl)
      try simp only [Act.put, List.setIfInBounds_toArray, List.set_cons_zero, List.set_cons_succ]
      refine wpAnyH_take (i := 17) (oi := { dst := some 47, op := _, type := _, pos := _, after := _, guard := _ }) (v := ?_) rfl (by kernel_rfl) (by kernel_rfl) (by kernel_rfl) (fun _ _ _ h => h) (Or.inl ⟨by rfl, ?_⟩) hH ?_
      rotate_left 1
      · intro W hSw
        (try dsimp only at hSw)
        go_simp
        (try with_reducible rfl)
      try simp only [Act.put, List.setIfInBounds_toArray, List.set_cons_zero, List.set_cons_succ]
      refine wpAnyH_ready (rs := [18]) (by kernel_rfl) (by simp) (AllReadyH.cons rfl (fun K hK => ?_) AllReadyH.nil)
      (refine step_store_mid rfl 44 (.tmp 47) (.tmp 46) rfl (w.heap.size + 1) (k * 5) #[.string u.z.d.nm, .int .i64 u.z.b, .int .i64 px, .int .i64 py, .int .i64 hh] (by simp [Act.eval, Act.put]) (by simp [Act.eval, Act.put]) (there_own D2 hlt) (by kernel_rfl) (by simp [Value.oneCell']) ?_; refine (show K (Act.put _ none _) _ from ?_); obtain ⟨D3, g3⟩ := owns_lay #[.string u.z.d.nm, .int .i64 u.z.b, .int .i64 px, .int .i64 py, .int .i64 hh].toList (k * 5) _ _ D2)
      refine hK.out _ _ ?_ (fun hG => ?_)
      · exact ⟨g3.cell hH.1 (fun e9 => by have e9 := Option.some.inj e9; (have e8 : wr.heap.size = w.heap.size + 1 := e9); omega), g3.cell hH.2.1 (fun e9 => by have e9 := Option.some.inj e9; (have e8 : wr.heap.size = w.heap.size + 1 := e9); omega), g3.cell hH.2.2.1 (fun e9 => by have e9 := Option.some.inj e9; (have e8 : wr.heap.size = w.heap.size + 1 := e9); omega), g3.cell hH.2.2.2.1 (fun e9 => by have e9 := Option.some.inj e9; (have e8 : wr.heap.size = w.heap.size + 1 := e9); omega), g3.cell hH.2.2.2.2.1 (fun e9 => by have e9 := Option.some.inj e9; (have e8 : wr.heap.size = w.heap.size + 1 := e9); omega), g3.cell hH.2.2.2.2.2.1 (fun e9 => by have e9 := Option.some.inj e9; (have e8 : wr.heap.size = w.heap.size + 1 := e9); omega), g3.cell hH.2.2.2.2.2.2.1 (fun e9 => by have e9 := Option.some.inj e9; (have e8 : wr.heap.size = w.heap.size + 1 := e9); omega), g3.cell hH.2.2.2.2.2.2.2.1 (fun e9 => by have e9 := Option.some.inj e9; (have e8 : wr.heap.size = w.heap.size + 1 := e9); omega), g3.cell hH.2.2.2.2.2.2.2.2.1 (fun e9 => by have e9 := Option.some.inj e9; (have e8 : wr.heap.size = w.heap.size + 1 := e9); omega), hH.2.2.2.2.2.2.2.2.2.1.other g3 (fun k9 e9 => by have e9 := Option.some.inj e9; exact ⟨by have := hH.2.2.2.2.2.2.2.2.2.1.bs; omega, fun e he => by have := (hH.2.2.2.2.2.2.2.2.2.1.glt he).1; omega⟩), hH.2.2.2.2.2.2.2.2.2.2.grown g3 (hH.2.2.2.2.2.2.2.2.2.2.size) (fun q9 e9 => by have e9 := Option.some.inj e9; omega)⟩
      replace hH := hG
      clear hK K hG
      try simp only [Act.put, List.setIfInBounds_toArray, List.set_cons_zero, List.set_cons_succ]
      refine wpAnyH_done (by kernel_rfl) ?_ _
      refine NoPanic.normal ?_
      rw [lay_mixed HZL.out _ _ (fun j v hj => by have Z9 := ZG.out; match j, hj with | 0, hj => (simp at hj; subst hj; exact Z9.1) | 1, hj => (simp at hj; subst hj; exact Z9.2.1) | 2, hj => (simp at hj; subst hj; exact Z9.2.2.1) | 3, hj => (simp at hj; subst hj; exact Z9.2.2.2.1) | 4, hj => (simp at hj; subst hj; exact Z9.2.2.2.2))] at D3
      have RX := Lib.hid D3
      have AX := Lib.hid hH.2.2.2.2.2.2.2.2.2.1
      have BX := Lib.hid hH.2.2.2.2.2.2.2.2.2.2
      clear hH D1 D2 D3 hb1 hb2 g3 R1 A1 B1 KU CP CH ZG
      go_wp2_with fail
      go_roundw
      case rel => exact ⟨k + 1, by omega, by go_num, by rw [show (k + 1) * 5 = k * 5 + 5 by omega]; exact RX, AX, BX⟩
      case measure => simp [intOf]; omega
    · obtain rfl : n = k := by omega
      have RX := Lib.hid (show wr.ownsRow w.heap.size 44 5 (.slice (some ⟨w.heap.size + 1, 0, none⟩) n n) n (pls zs) by
        have := RK.out
        rw [show n * 5 = (pls zs).length by rw [pls_len, HZN.out], mixed_all HZL.out] at this
        exact this)
      clear RK
      go_wp2_with fail
      go_ret
      exact ⟨w.heap.size + 1, n, by rw [HZN.out]; rfl, by rw [HZN.out]; exact RX.out, BK.out⟩

theorem toldDrops (A0 : Option Addr) (n0 c0 : Nat) (A1 : Option Addr) (n1 c1 : Nat) (A2 : Option Addr) (n2 c2 : Nat) (T : Int) (gs : List G) (g n c : Nat) (ts : List T9) (t : Int) (w : World) (hn : ts.length = n) (hnb : n ≤ 512) (hT : 0 < n → wd gs = true ∧ 0 ≤ t ∧ t ≤ 128) (hok : ∀ u ∈ ts, TOk u) (hap : Apart (ts.map T9.z)) (hr : Rd w w.heap.size (some ⟨g, 0, none⟩) (tls ts)) (hn2 : gs.length = n2) (hb2 : n2 ≤ 1048576) (hr2 : Rd w w.heap.size A2 (gls gs)) :
    Calls Tryz.prog 45 #[sv A0 n0 c0 A1 n1 c1 A2 n2 c2 T, .slice (some ⟨g, 0, none⟩) n c, .int .i64 t] w (RowP w (ts.map (fun u => tell gs t.toNat u.z))) := by
  by_cases h0 : 0 < n
  · obtain ⟨hw, h1, h2⟩ := hT h0
    obtain ⟨q, rfl⟩ : ∃ q : Nat, t = (q : Int) := ⟨t.toNat, by omega⟩
    exact toldSome A0 n0 c0 A1 n1 c1 A2 n2 c2 T gs g n c ts q w h0 hn hnb (by omega) hok hap hr hw hn2 hb2 hr2
  · obtain rfl : n = 0 := by omega
    rw [List.length_eq_zero_iff.1 hn]
    exact toldNone A0 n0 c0 A1 n1 c1 A2 n2 c2 T g c t w
end Go.Proofs.YtokncfhpmjohdabGreat.Td9
namespace Go.Proofs.YtokncfhpmjohdabGreat.Lp9
open Go.RowKit Go.ChangeShapes Go.WideShapes Go.WideElems Go.Deep Go.Proofs.YtokncfhpmjohdabGreat.Mem Go.Proofs.YtokncfhpmjohdabGreat.Rw Go.Proofs.YtokncfhpmjohdabGreat.P2 Go.Proofs.YtokncfhpmjohdabGreat.Bk Go.Proofs.YtokncfhpmjohdabGreat.Sp Go.Proofs.YtokncfhpmjohdabGreat.Sq Go.Proofs.YtokncfhpmjohdabGreat.Jt Go.Proofs.YtokncfhpmjohdabGreat.Cm Go.Proofs.YtokncfhpmjohdabGreat.Cx Go.Proofs.YtokncfhpmjohdabGreat.Pl
open Go.Proofs.YtokncfhpmjohdabGreat.Sv hiding D C G
open Go.Proofs.YtokncfhpmjohdabGreat.Am9 Go.Proofs.YtokncfhpmjohdabGreat.Fo9 Go.Proofs.YtokncfhpmjohdabGreat.Tw9 Go.Proofs.YtokncfhpmjohdabGreat.Ar9 Go.Proofs.YtokncfhpmjohdabGreat.Pd9
open Go.Proofs.YtokncfhpmjohdabGreat.Wm (wd dr drs plus dr_bound drs_get drs_len)
open Go.Proofs.YtokncfhpmjohdabGreat.Gs (gls)
open Go.Proofs.YtokncfhpmjohdabGreat.Wc (infoC made_c zs2 zv zs2_len zs2_get)
open Go.Proofs.YtokncfhpmjohdabGreat.Pl9 (RowP pls pls_len pls_get infoP d0 pls_made)
open Go.Proofs.YtokncfhpmjohdabGreat.Dp (ha heightI)
open Go.Proofs.YtokncfhpmjohdabGreat.Pl9 (mixed mixed_zero mixed_all mixed_put)
open Go.Proofs.YtokncfhpmjohdabGreat.Ly (layL owns_lay)
set_option linter.unusedVariables false
set_option linter.unusedSimpArgs false


/-- All drops as they have landed. -/
noncomputable def ldV (ds : List D) (cs : List C) (gs : List G) (T : Int) : List Pd9.P := (all9 ds cs gs T).map (tell gs 128)
theorem tok_of {ds : List D} {cs : List C} {gs : List G} {T : Int} {ts : List T9} {zs : List B} (hz : ts.map T9.z = zs) (hs : ∀ z ∈ zs, z ∈ all9 ds cs gs T) (hw : ∀ u ∈ ts, WOk u) : ∀ u ∈ ts, TOk u := fun u hu => by
  have h := all9_ok u.z (hs u.z (by rw [← hz]; exact List.mem_map_of_mem hu))
  exact ⟨hw u hu, h.1.1, h.2⟩
theorem wd_of {ds : List D} {cs : List C} {gs : List G} {T : Int} {z : B} (h : z ∈ all9 ds cs gs T) : wd gs = true := by
  cases c : show9 ds cs gs T
  · rw [all9_no c] at h; cases h
  · exact (show_iff.1 c).2.2.1

set_option maxRecDepth 100000 in
set_option maxHeartbeats 4000000 in
theorem landingsI (A0 : Option Addr) (n0 c0 : Nat) (A1 : Option Addr) (n1 c1 : Nat) (A2 : Option Addr) (n2 c2 : Nat) (T : Int) (ds : List D) (cs : List C) (gs : List G) (w : World) (hf : Fit n0 n1 n2 ds cs gs) (hr : SR w A0 A1 A2 ds cs gs) :
    Calls Tryz.prog 18 #[sv A0 n0 c0 A1 n1 c1 A2 n2 c2 T] w (RowP w (ldV ds cs gs T)) := by
  obtain ⟨zs, hzs⟩ : ∃ zs, all9 ds cs gs T = zs := ⟨_, rfl⟩
  obtain ⟨m, hm⟩ : ∃ m, zs.length = m := ⟨_, rfl⟩
  have hmb : m ≤ 512 := by have := all9_len ds cs gs T; rw [hzs, hm] at this; exact this
  have HA := Lib.hid (show Apart zs by rw [← hzs]; exact all9_apart ds cs gs T)
  have HM := Lib.hid (show ∀ z ∈ zs, z ∈ all9 ds cs gs T from fun z hz => by rw [hzs]; exact hz)
  have HW := Lib.hid (show ∀ z ∈ zs, wd gs = true from fun z hz => wd_of (HM.out z hz))
  have CT := Lib.hid (fun (W : World) (h : SR W A0 A1 A2 ds cs gs) => (by have := Ti9.thrownIn A0 n0 c0 A1 n1 c1 A2 n2 c2 T ds cs gs W hf h; unfold RowT at this; rw [hzs, hm] at this; exact this :
    Calls Tryz.prog 37 #[sv A0 n0 c0 A1 n1 c1 A2 n2 c2 T] W (fun e w' => ∃ g c, e = .returned (.slice (some ⟨g, 0, none⟩) m c) ∧ Thr w' W.heap.size (.slice (some ⟨g, 0, none⟩) m c) m zs ∧ Below W.heap.size W w')))
  have hld : ldV ds cs gs T = zs.map (tell gs 128) := by unfold ldV; rw [hzs]
  rw [hld]
  have HF := Lib.hid hf
  have HS := Lib.hid hr
  have HL := Lib.hid hm
  have B0 := Lib.hid ((Below.refl w.heap.size w).alloc (Nat.le_refl _) (.cells (sc A0 n0 c0 A1 n1 c1 A2 n2 c2 T) 28))
  have hu : undef = Value.tuple #[] := rfl
  have KS := Bk.new w (sc A0 n0 c0 A1 n1 c1 A2 n2 c2 T) 28
  have s0 := KS.cell (i := 0) rfl
  have s1 := KS.cell (i := 1) rfl
  have s2 := KS.cell (i := 2) rfl
  have s3 := KS.cell (i := 3) rfl
  clear hf hr hzs hm hld KS
  go_enter Tryz.func18, Tryz.ntmps18
  go_wp2_with fail
  refine wp_region_noPanic ?_
  refine wp_region_held_drew (S := (fun w' => w'.cell? ⟨w.heap.size, 0, none⟩ = some (.slice A0 n0 c0) ∧ w'.cell? ⟨w.heap.size, 1, none⟩ = some (.slice A1 n1 c1) ∧ w'.cell? ⟨w.heap.size, 2, none⟩ = some (.slice A2 n2 c2) ∧ w'.cell? ⟨w.heap.size, 3, none⟩ = some (.int .i64 T) ∧ Below w.heap.size w w')) (by kernel_rfl) ?_ (fun hH => ?_)
  · exact ⟨s0, s1, s2, s3, B0.out.drew⟩
  refine wpAnyH_take (i := 0) (oi := { dst := some 3, op := _, type := _, pos := _, after := _, guard := _ }) (v := ?_) rfl (by kernel_rfl) (by kernel_rfl) (by kernel_rfl) (fun _ _ _ h => h) (Or.inl ⟨by rfl, ?_⟩) hH ?_
  rotate_left 1
  · intro W hSw
    (try dsimp only at hSw)
    go_simp
    (try with_reducible rfl)
  try simp only [Act.put, List.setIfInBounds_toArray, List.set_cons_zero, List.set_cons_succ]
  refine wpAnyH_take (i := 1) (oi := { dst := some 4, op := _, type := _, pos := _, after := _, guard := _ }) (v := ?_) rfl (by kernel_rfl) (by kernel_rfl) (by kernel_rfl) (fun _ _ _ h => h) (Or.inl ⟨by rfl, ?_⟩) hH ?_
  rotate_left 1
  · intro W hSw
    (try dsimp only at hSw)
    go_simp
    (try with_reducible rfl)
  try simp only [Act.put, List.setIfInBounds_toArray, List.set_cons_zero, List.set_cons_succ]
  refine wpAnyH_ready (rs := [2]) (by kernel_rfl) (by simp) (AllReadyH.cons rfl (fun K hK => ?_) AllReadyH.nil)
  go_simp
  go_at_call 37; ((with_reducible refine (CT.out _ (HS.out.below hH.2.2.2.2)).mono ?_); rintro e9 r1 ⟨gT, cT, rfl, ⟨ts, ht1, ht2, ht3, oT⟩, hb1⟩); have hX9 : w.heap.size ≤ r1.heap.size := Nat.le_trans hH.2.2.2.2.size hb1.size; go_wp2_with fail
  refine hK.out _ _ ?_ (fun hG => ?_)
  · exact ⟨cell_below hb1 hH.1, cell_below hb1 hH.2.1, cell_below hb1 hH.2.2.1, cell_below hb1 hH.2.2.2.1, hH.2.2.2.2.trans (hb1.mono hH.2.2.2.2.size)⟩
  replace hH := hG
  clear hK K hG
  try simp only [Act.put, List.setIfInBounds_toArray, List.set_cons_zero, List.set_cons_succ]
  refine wpAnyH_ready (rs := [3]) (by kernel_rfl) (by simp) (AllReadyH.cons rfl (fun K hK => ?_) AllReadyH.nil)
  go_simp
  have CX := Td9.toldDrops A0 n0 c0 A1 n1 c1 A2 n2 c2 T gs gT m cT ts 128 r1 ht3 hmb (fun h0 => by (obtain ⟨u, hu9⟩ : ∃ u, u ∈ ts := List.exists_mem_of_length_pos (by omega)); exact ⟨HW.out u.z (by rw [← ht1]; exact List.mem_map_of_mem hu9), by omega, by omega⟩) (tok_of ht1 HM.out ht2) (by rw [ht1]; exact HA.out) (Rd.own oT) HF.out.2.2.1 HF.out.2.2.2 ((HS.out.below hH.2.2.2.2).r2); rw [show ts.map (fun u => tell gs (128 : Int).toNat u.z) = zs.map (tell gs 128) by rw [← ht1, List.map_map]; rfl] at CX; go_at_call 45; ((with_reducible refine CX.mono ?_); rintro e9 r2 ⟨gX, cX, rfl, oX, hb2⟩); go_wp2_with fail
  refine hK.out _ _ ?_ (fun hG => ?_)
  · exact ⟨cell_below hb2 hH.1, cell_below hb2 hH.2.1, cell_below hb2 hH.2.2.1, cell_below hb2 hH.2.2.2.1, hH.2.2.2.2.trans (hb2.mono hH.2.2.2.2.size)⟩
  replace hH := hG
  clear hK K hG
  try simp only [Act.put, List.setIfInBounds_toArray, List.set_cons_zero, List.set_cons_succ]
  refine wpAnyH_take (i := 4) (oi := { dst := some 2, op := _, type := _, pos := _, after := _, guard := _ }) (v := ?_) rfl (by kernel_rfl) (by kernel_rfl) (by kernel_rfl) (fun _ _ _ h => h) (Or.inl ⟨by rfl, ?_⟩) hH ?_
  rotate_left 1
  · intro W hSw
    (try dsimp only at hSw)
    go_simp
    (try with_reducible rfl)
  try simp only [Act.put, List.setIfInBounds_toArray, List.set_cons_zero, List.set_cons_succ]
  refine wpAnyH_done (by kernel_rfl) ?_ _
  refine NoPanic.normal ?_
  have OX := Lib.hid (owns_base oX (Nat.le_trans hX9 (oX.lt gX rfl).1))
  have BX := Lib.hid hH.2.2.2.2
  clear hH hb1 hb2 oX oT hX9
  go_wp2_with fail
  go_ret
  exact ⟨gX, cX, by rw [List.length_map]; rfl, OX.out, BX.out⟩
end Go.Proofs.YtokncfhpmjohdabGreat.Lp9
namespace Go.Proofs.YtokncfhpmjohdabGreat.Df9
open Go.RowKit Go.ChangeShapes Go.WideShapes Go.WideElems Go.Deep Go.Proofs.YtokncfhpmjohdabGreat.Mem Go.Proofs.YtokncfhpmjohdabGreat.Rw Go.Proofs.YtokncfhpmjohdabGreat.P2 Go.Proofs.YtokncfhpmjohdabGreat.Bk
open Go.Proofs.YtokncfhpmjohdabGreat.Ly (layL layL_get owns_lay owns_fewer owns_cap)
open Go.Proofs.YtokncfhpmjohdabGreat.Tw9 (T9 tc tls tls_len tc_len)
set_option linter.unusedVariables false
set_option linter.unusedSimpArgs false

abbrev va (u : T9) : Value := .agg #[.string u.z.d.nm, .int .i64 u.z.b, .int .i64 (u.z.b + (u.z.l + 1)), .int .i64 u.z.d.x, .int .i64 u.z.d.y, .int .i64 u.z.d.hd, .int .i64 u.z.d.tl, .int .i64 u.z.l, .complex .f32 u.re u.im]
abbrev ca (u : T9) : Array Value := #[.string u.z.d.nm, .int .i64 u.z.b, .int .i64 (u.z.b + (u.z.l + 1)), .int .i64 u.z.d.x, .int .i64 u.z.d.y, .int .i64 u.z.d.hd, .int .i64 u.z.d.tl, .int .i64 u.z.l, .complex .f32 u.re u.im]
theorem cO {w : World} {base g n c k : Nat} {us : List T9} {u : T9} (o : w.ownsRow base 73 9 (.slice (some ⟨g, 0, none⟩) n c) n (tls us)) (h : us[k]? = some u) (hk : k < n) :
    w.cell? ⟨g, k * 9, none⟩ = some (.string u.z.d.nm) ∧ w.cell? ⟨g, k * 9 + 1, none⟩ = some (.int .i64 u.z.b) ∧ w.cell? ⟨g, k * 9 + 2, none⟩ = some (.int .i64 (u.z.b + (u.z.l + 1))) ∧ w.cell? ⟨g, k * 9 + 3, none⟩ = some (.int .i64 u.z.d.x) ∧ w.cell? ⟨g, k * 9 + 4, none⟩ = some (.int .i64 u.z.d.y) ∧ w.cell? ⟨g, k * 9 + 5, none⟩ = some (.int .i64 u.z.d.hd) ∧ w.cell? ⟨g, k * 9 + 6, none⟩ = some (.int .i64 u.z.d.tl) ∧ w.cell? ⟨g, k * 9 + 7, none⟩ = some (.int .i64 u.z.l) ∧ w.cell? ⟨g, k * 9 + 8, none⟩ = some (.complex .f32 u.re u.im) :=
  ⟨(o.cellAt (k * 9) (by omega)).trans ((flat_get tc_len h 0 (by omega)).trans rfl), (o.cellAt (k * 9 + 1) (by omega)).trans ((flat_get tc_len h 1 (by omega)).trans rfl), (o.cellAt (k * 9 + 2) (by omega)).trans ((flat_get tc_len h 2 (by omega)).trans rfl), (o.cellAt (k * 9 + 3) (by omega)).trans ((flat_get tc_len h 3 (by omega)).trans rfl), (o.cellAt (k * 9 + 4) (by omega)).trans ((flat_get tc_len h 4 (by omega)).trans rfl), (o.cellAt (k * 9 + 5) (by omega)).trans ((flat_get tc_len h 5 (by omega)).trans rfl), (o.cellAt (k * 9 + 6) (by omega)).trans ((flat_get tc_len h 6 (by omega)).trans rfl), (o.cellAt (k * 9 + 7) (by omega)).trans ((flat_get tc_len h 7 (by omega)).trans rfl), (o.cellAt (k * 9 + 8) (by omega)).trans ((flat_get tc_len h 8 (by omega)).trans rfl)⟩
theorem ls_app (xs ys : List T9) : tls (xs ++ ys) = tls xs ++ tls ys := by unfold tls; rw [List.flatMap_append]
theorem ls_part {zs : List T9} {k : Nat} (h : k ≤ zs.length) : tls (zs.take k) = (tls zs).take (k * 9) ∧ tls (zs.drop k) = (tls zs).drop (k * 9) := by
  have e : tls zs = tls (zs.take k) ++ tls (zs.drop k) := by rw [← ls_app, List.take_append_drop]
  have l : (tls (zs.take k)).length = k * 9 := by rw [tls_len, List.length_take]; omega
  rw [e, ← l]
  exact ⟨(List.take_left).symm, (List.drop_left).symm⟩
theorem lay_set {zs : List T9} {k : Nat} {u : T9} (h : k < zs.length) : layL (tls zs) (k * 9) (tc u) = tls (zs.set k u) := by
  have l0 := tls_len zs
  have l2 : (tls (zs.take k)).length = k * 9 := by rw [tls_len, List.length_take]; omega
  have lu : (tc u).length = 9 := rfl
  rw [List.set_eq_take_append_cons_drop, if_pos h, ls_app]
  show _ = tls (zs.take k) ++ (tc u ++ tls (zs.drop (k + 1)))
  apply List.ext_getElem?
  intro t
  rw [layL_get _ _ _ (by rw [lu, l0]; omega)]
  by_cases c1 : t < k * 9
  · rw [if_pos c1, List.getElem?_append_left (by omega), (ls_part (by omega)).1, List.getElem?_take, if_pos c1]
  · rw [if_neg c1, List.getElem?_append_right (by omega), l2]
    by_cases c2 : t < k * 9 + 9
    · rw [if_pos (by rw [lu]; exact c2), List.getElem?_append_left (by rw [lu]; omega)]
    · rw [if_neg (by rw [lu]; exact c2), List.getElem?_append_right (by rw [lu]; omega), lu, (ls_part (by omega)).2, List.getElem?_drop]
      congr 1; omega
theorem take_set {α : Type} {zs : List α} {i : Nat} {v : α} (h : i < zs.length) : (zs.set i v).take (i + 1) = zs.take i ++ [v] := by
  rw [List.take_succ_eq_append_getElem (by rw [List.length_set]; exact h), List.getElem_set_self, List.take_set, List.set_eq_of_length_le (by rw [List.length_take]; omega)]
theorem drop_next {α : Type} {zs ts : List α} {j : Nat} (h : zs.drop j = ts.drop j) : zs.drop (j + 1) = ts.drop (j + 1) := by
  rw [← List.drop_drop, ← List.drop_drop, h]
theorem keep_yes {α : Type} {zs ts : List α} {i j : Nat} {v : α} {p : α → Bool} (hi : i < zs.length) (h1 : zs.take i = (ts.take j).filter p) (h2 : zs.drop j = ts.drop j) (hij : i < j) (hv : ts[j]? = some v) (hp : p v = true) :
    (zs.set i v).take (i + 1) = (ts.take (j + 1)).filter p ∧ (zs.set i v).drop (j + 1) = ts.drop (j + 1) := by
  obtain ⟨hj, rfl⟩ := List.getElem?_eq_some_iff.1 hv
  refine ⟨?_, ?_⟩
  · rw [take_set hi, h1, List.take_succ_eq_append_getElem hj, List.filter_append]
    simp [hp]
  · rw [List.drop_set_of_lt (by omega)]; exact drop_next h2
theorem keep_no {α : Type} {zs ts : List α} {i j : Nat} {v : α} {p : α → Bool} (h1 : zs.take i = (ts.take j).filter p) (h2 : zs.drop j = ts.drop j) (hv : ts[j]? = some v) (hp : p v = false) :
    zs.take i = (ts.take (j + 1)).filter p ∧ zs.drop (j + 1) = ts.drop (j + 1) := by
  obtain ⟨hj, rfl⟩ := List.getElem?_eq_some_iff.1 hv
  refine ⟨?_, drop_next h2⟩
  rw [h1, List.take_succ_eq_append_getElem hj, List.filter_append]
  simp [hp]
theorem at_of {α : Type} {zs ts : List α} {j : Nat} {v : α} (h : zs.drop j = ts.drop j) (hv : ts[j]? = some v) : zs[j]? = some v := by
  have h1 := congrArg (fun l => l[0]?) h
  simp only [List.getElem?_drop, Nat.add_zero] at h1
  rw [h1]; exact hv
theorem first_none {α : Type} {ts : List α} {p : α → Bool} (h : ∀ v ∈ ts, p v = false) : ts.filter (fun v => !p v) = ts := List.filter_eq_self.2 fun v hv => by rw [h v hv]; rfl
theorem first_some {α : Type} {ts : List α} {p : α → Bool} {k : Nat} {u : α} (hu : ts[k]? = some u) (hp : p u = true) (h : ∀ j v, j < k → ts[j]? = some v → p v = false) : ts.take k = (ts.take (k + 1)).filter (fun v => !p v) := by
  obtain ⟨hk, rfl⟩ := List.getElem?_eq_some_iff.1 hu
  rw [List.take_succ_eq_append_getElem hk, List.filter_append]
  rw [first_none (ts := ts.take k) (fun v hv => by
    obtain ⟨j, hj, rfl⟩ := List.getElem_of_mem hv
    rw [List.length_take] at hj
    exact h j _ (by omega) (by rw [List.getElem_take]; exact List.getElem?_eq_getElem (by omega)))]
  simp [hp]
theorem there_row {w : World} {base g n c : Nat} {xs : List Value} (o : w.ownsRow base 73 9 (.slice (some ⟨g, 0, none⟩) n c) n xs) {k : Nat} (hk : k < n) : w.there g (k * 9) 9 := by
  intro j hj
  refine ⟨?_, o.frozenAt _⟩
  have hl := o.1
  rw [o.cellAt _ (by omega), List.getElem?_eq_getElem (by rw [hl]; omega)]; rfl
theorem store_here {ops : Array Oper} {rest : List Oper} {a : Act} {w : World} {Q : Exit → Act → World → Prop} {x y : Operand} {t : TypeId} {pos : String} {aft : Array Edge} (g i : Nat) (cells : Array Value) (hx : a.eval x = .pointer (some ⟨g, i, none⟩)) (hy : a.eval y = .agg cells)
    (ht : w.there g i cells.size) (hi : (Tryz.prog.info? 73).map (·.size) = some cells.size) (h1 : cells.all (·.oneCell') = true) (h : wpList Tryz.prog ops Q rest (a.put none undef) (w.setCells g i cells.toList)) :
    wpList Tryz.prog ops Q ({ dst := none, op := .store 73 x y, type := t, pos := pos, after := aft, guard := none } :: rest) a w :=
  wpList_store_mid rfl 73 x y rfl g i cells hx hy ht hi h1 h

set_option maxRecDepth 100000 in
set_option maxHeartbeats 4000000 in
theorem index (p : T9 → Bool) (pb base g n c : Nat) (ts : List T9) (w : World) (hn : ts.length = n) (hb : n ≤ 1048576) (hB : base ≤ w.heap.size) (ho : w.ownsRow base 73 9 (.slice (some ⟨g, 0, none⟩) n c) n (tls ts))
    (hcl : ∀ (W : World) (u : T9), Below base w W → u ∈ ts → Calls Tryz.prog 43 #[va u, .pointer (some ⟨pb, 0, none⟩)] W fun e w' => e = .returned (.bool (p u)) ∧ Below W.heap.size W w') :
    Calls Tryz.prog 81 #[.slice (some ⟨g, 0, none⟩) n c, .func (.func 43) #[] #[.pointer (some ⟨pb, 0, none⟩)]] w fun e w' => ∃ r : Int, e = .returned (.int .i64 r) ∧ ((r = -1 ∧ ∀ u ∈ ts, p u = false) ∨ ∃ (k : Nat) (u : T9), r = (k : Int) ∧ ts[k]? = some u ∧ p u = true ∧ ∀ j v, j < k → ts[j]? = some v → p v = false) ∧ Below w.heap.size w w' := by
  have HN := Lib.hid hn
  have HO := Lib.hid ho
  have HC := Lib.hid hcl
  have L0 := Lib.hid (show ∀ j v, j < 0 → ts[j]? = some v → p v = false from fun j v h => by omega)
  clear hn ho hcl
  go_enter Tryz.func81, Tryz.ntmps81
  go_wp2_with fail
  go_loopw [8] (fun i wr => ∃ k : Nat, k ≤ n ∧ i = .int .i64 k ∧ Hid (∀ j v, j < k → ts[j]? = some v → p v = false) ∧ Hid (Below w.heap.size w wr)) (fun i _ => n - (intOf i).toNat)
  case atStart => exact ⟨0, Nat.zero_le _, rfl, L0, Lib.hid (Below.refl _ _)⟩
  case round =>
    obtain ⟨k, hk, rfl, LK, BK⟩ := hrel
    clear L0
    by_cases hlt : k < n
    · obtain ⟨u, hu⟩ : ∃ u, ts[k]? = some u := ⟨_, List.getElem?_eq_getElem (by rw [HN.out]; exact hlt)⟩
      obtain ⟨x0, x1, x2, x3, x4, x5, x6, x7, x8⟩ := cO (owns_below HO.out BK.out) hu hlt
      have HU := Lib.hid hu
      obtain ⟨b, hb9⟩ : ∃ b, p u = b := ⟨_, rfl⟩
      have CC := Lib.hid (HC.out wr u (BK.out.mono hB) (List.mem_of_getElem? hu))
      rw [hb9] at CC
      have HP := Lib.hid hb9
      clear hu hb9
      go_wp2_with fail
      refine CC.out.mono ?_
      rintro e w1 ⟨rfl, hb1⟩
      have B1 := Lib.hid (BK.out.trans (hb1.mono BK.out.size))
      clear hb1 CC BK x0 x1 x2 x3 x4 x5 x6 x7 x8
      cases b
      · have LN := Lib.hid (show ∀ j v, j < k + 1 → ts[j]? = some v → p v = false from fun j v hj hv => by
          by_cases e : j = k
          · subst e; rw [HU.out] at hv; cases hv; exact HP.out
          · exact LK.out j v (by omega) hv)
        clear LK HU HP
        go_wp2_with fail
        go_roundw
        case rel => exact ⟨k + 1, by omega, by go_num, LN, B1⟩
        case measure => simp [intOf]; omega
      · go_wp2_with fail
        go_ret
        exact ⟨_, rfl, Or.inr ⟨k, u, rfl, HU.out, HP.out, LK.out⟩, B1.out⟩
    · obtain rfl : n = k := by omega
      go_wp2_with fail
      go_ret
      refine ⟨_, rfl, Or.inl ⟨rfl, fun u hu => ?_⟩, BK.out⟩
      obtain ⟨j, hj, rfl⟩ := List.getElem_of_mem hu
      exact LK.out j _ (by rw [← HN.out]; exact hj) (List.getElem?_eq_getElem hj)

set_option maxRecDepth 100000 in
set_option maxHeartbeats 4000000 in
theorem delete (p : T9 → Bool) (pb base g n c : Nat) (ts : List T9) (w : World) (hn : ts.length = n) (hb : n ≤ 1048576) (hB : base ≤ w.heap.size) (ho : w.ownsRow base 73 9 (.slice (some ⟨g, 0, none⟩) n c) n (tls ts))
    (hcl : ∀ (W : World) (u : T9), Below base w W → u ∈ ts → Calls Tryz.prog 43 #[va u, .pointer (some ⟨pb, 0, none⟩)] W fun e w' => e = .returned (.bool (p u)) ∧ Below W.heap.size W w') :
    Calls Tryz.prog 42 #[.slice (some ⟨g, 0, none⟩) n c, .func (.func 43) #[] #[.pointer (some ⟨pb, 0, none⟩)]] w fun e w' => ∃ q c' : Nat, e = .returned (.slice (some ⟨g, 0, none⟩) q c') ∧ (ts.filter (fun v => !p v)).length = q ∧ w'.ownsRow base 73 9 (.slice (some ⟨g, 0, none⟩) q c') q (tls (ts.filter (fun v => !p v))) ∧ Below base w w' := by
  obtain ⟨hc1, hc2⟩ := owns_cap ho
  unfold maxLen at hc2
  have hgb : base ≤ g := (ho.lt g rfl).1
  have HN := Lib.hid hn
  have HO := Lib.hid ho
  have HC := Lib.hid hcl
  have CI := Lib.hid (index p pb base g n c ts w hn hb hB ho hcl)
  clear hn ho hcl
  go_enter Tryz.func42, Tryz.ntmps42
  go_wp2_with fail
  refine CI.out.mono ?_
  rintro e w1 ⟨r, rfl, hr, hb1⟩
  have B1 := Lib.hid (hb1.mono hB)
  have O1 := Lib.hid (owns_below HO.out hb1)
  have hs1 : base ≤ w1.heap.size := Nat.le_trans hB hb1.size
  clear hb1 CI HO
  rcases hr with ⟨rfl, hall⟩ | ⟨k0, u0, rfl, hu0, hp0, hbef⟩
  · have HE := Lib.hid (first_none hall)
    clear hall
    go_wp2_with fail
    go_ret
    exact ⟨n, c, rfl, by rw [HE.out]; exact HN.out, by rw [HE.out]; exact O1.out, B1.out⟩
  have hk0 : k0 < n := by have := (List.getElem?_eq_some_iff.1 hu0).1; have := HN.out; omega
  have T1 := Lib.hid (first_some hu0 hp0 hbef)
  have hm1 : ¬ ((k0 : Int) = -1) := by omega
  clear hu0 hp0 hbef
  go_wp2_with fail
  go_loopw [5, 6] (fun iv jv wr => ∃ (i j : Nat) (ys : List T9), i < j ∧ j ≤ n ∧ iv = .int .i64 i ∧ jv = .int .i64 j ∧ Hid (ys.length = n ∧ ys.take i = (ts.take j).filter (fun v => !p v) ∧ ys.drop j = ts.drop j) ∧ Hid (wr.ownsRow base 73 9 (.slice (some ⟨g, 0, none⟩) n c) n (tls ys)) ∧ Hid (Below base w wr)) (fun _ jv _ => n - (intOf jv).toNat)
  case atStart => exact ⟨k0, k0 + 1, ts, by omega, by omega, rfl, by go_num, Lib.hid ⟨HN.out, T1.out, rfl⟩, O1, B1⟩
  case round =>
    obtain ⟨i, j, ys, hij, hj, rfl, rfl, HY, OK, BK⟩ := hrel
    clear T1 O1 B1 hk0 hm1
    by_cases hlt : j < n
    · obtain ⟨v, hv⟩ : ∃ v, ts[j]? = some v := ⟨_, List.getElem?_eq_getElem (by rw [HN.out]; exact hlt)⟩
      obtain ⟨x0, x1, x2, x3, x4, x5, x6, x7, x8⟩ := cO OK.out (at_of HY.out.2.2 hv) hlt
      have HV := Lib.hid hv
      obtain ⟨b, hb9⟩ : ∃ b, p v = b := ⟨_, rfl⟩
      have CC := Lib.hid (fun (W : World) (h : Below base w W) => HC.out W v h (List.mem_of_getElem? hv))
      rw [hb9] at CC
      have HP := Lib.hid hb9
      have hws : base ≤ wr.heap.size := Nat.le_trans hB BK.out.size
      have B2 := Lib.hid (BK.out.alloc hws (.cells (ca v) 73))
      have O2 := Lib.hid (OK.out.alloc (.cells (ca v) 73))
      have KU := Lib.hid (Bk.new wr (ca v) 73)
      have hgw : g < wr.heap.size := (OK.out.lt g rfl).2
      clear hv hb9 OK BK
      go_wp2_with fail
      refine (CC.out _ B2.out).mono ?_
      rintro e w2 ⟨rfl, hb2⟩
      have B3 := Lib.hid (B2.out.trans (hb2.mono (Nat.le_trans hB B2.out.size)))
      have O3 := Lib.hid (owns_below O2.out hb2)
      have KV := Lib.hid (KU.out.below hb2)
      clear hb2 B2 O2 KU CC hws x0 x1 x2 x3 x4 x5 x6 x7 x8
      cases b
      · have y0 := KV.out.cell (i := 0) rfl
        have y1 := KV.out.cell (i := 1) rfl
        have y2 := KV.out.cell (i := 2) rfl
        have y3 := KV.out.cell (i := 3) rfl
        have y4 := KV.out.cell (i := 4) rfl
        have y5 := KV.out.cell (i := 5) rfl
        have y6 := KV.out.cell (i := 6) rfl
        have y7 := KV.out.cell (i := 7) rfl
        have y8 := KV.out.cell (i := 8) rfl
        have TH := there_row O3.out (k := i) (by omega)
        have HI : (Tryz.prog.info? 73).map (·.size) = some 9 := by kernel_rfl
        have KN := Lib.hid (keep_yes (p := fun v => !p v) (by rw [HY.out.1]; omega) HY.out.2.1 HY.out.2.2 hij HV.out (by rw [HP.out]; rfl))
        have HL := HY.out.1
        obtain ⟨o4, g4⟩ := owns_lay (tc v) (i * 9) _ _ O3.out
        rw [lay_set (by omega)] at o4
        have O4 := Lib.hid o4
        have B4 := Lib.hid (B3.out.grown g4 (Nat.le_trans hB B3.out.size) (fun k hk => by have hk := Option.some.inj hk; omega))
        have KL := Lib.hid (show (ys.set i v).length = n by rw [List.length_set]; exact HY.out.1)
        have hii : (i : Int) < (n : Int) := by omega
        clear HL o4 g4 O3 B3 KV HP HV
        go_wp2_with (refine store_here g (i * 9) (ca v) ?_ ?_ ?_ ?_ ?_ ?_)
        · rfl
        · rfl
        · exact TH
        · exact HI
        · simp [ca, Value.oneCell']
        go_roundw
        case rel => first | exact ⟨i + 1, j + 1, ys.set i v, by omega, by omega, by go_num, by go_num, Lib.hid ⟨KL.out, KN.out.1, KN.out.2⟩, O4, B4⟩ | ((repeat apply Exists.intro); exact ⟨⟨i + 1, j + 1, ys.set i v, by omega, by omega, by go_num, by go_num, Lib.hid ⟨KL.out, KN.out.1, KN.out.2⟩, O4, B4⟩, rfl⟩)
        case measure => simp [intOf]; omega
      · have KN := Lib.hid (keep_no (p := fun v => !p v) HY.out.2.1 HY.out.2.2 HV.out (by rw [HP.out]; rfl))
        have KL := Lib.hid HY.out.1
        clear HY HP HV KV
        go_wp2_with fail
        go_roundw
        case rel => first | exact ⟨i, j + 1, ys, by omega, by omega, rfl, by go_num, Lib.hid ⟨KL.out, KN.out.1, KN.out.2⟩, O3, B3⟩ | ((repeat apply Exists.intro); exact ⟨⟨i, j + 1, ys, by omega, by omega, rfl, by go_num, Lib.hid ⟨KL.out, KN.out.1, KN.out.2⟩, O3, B3⟩, rfl⟩)
        case measure => simp [intOf]; omega
    · obtain rfl : n = j := by omega
      have HF := Lib.hid (show ys.take i = ts.filter (fun v => !p v) by have := HY.out.2.1; rw [List.take_of_length_le (l := ts) (by rw [HN.out]; exact Nat.le_refl _)] at this; exact this)
      have hyl := HY.out.1
      obtain ⟨zl, hzl⟩ : ∃ zl, (Builtin.zeroCells (#[.string ⟨#[]⟩, .int .i64 0, .int .i64 0, .int .i64 0, .int .i64 0, .int .i64 0, .int .i64 0, .int .i64 0, .complex .f32 0 0] : Array Value) (n - i)).toList = zl := ⟨_, rfl⟩
      have hzn : zl.length = (n - i) * 9 := by rw [← hzl]; simp [Builtin.zeroCells]
      have hz1 : ∀ u ∈ zl, u.oneCell' = true := by
        intro u hu
        rw [← hzl] at hu
        simp only [Builtin.zeroCells, Array.toList_map, List.mem_map] at hu
        obtain ⟨a, _, rfl⟩ := hu
        have ha : a % 9 < 9 := Nat.mod_lt _ (by omega)
        show ((#[.string ⟨#[]⟩, .int .i64 0, .int .i64 0, .int .i64 0, .int .i64 0, .int .i64 0, .int .i64 0, .int .i64 0, .complex .f32 0 0] : Array Value)[a % 9]!).oneCell' = true
        generalize a % 9 = q at ha
        match q, ha with
        | 0, _ => rfl
        | 1, _ => rfl
        | 2, _ => rfl
        | 3, _ => rfl
        | 4, _ => rfl
        | 5, _ => rfl
        | 6, _ => rfl
        | 7, _ => rfl
        | 8, _ => rfl
      have hcl : ∀ ty, (Builtin.clear_ #[69] ty #[.slice (some ⟨g, i * 9, none⟩) (n - i) (c - i)]).run Tryz.prog wr = .ok (.tuple #[]) (wr.setCells g (i * 9) zl) := by
        intro ty
        have hst := run_storeCells_cells (P := Tryz.prog) g (i * 9) zl 0 wr (fun k hk => by rw [hzn] at hk; rw [Nat.add_zero, OK.out.cellAt _ (by omega), List.getElem?_eq_getElem (by rw [tls_len]; omega)]; rfl) (fun k hk => OK.out.frozenAt _) hz1
        have hzv : ∀ w, (zeroValue 73).run Tryz.prog w = .ok (.agg (#[.string ⟨#[]⟩, .int .i64 0, .int .i64 0, .int .i64 0, .int .i64 0, .int .i64 0, .int .i64 0, .int .i64 0, .complex .f32 0 0] : Array Value)) w := by
          intro w
          have h30 : Tryz.t73.zero = some (.agg (#[.string ⟨#[]⟩, .int .i64 0, .int .i64 0, .int .i64 0, .int .i64 0, .int .i64 0, .int .i64 0, .int .i64 0, .complex .f32 0 0] : Array Value)) := by kernel_rfl
          simp [zeroValue, h30]
        obtain ⟨d, hd⟩ : ∃ d, n - i = d + 1 := ⟨n - i - 1, by omega⟩
        simp only [Nat.add_zero] at hst
        rw [hd] at hzl ⊢
        simp [Builtin.clear_, run_underlying Tryz.underlying69, hzv, Value.cells, hzl, hst]
      obtain ⟨o5, g5⟩ := owns_lay zl (i * 9) _ _ OK.out
      have o6 := owns_fewer o5 (m := i) (by omega)
      rw [show (layL (tls ys) (i * 9) zl).take (i * 9) = tls (ts.filter (fun v => !p v)) from by
        rw [← HF.out, (ls_part (by omega)).1]
        apply List.ext_getElem?
        intro t
        rw [List.getElem?_take, List.getElem?_take]
        by_cases c : t < i * 9
        · rw [if_pos c, if_pos c, layL_get _ _ _ (by rw [hzn, tls_len]; omega), if_pos c]
        · rw [if_neg c, if_neg c]] at o6
      have O6 := Lib.hid o6
      have B6 := Lib.hid (BK.out.grown g5 (Nat.le_trans hB BK.out.size) (fun k hk => by have hk := Option.some.inj hk; omega))
      have QL := Lib.hid (show (ts.filter (fun v => !p v)).length = i by rw [← HF.out, List.length_take]; omega)
      have hii : (i : Int) ≤ (n : Int) := by omega
      have hic : i ≤ c := by omega
      have hnc : (n : Int) ≤ c := by omega
      have hne : ¬ c = i := by omega
      have hii2 : i ≤ n := by omega
      clear o5 g5 o6 hzl hzn hz1 HY HF OK BK hyl
      go_wp2_with (at_builtin; rw [hcl])
      go_ret
      exact ⟨i, c, rfl, QL.out, O6.out, B6.out⟩
end Go.Proofs.YtokncfhpmjohdabGreat.Df9
