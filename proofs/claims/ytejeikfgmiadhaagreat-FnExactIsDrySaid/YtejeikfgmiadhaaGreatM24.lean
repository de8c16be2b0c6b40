/- The drops of the program, told. -/
import Derived.Test.YtejeikfgmiadhaaGreatFo9
import Derived.Test.YtejeikfgmiadhaaGreatLy
import Derived.Test.YtejeikfgmiadhaaGreatM20
import Derived.Test.YtejeikfgmiadhaaGreatPl9
import Derived.Test.YtejeikfgmiadhaaGreatM21
import Derived.Test.YtejeikfgmiadhaaGreatM5
import Derived.Test.YtejeikfgmiadhaaGreatTi9
import Derived.Maps.OwnOps
import Derived.Deep.RegionHeld3
import Derived.Deep.MidRow
import Derived.StillTailTactics
namespace Go.Proofs.YtejeikfgmiadhaaGreat.Td9
open Go.RowKit Go.ChangeShapes Go.WideShapes Go.WideElems Go.Deep Go.Proofs.YtejeikfgmiadhaaGreat.Mem Go.Proofs.YtejeikfgmiadhaaGreat.Rw Go.Proofs.YtejeikfgmiadhaaGreat.P2 Go.Proofs.YtejeikfgmiadhaaGreat.Bk Go.Proofs.YtejeikfgmiadhaaGreat.Sp Go.Proofs.YtejeikfgmiadhaaGreat.Sq Go.Proofs.YtejeikfgmiadhaaGreat.Jt Go.Proofs.YtejeikfgmiadhaaGreat.Cm Go.Proofs.YtejeikfgmiadhaaGreat.Cx Go.Proofs.YtejeikfgmiadhaaGreat.Pl
open Go.Proofs.YtejeikfgmiadhaaGreat.Sv hiding D C G
open Go.Proofs.YtejeikfgmiadhaaGreat.Am9 Go.Proofs.YtejeikfgmiadhaaGreat.Fo9 Go.Proofs.YtejeikfgmiadhaaGreat.Tw9 Go.Proofs.YtejeikfgmiadhaaGreat.Ar9 Go.Proofs.YtejeikfgmiadhaaGreat.Pd9
open Go.Proofs.YtejeikfgmiadhaaGreat.Wm (wd dr drs plus sum2 dr_bound drs_get drs_len)
open Go.Proofs.YtejeikfgmiadhaaGreat.Gs (gls)
open Go.Proofs.YtejeikfgmiadhaaGreat.Wc (infoC made_c zs2 zv zs2_len zs2_get)
open Go.Proofs.YtejeikfgmiadhaaGreat.Pl9 (RowP pls pls_len pls_get pls_snoc infoP d0 pls_made)
open Go.Proofs.YtejeikfgmiadhaaGreat.Dp (ha heightI)
open Go.Proofs.YtejeikfgmiadhaaGreat.Pl9 (mixed mixed_zero mixed_all mixed_at mixed_put)
open Go.Proofs.YtejeikfgmiadhaaGreat.Ly (layL layL_len owns_lay)
set_option linter.unusedVariables false
set_option linter.unusedSimpArgs false


theorem lay_mixed {X Y : List Value} (h : Y.length = X.length) : ∀ (r : List Value) (k : Nat), (∀ j v, r[j]? = some v → X[k + j]? = some v) → layL (mixed X Y k) k r = mixed X Y (k + r.length)
  | [], k, _ => by rw [layL]; rfl
  | v :: r, k, hr => by
    rw [layL, mixed_put h (by have := hr 0 v rfl; simpa using this), lay_mixed h r (k + 1) (fun j u hj => by rw [show k + 1 + j = k + (j + 1) by omega]; exact hr (j + 1) u hj)]
    rw [List.length_cons, show k + 1 + r.length = k + (r.length + 1) by omega]
theorem there_own {w : World} {base g n c : Nat} {xs : List Value} (o : w.ownsRow base 69 5 (.slice (some ⟨g, 0, none⟩) n c) n xs) {k : Nat} (hk : k < n) : w.there g (k * 5) 5 := by
  intro j hj
  refine ⟨?_, o.frozenAt _⟩
  have hl := o.1
  rw [o.cellAt _ (by omega), List.getElem?_eq_getElem (by rw [hl]; omega)]; rfl
theorem tellV (gs : List G) (t : Nat) (ts : List T9) {k : Nat} {u : T9} (hu : ts[k]? = some u) : (ts.map (fun u => tell gs t u.z))[k]? = some ⟨u.z.d.nm, u.z.b, (pAt gs u.z t).1, (pAt gs u.z t).2, ha u.z.d.x u.z.d.y u.z.d.hd u.z.d.tl u.z.l ((t : Int) - u.z.b)⟩ := by
  rw [List.getElem?_map, hu]; rfl

set_option maxRecDepth 100000 in
set_option maxHeartbeats 2000000 in
theorem toldNone (A0 : Option Addr) (n0 c0 : Nat) (A1 : Option Addr) (n1 c1 : Nat) (A2 : Option Addr) (n2 c2 : Nat) (T : Int) (g c : Nat) (t : Int) (w : World) :
    Calls Tryz.prog 38 #[sv A0 n0 c0 A1 n1 c1 A2 n2 c2 T, .slice (some ⟨g, 0, none⟩) 0 c, .int .i64 t] w (RowP w []) := by
  obtain ⟨i0, hi, hz0, hz1, hz2⟩ := info_of infoP
  have hz : (w.alloc (.cells (sc A0 n0 c0 A1 n1 c1 A2 n2 c2 T) 34)).heap.size = w.heap.size + 1 := by simp [go_sem]
  have B0 := Lib.hid ((Below.refl w.heap.size w).alloc (Nat.le_refl _) (.cells (sc A0 n0 c0 A1 n1 c1 A2 n2 c2 T) 34))
  go_enter Tryz.func38, Tryz.ntmps38
  go_wp2_with (at_make; refine wpList_make_full _ rfl _ _ 28 rfl w.heap.size 69 i0 (.agg #[.string ⟨#[]⟩, .int .i64 0, .int .i64 0, .int .i64 0, .int .i64 0]) 5 Tryz.underlying28 hi hz0 hz1 .i64 .i64 0 0 0 rfl rfl rfl rfl (by rw [hz2]; omega) (by unfold maxLen; omega) (by rw [hz]; omega) ?_; intro w1 hown hgrow; clear hi hz0 hz1 hz2)
  rw [hz] at hown
  have R0 := Lib.hid (show w1.ownsRow w.heap.size 69 5 (.slice (some ⟨w.heap.size + 1, 0, none⟩) 0 0) 0 (pls []) by
    have h9 := hown
    rw [show (madeCells (Value.agg #[.string ⟨#[]⟩, .int .i64 0, .int .i64 0, .int .i64 0, .int .i64 0]).cells (0 * 5)).toList = pls (List.replicate 0 d0) from pls_made 0] at h9
    exact h9)
  have B1 := Lib.hid (B0.out.grown hgrow (by rw [hz]; omega) (fun k hk => by cases hk))
  clear hown hgrow B0 hz
  go_wp2_with fail
  go_ret
  exact ⟨_, _, rfl, R0.out, B1.out⟩

set_option maxRecDepth 100000 in
set_option maxHeartbeats 4000000 in
theorem toldSome (A0 : Option Addr) (n0 c0 : Nat) (A1 : Option Addr) (n1 c1 : Nat) (A2 : Option Addr) (n2 c2 : Nat) (T : Int) (gs : List G) (g n c : Nat) (ts : List T9) (t : Nat) (w : World) (hn0 : 0 < n) (hn : ts.length = n) (hnb : n ≤ 512) (ht : t ≤ 128) (hok : ∀ u ∈ ts, TOk u) (hap : Apart (ts.map T9.z)) (hr : Rd w w.heap.size (some ⟨g, 0, none⟩) (tls ts)) (hw : wd gs = true) (hn2 : gs.length = n2) (hb2 : n2 ≤ 1048576) (hr2 : Rd w w.heap.size A2 (gls gs)) :
    Calls Tryz.prog 38 #[sv A0 n0 c0 A1 n1 c1 A2 n2 c2 T, .slice (some ⟨g, 0, none⟩) n c, .int .i64 (t : Int)] w (RowP w (ts.map (fun u => tell gs t u.z))) := by
  obtain ⟨i0, hi, hz0, hz1, hz2⟩ := info_of infoP
  have hz : (w.alloc (.cells (sc A0 n0 c0 A1 n1 c1 A2 n2 c2 T) 34)).heap.size = w.heap.size + 1 := by simp [go_sem]
  have B0 := Lib.hid ((Below.refl w.heap.size w).alloc (Nat.le_refl _) (.cells (sc A0 n0 c0 A1 n1 c1 A2 n2 c2 T) 34))
  have KS := Lib.hid (Bk.new w (sc A0 n0 c0 A1 n1 c1 A2 n2 c2 T) 34)
  obtain ⟨zs, hzs⟩ : ∃ zs, (ts.map (fun u => tell gs t u.z)) = zs := ⟨_, rfl⟩
  have hzl : zs.length = n := by rw [← hzs, List.length_map]; exact hn
  have HV := Lib.hid (fun (k : Nat) (u : T9) (hu : ts[k]? = some u) => (by rw [← hzs]; exact tellV gs t ts hu : zs[k]? = some ⟨u.z.d.nm, u.z.b, (pAt gs u.z t).1, (pAt gs u.z t).2, ha u.z.d.x u.z.d.y u.z.d.hd u.z.d.tl u.z.l ((t : Int) - u.z.b)⟩))
  rw [hzs]
  have HR := Lib.hid hr
  have HN := Lib.hid hn
  have HK := Lib.hid hok
  have HW := Lib.hid hw
  have HZL := Lib.hid (show (pls (List.replicate n d0)).length = (pls zs).length by rw [pls_len, pls_len, List.length_replicate, hzl])
  have HZN := Lib.hid hzl
  have CF := Lib.hid (fun (W : World) (h : Below w.heap.size w W) => flown A2 n2 c2 gs g n c ts t W hn hnb ht hok hap ((hr.below h).more h.size) hw hn2 hb2 ((hr2.below h).more h.size))
  have hn9 : ¬ ((n : Int) = 0) := by omega
  have hu : undef = Value.tuple #[] := rfl
  clear hr hn hok hap hw hr2 hn2 hb2 hzs hzl
  go_enter Tryz.func38, Tryz.ntmps38
  go_wp2_with (at_make; refine wpList_make_full _ rfl _ _ 28 rfl w.heap.size 69 i0 (.agg #[.string ⟨#[]⟩, .int .i64 0, .int .i64 0, .int .i64 0, .int .i64 0]) 5 Tryz.underlying28 hi hz0 hz1 .i64 .i64 n n n rfl rfl rfl rfl (by rw [hz2]; omega) (by unfold maxLen; omega) (by rw [hz]; omega) ?_; intro w1 hown hgrow; clear hi hz0 hz1 hz2; have KS1 := Lib.hid (KS.out.grown hgrow (by intro e9; cases e9)); have s2 := KS1.out.cell (i := 2) rfl)
  rw [hz] at hown
  have R0 := Lib.hid (show w1.ownsRow w.heap.size 69 5 (.slice (some ⟨w.heap.size + 1, 0, none⟩) n n) n (mixed (pls zs) (pls (List.replicate n d0)) 0) by
    rw [mixed_zero, ← pls_made]; exact hown)
  have B1 := Lib.hid (B0.out.grown hgrow (by rw [hz]; omega) (fun k hk => by cases hk))
  clear hown hgrow B0 hz KS
  go_wp2_with fail
  refine (CF.out _ B1.out).mono ?_
  rintro e w2 ⟨b, M, rfl, hA, hT, hb⟩
  have AB := Lib.hid hA
  have TB := Lib.hid hT
  have R2 := Lib.hid (owns_below R0.out hb)
  have B2 := Lib.hid (B1.out.trans (hb.mono B1.out.size))
  have hbase : w.heap.size ≤ w1.heap.size := B1.out.size
  have hgD : w.heap.size + 1 < w1.heap.size := (R0.out.lt _ rfl).2
  obtain ⟨base, hB9⟩ : ∃ x, w1.heap.size = x := ⟨_, rfl⟩
  rw [hB9] at AB hgD hbase
  clear hA hT hb R0 B1 CF KS1 s2 hB9
  go_wp2_with fail
  go_loopw [25] (fun i wr => ∃ k : Nat, k ≤ n ∧ i = .int .i64 k ∧ Hid (wr.ownsRow w.heap.size 69 5 (.slice (some ⟨w.heap.size + 1, 0, none⟩) n n) n (mixed (pls zs) (pls (List.replicate n d0)) (k * 5))) ∧ Hid (Air wr base b M) ∧ Hid (Below w.heap.size w wr)) (fun i _ => n - (intOf i).toNat)
  case atStart => exact ⟨0, Nat.zero_le _, rfl, by rw [Nat.zero_mul]; exact R2, AB, B2⟩
  case round =>
    obtain ⟨k, hk, rfl, RK, AK, BK⟩ := hrel
    clear R2 AB B2
    have hbs := BK.out.size
    by_cases hlt : k < n
    · obtain ⟨u, hu9⟩ : ∃ u, ts[k]? = some u := ⟨_, List.getElem?_eq_getElem (by rw [HN.out]; exact hlt)⟩
      obtain ⟨x0, x1, x2, x3, x4, x5, x6, x7, x8⟩ := cR (HR.out.below BK.out) hu9
      have hko := HK.out u (List.mem_of_getElem? hu9)
      have hpq := pAt_le (gs := gs) HW.out hko.2.1 t
      have hL := (jt_iff.1 hko.2.1).2.2.2.2
      have hz9 := HV.out k u hu9
      obtain ⟨px, hpx⟩ : ∃ x, (pAt gs u.z t).1 = x := ⟨_, rfl⟩
      obtain ⟨py, hpy⟩ : ∃ x, (pAt gs u.z t).2 = x := ⟨_, rfl⟩
      have HH := TB.out k u t hu9 rfl
      have CP := Lib.hid (fun (W : World) (h : Air W base b M) => (by have := placeOf u W h hko (pAt gs u.z t) (by omega) HH; rw [hpx, hpy] at this; exact this : Calls Tryz.prog 83 #[.map (some b), tv u] W fun e w' => e = .returned (.agg #[.int .i64 px, .int .i64 py]) ∧ Below W.heap.size W w'))
      rw [hpx, hpy] at hz9
      obtain ⟨hh, hhh⟩ : ∃ x, ha u.z.d.x u.z.d.y u.z.d.hd u.z.d.tl u.z.l ((t : Int) - u.z.b) = x := ⟨_, rfl⟩
      rw [hhh] at hz9
      have CH := Lib.hid (fun (W : World) => (by have := heightI u.z.d.x u.z.d.y u.z.d.hd u.z.d.tl u.z.l ((t : Int) - u.z.b) W; rw [hhh] at this; exact this : Calls Tryz.prog 84 #[jv u.z.d.x u.z.d.y u.z.d.hd u.z.d.tl u.z.l, .int .i64 ((t : Int) - u.z.b)] W fun e w' => e = .returned (.int .i64 hh) ∧ Below W.heap.size W w'))
      have ZG := Lib.hid (pls_get hz9)
      have hbb := hko.2.2
      have w1 : IntKind.i64.wrap ((t : Int) - (u.z.b : Int)) = (t : Int) - u.z.b := IntWalk.i64_in _ (by omega)
      have w2 : wrap64 ((t : Int) - (u.z.b : Int)) = (t : Int) - u.z.b := IntWalk.wrap64_in _ (by omega)
      have R1 := Lib.hid (RK.out.alloc (.cells (tca u) 89))
      have A1 := Lib.hid (AK.out.alloc (.cells (tca u) 89))
      have B1 := Lib.hid (BK.out.alloc hbs (.cells (tca u) 89))
      have KU := Lib.hid (Bk.new wr (tca u) 89)
      have hwr : w.heap.size + 1 < wr.heap.size := (RK.out.lt _ rfl).2
      clear hu9 hko hpq hL hz9 HH hpx hpy hhh RK AK BK
      go_upto_region 8 with fail
      clear x0 x1 x2 x3 x4 x5 x6 x7 x8
      refine wp_region_noPanic ?_
      refine wp_region_held_drew (S := (fun w' => w'.cell? ⟨wr.heap.size, 0, none⟩ = some (.string u.z.d.nm) ∧ w'.cell? ⟨wr.heap.size, 1, none⟩ = some (.int .i64 u.z.b) ∧ w'.cell? ⟨wr.heap.size, 2, none⟩ = some (.int .i64 (u.z.b + (u.z.l + 1))) ∧ w'.cell? ⟨wr.heap.size, 3, none⟩ = some (.int .i64 u.z.d.x) ∧ w'.cell? ⟨wr.heap.size, 4, none⟩ = some (.int .i64 u.z.d.y) ∧ w'.cell? ⟨wr.heap.size, 5, none⟩ = some (.int .i64 u.z.d.hd) ∧ w'.cell? ⟨wr.heap.size, 6, none⟩ = some (.int .i64 u.z.d.tl) ∧ w'.cell? ⟨wr.heap.size, 7, none⟩ = some (.int .i64 u.z.l) ∧ w'.cell? ⟨wr.heap.size, 8, none⟩ = some (.complex .f32 u.re u.im) ∧ Air w' base b M ∧ Below w.heap.size w w')) (by kernel_rfl) ?_ (fun hH => ?_)
      · exact ⟨KU.out.drew.cell (i := 0) rfl, KU.out.drew.cell (i := 1) rfl, KU.out.drew.cell (i := 2) rfl, KU.out.drew.cell (i := 3) rfl, KU.out.drew.cell (i := 4) rfl, KU.out.drew.cell (i := 5) rfl, KU.out.drew.cell (i := 6) rfl, KU.out.drew.cell (i := 7) rfl, KU.out.drew.cell (i := 8) rfl, A1.out.drew, B1.out.drew⟩
      refine wpAnyH_take (i := 0) (oi := { dst := some 30, op := _, type := _, pos := _, after := _, guard := _ }) (v := ?_) rfl (by kernel_rfl) (by kernel_rfl) (by kernel_rfl) (fun _ _ _ h => h) (Or.inl ⟨by rfl, ?_⟩) hH ?_
      rotate_left 1
      · intro W hSw
        (try dsimp only at hSw)
        go_simp
        (try with_reducible rfl)
      try simp only [Act.put, List.setIfInBounds_toArray, List.set_cons_zero, List.set_cons_succ]
      refine wpAnyH_take (i := 1) (oi := { dst := some 31, op := _, type := _, pos := _, after := _, guard := _ }) (v := ?_) rfl (by kernel_rfl) (by kernel_rfl) (by kernel_rfl) (fun _ _ _ h => h) (Or.inl ⟨by rfl, ?_⟩) hH ?_
      rotate_left 1
      · intro W hSw
        (try dsimp only at hSw)
        go_simp
        (try with_reducible rfl)
      try simp only [Act.put, List.setIfInBounds_toArray, List.set_cons_zero, List.set_cons_succ]
      refine wpAnyH_take (i := 2) (oi := { dst := some 32, op := _, type := _, pos := _, after := _, guard := _ }) (v := ?_) rfl (by kernel_rfl) (by kernel_rfl) (by kernel_rfl) (fun _ _ _ h => h) (Or.inl ⟨by rfl, ?_⟩) hH ?_
      rotate_left 1
      · intro W hSw
        (try dsimp only at hSw)
        go_simp
        (try with_reducible rfl)
      try simp only [Act.put, List.setIfInBounds_toArray, List.set_cons_zero, List.set_cons_succ]
      refine wpAnyH_take (i := 3) (oi := { dst := some 33, op := _, type := _, pos := _, after := _, guard := _ }) (v := ?_) rfl (by kernel_rfl) (by kernel_rfl) (by kernel_rfl) (fun _ _ _ h => h) (Or.inl ⟨by rfl, ?_⟩) hH ?_
      rotate_left 1
      · intro W hSw
        (try dsimp only at hSw)
        go_simp
        (try with_reducible rfl)
      try simp only [Act.put, List.setIfInBounds_toArray, List.set_cons_zero, List.set_cons_succ]
      refine wpAnyH_take (i := 4) (oi := { dst := some 34, op := _, type := _, pos := _, after := _, guard := _ }) (v := ?_) rfl (by kernel_rfl) (by kernel_rfl) (by kernel_rfl) (fun _ _ _ h => h) (Or.inl ⟨by rfl, ?_⟩) hH ?_
      rotate_left 1
      · intro W hSw
        (try dsimp only at hSw)
        go_simp
        (try with_reducible rfl)
      try simp only [Act.put, List.setIfInBounds_toArray, List.set_cons_zero, List.set_cons_succ]
      refine wpAnyH_take (i := 5) (oi := { dst := some 35, op := _, type := _, pos := _, after := _, guard := _ }) (v := ?_) rfl (by kernel_rfl) (by kernel_rfl) (by kernel_rfl) (fun _ _ _ h => h) (Or.inl ⟨by rfl, ?_⟩) hH ?_
      rotate_left 1
      · intro W hSw
        (try dsimp only at hSw)
        go_simp
        (try with_reducible rfl)
      try simp only [Act.put, List.setIfInBounds_toArray, List.set_cons_zero, List.set_cons_succ]
      refine wpAnyH_take (i := 6) (oi := { dst := some 36, op := _, type := _, pos := _, after := _, guard := _ }) (v := ?_) rfl (by kernel_rfl) (by kernel_rfl) (by kernel_rfl) (fun _ _ _ h => h) (Or.inl ⟨by rfl, ?_⟩) hH ?_
      rotate_left 1
      · intro W hSw
        (try dsimp only at hSw)
        go_simp
        (try with_reducible rfl)
      try simp only [Act.put, List.setIfInBounds_toArray, List.set_cons_zero, List.set_cons_succ]
      refine wpAnyH_take (i := 7) (oi := { dst := some 37, op := _, type := _, pos := _, after := _, guard := _ }) (v := ?_) rfl (by kernel_rfl) (by kernel_rfl) (by kernel_rfl) (fun _ _ _ h => h) (Or.inl ⟨by rfl, ?_⟩) hH ?_
      rotate_left 1
      · intro W hSw
        (try dsimp only at hSw)
        go_simp
        (try with_reducible rfl)
      try simp only [Act.put, List.setIfInBounds_toArray, List.set_cons_zero, List.set_cons_succ]
      refine wpAnyH_take (i := 9) (oi := { dst := some 39, op := _, type := _, pos := _, after := _, guard := _ }) (v := ?_) rfl (by kernel_rfl) (by kernel_rfl) (by kernel_rfl) (fun _ _ _ h => h) (Or.inl ⟨by rfl, ?_⟩) hH ?_
      rotate_left 1
      · intro W hSw
        (try dsimp only at hSw)
        go_simp
        (try with_reducible rfl)
      try simp only [Act.put, List.setIfInBounds_toArray, List.set_cons_zero, List.set_cons_succ]
      refine wpAnyH_take (i := 10) (oi := { dst := some 40, op := _, type := _, pos := _, after := _, guard := _ }) (v := ?_) rfl (by kernel_rfl) (by kernel_rfl) (by kernel_rfl) (fun _ _ _ h => h) (Or.inl ⟨by rfl, ?_⟩) hH ?_
      rotate_left 1
      · intro W hSw
        (try dsimp only at hSw)
        go_simp
        (try with_reducible rfl)
      try simp only [Act.put, List.setIfInBounds_toArray, List.set_cons_zero, List.set_cons_succ]
      refine wpAnyH_take (i := 11) (oi := { dst := some 41, op := _, type := _, pos := _, after := _, guard := _ }) (v := ?_) rfl (by kernel_rfl) (by kernel_rfl) (by kernel_rfl) (fun _ _ _ h => h) (Or.inl ⟨by rfl, ?_⟩) hH ?_
      rotate_left 1
      · intro W hSw
        (try dsimp only at hSw)
        go_simp
        (try with_reducible rfl)
      try simp only [Act.put, List.setIfInBounds_toArray, List.set_cons_zero, List.set_cons_succ]
      refine wpAnyH_take (i := 12) (oi := { dst := some 42, op := _, type := _, pos := _, after := _, guard := _ }) (v := ?_) rfl (by kernel_rfl) (by kernel_rfl) (by kernel_rfl) (fun _ _ _ h => h) (Or.inl ⟨by rfl, ?_⟩) hH ?_
      rotate_left 1
      · intro W hSw
        (try dsimp only at hSw)
        go_simp
        (try with_reducible rfl)
      try simp only [Act.put, List.setIfInBounds_toArray, List.set_cons_zero, List.set_cons_succ]
      refine wpAnyH_take (i := 13) (oi := { dst := some 43, op := _, type := _, pos := _, after := _, guard := _ }) (v := ?_) rfl (by kernel_rfl) (by kernel_rfl) (by kernel_rfl) (fun _ _ _ h => h) (Or.inl ⟨by rfl, ?_⟩) hH ?_
      rotate_left 1
      · intro W hSw
        (try dsimp only at hSw)
        go_simp
        (try with_reducible rfl)
      try simp only [Act.put, List.setIfInBounds_toArray, List.set_cons_zero, List.set_cons_succ]
      refine wpAnyH_take (i := 14) (oi := { dst := some 44, op := _, type := _, pos := _, after := _, guard := _ }) (v := ?_) rfl (by kernel_rfl) (by kernel_rfl) (by kernel_rfl) (fun _ _ _ h => h) (Or.inl ⟨by rfl, ?_⟩) hH ?_
      rotate_left 1
      · intro W hSw
        (try dsimp only at hSw)
        go_simp
        (try with_reducible rfl)
      try simp only [Act.put, List.setIfInBounds_toArray, List.set_cons_zero, List.set_cons_succ]
      refine wpAnyH_ready (rs := [8]) (by kernel_rfl) (by simp) (AllReadyH.cons rfl (fun K hK => ?_) AllReadyH.nil)
      go_simp
      go_at_call 83; ((with_reducible refine (CP.out _ hH.2.2.2.2.2.2.2.2.2.1).mono ?_); rintro e9 r1 ⟨rfl, hb1⟩); have D1 := owns_below R1.out.drew hb1; go_wp2_with fail
      refine hK.out _ _ ?_ (fun hG => ?_)
      · exact ⟨cell_below hb1 hH.1, cell_below hb1 hH.2.1, cell_below hb1 hH.2.2.1, cell_below hb1 hH.2.2.2.1, cell_below hb1 hH.2.2.2.2.1, cell_below hb1 hH.2.2.2.2.2.1, cell_below hb1 hH.2.2.2.2.2.2.1, cell_below hb1 hH.2.2.2.2.2.2.2.1, cell_below hb1 hH.2.2.2.2.2.2.2.2.1, hH.2.2.2.2.2.2.2.2.2.1.below hb1, hH.2.2.2.2.2.2.2.2.2.2.trans (hb1.mono hH.2.2.2.2.2.2.2.2.2.2.size)⟩
      replace hH := hG
      clear hK K hG
      try simp only [Act.put, List.setIfInBounds_toArray, List.set_cons_zero, List.set_cons_succ]
      refine wpAnyH_ready (rs := [15]) (by kernel_rfl) (by simp) (AllReadyH.cons rfl (fun K hK => ?_) AllReadyH.nil)
      go_simp
      go_at_call 84; ((with_reducible refine (CH.out _).mono ?_); rintro e9 r2 ⟨rfl, hb2⟩); have D2 := owns_below D1 hb2; go_wp2_with fail
      refine hK.out _ _ ?_ (fun hG => ?_)
      · exact ⟨cell_below hb2 hH.1, cell_below hb2 hH.2.1, cell_below hb2 hH.2.2.1, cell_below hb2 hH.2.2.2.1, cell_below hb2 hH.2.2.2.2.1, cell_below hb2 hH.2.2.2.2.2.1, cell_below hb2 hH.2.2.2.2.2.2.1, cell_below hb2 hH.2.2.2.2.2.2.2.1, cell_below hb2 hH.2.2.2.2.2.2.2.2.1, hH.2.2.2.2.2.2.2.2.2.1.below hb2, hH.2.2.2.2.2.2.2.2.2.2.trans (hb2.mono hH.2.2.2.2.2.2.2.2.2.2.size)⟩
      replace hH := hG
      clear hK K hG
      try simp only [Act.put, List.setIfInBounds_toArray, List.set_cons_zero, List.set_cons_succ]
      refine wpAnyH_take (i := 16) (oi := { dst := some 46, op := _, type := _, pos := _, after := _, guard := _ }) (v := ?_) rfl (by kernel_rfl) (by kernel_rfl) (by kernel_rfl) (fun _ _ _ h => h) (Or.inl ⟨by rfl, ?_⟩) hH ?_
      rotate_left 1
      · intro W hSw
        (try dsimp only at hSw)
        go_simp
        (try with_reducible rfl)
      try simp only [Act.put, List.setIfInBounds_toArray, List.set_cons_zero, List.set_cons_succ]
      refine wpAnyH_take (i := 17) (oi := { dst := some 47, op := _, type := _, pos := _, after := _, guard := _ }) (v := ?_) rfl (by kernel_rfl) (by kernel_rfl) (by kernel_rfl) (fun _ _ _ h => h) (Or.inl ⟨by rfl, ?_⟩) hH ?_
      rotate_left 1
      · intro W hSw
        (try dsimp only at hSw)
        go_simp
        (try with_reducible rfl)
      try simp only [Act.put, List.setIfInBounds_toArray, List.set_cons_zero, List.set_cons_succ]
      refine wpAnyH_ready (rs := [18]) (by kernel_rfl) (by simp) (AllReadyH.cons rfl (fun K hK => ?_) AllReadyH.nil)
      (refine step_store_mid rfl 69 (.tmp 47) (.tmp 46) rfl (w.heap.size + 1) (k * 5) #[.string u.z.d.nm, .int .i64 u.z.b, .int .i64 px, .int .i64 py, .int .i64 hh] (by simp [Act.eval, Act.put]) (by simp [Act.eval, Act.put]) (there_own D2 hlt) (by kernel_rfl) (by simp [Value.oneCell']) ?_; refine (show K (Act.put _ none _) _ from ?_); obtain ⟨D3, g3⟩ := owns_lay #[.string u.z.d.nm, .int .i64 u.z.b, .int .i64 px, .int .i64 py, .int .i64 hh].toList (k * 5) _ _ D2)
      refine hK.out _ _ ?_ (fun hG => ?_)
      · exact ⟨g3.cell hH.1 (fun e9 => by have e9 := Option.some.inj e9; (have e8 : wr.heap.size = w.heap.size + 1 := e9); omega), g3.cell hH.2.1 (fun e9 => by have e9 := Option.some.inj e9; (have e8 : wr.heap.size = w.heap.size + 1 := e9); omega), g3.cell hH.2.2.1 (fun e9 => by have e9 := Option.some.inj e9; (have e8 : wr.heap.size = w.heap.size + 1 := e9); omega), g3.cell hH.2.2.2.1 (fun e9 => by have e9 := Option.some.inj e9; (have e8 : wr.heap.size = w.heap.size + 1 := e9); omega), g3.cell hH.2.2.2.2.1 (fun e9 => by have e9 := Option.some.inj e9; (have e8 : wr.heap.size = w.heap.size + 1 := e9); omega), g3.cell hH.2.2.2.2.2.1 (fun e9 => by have e9 := Option.some.inj e9; (have e8 : wr.heap.size = w.heap.size + 1 := e9); omega), g3.cell hH.2.2.2.2.2.2.1 (fun e9 => by have e9 := Option.some.inj e9; (have e8 : wr.heap.size = w.heap.size + 1 := e9); omega), g3.cell hH.2.2.2.2.2.2.2.1 (fun e9 => by have e9 := Option.some.inj e9; (have e8 : wr.heap.size = w.heap.size + 1 := e9); omega), g3.cell hH.2.2.2.2.2.2.2.2.1 (fun e9 => by have e9 := Option.some.inj e9; (have e8 : wr.heap.size = w.heap.size + 1 := e9); omega), hH.2.2.2.2.2.2.2.2.2.1.other g3 (fun k9 e9 => by have e9 := Option.some.inj e9; exact ⟨by have := hH.2.2.2.2.2.2.2.2.2.1.bs; omega, fun e he => by have := (hH.2.2.2.2.2.2.2.2.2.1.glt he).1; omega⟩), hH.2.2.2.2.2.2.2.2.2.2.grown g3 (hH.2.2.2.2.2.2.2.2.2.2.size) (fun q9 e9 => by have e9 := Option.some.inj e9; omega)⟩
      replace hH := hG
      clear hK K hG
      try simp only [Act.put, List.setIfInBounds_toArray, List.set_cons_zero, List.set_cons_succ]
      refine wpAnyH_done (by kernel_rfl) ?_ _
      refine NoPanic.normal ?_
      rw [lay_mixed HZL.out _ _ (fun j v hj => by have Z9 := ZG.out; match j, hj with | 0, hj => (simp at hj; subst hj; exact Z9.1) | 1, hj => (simp at hj; subst hj; exact Z9.2.1) | 2, hj => (simp at hj; subst hj; exact Z9.2.2.1) | 3, hj => (simp at hj; subst hj; exact Z9.2.2.2.1) | 4, hj => (simp at hj; subst hj; exact Z9.2.2.2.2))] at D3
      have RX := Lib.hid D3
      have AX := Lib.hid hH.2.2.2.2.2.2.2.2.2.1
      have BX := Lib.hid hH.2.2.2.2.2.2.2.2.2.2
      clear hH D1 D2 D3 hb1 hb2 g3 R1 A1 B1 KU CP CH ZG
      go_wp2_with fail
      go_roundw
      case rel => exact ⟨k + 1, by omega, by go_num, by rw [show (k + 1) * 5 = k * 5 + 5 by omega]; exact RX, AX, BX⟩
      case measure => simp [intOf]; omega
    · obtain rfl : n = k := by omega
      have RX := Lib.hid (show wr.ownsRow w.heap.size 69 5 (.slice (some ⟨w.heap.size + 1, 0, none⟩) n n) n (pls zs) by
        have := RK.out
        rw [show n * 5 = (pls zs).length by rw [pls_len, HZN.out], mixed_all HZL.out] at this
        exact this)
      clear RK
      go_wp2_with fail
      go_ret
      exact ⟨w.heap.size + 1, n, by rw [HZN.out]; rfl, by rw [HZN.out]; exact RX.out, BK.out⟩

theorem toldDrops (A0 : Option Addr) (n0 c0 : Nat) (A1 : Option Addr) (n1 c1 : Nat) (A2 : Option Addr) (n2 c2 : Nat) (T : Int) (gs : List G) (g n c : Nat) (ts : List T9) (t : Int) (w : World) (hn : ts.length = n) (hnb : n ≤ 512) (hT : 0 < n → wd gs = true ∧ 0 ≤ t ∧ t ≤ 128) (hok : ∀ u ∈ ts, TOk u) (hap : Apart (ts.map T9.z)) (hr : Rd w w.heap.size (some ⟨g, 0, none⟩) (tls ts)) (hn2 : gs.length = n2) (hb2 : n2 ≤ 1048576) (hr2 : Rd w w.heap.size A2 (gls gs)) :
    Calls Tryz.prog 38 #[sv A0 n0 c0 A1 n1 c1 A2 n2 c2 T, .slice (some ⟨g, 0, none⟩) n c, .int .i64 t] w (RowP w (ts.map (fun u => tell gs t.toNat u.z))) := by
  by_cases h0 : 0 < n
  · obtain ⟨hw, h1, h2⟩ := hT h0
    obtain ⟨q, rfl⟩ : ∃ q : Nat, t = (q : Int) := ⟨t.toNat, by omega⟩
    exact toldSome A0 n0 c0 A1 n1 c1 A2 n2 c2 T gs g n c ts q w h0 hn hnb (by omega) hok hap hr hw hn2 hb2 hr2
  · obtain rfl : n = 0 := by omega
    rw [List.length_eq_zero_iff.1 hn]
    exact toldNone A0 n0 c0 A1 n1 c1 A2 n2 c2 T g c t w
end Go.Proofs.YtejeikfgmiadhaaGreat.Td9
namespace Go.Proofs.YtejeikfgmiadhaaGreat.Lp9
open Go.RowKit Go.ChangeShapes Go.WideShapes Go.WideElems Go.Deep Go.Proofs.YtejeikfgmiadhaaGreat.Mem Go.Proofs.YtejeikfgmiadhaaGreat.Rw Go.Proofs.YtejeikfgmiadhaaGreat.P2 Go.Proofs.YtejeikfgmiadhaaGreat.Bk Go.Proofs.YtejeikfgmiadhaaGreat.Sp Go.Proofs.YtejeikfgmiadhaaGreat.Sq Go.Proofs.YtejeikfgmiadhaaGreat.Jt Go.Proofs.YtejeikfgmiadhaaGreat.Cm Go.Proofs.YtejeikfgmiadhaaGreat.Cx Go.Proofs.YtejeikfgmiadhaaGreat.Pl
open Go.Proofs.YtejeikfgmiadhaaGreat.Sv hiding D C G
open Go.Proofs.YtejeikfgmiadhaaGreat.Am9 Go.Proofs.YtejeikfgmiadhaaGreat.Fo9 Go.Proofs.YtejeikfgmiadhaaGreat.Tw9 Go.Proofs.YtejeikfgmiadhaaGreat.Ar9 Go.Proofs.YtejeikfgmiadhaaGreat.Pd9
open Go.Proofs.YtejeikfgmiadhaaGreat.Wm (wd dr drs plus sum2 dr_bound drs_get drs_len)
open Go.Proofs.YtejeikfgmiadhaaGreat.Gs (gls)
open Go.Proofs.YtejeikfgmiadhaaGreat.Wc (infoC made_c zs2 zv zs2_len zs2_get)
open Go.Proofs.YtejeikfgmiadhaaGreat.Pl9 (RowP pls pls_len pls_get pls_snoc infoP d0 pls_made)
open Go.Proofs.YtejeikfgmiadhaaGreat.Dp (ha heightI)
open Go.Proofs.YtejeikfgmiadhaaGreat.Pl9 (mixed mixed_zero mixed_all mixed_at mixed_put)
open Go.Proofs.YtejeikfgmiadhaaGreat.Ly (layL layL_len owns_lay)
set_option linter.unusedVariables false
set_option linter.unusedSimpArgs false


/-- All drops as they have landed. -/
noncomputable def ldV (ds : List D) (cs : List C) (gs : List G) (T : Int) : List Pd9.P := (all9 ds cs gs T).map (tell gs 128)
theorem ld_len (ds : List D) (cs : List C) (gs : List G) (T : Int) : (ldV ds cs gs T).length ≤ 512 := by unfold ldV; rw [List.length_map]; exact all9_len ds cs gs T
theorem tok_of {ds : List D} {cs : List C} {gs : List G} {T : Int} {ts : List T9} {zs : List B} (hz : ts.map T9.z = zs) (hs : ∀ z ∈ zs, z ∈ all9 ds cs gs T) (hw : ∀ u ∈ ts, WOk u) : ∀ u ∈ ts, TOk u := fun u hu => by
  have h := all9_ok u.z (hs u.z (by rw [← hz]; exact List.mem_map_of_mem hu))
  exact ⟨hw u hu, h.1.1, h.2⟩
theorem wd_of {ds : List D} {cs : List C} {gs : List G} {T : Int} {z : B} (h : z ∈ all9 ds cs gs T) : wd gs = true := by
  cases c : show9 ds cs gs T
  · rw [all9_no c] at h; cases h
  · exact (show_iff.1 c).2.2.1

set_option maxRecDepth 100000 in
set_option maxHeartbeats 4000000 in
theorem landingsI (A0 : Option Addr) (n0 c0 : Nat) (A1 : Option Addr) (n1 c1 : Nat) (A2 : Option Addr) (n2 c2 : Nat) (T : Int) (ds : List D) (cs : List C) (gs : List G) (w : World) (hf : Fit n0 n1 n2 ds cs gs) (hr : SR w A0 A1 A2 ds cs gs) :
    Calls Tryz.prog 11 #[sv A0 n0 c0 A1 n1 c1 A2 n2 c2 T] w (RowP w (ldV ds cs gs T)) := by
  obtain ⟨zs, hzs⟩ : ∃ zs, all9 ds cs gs T = zs := ⟨_, rfl⟩
  obtain ⟨m, hm⟩ : ∃ m, zs.length = m := ⟨_, rfl⟩
  have hmb : m ≤ 512 := by have := all9_len ds cs gs T; rw [hzs, hm] at this; exact this
  have HA := Lib.hid (show Apart zs by rw [← hzs]; exact all9_apart ds cs gs T)
  have HM := Lib.hid (show ∀ z ∈ zs, z ∈ all9 ds cs gs T from fun z hz => by rw [hzs]; exact hz)
  have HW := Lib.hid (show ∀ z ∈ zs, wd gs = true from fun z hz => wd_of (HM.out z hz))
  have CT := Lib.hid (fun (W : World) (h : SR W A0 A1 A2 ds cs gs) => (by have := Ti9.thrownIn A0 n0 c0 A1 n1 c1 A2 n2 c2 T ds cs gs W hf h; unfold RowT at this; rw [hzs, hm] at this; exact this :
    Calls Tryz.prog 39 #[sv A0 n0 c0 A1 n1 c1 A2 n2 c2 T] W (fun e w' => ∃ g c, e = .returned (.slice (some ⟨g, 0, none⟩) m c) ∧ Thr w' W.heap.size (.slice (some ⟨g, 0, none⟩) m c) m zs ∧ Below W.heap.size W w')))
  have hld : ldV ds cs gs T = zs.map (tell gs 128) := by unfold ldV; rw [hzs]
  rw [hld]
  have HF := Lib.hid hf
  have HS := Lib.hid hr
  have HL := Lib.hid hm
  have B0 := Lib.hid ((Below.refl w.heap.size w).alloc (Nat.le_refl _) (.cells (sc A0 n0 c0 A1 n1 c1 A2 n2 c2 T) 34))
  have hu : undef = Value.tuple #[] := rfl
  have KS := Bk.new w (sc A0 n0 c0 A1 n1 c1 A2 n2 c2 T) 34
  have s0 := KS.cell (i := 0) rfl
  have s1 := KS.cell (i := 1) rfl
  have s2 := KS.cell (i := 2) rfl
  have s3 := KS.cell (i := 3) rfl
  clear hf hr hzs hm hld KS
  go_enter Tryz.func11, Tryz.ntmps11
  go_wp2_with fail
  refine wp_region_noPanic ?_
  refine wp_region_held_drew (S := (fun w' => w'.cell? ⟨w.heap.size, 0, none⟩ = some (.slice A0 n0 c0) ∧ w'.cell? ⟨w.heap.size, 1, none⟩ = some (.slice A1 n1 c1) ∧ w'.cell? ⟨w.heap.size, 2, none⟩ = some (.slice A2 n2 c2) ∧ w'.cell? ⟨w.heap.size, 3, none⟩ = some (.int .i64 T) ∧ Below w.heap.size w w')) (by kernel_rfl) ?_ (fun hH => ?_)
  · exact ⟨s0, s1, s2, s3, B0.out.drew⟩
  refine wpAnyH_take (i := 0) (oi := { dst := some 3, op := _, type := _, pos := _, after := _, guard := _ }) (v := ?_) rfl (by kernel_rfl) (by kernel_rfl) (by kernel_rfl) (fun _ _ _ h => h) (Or.inl ⟨by rfl, ?_⟩) hH ?_
  rotate_left 1
  · intro W hSw
    (try dsimp only at hSw)
    go_simp
    (try with_reducible rfl)
  try simp only [Act.put, List.setIfInBounds_toArray, List.set_cons_zero, List.set_cons_succ]
  refine wpAnyH_take (i := 1) (oi := { dst := some 4, op := _, type := _, pos := _, after := _, guard := _ }) (v := ?_) rfl (by kernel_rfl) (by kernel_rfl) (by kernel_rfl) (fun _ _ _ h => h) (Or.inl ⟨by rfl, ?_⟩) hH ?_
  rotate_left 1
  · intro W hSw
    (try dsimp only at hSw)
    go_simp
    (try with_reducible rfl)
  try simp only [Act.put, List.setIfInBounds_toArray, List.set_cons_zero, List.set_cons_succ]
  refine wpAnyH_ready (rs := [2]) (by kernel_rfl) (by simp) (AllReadyH.cons rfl (fun K hK => ?_) AllReadyH.nil)
  go_simp
  go_at_call 39; ((with_reducible refine (CT.out _ (HS.out.below hH.2.2.2.2)).mono ?_); rintro e9 r1 ⟨gT, cT, rfl, ⟨ts, ht1, ht2, ht3, oT⟩, hb1⟩); have hX9 : w.heap.size ≤ r1.heap.size := Nat.le_trans hH.2.2.2.2.size hb1.size; go_wp2_with fail
  refine hK.out _ _ ?_ (fun hG => ?_)
  · exact ⟨cell_below hb1 hH.1, cell_below hb1 hH.2.1, cell_below hb1 hH.2.2.1, cell_below hb1 hH.2.2.2.1, hH.2.2.2.2.trans (hb1.mono hH.2.2.2.2.size)⟩
  replace hH := hG
  clear hK K hG
  try simp only [Act.put, List.setIfInBounds_toArray, List.set_cons_zero, List.set_cons_succ]
  refine wpAnyH_ready (rs := [3]) (by kernel_rfl) (by simp) (AllReadyH.cons rfl (fun K hK => ?_) AllReadyH.nil)
  go_simp
  have CX := Td9.toldDrops A0 n0 c0 A1 n1 c1 A2 n2 c2 T gs gT m cT ts 128 r1 ht3 hmb (fun h0 => by (obtain ⟨u, hu9⟩ : ∃ u, u ∈ ts := List.exists_mem_of_length_pos (by omega)); exact ⟨HW.out u.z (by rw [← ht1]; exact List.mem_map_of_mem hu9), by omega, by omega⟩) (tok_of ht1 HM.out ht2) (by rw [ht1]; exact HA.out) (Rd.own oT) HF.out.2.2.1 HF.out.2.2.2 ((HS.out.below hH.2.2.2.2).r2); rw [show ts.map (fun u => tell gs (128 : Int).toNat u.z) = zs.map (tell gs 128) by rw [← ht1, List.map_map]; rfl] at CX; go_at_call 38; ((with_reducible refine CX.mono ?_); rintro e9 r2 ⟨gX, cX, rfl, oX, hb2⟩); go_wp2_with fail
  refine hK.out _ _ ?_ (fun hG => ?_)
  · exact ⟨cell_below hb2 hH.1, cell_below hb2 hH.2.1, cell_below hb2 hH.2.2.1, cell_below hb2 hH.2.2.2.1, hH.2.2.2.2.trans (hb2.mono hH.2.2.2.2.size)⟩
  replace hH := hG
  clear hK K hG
  try simp only [Act.put, List.setIfInBounds_toArray, List.set_cons_zero, List.set_cons_succ]
  refine wpAnyH_take (i := 4) (oi := { dst := some 2, op := _, type := _, pos := _, after := _, guard := _ }) (v := ?_) rfl (by kernel_rfl) (by kernel_rfl) (by kernel_rfl) (fun _ _ _ h => h) (Or.inl ⟨by rfl, ?_⟩) hH ?_
  rotate_left 1
  · intro W hSw
    (try dsimp only at hSw)
    go_simp
    (try with_reducible rfl)
  try simp only [Act.put, List.setIfInBounds_toArray, List.set_cons_zero, List.set_cons_succ]
  refine wpAnyH_done (by kernel_rfl) ?_ _
  refine NoPanic.normal ?_
  have OX := Lib.hid (owns_base oX (Nat.le_trans hX9 (oX.lt gX rfl).1))
  have BX := Lib.hid hH.2.2.2.2
  clear hH hb1 hb2 oX oT hX9
  go_wp2_with fail
  go_ret
  exact ⟨gX, cX, by rw [List.length_map]; rfl, OX.out, BX.out⟩
end Go.Proofs.YtejeikfgmiadhaaGreat.Lp9
