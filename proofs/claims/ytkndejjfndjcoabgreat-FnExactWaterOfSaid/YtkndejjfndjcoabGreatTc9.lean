/- How many drops are thrown and have landed, how high they go, how much water they take, of the program. -/
import Derived.Test.YtkndejjfndjcoabGreatTn9
namespace Go.Proofs.YtkndejjfndjcoabGreat.Tc9
open Go.RowKit Go.ChangeShapes Go.WideShapes Go.WideElems Go.Deep Go.Proofs.YtkndejjfndjcoabGreat.Mem Go.Proofs.YtkndejjfndjcoabGreat.Rw Go.Proofs.YtkndejjfndjcoabGreat.P2 Go.Proofs.YtkndejjfndjcoabGreat.Bk Go.Proofs.YtkndejjfndjcoabGreat.Sp Go.Proofs.YtkndejjfndjcoabGreat.Sq Go.Proofs.YtkndejjfndjcoabGreat.Jt Go.Proofs.YtkndejjfndjcoabGreat.Cm Go.Proofs.YtkndejjfndjcoabGreat.Cx Go.Proofs.YtkndejjfndjcoabGreat.Pl
open Go.Proofs.YtkndejjfndjcoabGreat.Sv hiding D C G
open Go.Proofs.YtkndejjfndjcoabGreat.Ig (rig)
set_option linter.unusedVariables false
set_option linter.unusedSimpArgs false
open Go.Proofs.YtkndejjfndjcoabGreat.Dp
open Go.Proofs.YtkndejjfndjcoabGreat.Tw9
open Go.Proofs.YtkndejjfndjcoabGreat.Tn9


set_option maxHeartbeats 1000000 in
theorem clT (t : Int) (pb : Nat) (u : T9) (W : World) (hp : W.cell? ⟨pb, 0, none⟩ = some (.int .i64 t)) : Calls Tryz.prog 37 #[tv u, .pointer (some ⟨pb, 0, none⟩)] W fun e w' => e = .returned (.bool (thP t u.z)) ∧ Below W.heap.size W w' := by
  have hlt := World.block_lt_of_cell? W _ hp
  unfold thP
  go_enter Tryz.func37, Tryz.ntmps37
  go_wp2
  all_goals go_returns
  all_goals exact ⟨rfl, by go_grown⟩

set_option maxHeartbeats 1000000 in
theorem clL (t : Int) (pb : Nat) (u : T9) (W : World) (hp : W.cell? ⟨pb, 0, none⟩ = some (.int .i64 t)) : Calls Tryz.prog 42 #[tv u, .pointer (some ⟨pb, 0, none⟩)] W fun e w' => e = .returned (.bool (laP t u.z)) ∧ Below W.heap.size W w' := by
  have hlt := World.block_lt_of_cell? W _ hp
  unfold laP
  go_enter Tryz.func42, Tryz.ntmps42
  go_wp2
  all_goals go_returns
  all_goals exact ⟨rfl, by go_grown⟩

set_option maxRecDepth 100000 in
set_option maxHeartbeats 4000000 in
theorem clTC (A0 : Option Addr) (n0 c0 : Nat) (A1 : Option Addr) (n1 c1 : Nat) (A2 : Option Addr) (n2 c2 : Nat) (T : Int) (ds : List D) (cs : List C) (gs : List G) (t : Int) (pb : Nat) (w : World) (hf : Fit n0 n1 n2 ds cs gs) (hr : SR w A0 A1 A2 ds cs gs) (hp : w.cell? ⟨pb, 0, none⟩ = some (.int .i64 t)) :
    Calls Tryz.prog 36 #[sv A0 n0 c0 A1 n1 c1 A2 n2 c2 T, .func (.func 37) #[] #[.pointer (some ⟨pb, 0, none⟩)]] w fun e w' => e = .returned (.int .i64 (cnt (thP t) (all9 ds cs gs T))) ∧ Below w.heap.size w w' := by
  have B0 := Lib.hid ((Below.refl w.heap.size w).alloc (Nat.le_refl _) (.cells (sc A0 n0 c0 A1 n1 c1 A2 n2 c2 T) 33))
  have HS := Lib.hid (hr.below B0.out)
  have hu : undef = Value.tuple #[] := rfl
  obtain ⟨zs, hzs⟩ : ∃ zs, all9 ds cs gs T = zs := ⟨_, rfl⟩
  obtain ⟨m, hm⟩ : ∃ m, zs.length = m := ⟨_, rfl⟩
  have hmb : m ≤ 512 := all_len9 (by rw [hzs]; exact hm)
  have HZ := Lib.hid (show ∀ z ∈ zs, jt z.d.x z.d.y z.d.hd z.d.tl z.l = true ∧ z.b < 64 from fun z hz => z_in (by rw [hzs]; exact hz))
  have CA := Lib.hid (fun (W : World) (h : SR W A0 A1 A2 ds cs gs) => (by have := Ti9.thrownIn A0 n0 c0 A1 n1 c1 A2 n2 c2 T ds cs gs W hf h; unfold RowT at this; rw [hzs, hm] at this; exact this :
    Calls Tryz.prog 45 #[sv A0 n0 c0 A1 n1 c1 A2 n2 c2 T] W (fun e w' => ∃ g c, e = .returned (.slice (some ⟨g, 0, none⟩) m c) ∧ Thr w' W.heap.size (.slice (some ⟨g, 0, none⟩) m c) m zs ∧ Below W.heap.size W w')))
  rw [hzs]
  have HM := Lib.hid hm
  have HPC := Lib.hid hp
  have HPB := Lib.hid (World.block_lt_of_cell? w _ hp)
  clear hp
  clear hf hr hzs hm
  go_enter Tryz.func36, Tryz.ntmps36
  go_wp2_with fail
  refine (CA.out _ HS.out).mono ?_
  rintro e w2 ⟨g, c, rfl, ⟨ts, ht1, ht2, ht3, o⟩, hb⟩
  have B2 := Lib.hid (B0.out.trans (hb.mono B0.out.size))
  have O2 := Lib.hid (owns_base o (Nat.le_trans B0.out.size (o.lt g rfl).1))
  have HT1 := Lib.hid ht1
  have HT3 := Lib.hid ht3
  clear hb o CA HS B0 ht1 ht2 ht3
  go_wp2_with fail
  go_loopw [5, 11] (fun v i wr => ∃ k : Nat, k ≤ m ∧ i = .int .i64 k ∧ (∃ x : Int, v = .int .i64 x ∧ Hid (x = (cnt (thP t) (zs.take k)))) ∧ Hid (wr.ownsRow w.heap.size 62 9 (.slice (some ⟨g, 0, none⟩) m c) m (tls ts)) ∧ Hid (Below w.heap.size w wr)) (fun _ i _ => m - (intOf i).toNat)
  case atStart => exact ⟨0, Nat.zero_le _, rfl, ⟨_, rfl, Lib.hid rfl⟩, O2, B2⟩
  case round =>
    obtain ⟨k, hk, rfl, ⟨x, rfl, HX⟩, OK, BK⟩ := hrel
    clear O2 B2
    by_cases hlt : k < m
    · obtain ⟨u, hu9⟩ : ∃ u, ts[k]? = some u := ⟨_, List.getElem?_eq_getElem (by rw [HT3.out]; exact hlt)⟩
      obtain ⟨c0, c1, c2, c3, c4, c5, c6, c7, c8⟩ := cT OK.out hu9 hlt
      have HV := Lib.hid (map_get HT1.out hu9)
      have hj := HZ.out u.z (List.mem_of_getElem? HV.out)
      have O1 := Lib.hid (OK.out.alloc (.cells (tca u) 62))
      have B1 := Lib.hid (BK.out.alloc BK.out.size (.cells (tca u) 62))
      clear hu9 OK BK
      have hx0 := cnt_le (thP t) (zs.take k)
      have hxl : (zs.take k).length ≤ m := by rw [List.length_take, HM.out]; omega
      have hx1 : 0 ≤ x ∧ x ≤ 512 := by have := HX.out; omega
      have CC := Lib.hid (clT t pb u (wr.alloc (.cells (tca u) 62)) (B1.out.cell (p := ⟨pb, 0, none⟩) HPB.out |>.trans HPC.out))
      obtain ⟨q, hq⟩ : ∃ q, thP t u.z = q := ⟨_, rfl⟩
      have HE := Lib.hid (show (if q then x + 1 else x) = cnt (thP t) (zs.take (k + 1)) by rw [cnt_take HV.out, HX.out, hq])
      rw [hq] at CC
      clear hx0 hxl hj HX hq
      go_wp2_with fail
      refine CC.out.mono ?_
      rintro e u1 ⟨rfl, hb⟩
      have O3 := Lib.hid (owns_below O1.out hb)
      have B3 := Lib.hid (B1.out.trans (hb.mono B1.out.size))
      clear hb O1 B1 CC c0 c1 c2 c3 c4 c5 c6 c7 c8
      cases q
      · have E : Hid (x = cnt (thP t) (zs.take (k + 1))) := HE
        clear HE
        go_wp2_with fail
        go_roundw
        case rel => exact ⟨k + 1, by omega, by go_num, ⟨_, rfl, E⟩, O3, B3⟩
        case measure => simp [intOf]; omega
      · have E : Hid (x + 1 = cnt (thP t) (zs.take (k + 1))) := HE
        clear HE
        go_wp2_with fail
        go_roundw
        case rel => exact ⟨k + 1, by omega, by go_num, ⟨_, rfl, E⟩, O3, B3⟩
        case measure => simp [intOf]; omega
    · obtain rfl : k = m := by omega
      have E := Lib.hid (show x = (cnt (thP t) zs) by rw [HX.out, ← HM.out, List.take_length])
      clear OK HX
      go_wp2_with fail
      go_ret
      exact ⟨Sq.ret_int E.out, BK.out⟩

set_option maxRecDepth 100000 in
set_option maxHeartbeats 4000000 in
theorem clLC (A0 : Option Addr) (n0 c0 : Nat) (A1 : Option Addr) (n1 c1 : Nat) (A2 : Option Addr) (n2 c2 : Nat) (T : Int) (ds : List D) (cs : List C) (gs : List G) (t : Int) (pb : Nat) (w : World) (hf : Fit n0 n1 n2 ds cs gs) (hr : SR w A0 A1 A2 ds cs gs) (hp : w.cell? ⟨pb, 0, none⟩ = some (.int .i64 t)) :
    Calls Tryz.prog 36 #[sv A0 n0 c0 A1 n1 c1 A2 n2 c2 T, .func (.func 42) #[] #[.pointer (some ⟨pb, 0, none⟩)]] w fun e w' => e = .returned (.int .i64 (cnt (laP t) (all9 ds cs gs T))) ∧ Below w.heap.size w w' := by
  have B0 := Lib.hid ((Below.refl w.heap.size w).alloc (Nat.le_refl _) (.cells (sc A0 n0 c0 A1 n1 c1 A2 n2 c2 T) 33))
  have HS := Lib.hid (hr.below B0.out)
  have hu : undef = Value.tuple #[] := rfl
  obtain ⟨zs, hzs⟩ : ∃ zs, all9 ds cs gs T = zs := ⟨_, rfl⟩
  obtain ⟨m, hm⟩ : ∃ m, zs.length = m := ⟨_, rfl⟩
  have hmb : m ≤ 512 := all_len9 (by rw [hzs]; exact hm)
  have HZ := Lib.hid (show ∀ z ∈ zs, jt z.d.x z.d.y z.d.hd z.d.tl z.l = true ∧ z.b < 64 from fun z hz => z_in (by rw [hzs]; exact hz))
  have CA := Lib.hid (fun (W : World) (h : SR W A0 A1 A2 ds cs gs) => (by have := Ti9.thrownIn A0 n0 c0 A1 n1 c1 A2 n2 c2 T ds cs gs W hf h; unfold RowT at this; rw [hzs, hm] at this; exact this :
    Calls Tryz.prog 45 #[sv A0 n0 c0 A1 n1 c1 A2 n2 c2 T] W (fun e w' => ∃ g c, e = .returned (.slice (some ⟨g, 0, none⟩) m c) ∧ Thr w' W.heap.size (.slice (some ⟨g, 0, none⟩) m c) m zs ∧ Below W.heap.size W w')))
  rw [hzs]
  have HM := Lib.hid hm
  have HPC := Lib.hid hp
  have HPB := Lib.hid (World.block_lt_of_cell? w _ hp)
  clear hp
  clear hf hr hzs hm
  go_enter Tryz.func36, Tryz.ntmps36
  go_wp2_with fail
  refine (CA.out _ HS.out).mono ?_
  rintro e w2 ⟨g, c, rfl, ⟨ts, ht1, ht2, ht3, o⟩, hb⟩
  have B2 := Lib.hid (B0.out.trans (hb.mono B0.out.size))
  have O2 := Lib.hid (owns_base o (Nat.le_trans B0.out.size (o.lt g rfl).1))
  have HT1 := Lib.hid ht1
  have HT3 := Lib.hid ht3
  clear hb o CA HS B0 ht1 ht2 ht3
  go_wp2_with fail
  go_loopw [5, 11] (fun v i wr => ∃ k : Nat, k ≤ m ∧ i = .int .i64 k ∧ (∃ x : Int, v = .int .i64 x ∧ Hid (x = (cnt (laP t) (zs.take k)))) ∧ Hid (wr.ownsRow w.heap.size 62 9 (.slice (some ⟨g, 0, none⟩) m c) m (tls ts)) ∧ Hid (Below w.heap.size w wr)) (fun _ i _ => m - (intOf i).toNat)
  case atStart => exact ⟨0, Nat.zero_le _, rfl, ⟨_, rfl, Lib.hid rfl⟩, O2, B2⟩
  case round =>
    obtain ⟨k, hk, rfl, ⟨x, rfl, HX⟩, OK, BK⟩ := hrel
    clear O2 B2
    by_cases hlt : k < m
    · obtain ⟨u, hu9⟩ : ∃ u, ts[k]? = some u := ⟨_, List.getElem?_eq_getElem (by rw [HT3.out]; exact hlt)⟩
      obtain ⟨c0, c1, c2, c3, c4, c5, c6, c7, c8⟩ := cT OK.out hu9 hlt
      have HV := Lib.hid (map_get HT1.out hu9)
      have hj := HZ.out u.z (List.mem_of_getElem? HV.out)
      have O1 := Lib.hid (OK.out.alloc (.cells (tca u) 62))
      have B1 := Lib.hid (BK.out.alloc BK.out.size (.cells (tca u) 62))
      clear hu9 OK BK
      have hx0 := cnt_le (laP t) (zs.take k)
      have hxl : (zs.take k).length ≤ m := by rw [List.length_take, HM.out]; omega
      have hx1 : 0 ≤ x ∧ x ≤ 512 := by have := HX.out; omega
      have CC := Lib.hid (clL t pb u (wr.alloc (.cells (tca u) 62)) (B1.out.cell (p := ⟨pb, 0, none⟩) HPB.out |>.trans HPC.out))
      obtain ⟨q, hq⟩ : ∃ q, laP t u.z = q := ⟨_, rfl⟩
      have HE := Lib.hid (show (if q then x + 1 else x) = cnt (laP t) (zs.take (k + 1)) by rw [cnt_take HV.out, HX.out, hq])
      rw [hq] at CC
      clear hx0 hxl hj HX hq
      go_wp2_with fail
      refine CC.out.mono ?_
      rintro e u1 ⟨rfl, hb⟩
      have O3 := Lib.hid (owns_below O1.out hb)
      have B3 := Lib.hid (B1.out.trans (hb.mono B1.out.size))
      clear hb O1 B1 CC c0 c1 c2 c3 c4 c5 c6 c7 c8
      cases q
      · have E : Hid (x = cnt (laP t) (zs.take (k + 1))) := HE
        clear HE
        go_wp2_with fail
        go_roundw
        case rel => exact ⟨k + 1, by omega, by go_num, ⟨_, rfl, E⟩, O3, B3⟩
        case measure => simp [intOf]; omega
      · have E : Hid (x + 1 = cnt (laP t) (zs.take (k + 1))) := HE
        clear HE
        go_wp2_with fail
        go_roundw
        case rel => exact ⟨k + 1, by omega, by go_num, ⟨_, rfl, E⟩, O3, B3⟩
        case measure => simp [intOf]; omega
    · obtain rfl : k = m := by omega
      have E := Lib.hid (show x = (cnt (laP t) zs) by rw [HX.out, ← HM.out, List.take_length])
      clear OK HX
      go_wp2_with fail
      go_ret
      exact ⟨Sq.ret_int E.out, BK.out⟩

set_option maxRecDepth 100000 in
set_option maxHeartbeats 2000000 in
theorem thrownI (A0 : Option Addr) (n0 c0 : Nat) (A1 : Option Addr) (n1 c1 : Nat) (A2 : Option Addr) (n2 c2 : Nat) (T : Int) (ds : List D) (cs : List C) (gs : List G) (t : Int) (w : World) (hf : Fit n0 n1 n2 ds cs gs) (hr : SR w A0 A1 A2 ds cs gs) :
    Calls Tryz.prog 12 #[sv A0 n0 c0 A1 n1 c1 A2 n2 c2 T, .int .i64 t] w fun e w' => e = .returned (.int .i64 (cnt (thP t) (all9 ds cs gs T))) ∧ Below w.heap.size w w' := by
  have B0a := (Below.refl w.heap.size w).alloc (Nat.le_refl _) (.cells (sc A0 n0 c0 A1 n1 c1 A2 n2 c2 T) 33)
  have B0 := Lib.hid (B0a.alloc B0a.size (.cells #[.int .i64 t] 3))
  have hz : (w.alloc (.cells (sc A0 n0 c0 A1 n1 c1 A2 n2 c2 T) 33)).heap.size = w.heap.size + 1 := by simp [go_sem]
  have KT := Bk.new (w.alloc (.cells (sc A0 n0 c0 A1 n1 c1 A2 n2 c2 T) 33)) #[.int .i64 t] 3
  rw [hz] at KT
  have CC := Lib.hid (clTC A0 n0 c0 A1 n1 c1 A2 n2 c2 T ds cs gs t (w.heap.size + 1) _ hf (hr.below B0.out) (KT.cell (i := 0) rfl))
  clear hf hr B0a hz KT
  go_enter Tryz.func12, Tryz.ntmps12
  go_wp2_with fail
  refine CC.out.mono ?_
  rintro e w1 ⟨rfl, hb⟩
  have B1 := Lib.hid (B0.out.trans (hb.mono B0.out.size))
  clear hb CC B0
  go_wp2_with fail
  go_ret
  exact ⟨rfl, B1.out⟩

set_option maxRecDepth 100000 in
set_option maxHeartbeats 2000000 in
theorem landedI (A0 : Option Addr) (n0 c0 : Nat) (A1 : Option Addr) (n1 c1 : Nat) (A2 : Option Addr) (n2 c2 : Nat) (T : Int) (ds : List D) (cs : List C) (gs : List G) (t : Int) (w : World) (hf : Fit n0 n1 n2 ds cs gs) (hr : SR w A0 A1 A2 ds cs gs) :
    Calls Tryz.prog 15 #[sv A0 n0 c0 A1 n1 c1 A2 n2 c2 T, .int .i64 t] w fun e w' => e = .returned (.int .i64 (cnt (laP t) (all9 ds cs gs T))) ∧ Below w.heap.size w w' := by
  have B0a := (Below.refl w.heap.size w).alloc (Nat.le_refl _) (.cells (sc A0 n0 c0 A1 n1 c1 A2 n2 c2 T) 33)
  have B0 := Lib.hid (B0a.alloc B0a.size (.cells #[.int .i64 t] 3))
  have hz : (w.alloc (.cells (sc A0 n0 c0 A1 n1 c1 A2 n2 c2 T) 33)).heap.size = w.heap.size + 1 := by simp [go_sem]
  have KT := Bk.new (w.alloc (.cells (sc A0 n0 c0 A1 n1 c1 A2 n2 c2 T) 33)) #[.int .i64 t] 3
  rw [hz] at KT
  have CC := Lib.hid (clLC A0 n0 c0 A1 n1 c1 A2 n2 c2 T ds cs gs t (w.heap.size + 1) _ hf (hr.below B0.out) (KT.cell (i := 0) rfl))
  clear hf hr B0a hz KT
  go_enter Tryz.func15, Tryz.ntmps15
  go_wp2_with fail
  refine CC.out.mono ?_
  rintro e w1 ⟨rfl, hb⟩
  have B1 := Lib.hid (B0.out.trans (hb.mono B0.out.size))
  clear hb CC B0
  go_wp2_with fail
  go_ret
  exact ⟨rfl, B1.out⟩

set_option maxRecDepth 100000 in
set_option maxHeartbeats 4000000 in
theorem highI (A0 : Option Addr) (n0 c0 : Nat) (A1 : Option Addr) (n1 c1 : Nat) (A2 : Option Addr) (n2 c2 : Nat) (T : Int) (ds : List D) (cs : List C) (gs : List G) (w : World) (hf : Fit n0 n1 n2 ds cs gs) (hr : SR w A0 A1 A2 ds cs gs) :
    Calls Tryz.prog 17 #[sv A0 n0 c0 A1 n1 c1 A2 n2 c2 T] w fun e w' => e = .returned (.int .i64 (hi9 (all9 ds cs gs T))) ∧ Below w.heap.size w w' := by
  have B0 := Lib.hid ((Below.refl w.heap.size w).alloc (Nat.le_refl _) (.cells (sc A0 n0 c0 A1 n1 c1 A2 n2 c2 T) 33))
  have HS := Lib.hid (hr.below B0.out)
  have hu : undef = Value.tuple #[] := rfl
  obtain ⟨zs, hzs⟩ : ∃ zs, all9 ds cs gs T = zs := ⟨_, rfl⟩
  obtain ⟨m, hm⟩ : ∃ m, zs.length = m := ⟨_, rfl⟩
  have hmb : m ≤ 512 := all_len9 (by rw [hzs]; exact hm)
  have HZ := Lib.hid (show ∀ z ∈ zs, jt z.d.x z.d.y z.d.hd z.d.tl z.l = true ∧ z.b < 64 from fun z hz => z_in (by rw [hzs]; exact hz))
  have CA := Lib.hid (fun (W : World) (h : SR W A0 A1 A2 ds cs gs) => (by have := Ti9.thrownIn A0 n0 c0 A1 n1 c1 A2 n2 c2 T ds cs gs W hf h; unfold RowT at this; rw [hzs, hm] at this; exact this :
    Calls Tryz.prog 45 #[sv A0 n0 c0 A1 n1 c1 A2 n2 c2 T] W (fun e w' => ∃ g c, e = .returned (.slice (some ⟨g, 0, none⟩) m c) ∧ Thr w' W.heap.size (.slice (some ⟨g, 0, none⟩) m c) m zs ∧ Below W.heap.size W w')))
  rw [hzs]
  have HM := Lib.hid hm
  clear hf hr hzs hm
  go_enter Tryz.func17, Tryz.ntmps17
  go_wp2_with fail
  refine (CA.out _ HS.out).mono ?_
  rintro e w2 ⟨g, c, rfl, ⟨ts, ht1, ht2, ht3, o⟩, hb⟩
  have B2 := Lib.hid (B0.out.trans (hb.mono B0.out.size))
  have O2 := Lib.hid (owns_base o (Nat.le_trans B0.out.size (o.lt g rfl).1))
  have HT1 := Lib.hid ht1
  have HT3 := Lib.hid ht3
  clear hb o CA HS B0 ht1 ht2 ht3
  go_wp2_with fail
  go_loopw [3, 11] (fun v i wr => ∃ k : Nat, k ≤ m ∧ i = .int .i64 k ∧ (∃ x : Int, v = .int .i64 x ∧ Hid (x = (hi9 (zs.take k)))) ∧ Hid (wr.ownsRow w.heap.size 62 9 (.slice (some ⟨g, 0, none⟩) m c) m (tls ts)) ∧ Hid (Below w.heap.size w wr)) (fun _ i _ => m - (intOf i).toNat)
  case atStart => exact ⟨0, Nat.zero_le _, rfl, ⟨_, rfl, Lib.hid rfl⟩, O2, B2⟩
  case round =>
    obtain ⟨k, hk, rfl, ⟨x, rfl, HX⟩, OK, BK⟩ := hrel
    clear O2 B2
    by_cases hlt : k < m
    · obtain ⟨u, hu9⟩ : ∃ u, ts[k]? = some u := ⟨_, List.getElem?_eq_getElem (by rw [HT3.out]; exact hlt)⟩
      obtain ⟨c0, c1, c2, c3, c4, c5, c6, c7, c8⟩ := cT OK.out hu9 hlt
      have HV := Lib.hid (map_get HT1.out hu9)
      have hj := HZ.out u.z (List.mem_of_getElem? HV.out)
      have O1 := Lib.hid (OK.out.alloc (.cells (tca u) 62))
      have B1 := Lib.hid (BK.out.alloc BK.out.size (.cells (tca u) 62))
      clear hu9 OK BK
      have CP := Lib.hid (fun (W : World) => peakI u.z.d.x u.z.d.y u.z.d.hd u.z.d.tl u.z.l W)
      have E := Lib.hid (show max x (ph u.z) = hi9 (zs.take (k + 1)) by rw [hi_take HV.out, HX.out])
      unfold ph at E
      clear HX hj
      go_wp2_with fail
      refine (CP.out _).mono ?_
      rintro e u1 ⟨rfl, hb⟩
      have O3 := Lib.hid (owns_below O1.out hb)
      have B3 := Lib.hid (B1.out.trans (hb.mono B1.out.size))
      clear hb O1 B1 CP c0 c1 c2 c3 c4 c5 c6 c7 c8
      unfold peakV
      go_wp2_with fail
      go_roundw
      case rel => exact ⟨k + 1, by omega, by go_num, ⟨_, rfl, E⟩, O3, B3⟩
      case measure => simp [intOf]; omega
    · obtain rfl : k = m := by omega
      have E := Lib.hid (show x = (hi9 zs) by rw [HX.out, ← HM.out, List.take_length])
      clear OK HX
      go_wp2_with fail
      go_ret
      exact ⟨Sq.ret_int E.out, BK.out⟩

set_option maxRecDepth 100000 in
set_option maxHeartbeats 4000000 in
theorem waterI (A0 : Option Addr) (n0 c0 : Nat) (A1 : Option Addr) (n1 c1 : Nat) (A2 : Option Addr) (n2 c2 : Nat) (T : Int) (ds : List D) (cs : List C) (gs : List G) (w : World) (hf : Fit n0 n1 n2 ds cs gs) (hr : SR w A0 A1 A2 ds cs gs) :
    Calls Tryz.prog 19 #[sv A0 n0 c0 A1 n1 c1 A2 n2 c2 T] w fun e w' => e = .returned (.int .i64 (wat (all9 ds cs gs T))) ∧ Below w.heap.size w w' := by
  have B0 := Lib.hid ((Below.refl w.heap.size w).alloc (Nat.le_refl _) (.cells (sc A0 n0 c0 A1 n1 c1 A2 n2 c2 T) 33))
  have HS := Lib.hid (hr.below B0.out)
  have hu : undef = Value.tuple #[] := rfl
  obtain ⟨zs, hzs⟩ : ∃ zs, all9 ds cs gs T = zs := ⟨_, rfl⟩
  obtain ⟨m, hm⟩ : ∃ m, zs.length = m := ⟨_, rfl⟩
  have hmb : m ≤ 512 := all_len9 (by rw [hzs]; exact hm)
  have HZ := Lib.hid (show ∀ z ∈ zs, jt z.d.x z.d.y z.d.hd z.d.tl z.l = true ∧ z.b < 64 from fun z hz => z_in (by rw [hzs]; exact hz))
  have CA := Lib.hid (fun (W : World) (h : SR W A0 A1 A2 ds cs gs) => (by have := Ti9.thrownIn A0 n0 c0 A1 n1 c1 A2 n2 c2 T ds cs gs W hf h; unfold RowT at this; rw [hzs, hm] at this; exact this :
    Calls Tryz.prog 45 #[sv A0 n0 c0 A1 n1 c1 A2 n2 c2 T] W (fun e w' => ∃ g c, e = .returned (.slice (some ⟨g, 0, none⟩) m c) ∧ Thr w' W.heap.size (.slice (some ⟨g, 0, none⟩) m c) m zs ∧ Below W.heap.size W w')))
  rw [hzs]
  have HM := Lib.hid hm
  clear hf hr hzs hm
  go_enter Tryz.func19, Tryz.ntmps19
  go_wp2_with fail
  refine (CA.out _ HS.out).mono ?_
  rintro e w2 ⟨g, c, rfl, ⟨ts, ht1, ht2, ht3, o⟩, hb⟩
  have B2 := Lib.hid (B0.out.trans (hb.mono B0.out.size))
  have O2 := Lib.hid (owns_base o (Nat.le_trans B0.out.size (o.lt g rfl).1))
  have HT1 := Lib.hid ht1
  have HT3 := Lib.hid ht3
  clear hb o CA HS B0 ht1 ht2 ht3
  go_wp2_with fail
  go_loopw [3, 9] (fun v i wr => ∃ k : Nat, k ≤ m ∧ i = .int .i64 k ∧ (∃ x : Int, v = .int .i64 x ∧ Hid (x = (wat (zs.take k)))) ∧ Hid (wr.ownsRow w.heap.size 62 9 (.slice (some ⟨g, 0, none⟩) m c) m (tls ts)) ∧ Hid (Below w.heap.size w wr)) (fun _ i _ => m - (intOf i).toNat)
  case atStart => exact ⟨0, Nat.zero_le _, rfl, ⟨_, rfl, Lib.hid rfl⟩, O2, B2⟩
  case round =>
    obtain ⟨k, hk, rfl, ⟨x, rfl, HX⟩, OK, BK⟩ := hrel
    clear O2 B2
    by_cases hlt : k < m
    · obtain ⟨u, hu9⟩ : ∃ u, ts[k]? = some u := ⟨_, List.getElem?_eq_getElem (by rw [HT3.out]; exact hlt)⟩
      obtain ⟨c0, c1, c2, c3, c4, c5, c6, c7, c8⟩ := cT OK.out hu9 hlt
      have HV := Lib.hid (map_get HT1.out hu9)
      have hj := HZ.out u.z (List.mem_of_getElem? HV.out)
      have O1 := Lib.hid (OK.out.alloc (.cells (tca u) 62))
      have B1 := Lib.hid (BK.out.alloc BK.out.size (.cells (tca u) 62))
      clear hu9 OK BK
      have E := Lib.hid (show x + u.z.l = wat (zs.take (k + 1)) by rw [wat_take HV.out, HX.out])
      have hl9 := (jt_iff.1 hj.1).2.2.2.2
      have hx0 := wat_le (zs.take k) fun y hy => by have := (jt_iff.1 (HZ.out y (List.mem_of_mem_take hy)).1).2.2.2.2; omega
      have hxl : (zs.take k).length ≤ m := by rw [List.length_take, HM.out]; omega
      have hx1 : 0 ≤ x ∧ x ≤ 16384 := by have := HX.out; omega
      clear HX hj hx0 hxl
      go_wp2_with fail
      go_roundw
      case rel => exact ⟨k + 1, by omega, by go_num, ⟨_, rfl, E⟩, O1, B1⟩
      case measure => simp [intOf]; omega
    · obtain rfl : k = m := by omega
      have E := Lib.hid (show x = (wat zs) by rw [HX.out, ← HM.out, List.take_length])
      clear OK HX
      go_wp2_with fail
      go_ret
      exact ⟨Sq.ret_int E.out, BK.out⟩
end Go.Proofs.YtkndejjfndjcoabGreat.Tc9
