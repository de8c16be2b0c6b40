/- How many drops are thrown and have landed, how high they go, how much water they take. -/
import Derived.Test.YtokncfhpmjohdabGreatM23
import Derived.Test.YtokncfhpmjohdabGreatM24
import Derived.Lib.MinMax
set_option linter.unusedVariables false
set_option linter.unusedSimpArgs false
namespace Go.Proofs.YtokncfhpmjohdabGreat.Tn9
open Go.RowKit Go.ChangeShapes Go.WideShapes Go.WideElems Go.Deep Go.Proofs.YtokncfhpmjohdabGreat.Mem Go.Proofs.YtokncfhpmjohdabGreat.Rw Go.Proofs.YtokncfhpmjohdabGreat.P2 Go.Proofs.YtokncfhpmjohdabGreat.Bk Go.Proofs.YtokncfhpmjohdabGreat.Sp Go.Proofs.YtokncfhpmjohdabGreat.Sq Go.Proofs.YtokncfhpmjohdabGreat.Jt Go.Proofs.YtokncfhpmjohdabGreat.Cm Go.Proofs.YtokncfhpmjohdabGreat.Cx Go.Proofs.YtokncfhpmjohdabGreat.Pl
open Go.Proofs.YtokncfhpmjohdabGreat.Sv hiding D C G
open Go.Proofs.YtokncfhpmjohdabGreat.Ig (rig)
set_option linter.unusedVariables false
set_option linter.unusedSimpArgs false
open Go.Proofs.YtokncfhpmjohdabGreat.Wp (RowI rd_cell)
open Go.Proofs.YtokncfhpmjohdabGreat.Dp
open Go.Proofs.YtokncfhpmjohdabGreat.Tw9
open Go.Proofs.YtokncfhpmjohdabGreat.Tm9 (bls bls_get RowM)
abbrev tca (u : T9) : Array Value := #[.string u.z.d.nm, .int .i64 u.z.b, .int .i64 (u.z.b + (u.z.l + 1)), .int .i64 u.z.d.x, .int .i64 u.z.d.y, .int .i64 u.z.d.hd, .int .i64 u.z.d.tl, .int .i64 u.z.l, .complex .f32 u.re u.im]
abbrev bca (u : B) : Array Value := #[.string u.d.nm, .int .i64 u.b, .int .i64 u.d.x, .int .i64 u.d.y, .int .i64 u.d.hd, .int .i64 u.d.tl, .int .i64 u.l]

/-- How high a drop goes. -/
def ph (z : B) : Int := ha z.d.x z.d.y z.d.hd z.d.tl z.l (pk z.d.x z.d.y z.d.hd z.d.tl z.l)
def hi9 (zs : List B) : Int := zs.foldl (fun n z => max n (ph z)) 0
theorem hi_take {zs : List B} {k : Nat} {z : B} (h : zs[k]? = some z) : hi9 (zs.take (k + 1)) = max (hi9 (zs.take k)) (ph z) := by
  obtain ⟨hk, rfl⟩ := List.getElem?_eq_some_iff.1 h
  unfold hi9
  rw [List.take_succ_eq_append_getElem hk, List.foldl_append]; rfl
theorem all_len9 {ds : List D} {cs : List C} {gs : List G} {T : Int} {m : Nat} (h : (all9 ds cs gs T).length = m) : m ≤ 512 := by rw [← h]; exact all9_len ds cs gs T
theorem z_in {ds : List D} {cs : List C} {gs : List G} {T : Int} {z : B} (h : z ∈ all9 ds cs gs T) : jt z.d.x z.d.y z.d.hd z.d.tl z.l = true ∧ z.b < 64 := ⟨(all9_ok z h).1.1, (all9_ok z h).2⟩
theorem map_get {ts : List T9} {zs : List B} {k : Nat} {u : T9} (h : ts.map T9.z = zs) (hu : ts[k]? = some u) : zs[k]? = some u.z := by rw [← h, List.getElem?_map, hu]; rfl
theorem cB {w : World} {base g n c k : Nat} {zs : List B} {z : B} (o : w.ownsRow base 77 7 (.slice (some ⟨g, 0, none⟩) n c) n (bls zs)) (h : zs[k]? = some z) (hk : k < n) :
    w.cell? ⟨g, k * 7, none⟩ = some (.string z.d.nm) ∧ w.cell? ⟨g, k * 7 + 1, none⟩ = some (.int .i64 z.b) ∧ w.cell? ⟨g, k * 7 + 2, none⟩ = some (.int .i64 z.d.x) ∧ w.cell? ⟨g, k * 7 + 3, none⟩ = some (.int .i64 z.d.y) ∧ w.cell? ⟨g, k * 7 + 4, none⟩ = some (.int .i64 z.d.hd) ∧ w.cell? ⟨g, k * 7 + 5, none⟩ = some (.int .i64 z.d.tl) ∧ w.cell? ⟨g, k * 7 + 6, none⟩ = some (.int .i64 z.l) :=
  have g := bls_get h
  ⟨(o.cellAt (k * 7) (by omega)).trans g.1, (o.cellAt (k * 7 + 1) (by omega)).trans g.2.1, (o.cellAt (k * 7 + 2) (by omega)).trans g.2.2.1, (o.cellAt (k * 7 + 3) (by omega)).trans g.2.2.2.1, (o.cellAt (k * 7 + 4) (by omega)).trans g.2.2.2.2.1, (o.cellAt (k * 7 + 5) (by omega)).trans g.2.2.2.2.2.1, (o.cellAt (k * 7 + 6) (by omega)).trans g.2.2.2.2.2.2⟩
theorem cT {w : World} {base g n c k : Nat} {us : List T9} {u : T9} (o : w.ownsRow base 73 9 (.slice (some ⟨g, 0, none⟩) n c) n (tls us)) (h : us[k]? = some u) (hk : k < n) :
    w.cell? ⟨g, k * 9, none⟩ = some (.string u.z.d.nm) ∧ w.cell? ⟨g, k * 9 + 1, none⟩ = some (.int .i64 u.z.b) ∧ w.cell? ⟨g, k * 9 + 2, none⟩ = some (.int .i64 (u.z.b + (u.z.l + 1))) ∧ w.cell? ⟨g, k * 9 + 3, none⟩ = some (.int .i64 u.z.d.x) ∧ w.cell? ⟨g, k * 9 + 4, none⟩ = some (.int .i64 u.z.d.y) ∧ w.cell? ⟨g, k * 9 + 5, none⟩ = some (.int .i64 u.z.d.hd) ∧ w.cell? ⟨g, k * 9 + 6, none⟩ = some (.int .i64 u.z.d.tl) ∧ w.cell? ⟨g, k * 9 + 7, none⟩ = some (.int .i64 u.z.l) ∧ w.cell? ⟨g, k * 9 + 8, none⟩ = some (.complex .f32 u.re u.im) :=
  have g := tls_get h
  ⟨(o.cellAt (k * 9) (by omega)).trans g.1, (o.cellAt (k * 9 + 1) (by omega)).trans g.2.1, (o.cellAt (k * 9 + 2) (by omega)).trans g.2.2.1, (o.cellAt (k * 9 + 3) (by omega)).trans g.2.2.2.1, (o.cellAt (k * 9 + 4) (by omega)).trans g.2.2.2.2.1, (o.cellAt (k * 9 + 5) (by omega)).trans g.2.2.2.2.2.1, (o.cellAt (k * 9 + 6) (by omega)).trans g.2.2.2.2.2.2.1, (o.cellAt (k * 9 + 7) (by omega)).trans g.2.2.2.2.2.2.2.1, (o.cellAt (k * 9 + 8) (by omega)).trans g.2.2.2.2.2.2.2.2⟩
theorem l1Max (a b : Int) (w : World) : Calls Tryz.prog 41 #[.int .i64 a, .int .i64 b] w fun e w' => e = .returned (.int .i64 (max a b)) ∧ w = w' := by
  by_cases h : b < a
  · have e : max a b = a := by omega
    rw [e]
    go_enter Tryz.func41, Tryz.ntmps41
    go_wp2
    all_goals go_returns
    all_goals first | exact ⟨rfl, rfl⟩ | (exfalso; omega)
  · have e : max a b = b := by omega
    rw [e]
    go_enter Tryz.func41, Tryz.ntmps41
    go_wp2
    all_goals go_returns
    all_goals first | exact ⟨rfl, rfl⟩ | (refine ⟨?_, rfl⟩; congr 2; omega)

set_option maxRecDepth 100000 in
set_option maxHeartbeats 4000000 in
theorem highS (A0 : Option Addr) (n0 c0 : Nat) (A1 : Option Addr) (n1 c1 : Nat) (A2 : Option Addr) (n2 c2 : Nat) (T : Int) (ds : List D) (cs : List C) (gs : List G) (w : World) (hf : Fit n0 n1 n2 ds cs gs) (hr : SR w A0 A1 A2 ds cs gs) (hsz : ∀ z ∈ ds, z.nm.size ≤ 1048576 ∧ z.ln.size ≤ 1048576) (hsc : ∀ z ∈ cs, z.nm.size ≤ 1048576) :
    Calls Tryz.prog 16 #[sv A0 n0 c0 A1 n1 c1 A2 n2 c2 T] w fun e w' => e = .returned (.int .i64 (hi9 (all9 ds cs gs T))) ∧ Below w.heap.size w w' := by
  have K0 := Lib.hid (Bk.new w (sc A0 n0 c0 A1 n1 c1 A2 n2 c2 T) 28)
  have B0 := Lib.hid ((Below.refl w.heap.size w).alloc (Nat.le_refl _) (.cells (sc A0 n0 c0 A1 n1 c1 A2 n2 c2 T) 28))
  have HS := Lib.hid (hr.below B0.out)
  obtain ⟨r, hrr⟩ : ∃ r, show9 ds cs gs T = r := ⟨_, rfl⟩
  have CS := Lib.hid (fun (W : World) (h : SR W A0 A1 A2 ds cs gs) => (by have := Sw9.isShowS A0 n0 c0 A1 n1 c1 A2 n2 c2 T ds cs gs W hf h hsz hsc; rw [hrr] at this; exact this : Calls Tryz.prog 38 #[sv A0 n0 c0 A1 n1 c1 A2 n2 c2 T] W fun e w' => e = .returned (.bool r) ∧ Below W.heap.size W w'))
  have hu : undef = Value.tuple #[] := rfl
  cases r
  · rw [all9_no hrr]
    clear hf hr hrr hsz hsc
    go_enter Tryz.func16, Tryz.ntmps16
    go_wp2_with fail
    refine (CS.out _ HS.out).mono ?_
    rintro e w1 ⟨rfl, hb⟩
    have B1 := Lib.hid (B0.out.trans (hb.mono B0.out.size))
    clear hb CS HS K0 B0
    go_wp2_with fail
    go_ret
    exact ⟨rfl, B1.out⟩
  obtain ⟨zs, hzs⟩ : ∃ zs, all9 ds cs gs T = zs := ⟨_, rfl⟩
  obtain ⟨m, hm⟩ : ∃ m, zs.length = m := ⟨_, rfl⟩
  have hmb : m ≤ 512 := all_len9 (by rw [hzs]; exact hm)
  have HZ := Lib.hid (show ∀ z ∈ zs, jt z.d.x z.d.y z.d.hd z.d.tl z.l = true ∧ z.b < 64 from fun z hz => z_in (by rw [hzs]; exact hz))
  have CA := Lib.hid (fun (W : World) (h : SR W A0 A1 A2 ds cs gs) => (by have := Tm9.l9All A0 n0 c0 A1 n1 c1 A2 n2 c2 T ds cs gs W hf h hrr; unfold RowM at this; rw [hzs, hm] at this; exact this :
    Calls Tryz.prog 39 #[sv A0 n0 c0 A1 n1 c1 A2 n2 c2 T] W (fun e w' => ∃ g c, e = .returned (.slice (some ⟨g, 0, none⟩) m c) ∧ w'.ownsRow W.heap.size 77 7 (.slice (some ⟨g, 0, none⟩) m c) m (bls zs) ∧ Below W.heap.size W w')))
  rw [hzs]
  have HM := Lib.hid hm
  clear hf hr hrr hsz hsc hzs hm
  go_enter Tryz.func16, Tryz.ntmps16
  go_wp2_with fail
  refine (CS.out _ HS.out).mono ?_
  rintro e w1 ⟨rfl, hb⟩
  have B1 := Lib.hid (B0.out.trans (hb.mono B0.out.size))
  have S1 := Lib.hid (HS.out.below hb)
  have K1 := Lib.hid (K0.out.below hb)
  have b0 := K1.out.cell (i := 0) rfl
  have b1 := K1.out.cell (i := 1) rfl
  have b2 := K1.out.cell (i := 2) rfl
  have b3 := K1.out.cell (i := 3) rfl
  clear hb CS HS K0 B0 K1
  go_wp2_with fail
  refine (CA.out _ S1.out).mono ?_
  rintro e w2 ⟨g, c, rfl, o, hb⟩
  have B2 := Lib.hid (B1.out.trans (hb.mono B1.out.size))
  have O2 := Lib.hid (owns_base o (Nat.le_trans B1.out.size (o.lt g rfl).1))
  clear hb o CA S1 B1 b0 b1 b2 b3
  go_wp2_with fail
  go_loopw [3, 15] (fun v i wr => ∃ k : Nat, k ≤ m ∧ i = .int .i64 k ∧ (∃ x : Int, v = .int .i64 x ∧ Hid (x = (hi9 (zs.take k)))) ∧ Hid (wr.ownsRow w.heap.size 77 7 (.slice (some ⟨g, 0, none⟩) m c) m (bls zs)) ∧ Hid (Below w.heap.size w wr)) (fun _ i _ => m - (intOf i).toNat)
  case atStart => exact ⟨0, Nat.zero_le _, rfl, ⟨_, rfl, Lib.hid rfl⟩, O2, B2⟩
  case round =>
    obtain ⟨k, hk, rfl, ⟨x, rfl, HX⟩, OK, BK⟩ := hrel
    clear O2 B2
    by_cases hlt : k < m
    · obtain ⟨z, hz⟩ : ∃ z, zs[k]? = some z := ⟨_, List.getElem?_eq_getElem (by rw [HM.out]; exact hlt)⟩
      obtain ⟨c0, c1, c2, c3, c4, c5, c6⟩ := cB OK.out hz hlt
      have HV := Lib.hid hz
      have hj := HZ.out z (List.mem_of_getElem? hz)
      have O1 := Lib.hid (OK.out.alloc (.cells (bca z) 77))
      have B1 := Lib.hid (BK.out.alloc BK.out.size (.cells (bca z) 77))
      clear hz OK BK
      have CP := Lib.hid (fun (W : World) => peakS z.d.x z.d.y z.d.hd z.d.tl z.l W)
      have E := Lib.hid (show max x (ph z) = hi9 (zs.take (k + 1)) by rw [hi_take HV.out, HX.out])
      unfold ph at E
      clear HX hj
      go_wp2_with fail
      refine (CP.out _).mono ?_
      rintro e u1 ⟨rfl, hb⟩
      have O3 := Lib.hid (owns_below O1.out hb)
      have B3 := Lib.hid (B1.out.trans (hb.mono B1.out.size))
      clear hb O1 B1 CP c0 c1 c2 c3 c4 c5 c6
      unfold peakV
      go_wp2_with fail
      refine (l1Max _ _ _).mono ?_
      rintro e u2 ⟨rfl, hw2⟩
      cases hw2
      go_wp2_with fail
      go_roundw
      case rel => exact ⟨k + 1, by omega, by go_num, ⟨_, rfl, E⟩, O3, B3⟩
      case measure => simp [intOf]; omega
    · obtain rfl : k = m := by omega
      have E := Lib.hid (show x = (hi9 zs) by rw [HX.out, ← HM.out, List.take_length])
      clear OK HX
      go_wp2_with fail
      go_ret
      exact ⟨Sq.ret_int E.out, BK.out⟩

end Go.Proofs.YtokncfhpmjohdabGreat.Tn9
namespace Go.Proofs.YtokncfhpmjohdabGreat.Tc9
open Go.RowKit Go.ChangeShapes Go.WideShapes Go.WideElems Go.Deep Go.Proofs.YtokncfhpmjohdabGreat.Mem Go.Proofs.YtokncfhpmjohdabGreat.Rw Go.Proofs.YtokncfhpmjohdabGreat.P2 Go.Proofs.YtokncfhpmjohdabGreat.Bk Go.Proofs.YtokncfhpmjohdabGreat.Sp Go.Proofs.YtokncfhpmjohdabGreat.Sq Go.Proofs.YtokncfhpmjohdabGreat.Jt Go.Proofs.YtokncfhpmjohdabGreat.Cm Go.Proofs.YtokncfhpmjohdabGreat.Cx Go.Proofs.YtokncfhpmjohdabGreat.Pl
open Go.Proofs.YtokncfhpmjohdabGreat.Sv hiding D C G
open Go.Proofs.YtokncfhpmjohdabGreat.Ig (rig)
set_option linter.unusedVariables false
set_option linter.unusedSimpArgs false
open Go.Proofs.YtokncfhpmjohdabGreat.Dp
open Go.Proofs.YtokncfhpmjohdabGreat.Tw9
open Go.Proofs.YtokncfhpmjohdabGreat.Tn9


set_option maxRecDepth 100000 in
set_option maxHeartbeats 4000000 in
theorem highI (A0 : Option Addr) (n0 c0 : Nat) (A1 : Option Addr) (n1 c1 : Nat) (A2 : Option Addr) (n2 c2 : Nat) (T : Int) (ds : List D) (cs : List C) (gs : List G) (w : World) (hf : Fit n0 n1 n2 ds cs gs) (hr : SR w A0 A1 A2 ds cs gs) :
    Calls Tryz.prog 15 #[sv A0 n0 c0 A1 n1 c1 A2 n2 c2 T] w fun e w' => e = .returned (.int .i64 (hi9 (all9 ds cs gs T))) ∧ Below w.heap.size w w' := by
  have B0 := Lib.hid ((Below.refl w.heap.size w).alloc (Nat.le_refl _) (.cells (sc A0 n0 c0 A1 n1 c1 A2 n2 c2 T) 28))
  have HS := Lib.hid (hr.below B0.out)
  have hu : undef = Value.tuple #[] := rfl
  obtain ⟨zs, hzs⟩ : ∃ zs, all9 ds cs gs T = zs := ⟨_, rfl⟩
  obtain ⟨m, hm⟩ : ∃ m, zs.length = m := ⟨_, rfl⟩
  have hmb : m ≤ 512 := all_len9 (by rw [hzs]; exact hm)
  have HZ := Lib.hid (show ∀ z ∈ zs, jt z.d.x z.d.y z.d.hd z.d.tl z.l = true ∧ z.b < 64 from fun z hz => z_in (by rw [hzs]; exact hz))
  have CA := Lib.hid (fun (W : World) (h : SR W A0 A1 A2 ds cs gs) => (by have := Ti9.thrownIn A0 n0 c0 A1 n1 c1 A2 n2 c2 T ds cs gs W hf h; unfold RowT at this; rw [hzs, hm] at this; exact this :
    Calls Tryz.prog 37 #[sv A0 n0 c0 A1 n1 c1 A2 n2 c2 T] W (fun e w' => ∃ g c, e = .returned (.slice (some ⟨g, 0, none⟩) m c) ∧ Thr w' W.heap.size (.slice (some ⟨g, 0, none⟩) m c) m zs ∧ Below W.heap.size W w')))
  rw [hzs]
  have HM := Lib.hid hm
  clear hf hr hzs hm
  go_enter Tryz.func15, Tryz.ntmps15
  go_wp2_with fail
  refine (CA.out _ HS.out).mono ?_
  rintro e w2 ⟨g, c, rfl, ⟨ts, ht1, ht2, ht3, o⟩, hb⟩
  have B2 := Lib.hid (B0.out.trans (hb.mono B0.out.size))
  have O2 := Lib.hid (owns_base o (Nat.le_trans B0.out.size (o.lt g rfl).1))
  have HT1 := Lib.hid ht1
  have HT3 := Lib.hid ht3
  clear hb o CA HS B0 ht1 ht2 ht3
  go_wp2_with fail
  go_loopw [3, 11] (fun v i wr => ∃ k : Nat, k ≤ m ∧ i = .int .i64 k ∧ (∃ x : Int, v = .int .i64 x ∧ Hid (x = (hi9 (zs.take k)))) ∧ Hid (wr.ownsRow w.heap.size 73 9 (.slice (some ⟨g, 0, none⟩) m c) m (tls ts)) ∧ Hid (Below w.heap.size w wr)) (fun _ i _ => m - (intOf i).toNat)
  case atStart => exact ⟨0, Nat.zero_le _, rfl, ⟨_, rfl, Lib.hid rfl⟩, O2, B2⟩
  case round =>
    obtain ⟨k, hk, rfl, ⟨x, rfl, HX⟩, OK, BK⟩ := hrel
    clear O2 B2
    by_cases hlt : k < m
    · obtain ⟨u, hu9⟩ : ∃ u, ts[k]? = some u := ⟨_, List.getElem?_eq_getElem (by rw [HT3.out]; exact hlt)⟩
      obtain ⟨c0, c1, c2, c3, c4, c5, c6, c7, c8⟩ := cT OK.out hu9 hlt
      have HV := Lib.hid (map_get HT1.out hu9)
      have hj := HZ.out u.z (List.mem_of_getElem? HV.out)
      have O1 := Lib.hid (OK.out.alloc (.cells (tca u) 73))
      have B1 := Lib.hid (BK.out.alloc BK.out.size (.cells (tca u) 73))
      clear hu9 OK BK
      have CP := Lib.hid (fun (W : World) => peakI u.z.d.x u.z.d.y u.z.d.hd u.z.d.tl u.z.l W)
      have E := Lib.hid (show max x (ph u.z) = hi9 (zs.take (k + 1)) by rw [hi_take HV.out, HX.out])
      unfold ph at E
      clear HX hj
      go_wp2_with fail
      refine (CP.out _).mono ?_
      rintro e u1 ⟨rfl, hb⟩
      have O3 := Lib.hid (owns_below O1.out hb)
      have B3 := Lib.hid (B1.out.trans (hb.mono B1.out.size))
      clear hb O1 B1 CP c0 c1 c2 c3 c4 c5 c6 c7 c8
      unfold peakV
      go_wp2_with fail
      go_roundw
      case rel => exact ⟨k + 1, by omega, by go_num, ⟨_, rfl, E⟩, O3, B3⟩
      case measure => simp [intOf]; omega
    · obtain rfl : k = m := by omega
      have E := Lib.hid (show x = (hi9 zs) by rw [HX.out, ← HM.out, List.take_length])
      clear OK HX
      go_wp2_with fail
      go_ret
      exact ⟨Sq.ret_int E.out, BK.out⟩

end Go.Proofs.YtokncfhpmjohdabGreat.Tc9
