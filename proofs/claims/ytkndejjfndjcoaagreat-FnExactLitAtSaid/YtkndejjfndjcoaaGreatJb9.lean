/- JetAt of the program. -/
import Derived.Test.YtkndejjfndjcoaaGreatJa9
import Derived.Deep.DeepCutAuto
namespace Go.Proofs.YtkndejjfndjcoaaGreat.Jb9
open Go.RowKit Go.ChangeShapes Go.WideShapes Go.WideElems Go.Deep Go.Proofs.YtkndejjfndjcoaaGreat.Mem Go.Proofs.YtkndejjfndjcoaaGreat.Rw Go.Proofs.YtkndejjfndjcoaaGreat.P2 Go.Proofs.YtkndejjfndjcoaaGreat.Bk Go.Proofs.YtkndejjfndjcoaaGreat.Sp Go.Proofs.YtkndejjfndjcoaaGreat.Sq Go.Proofs.YtkndejjfndjcoaaGreat.Jt
open Go.Proofs.YtkndejjfndjcoaaGreat.Sv hiding D C G
open Go.Proofs.YtkndejjfndjcoaaGreat.Ds (sb)
open Go.Proofs.YtkndejjfndjcoaaGreat.Ig (rig)
open Go.Proofs.YtkndejjfndjcoaaGreat.Fd (fd fdN fd_cases)
open Go.Proofs.YtkndejjfndjcoaaGreat.Wp (RowI rd_cell)
set_option linter.unusedVariables false
set_option linter.unusedSimpArgs false
open Go.Proofs.YtkndejjfndjcoaaGreat.La9 Go.Proofs.YtkndejjfndjcoaaGreat.Ja9

set_option maxRecDepth 100000 in
set_option maxHeartbeats 4000000 in
theorem jetAtI (A0 : Option Addr) (n0 c0 : Nat) (A1 : Option Addr) (n1 c1 : Nat) (A2 : Option Addr) (n2 c2 : Nat) (T : Int) (ds : List D) (cs : List C) (gs : List G) (s : ByteArray) (t : Int) (w : World) (hf : Fit n0 n1 n2 ds cs gs) (hr : SR w A0 A1 A2 ds cs gs) (wt : (Lit.int .i64 t).wf = true) :
    Calls Tryz.prog 24 #[sv A0 n0 c0 A1 n1 c1 A2 n2 c2 T, .string s, .int .i64 t] w fun e w' => e = .returned (jvO (jaV ds cs gs T s t)) ∧ Below w.heap.size w w' := by
  have HS := Lib.hid hr
  have HN := Lib.hid hf.1.1
  have hb0 : n0 ≤ 1048576 := hf.1.2
  have hu : undef = Value.tuple #[] := rfl
  obtain ⟨L, hL⟩ : ∃ L, laV ds cs gs T t = L := ⟨_, rfl⟩
  obtain ⟨m, hm⟩ : ∃ m, L.length = m := ⟨_, rfl⟩
  have hmn : m ≤ n0 := by have := laV_len ds cs gs T t; rw [hL, hm, HN.out] at this; exact this
  obtain ⟨R, hR⟩ : ∃ R, jaV ds cs gs T s t = R := ⟨_, rfl⟩
  have HR0 := Lib.hid (show jaN s (ds.drop 0) (L.drop 0) = R by rw [List.drop_zero, List.drop_zero, ← hL]; exact hR)
  rw [hR]
  have CL := Lib.hid (fun (W : World) (h : SR W A0 A1 A2 ds cs gs) => (by have := liftsAtI A0 n0 c0 A1 n1 c1 A2 n2 c2 T ds cs gs t W hf h wt; unfold RowI at this; rw [hL, hm] at this; exact this :
    Calls Tryz.prog 11 #[sv A0 n0 c0 A1 n1 c1 A2 n2 c2 T, .int .i64 t] W (fun e w' => ∃ g c, e = .returned (.slice (some ⟨g, 0, none⟩) m c) ∧ w'.ownsRow W.heap.size 3 1 (.slice (some ⟨g, 0, none⟩) m c) m (ints L) ∧ Below W.heap.size W w')))
  have hz : (w.alloc (.cells (sc A0 n0 c0 A1 n1 c1 A2 n2 c2 T) 34)).heap.size = w.heap.size + 1 := by simp [go_sem]
  have B0a := (Below.refl w.heap.size w).alloc (Nat.le_refl _) (.cells (sc A0 n0 c0 A1 n1 c1 A2 n2 c2 T) 34)
  have B0 := Lib.hid (B0a.alloc B0a.size (.cells zj 50))
  have K0 := Lib.hid ((Bk.new w (sc A0 n0 c0 A1 n1 c1 A2 n2 c2 T) 34).alloc (o := .cells zj 50))
  have KR0 := Bk.new (w.alloc (.cells (sc A0 n0 c0 A1 n1 c1 A2 n2 c2 T) 34)) zj 50
  rw [hz] at KR0
  have KR := Lib.hid KR0
  have HM := Lib.hid hm
  have hb9 : w.heap.size < w.heap.size + 1 := by omega
  have b0 := K0.out.cell (i := 0) rfl
  have b1 := K0.out.cell (i := 1) rfl
  have b2 := K0.out.cell (i := 2) rfl
  have b3 := K0.out.cell (i := 3) rfl
  clear hr hf wt hL hm hR hz B0a KR0
  go_enter Tryz.func24, Tryz.ntmps24
  go_wp2_with fail
  refine (CL.out _ (HS.out.below B0.out)).mono ?_
  rintro e w1 ⟨g, c, rfl, o, hb⟩
  have B1 := Lib.hid (B0.out.trans (hb.mono B0.out.size))
  have K1 := Lib.hid (K0.out.below hb)
  have KR1 := Lib.hid (KR.out.below hb)
  have O1 := Lib.hid (owns_base o (Nat.le_trans B0.out.size (o.lt g rfl).1))
  clear hb o CL K0 KR B0 b0 b1 b2 b3 hb9
  go_wp2_with fail
  go_loopw [14] (fun i wr => ∃ k : Nat, k ≤ m ∧ i = .int .i64 k ∧ Hid (jaN s (ds.drop k) (L.drop k) = R) ∧ Hid (wr.ownsRow w.heap.size 3 1 (.slice (some ⟨g, 0, none⟩) m c) m (ints L)) ∧ Hid (Bk wr w.heap.size (sc A0 n0 c0 A1 n1 c1 A2 n2 c2 T) 34) ∧ Hid (Bk wr (w.heap.size + 1) zj 50) ∧ Hid (Below w.heap.size w wr)) (fun i _ => m - (intOf i).toNat)
  case atStart => exact ⟨0, Nat.zero_le _, rfl, HR0, O1, K1, KR1, B1⟩
  case round =>
    obtain ⟨k, hk, rfl, HK, OK, KK, KQ, BK⟩ := hrel
    clear HR0 O1 K1 KR1 B1
    by_cases hlt : k < m
    · obtain ⟨x, hx⟩ : ∃ x, L[k]? = some x := ⟨_, List.getElem?_eq_getElem (by rw [HM.out]; exact hlt)⟩
      obtain ⟨z, hz⟩ : ∃ z, ds[k]? = some z := ⟨_, List.getElem?_eq_getElem (by rw [HN.out]; omega)⟩
      have HZ := Lib.hid hz
      have HD := Lib.hid (HK.out.symm.trans (jaN_drop (s := s) hz hx))
      have cL : wr.cell? ⟨g, k, none⟩ = some (.int .i64 x) := (OK.out.cellAt k (by omega)).trans (by unfold ints; rw [List.getElem?_map, hx]; rfl)
      have CJ := Lib.hid (fun (W : World) => jetOf z x W)
      clear hz hx HK
      obtain ⟨dn, dk, dl, dx, dy, dh, dt, dm⟩ := z
      obtain ⟨bD, oD, eA, hbl, hcell⟩ := (HS.out.1.below BK.out).get (k := k * 8) (by rw [Dd.dls_len, HN.out]; omega)
      obtain ⟨z0, z1, z2, z3, z4, z5, z6, z7⟩ := Dd.dls_get HZ.out
      have v0 := hcell (k * 8) _ z0
      have v1 := hcell (k * 8 + 1) _ z1
      rw [← Nat.add_assoc] at v1
      have v2 := hcell (k * 8 + 2) _ z2
      rw [← Nat.add_assoc] at v2
      have v3 := hcell (k * 8 + 3) _ z3
      rw [← Nat.add_assoc] at v3
      have v4 := hcell (k * 8 + 4) _ z4
      rw [← Nat.add_assoc] at v4
      have v5 := hcell (k * 8 + 5) _ z5
      rw [← Nat.add_assoc] at v5
      have v6 := hcell (k * 8 + 6) _ z6
      rw [← Nat.add_assoc] at v6
      have v7 := hcell (k * 8 + 7) _ z7
      rw [← Nat.add_assoc] at v7
      clear hcell hbl z0 z1 z2 z3 z4 z5 z6 z7
      subst eA
      have b0 := KK.out.cell (i := 0) rfl
      cases hs : sb dn s
      · have hs2 : (dn.toList == s.toList) = false := hs
        have HN2 := Lib.hid (show jaN s (ds.drop (k + 1)) (L.drop (k + 1)) = R by rw [HD.out, if_neg (fun q => by have := q.1; rw [show sb dn s = false from hs] at this; cases this)])
        clear hs HD
        go_wp2_with fail
        go_roundw
        case rel => exact ⟨k + 1, by omega, by go_num, HN2, OK, KK, KQ, BK⟩
        case measure => simp [intOf]; omega
      · have hs2 : (dn.toList == s.toList) = true := hs
        by_cases hx0 : x = 0
        · have HN2 := Lib.hid (show jaN s (ds.drop (k + 1)) (L.drop (k + 1)) = R by rw [HD.out, if_neg (fun q => q.2 hx0)])
          subst hx0
          clear hs HD
          go_wp2_with fail
          go_roundw
          case rel => exact ⟨k + 1, by omega, by go_num, HN2, OK, KK, KQ, BK⟩
          case measure => simp [intOf]; omega
        · have HE := Lib.hid (show R = some (⟨dn, dk, dl, dx, dy, dh, dt, dm⟩, x) by rw [HD.out, if_pos ⟨hs, hx0⟩])
          clear hs HD
          go_wp2_with fail
          refine (CJ.out _).mono ?_
          rintro e u1 ⟨rfl, hb⟩
          have KU := KQ.out.below hb
          have BU := BK.out.trans (hb.mono BK.out.size)
          have r0 := KU.cell (i := 0) rfl
          have q0 := KU.frozen 0
          have r1 := KU.cell (i := 1) rfl
          have q1 := KU.frozen 1
          have r2 := KU.cell (i := 2) rfl
          have q2 := KU.frozen 2
          have r3 := KU.cell (i := 3) rfl
          have q3 := KU.frozen 3
          have r4 := KU.cell (i := 4) rfl
          have q4 := KU.frozen 4
          clear hb OK KK KQ BK CJ v0 v1 v2 v3 v4 v5 v6 v7 cL b0
          go_wp2_with fail
          have KX := (((((KU.set (i := 0) (v := .int .i64 dx)).set (i := 1) (v := .int .i64 dy)).set (i := 2) (v := .int .i64 dh)).set (i := 3) (v := .int .i64 dt)).set (i := 4) (v := .int .i64 x))
          have s0 := KX.cell (i := 0) rfl
          have s1 := KX.cell (i := 1) rfl
          have s2 := KX.cell (i := 2) rfl
          have s3 := KX.cell (i := 3) rfl
          have s4 := KX.cell (i := 4) rfl
          have BX := BU.grown (grown_trans (grown_trans (grown_trans (grown_trans (Bk.setG _ (w.heap.size + 1) 0 (.int .i64 dx)) (Bk.setG _ (w.heap.size + 1) 1 (.int .i64 dy))) (Bk.setG _ (w.heap.size + 1) 2 (.int .i64 dh))) (Bk.setG _ (w.heap.size + 1) 3 (.int .i64 dt))) (Bk.setG _ (w.heap.size + 1) 4 (.int .i64 x))) BU.size (fun z9 e9 => by have e9 := Option.some.inj e9; omega)
          refine bodyPost_ret (v := jvO (some (⟨dn, dk, dl, dx, dy, dh, dt, dm⟩, x))) (by simp [results, Tryz.results24, go_sem, s0, s1, s2, s3, s4]; try rfl) rfl ?_
          exact ⟨by rw [HE.out], BX⟩
    · obtain rfl : k = m := by omega
      have HE := Lib.hid (show R = none by rw [← HK.out]; exact jaN_end (by rw [HM.out]; exact Nat.le_refl _))
      have KU := KQ.out
      have BU := BK.out
      have r0 := KU.cell (i := 0) rfl
      have q0 := KU.frozen 0
      have r1 := KU.cell (i := 1) rfl
      have q1 := KU.frozen 1
      have r2 := KU.cell (i := 2) rfl
      have q2 := KU.frozen 2
      have r3 := KU.cell (i := 3) rfl
      have q3 := KU.frozen 3
      have r4 := KU.cell (i := 4) rfl
      have q4 := KU.frozen 4
      clear OK KK KQ BK HK
      go_wp2_with fail
      have KX := (((((KU.set (i := 0) (v := .int .i64 0)).set (i := 1) (v := .int .i64 0)).set (i := 2) (v := .int .i64 0)).set (i := 3) (v := .int .i64 0)).set (i := 4) (v := .int .i64 0))
      have s0 := KX.cell (i := 0) rfl
      have s1 := KX.cell (i := 1) rfl
      have s2 := KX.cell (i := 2) rfl
      have s3 := KX.cell (i := 3) rfl
      have s4 := KX.cell (i := 4) rfl
      have BX := BU.grown (grown_trans (grown_trans (grown_trans (grown_trans (Bk.setG _ (w.heap.size + 1) 0 (.int .i64 0)) (Bk.setG _ (w.heap.size + 1) 1 (.int .i64 0))) (Bk.setG _ (w.heap.size + 1) 2 (.int .i64 0))) (Bk.setG _ (w.heap.size + 1) 3 (.int .i64 0))) (Bk.setG _ (w.heap.size + 1) 4 (.int .i64 0))) BU.size (fun z9 e9 => by have e9 := Option.some.inj e9; omega)
      refine bodyPost_ret (v := jvO none) (by simp [results, Tryz.results24, go_sem, s0, s1, s2, s3, s4]; try rfl) rfl ?_
      exact ⟨by rw [HE.out], BX⟩
end Go.Proofs.YtkndejjfndjcoaaGreat.Jb9
