/- LitAt of the program. -/
import Derived.Test.YtkndejjfndjcoaaGreatLt9
namespace Go.Proofs.YtkndejjfndjcoaaGreat.Lu9
open Go.RowKit Go.ChangeShapes Go.WideShapes Go.WideElems Go.Deep Go.Proofs.YtkndejjfndjcoaaGreat.Mem Go.Proofs.YtkndejjfndjcoaaGreat.Rw Go.Proofs.YtkndejjfndjcoaaGreat.P2 Go.Proofs.YtkndejjfndjcoaaGreat.Bk Go.Proofs.YtkndejjfndjcoaaGreat.Sp Go.Proofs.YtkndejjfndjcoaaGreat.Sq Go.Proofs.YtkndejjfndjcoaaGreat.Jt
open Go.Proofs.YtkndejjfndjcoaaGreat.Sv hiding D C G
open Go.Proofs.YtkndejjfndjcoaaGreat.Ds (sb)
open Go.Proofs.YtkndejjfndjcoaaGreat.Ig (rig)
open Go.Proofs.YtkndejjfndjcoaaGreat.Fd (fd fdN fd_cases)
open Go.Proofs.YtkndejjfndjcoaaGreat.Wp (RowI rd_cell)
set_option linter.unusedVariables false
set_option linter.unusedSimpArgs false
open Go.Proofs.YtkndejjfndjcoaaGreat.La9 Go.Proofs.YtkndejjfndjcoaaGreat.Ja9 Go.Proofs.YtkndejjfndjcoaaGreat.Lt9
open Go.Proofs.YtkndejjfndjcoaaGreat.Strs (infoStr)

set_option maxRecDepth 100000 in
set_option maxHeartbeats 4000000 in
theorem litI (A0 : Option Addr) (n0 c0 : Nat) (A1 : Option Addr) (n1 c1 : Nat) (A2 : Option Addr) (n2 c2 : Nat) (T : Int) (ds : List D) (cs : List C) (gs : List G) (t : Int) (w : World) (hf : Fit n0 n1 n2 ds cs gs) (hr : SR w A0 A1 A2 ds cs gs) (wt : (Lit.int .i64 t).wf = true) :
    Calls Tryz.prog 27 #[sv A0 n0 c0 A1 n1 c1 A2 n2 c2 T, .int .i64 t] w (RowS w (litV ds cs gs T t ds)) := by
  obtain ⟨i0, hi, hz0, hz1, hz2⟩ := info_of infoStr
  have HS := Lib.hid hr
  have HN := Lib.hid hf.1.1
  have hb0 : n0 ≤ 1048576 := hf.1.2
  have hu : undef = Value.tuple #[] := rfl
  have CJ := Lib.hid (fun (s : ByteArray) (W : World) (h : SR W A0 A1 A2 ds cs gs) => Jb9.jetAtI A0 n0 c0 A1 n1 c1 A2 n2 c2 T ds cs gs s t W hf h wt)
  have hz : (w.alloc (.cells (sc A0 n0 c0 A1 n1 c1 A2 n2 c2 T) 34)).heap.size = w.heap.size + 1 := by simp [go_sem]
  have B0a := (Below.refl w.heap.size w).alloc (Nat.le_refl _) (.cells (sc A0 n0 c0 A1 n1 c1 A2 n2 c2 T) 34)
  have B0 := Lib.hid (B0a.alloc B0a.size (.cells #[] 9))
  have K0 := Lib.hid ((Bk.new w (sc A0 n0 c0 A1 n1 c1 A2 n2 c2 T) 34).alloc (o := .cells #[] 9))
  have R0 := World.ownsRow_lit (base := w.heap.size) (e := 9) (size := 1) (w.alloc (.cells (sc A0 n0 c0 A1 n1 c1 A2 n2 c2 T) 34)) #[] 0 B0a.size (Nat.zero_le _) rfl
  rw [hz] at R0
  have R0 := Lib.hid R0
  have hb9 : w.heap.size < w.heap.size + 1 := by omega
  have b0 := K0.out.cell (i := 0) rfl
  clear hr hf wt hz B0a
  go_enter Tryz.func27, Tryz.ntmps27
  go_wp2_with fail
  clear b0
  go_loopw [5, 14] (fun v i wr => ∃ k q g c : Nat, k ≤ n0 ∧ i = .int .i64 k ∧ v = .slice (some ⟨g, 0, none⟩) q c ∧ Hid ((litV ds cs gs T t (ds.take k)).length = q) ∧ Hid (wr.ownsRow w.heap.size 9 1 (.slice (some ⟨g, 0, none⟩) q c) q (Strs.strs (litV ds cs gs T t (ds.take k)))) ∧ Hid (Bk wr w.heap.size (sc A0 n0 c0 A1 n1 c1 A2 n2 c2 T) 34) ∧ Hid (Below w.heap.size w wr)) (fun _ i _ => n0 - (intOf i).toNat)
  case atStart => exact ⟨0, 0, _, _, Nat.zero_le _, rfl, rfl, Lib.hid rfl, R0, K0, B0⟩
  case round =>
    obtain ⟨k, q, g, c, hk, rfl, rfl, QL, RK, KK, BK⟩ := hrel
    clear R0 K0 B0
    by_cases hlt : k < n0
    · obtain ⟨z, hz⟩ : ∃ z, ds[k]? = some z := ⟨_, List.getElem?_eq_getElem (by rw [HN.out]; exact hlt)⟩
      have HZ := Lib.hid hz
      clear hz
      obtain ⟨dn, dk, dl, dx, dy, dh, dt, dm⟩ := z
      obtain ⟨bD, oD, eA, hbl, hcell⟩ := (HS.out.1.below BK.out).get (k := k * 8) (by rw [Dd.dls_len, HN.out]; omega)
      obtain ⟨z0, z1, z2, z3, z4, z5, z6, z7⟩ := Dd.dls_get HZ.out
      have v0 := hcell (k * 8) _ z0
      have v1 := hcell (k * 8 + 1) _ z1
      rw [← Nat.add_assoc] at v1
      have v2 := hcell (k * 8 + 2) _ z2
      rw [← Nat.add_assoc] at v2
      have v3 := hcell (k * 8 + 3) _ z3
      rw [← Nat.add_assoc] at v3
      have v4 := hcell (k * 8 + 4) _ z4
      rw [← Nat.add_assoc] at v4
      have v5 := hcell (k * 8 + 5) _ z5
      rw [← Nat.add_assoc] at v5
      have v6 := hcell (k * 8 + 6) _ z6
      rw [← Nat.add_assoc] at v6
      have v7 := hcell (k * 8 + 7) _ z7
      rw [← Nat.add_assoc] at v7
      clear hcell hbl z0 z1 z2 z3 z4 z5 z6 z7
      subst eA
      have K1 := Lib.hid (KK.out.alloc (o := (.cells (Dd.ca dn dk dl dx dy dh dt dm) 86)))
      have R1 := Lib.hid (RK.out.alloc (.cells (Dd.ca dn dk dl dx dy dh dt dm) 86))
      have B1 := Lib.hid (BK.out.alloc BK.out.size (.cells (Dd.ca dn dk dl dx dy dh dt dm) 86))
      have P1 := Lib.hid (Bk.new wr (Dd.ca dn dk dl dx dy dh dt dm) 86)
      have b0 := KK.out.cell (i := 0) rfl
      have b1 := KK.out.cell (i := 1) rfl
      have b2 := KK.out.cell (i := 2) rfl
      have b3 := KK.out.cell (i := 3) rfl
      have hbl : w.heap.size < wr.heap.size := KK.out.lt
      have CK := Lib.hid (CJ.out dl)
      obtain ⟨ax, ay, ah, at9, al, hjv⟩ := jvO_form (jaV ds cs gs T dl t)
      rw [hjv] at CK
      obtain ⟨rb, hrb⟩ : ∃ rb, litB ds cs gs T t ⟨dn, dk, dl, dx, dy, dh, dt, dm⟩ = rb := ⟨_, rfl⟩
      rw [show (jaV ds cs gs T dl t).isSome = rb from hrb] at CK
      have HB := Lib.hid hrb
      clear hjv hrb KK RK BK
      go_wp2_with fail
      refine (CK.out _ (HS.out.below B1.out)).mono ?_
      rintro e u1 ⟨rfl, hb⟩
      have KU := Lib.hid ((K1.out.below hb).alloc (o := .cells #[.int .i64 ax, .int .i64 ay, .int .i64 ah, .int .i64 at9, .int .i64 al] 50))
      have RU := Lib.hid ((owns_below R1.out hb).alloc (.cells #[.int .i64 ax, .int .i64 ay, .int .i64 ah, .int .i64 at9, .int .i64 al] 50))
      have BUa := B1.out.trans (hb.mono B1.out.size)
      have BU := Lib.hid (BUa.alloc BUa.size (.cells #[.int .i64 ax, .int .i64 ay, .int .i64 ah, .int .i64 at9, .int .i64 al] 50))
      have PU := P1.out.below hb
      have d0 := PU.cell (i := 0) rfl
      have hdl : wr.heap.size < u1.heap.size := PU.lt
      clear hb K1 R1 B1 P1 CK b0 b1 b2 b3 v0 v1 v2 v3 v4 v5 v6 v7 PU BUa
      cases rb
      · have QN := Lib.hid (lit_no HZ.out HB.out)
        go_wp2_with fail
        go_roundw
        case rel => exact ⟨k + 1, q, g, c, by omega, by go_num, rfl, by rw [QN.out]; exact QL, by rw [QN.out]; exact RU, KU, BU⟩
        case measure => simp [intOf]; omega
      · have QY := Lib.hid (lit_yes HZ.out HB.out)
        have hown := RU.out.alloc
        have HW := Lib.hid BU.out.size
        have lg : w.heap.size ≤ g := (RU.out.lt g rfl).1
        have nB : g ≠ w.heap.size := fun e => own_ne RU.out KU.out (by decide) (by rw [e]; rfl)
        have hq : q ≤ 1048576 := by have := lit_len ds cs gs T t (ds.take k); have := QL.out; have := List.length_take_le k ds; have := HN.out; omega
        go_wp2_with (at_builtin; refine wpList_append_own _ rfl _ _ 55 rfl w.heap.size 9 i0 (.string ByteArray.empty) 1 16 Tryz.underlying55 hi hz0 hz1 hz2 rfl (by decide) _ _ _ rfl (hown _) ⟨u1.heap.size + 1, 0, none⟩ 1 1 [.string dn] rfl rfl (by intro j u hj; match j, hj with | 0, hj => simp at hj; subst hj; simp [Addr.add, go_sem]) (by intro u hu; simp at hu; subst hu; rfl) (by unfold maxLen; omega) (by omega) (by have := HW.out; simp; omega) ?_)
        intro v' w5 hown' hgrow hnil
        have hgr : ((u1.alloc (.cells #[.int .i64 ax, .int .i64 ay, .int .i64 ah, .int .i64 at9, .int .i64 al] 50)).alloc (.cells #[.string dn] 9)).grownBy w5 (some g) := hgrow
        rw [strs_snoc, ← QY.out] at hown'
        obtain ⟨g5, c5, rfl⟩ := own_mk hown'
        have R6 := Lib.hid hown'
        have Q6 := Lib.hid (show (litV ds cs gs T t (ds.take (k + 1))).length = q + 1 by rw [QY.out, List.length_append, QL.out]; rfl)
        have B6 := Lib.hid ((BU.out.alloc BU.out.size (.cells #[.string dn] 9)).grown hgr (BU.out.alloc BU.out.size (.cells #[.string dn] 9)).size (fun z9 e9 => by have e9 := Option.some.inj e9; omega))
        have K6 := Lib.hid ((KU.out.alloc (o := .cells #[.string dn] 9)).grown hgr (fun e => by have e := Option.some.inj e; omega))
        clear hown' hgrow hgr hnil hown RU BU KU HW QL QY d0
        go_wp2_with fail
        go_roundw
        case rel => exact ⟨k + 1, q + 1, g5, c5, by omega, by go_num, rfl, Q6, R6, K6, B6⟩
        case measure => simp [intOf]; omega
    · obtain rfl : k = n0 := by omega
      have ht : ds.take k = ds := by rw [← HN.out, List.take_length]
      rw [ht] at RK QL
      clear KK ht
      go_wp2_with fail
      go_ret
      exact row_of QL.out RK.out BK.out
end Go.Proofs.YtkndejjfndjcoaaGreat.Lu9
