/- LitAt of the program. -/
import Derived.Test.YtdkihpnckkfneaaGreatLt9
namespace Go.Proofs.YtdkihpnckkfneaaGreat.Lu9
open Go.RowKit Go.ChangeShapes Go.WideShapes Go.WideElems Go.Deep Go.Proofs.YtdkihpnckkfneaaGreat.Mem Go.Proofs.YtdkihpnckkfneaaGreat.Rw Go.Proofs.YtdkihpnckkfneaaGreat.P2 Go.Proofs.YtdkihpnckkfneaaGreat.Bk Go.Proofs.YtdkihpnckkfneaaGreat.Sp Go.Proofs.YtdkihpnckkfneaaGreat.Sq Go.Proofs.YtdkihpnckkfneaaGreat.Jt
open Go.Proofs.YtdkihpnckkfneaaGreat.Sv hiding D C G
open Go.Proofs.YtdkihpnckkfneaaGreat.Ds (sb)
open Go.Proofs.YtdkihpnckkfneaaGreat.Ig (rig)
open Go.Proofs.YtdkihpnckkfneaaGreat.Fd (fd fdN fd_cases)
open Go.Proofs.YtdkihpnckkfneaaGreat.Wp (RowI rd_cell)
set_option linter.unusedVariables false
set_option linter.unusedSimpArgs false
open Go.Proofs.YtdkihpnckkfneaaGreat.La9 Go.Proofs.YtdkihpnckkfneaaGreat.Ja9 Go.Proofs.YtdkihpnckkfneaaGreat.Lt9
open Go.Proofs.YtdkihpnckkfneaaGreat.Strs (infoStr)

set_option maxRecDepth 100000 in
set_option maxHeartbeats 4000000 in
theorem litI (A0 : Option Addr) (n0 c0 : Nat) (A1 : Option Addr) (n1 c1 : Nat) (A2 : Option Addr) (n2 c2 : Nat) (T : Int) (ds : List D) (cs : List C) (gs : List G) (t : Int) (w : World) (hf : Fit n0 n1 n2 ds cs gs) (hr : SR w A0 A1 A2 ds cs gs) (wt : (Lit.int .i64 t).wf = true) :
    Calls Tryz.prog 11 #[sv A0 n0 c0 A1 n1 c1 A2 n2 c2 T, .int .i64 t] w (RowS w (litV ds cs gs T t ds)) := by
  obtain ⟨i0, hi, hz0, hz1, hz2⟩ := info_of infoStr
  have HS := Lib.hid hr
  have HN := Lib.hid hf.1.1
  have hb0 : n0 ≤ 1048576 := hf.1.2
  have hu : undef = Value.tuple #[] := rfl
  have CJ := Lib.hid (fun (s : ByteArray) (W : World) (h : SR W A0 A1 A2 ds cs gs) => Jb9.jetAtI A0 n0 c0 A1 n1 c1 A2 n2 c2 T ds cs gs s t W hf h wt)
  have hz : (w.alloc (.cells (sc A0 n0 c0 A1 n1 c1 A2 n2 c2 T) 28)).heap.size = w.heap.size + 1 := by simp [go_sem]
  have B0a := (Below.refl w.heap.size w).alloc (Nat.le_refl _) (.cells (sc A0 n0 c0 A1 n1 c1 A2 n2 c2 T) 28)
  have B0 := Lib.hid (B0a.alloc B0a.size (.cells #[] 9))
  have K0 := Lib.hid ((Bk.new w (sc A0 n0 c0 A1 n1 c1 A2 n2 c2 T) 28).alloc (o := .cells #[] 9))
  have R0 := World.ownsRow_lit (base := w.heap.size) (e := 9) (size := 1) (w.alloc (.cells (sc A0 n0 c0 A1 n1 c1 A2 n2 c2 T) 28)) #[] 0 B0a.size (Nat.zero_le _) rfl
  rw [hz] at R0
  have R0 := Lib.hid R0
  have hb9 : w.heap.size < w.heap.size + 1 := by omega
  have b0 := K0.out.cell (i := 0) rfl
  clear hr hf wt hz B0a
  go_enter Tryz.func11, Tryz.ntmps11
  go_wp2_with fail
  clear b0
  go_loopw [5, 14] (fun v i wr => ∃ k q g c : Nat, k ≤ n0 ∧ i = .int .i64 k ∧ v = .slice (some ⟨g, 0, none⟩) q c ∧ Hid ((litV ds cs gs T t (ds.take k)).length = q) ∧ Hid (wr.ownsRow w.heap.size 9 1 (.slice (some ⟨g, 0, none⟩) q c) q (Strs.strs (litV ds cs gs T t (ds.take k)))) ∧ Hid (Bk wr w.heap.size (sc A0 n0 c0 A1 n1 c1 A2 n2 c2 T) 28) ∧ Hid (Below w.heap.size w wr)) (fun _ i _ => n0 - (intOf i).toNat)
  case atStart => exact ⟨0, 0, _, _, Nat.zero_le _, rfl, rfl, Lib.hid rfl, R0, K0, B0⟩
  case round =>
    obtain ⟨k, q, g, c, hk, rfl, rfl, QL, RK, KK, BK⟩ := hrel
    clear R0 K0 B0
    by_cases hlt : k < n0
    · obtain ⟨z, hz⟩ : ∃ z, ds[k]? = some z := ⟨_, List.getElem?_eq_getElem (by rw [HN.out]; exact hlt)⟩
      have HZ := Lib.hid hz
      clear hz
      obtain ⟨dn, dk, dl, dx, dy, dh, dt, dm⟩ := z
      obtain ⟨bD, oD, eA, hbl, hcell⟩ := (HS.out.1.below BK.out).get (k := k * 8) (by rw [Dd.dls_len, HN.out]; omega)
      obtain ⟨z0, z1, z2, z3, z4, z5, z6, z7⟩ := Dd.dls_get HZ.out
      have v0 := hcell (k * 8) _ z0
      have v1 := hcell (k * 8 + 1) _ z1
      rw [← Nat.add_assoc] at v1
      have v2 := hcell (k * 8 + 2) _ z2
      rw [← Nat.add_assoc] at v2
      have v3 := hcell (k * 8 + 3) _ z3
      rw [← Nat.add_assoc] at v3
      have v4 := hcell (k * 8 + 4) _ z4
      rw [← Nat.add_assoc] at v4
      have v5 := hcell (k * 8 + 5) _ z5
      rw [← Nat.add_assoc] at v5
      have v6 := hcell (k * 8 + 6) _ z6
      rw [← Nat.add_assoc] at v6
      have v7 := hcell (k * 8 + 7) _ z7
      rw [← Nat.add_assoc] at v7
      clear hcell hbl z0 z1 z2 z3 z4 z5 z6 z7
      subst eA
      have K1 := Lib.hid (KK.out.alloc (o := (.cells (Dd.ca dn dk dl dx dy dh dt dm) 36)))
      have R1 := Lib.hid (RK.out.alloc (.cells (Dd.ca dn dk dl dx dy dh dt dm) 36))
      have B1 := Lib.hid (BK.out.alloc BK.out.size (.cells (Dd.ca dn dk dl dx dy dh dt dm) 36))
      have P1 := Lib.hid (Bk.new wr (Dd.ca dn dk dl dx dy dh dt dm) 36)
      have b0 := KK.out.cell (i := 0) rfl
      have b1 := KK.out.cell (i := 1) rfl
      have b2 := KK.out.cell (i := 2) rfl
      have b3 := KK.out.cell (i := 3) rfl
      have hbl : w.heap.size < wr.heap.size := KK.out.lt
      have CK := Lib.hid (CJ.out dl)
      obtain ⟨ax, ay, ah, at9, al, hjv⟩ := jvO_form (jaV ds cs gs T dl t)
      rw [hjv] at CK
      obtain ⟨rb, hrb⟩ : ∃ rb, litB ds cs gs T t ⟨dn, dk, dl, dx, dy, dh, dt, dm⟩ = rb := ⟨_, rfl⟩
      rw [show (jaV ds cs gs T dl t).isSome = rb from hrb] at CK
      have HB := Lib.hid hrb
      clear hjv hrb KK RK BK
      go_wp2_with fail
      refine (CK.out _ (HS.out.below B1.out)).mono ?_
      rintro e u1 ⟨rfl, hb⟩
      have KU := Lib.hid ((K1.out.below hb).alloc (o := .cells #[.int .i64 ax, .int .i64 ay, .int .i64 ah, .int .i64 at9, .int .i64 al] 43))
      have RU := Lib.hid ((owns_below R1.out hb).alloc (.cells #[.int .i64 ax, .int .i64 ay, .int .i64 ah, .int .i64 at9, .int .i64 al] 43))
      have BUa := B1.out.trans (hb.mono B1.out.size)
      have BU := Lib.hid (BUa.alloc BUa.size (.cells #[.int .i64 ax, .int .i64 ay, .int .i64 ah, .int .i64 at9, .int .i64 al] 43))
      have PU := P1.out.below hb
      have d0 := PU.cell (i := 0) rfl
      have hdl : wr.heap.size < u1.heap.size := PU.lt
      clear hb K1 R1 B1 P1 CK b0 b1 b2 b3 v0 v1 v2 v3 v4 v5 v6 v7 PU BUa
      cases rb
      · have QN := Lib.hid (lit_no HZ.out HB.out)
        go_wp2_with fail
        go_roundw
        case rel => exact ⟨k + 1, q, g, c, by omega, by go_num, rfl, by rw [QN.out]; exact QL, by rw [QN.out]; exact RU, KU, BU⟩
        case measure => simp [intOf]; omega
      · have QY := Lib.hid (lit_yes HZ.out HB.out)
        have hown := RU.out.alloc
        have HW := Lib.hid BU.out.size
        have lg : w.heap.size ≤ g := (RU.out.lt g rfl).1
        have nB : g ≠ w.heap.size := fun e => own_ne RU.out KU.out (by decide) (by rw [e]; rfl)
        have hq : q ≤ 1048576 := by have := lit_len ds cs gs T t (ds.take k); have := QL.out; have := List.length_take_le k ds; have := HN.out; omega
        go_wp2_with (at_builtin; refine wpList_append_own _ rfl _ _ 40 rfl w.heap.size 9 i0 (.string ByteArray.empty) 1 16 Tryz.underlying40 hi hz0 hz1 hz2 rfl (by decide) _ _ _ rfl (hown _) ⟨u1.heap.size + 1, 0, none⟩ 1 1 [.string dn] rfl rfl (by intro j u hj; match j, hj with | 0, hj => simp at hj; subst hj; simp [Addr.add, go_sem]) (by intro u hu; simp at hu; subst hu; rfl) (by unfold maxLen; omega) (by omega) (by have := HW.out; simp; omega) ?_)
        intro v' w5 hown' hgrow hnil
        have hgr : ((u1.alloc (.cells #[.int .i64 ax, .int .i64 ay, .int .i64 ah, .int .i64 at9, .int .i64 al] 43)).alloc (.cells #[.string dn] 9)).grownBy w5 (some g) := hgrow
        rw [strs_snoc, ← QY.out] at hown'
        obtain ⟨g5, c5, rfl⟩ := own_mk hown'
        have R6 := Lib.hid hown'
        have Q6 := Lib.hid (show (litV ds cs gs T t (ds.take (k + 1))).length = q + 1 by rw [QY.out, List.length_append, QL.out]; rfl)
        have B6 := Lib.hid ((BU.out.alloc BU.out.size (.cells #[.string dn] 9)).grown hgr (BU.out.alloc BU.out.size (.cells #[.string dn] 9)).size (fun z9 e9 => by have e9 := Option.some.inj e9; omega))
        have K6 := Lib.hid ((KU.out.alloc (o := .cells #[.string dn] 9)).grown hgr (fun e => by have e := Option.some.inj e; omega))
        clear hown' hgrow hgr hnil hown RU BU KU HW QL QY d0
        go_wp2_with fail
        go_roundw
        case rel => exact ⟨k + 1, q + 1, g5, c5, by omega, by go_num, rfl, Q6, R6, K6, B6⟩
        case measure => simp [intOf]; omega
    · obtain rfl : k = n0 := by omega
      have ht : ds.take k = ds := by rw [← HN.out, List.take_length]
      rw [ht] at RK QL
      clear KK ht
      go_wp2_with fail
      go_ret
      exact row_of QL.out RK.out BK.out
end Go.Proofs.YtdkihpnckkfneaaGreat.Lu9
namespace Go.Proofs.YtdkihpnckkfneaaGreat.Lv9
open Go.RowKit Go.ChangeShapes Go.WideShapes Go.WideElems Go.Deep Go.Proofs.YtdkihpnckkfneaaGreat.Mem Go.Proofs.YtdkihpnckkfneaaGreat.Rw Go.Proofs.YtdkihpnckkfneaaGreat.P2 Go.Proofs.YtdkihpnckkfneaaGreat.Bk Go.Proofs.YtdkihpnckkfneaaGreat.Sp Go.Proofs.YtdkihpnckkfneaaGreat.Sq Go.Proofs.YtdkihpnckkfneaaGreat.Jt
open Go.Proofs.YtdkihpnckkfneaaGreat.Sv hiding D C G
open Go.Proofs.YtdkihpnckkfneaaGreat.Ds (sb)
open Go.Proofs.YtdkihpnckkfneaaGreat.Ig (rig)
open Go.Proofs.YtdkihpnckkfneaaGreat.Fd (fd fdN fd_cases)
open Go.Proofs.YtdkihpnckkfneaaGreat.Wp (RowI rd_cell)
set_option linter.unusedVariables false
set_option linter.unusedSimpArgs false
open Go.Proofs.YtdkihpnckkfneaaGreat.La9 Go.Proofs.YtdkihpnckkfneaaGreat.Ja9 Go.Proofs.YtdkihpnckkfneaaGreat.Lt9
open Go.Proofs.YtdkihpnckkfneaaGreat.Strs (infoStr)

set_option maxRecDepth 100000 in
set_option maxHeartbeats 4000000 in
theorem litS (A0 : Option Addr) (n0 c0 : Nat) (A1 : Option Addr) (n1 c1 : Nat) (A2 : Option Addr) (n2 c2 : Nat) (T : Int) (ds : List D) (cs : List C) (gs : List G) (t : Int) (w : World) (hf : Fit n0 n1 n2 ds cs gs) (hr : SR w A0 A1 A2 ds cs gs) (hsz : ∀ z ∈ ds, z.nm.size ≤ 1048576 ∧ z.ln.size ≤ 1048576) (hsc : ∀ z ∈ cs, z.nm.size ≤ 1048576) (wt : (Lit.int .i64 t).wf = true) :
    Calls Tryz.prog 12 #[sv A0 n0 c0 A1 n1 c1 A2 n2 c2 T, .int .i64 t] w (RowS w (litV ds cs gs T t ds)) := by
  obtain ⟨i0, hi, hz0, hz1, hz2⟩ := info_of infoStr
  have HS := Lib.hid hr
  have HN := Lib.hid hf.1.1
  have hb0 : n0 ≤ 1048576 := hf.1.2
  have hu : undef = Value.tuple #[] := rfl
  obtain ⟨r, hrr⟩ : ∃ r, show9 ds cs gs T = r := ⟨_, rfl⟩
  have CS := Lib.hid (fun (W : World) (h : SR W A0 A1 A2 ds cs gs) => (by have := Sw9.isShowS A0 n0 c0 A1 n1 c1 A2 n2 c2 T ds cs gs W hf h hsz hsc; rw [hrr] at this; exact this : Calls Tryz.prog 28 #[sv A0 n0 c0 A1 n1 c1 A2 n2 c2 T] W fun e w' => e = .returned (.bool r) ∧ Below W.heap.size W w'))
  have hz : (w.alloc (.cells (sc A0 n0 c0 A1 n1 c1 A2 n2 c2 T) 28)).heap.size = w.heap.size + 1 := by simp [go_sem]
  have B0a := (Below.refl w.heap.size w).alloc (Nat.le_refl _) (.cells (sc A0 n0 c0 A1 n1 c1 A2 n2 c2 T) 28)
  have B0 := Lib.hid (B0a.alloc B0a.size (.cells #[] 9))
  have K0 := Lib.hid ((Bk.new w (sc A0 n0 c0 A1 n1 c1 A2 n2 c2 T) 28).alloc (o := .cells #[] 9))
  have R0 := World.ownsRow_lit (base := w.heap.size) (e := 9) (size := 1) (w.alloc (.cells (sc A0 n0 c0 A1 n1 c1 A2 n2 c2 T) 28)) #[] 0 B0a.size (Nat.zero_le _) rfl
  rw [hz] at R0
  have R0 := Lib.hid R0
  have hb9 : w.heap.size < w.heap.size + 1 := by omega
  have b0 := K0.out.cell (i := 0) rfl
  have b1 := K0.out.cell (i := 1) rfl
  have b2 := K0.out.cell (i := 2) rfl
  have b3 := K0.out.cell (i := 3) rfl
  cases r
  · rw [lit_none t hrr]
    clear hr hf wt hz B0a hrr hsz hsc
    go_enter Tryz.func12, Tryz.ntmps12
    go_wp2_with fail
    refine (CS.out _ (HS.out.below B0.out)).mono ?_
    rintro e w1 ⟨rfl, hb⟩
    have B1 := Lib.hid (B0.out.trans (hb.mono B0.out.size))
    have R1 := Lib.hid (owns_below R0.out hb)
    clear hb CS HS K0 B0 R0 b0 b1 b2 b3
    go_wp2_with fail
    go_ret
    exact row_of rfl R1.out B1.out
  have hs := show_iff.1 hrr
  have CL := Lib.hid (fun (W : World) (h : SR W A0 A1 A2 ds cs gs) => (by have := Lg9.l9Lifts A0 n0 c0 A1 n1 c1 A2 n2 c2 T ds cs gs t W hf h hs.1 hs.2.1 hs.2.2.2 wt; unfold RowI at this; rw [lifts_len, hf.1.1] at this; exact this :
    Calls Tryz.prog 29 #[sv A0 n0 c0 A1 n1 c1 A2 n2 c2 T, .int .i64 t] W (fun e w' => ∃ g c, e = .returned (.slice (some ⟨g, 0, none⟩) n0 c) ∧ w'.ownsRow W.heap.size 3 1 (.slice (some ⟨g, 0, none⟩) n0 c) n0 (ints (lifts ds cs T t)) ∧ Below W.heap.size W w')))
  have CF := Lib.hid (fun (s : ByteArray) (W : World) (h : SR W A0 A1 A2 ds cs gs) => Fd.findS A0 n0 c0 ds s W hf.1.1 hf.1.2 h.r0)
  have HLa := Lib.hid (fun (d : D) (hd : d ∈ ds) (hk : d.kd = 3) => lit_lamp (t := t) hrr hd hk)
  have HOt := Lib.hid (fun (d : D) (hd : d ∈ ds) (hk : d.kd ≠ 3) => lit_other (t := t) hrr hd hk)
  have HLL := Lib.hid (show (lifts ds cs T t).length = n0 by rw [lifts_len]; exact hf.1.1)
  clear hr hf wt hz B0a hrr hsz hsc hs
  go_enter Tryz.func12, Tryz.ntmps12
  go_wp2_with fail
  refine (CS.out _ (HS.out.below B0.out)).mono ?_
  rintro e w1 ⟨rfl, hb⟩
  have B1 := Lib.hid (B0.out.trans (hb.mono B0.out.size))
  have R1 := Lib.hid (owns_below R0.out hb)
  have K1 := Lib.hid (K0.out.below hb)
  clear hb CS K0 B0 R0 b0 b1 b2 b3 hb9
  have b0 := K1.out.cell (i := 0) rfl
  have b1 := K1.out.cell (i := 1) rfl
  have b2 := K1.out.cell (i := 2) rfl
  have b3 := K1.out.cell (i := 3) rfl
  go_wp2_with fail
  refine (CL.out _ (HS.out.below B1.out)).mono ?_
  rintro e w2 ⟨g6, c6, rfl, o, hb⟩
  have B2 := Lib.hid (B1.out.trans (hb.mono B1.out.size))
  have R2 := Lib.hid (owns_below R1.out hb)
  have K2 := Lib.hid (K1.out.below hb)
  have O2 := Lib.hid (owns_base o (Nat.le_trans B1.out.size (o.lt g6 rfl).1))
  clear hb CL K1 B1 R1 b0 b1 b2 b3 o
  have b0 := K2.out.cell (i := 0) rfl
  go_wp2_with fail
  clear b0
  go_loopw [5, 20] (fun v i wr => ∃ k q g c : Nat, k ≤ n0 ∧ i = .int .i64 k ∧ v = .slice (some ⟨g, 0, none⟩) q c ∧ Hid ((litV ds cs gs T t (ds.take k)).length = q) ∧ Hid (wr.ownsRow w.heap.size 9 1 (.slice (some ⟨g, 0, none⟩) q c) q (Strs.strs (litV ds cs gs T t (ds.take k)))) ∧ Hid (wr.ownsRow w.heap.size 3 1 (.slice (some ⟨g6, 0, none⟩) n0 c6) n0 (ints (lifts ds cs T t))) ∧ Hid (Bk wr w.heap.size (sc A0 n0 c0 A1 n1 c1 A2 n2 c2 T) 28) ∧ Hid (Below w.heap.size w wr)) (fun _ i _ => n0 - (intOf i).toNat)
  case atStart => exact ⟨0, 0, _, _, Nat.zero_le _, rfl, rfl, Lib.hid rfl, R2, O2, K2, B2⟩
  case round =>
    obtain ⟨k, q, g, c, hk, rfl, rfl, QL, RK, OK, KK, BK⟩ := hrel
    clear R2 O2 K2 B2
    by_cases hlt : k < n0
    · obtain ⟨z, hz⟩ : ∃ z, ds[k]? = some z := ⟨_, List.getElem?_eq_getElem (by rw [HN.out]; exact hlt)⟩
      have HZ := Lib.hid hz
      clear hz
      obtain ⟨dn, dk, dl, dx, dy, dh, dt, dm⟩ := z
      obtain ⟨bD, oD, eA, hbl, hcell⟩ := (HS.out.1.below BK.out).get (k := k * 8) (by rw [Dd.dls_len, HN.out]; omega)
      obtain ⟨z0, z1, z2, z3, z4, z5, z6, z7⟩ := Dd.dls_get HZ.out
      have v0 := hcell (k * 8) _ z0
      have v1 := hcell (k * 8 + 1) _ z1
      rw [← Nat.add_assoc] at v1
      have v2 := hcell (k * 8 + 2) _ z2
      rw [← Nat.add_assoc] at v2
      have v3 := hcell (k * 8 + 3) _ z3
      rw [← Nat.add_assoc] at v3
      have v4 := hcell (k * 8 + 4) _ z4
      rw [← Nat.add_assoc] at v4
      have v5 := hcell (k * 8 + 5) _ z5
      rw [← Nat.add_assoc] at v5
      have v6 := hcell (k * 8 + 6) _ z6
      rw [← Nat.add_assoc] at v6
      have v7 := hcell (k * 8 + 7) _ z7
      rw [← Nat.add_assoc] at v7
      clear hcell hbl z0 z1 z2 z3 z4 z5 z6 z7
      subst eA
      have K1 := Lib.hid (KK.out.alloc (o := (.cells (Dd.ca dn dk dl dx dy dh dt dm) 36)))
      have R1 := Lib.hid (RK.out.alloc (.cells (Dd.ca dn dk dl dx dy dh dt dm) 36))
      have O1 := Lib.hid (OK.out.alloc (.cells (Dd.ca dn dk dl dx dy dh dt dm) 36))
      have B1 := Lib.hid (BK.out.alloc BK.out.size (.cells (Dd.ca dn dk dl dx dy dh dt dm) 36))
      have P1 := Lib.hid (Bk.new wr (Dd.ca dn dk dl dx dy dh dt dm) 36)
      have b0 := KK.out.cell (i := 0) rfl
      have hbl : w.heap.size < wr.heap.size := KK.out.lt
      by_cases hk3 : dk = 3
      · subst hk3
        obtain ⟨j, x, hfj, hj, hx, hx0, hlb⟩ := HLa.out _ (List.mem_of_getElem? HZ.out) rfl
        rw [HN.out] at hj
        have CK := Lib.hid (fun (W : World) (h : SR W (some ⟨bD, oD, none⟩) A1 A2 ds cs gs) => (by have := CF.out dl W h; rw [hfj] at this; exact this : Calls Tryz.prog 30 #[.slice (some ⟨bD, oD, none⟩) n0 c0, .string dl] W fun e w' => e = .returned (.int .i64 (j : Int)) ∧ Below W.heap.size W w'))
        have HB := Lib.hid hlb
        have HX := Lib.hid hx
        clear hfj hx hlb KK RK OK BK
        go_wp2_with fail
        refine (CK.out _ (HS.out.below B1.out)).mono ?_
        rintro e u1 ⟨rfl, hb⟩
        have KU := Lib.hid (K1.out.below hb)
        have RU := Lib.hid (owns_below R1.out hb)
        have OU := Lib.hid (owns_below O1.out hb)
        have BU := Lib.hid (B1.out.trans (hb.mono B1.out.size))
        have PU := P1.out.below hb
        have d0 := PU.cell (i := 0) rfl
        have hdl : wr.heap.size < u1.heap.size := PU.lt
        have cL : u1.cell? ⟨g6, j, none⟩ = some (.int .i64 x) := (OU.out.cellAt j (by omega)).trans (by unfold ints; rw [List.getElem?_map, HX.out]; rfl)
        clear hb K1 R1 O1 B1 P1 CK b0 v0 v1 v2 v3 v4 v5 v6 v7 PU
        by_cases hxp : 0 < x
        · have QY := Lib.hid (lit_yes HZ.out (by rw [HB.out]; exact decide_eq_true hxp))
          have hown := RU.out.alloc
          have HW := Lib.hid BU.out.size
          have lg : w.heap.size ≤ g := (RU.out.lt g rfl).1
          have nB : g ≠ w.heap.size := fun e => own_ne RU.out KU.out (by decide) (by rw [e]; rfl)
          have nO : g ≠ g6 := own_ne_own RU.out OU.out (by decide)
          have hq : q ≤ 1048576 := by have := lit_len ds cs gs T t (ds.take k); have := QL.out; have := List.length_take_le k ds; have := HN.out; omega
          go_wp2_with (at_builtin; refine wpList_append_own _ rfl _ _ 40 rfl w.heap.size 9 i0 (.string ByteArray.empty) 1 16 Tryz.underlying40 hi hz0 hz1 hz2 rfl (by decide) _ _ _ rfl (hown _) ⟨u1.heap.size, 0, none⟩ 1 1 [.string dn] rfl rfl (by intro j u hj; match j, hj with | 0, hj => simp at hj; subst hj; simp [Addr.add, go_sem]) (by intro u hu; simp at hu; subst hu; rfl) (by unfold maxLen; omega) (by omega) (by have := HW.out; simp; omega) ?_)
          intro v' w5 hown' hgrow hnil
          have hgr : (u1.alloc (.cells #[.string dn] 9)).grownBy w5 (some g) := hgrow
          rw [strs_snoc, ← QY.out] at hown'
          obtain ⟨g5, c5, rfl⟩ := own_mk hown'
          have R6 := Lib.hid hown'
          have Q6 := Lib.hid (show (litV ds cs gs T t (ds.take (k + 1))).length = q + 1 by rw [QY.out, List.length_append, QL.out]; rfl)
          have B6 := Lib.hid ((BU.out.alloc BU.out.size (.cells #[.string dn] 9)).grown hgr (BU.out.alloc BU.out.size (.cells #[.string dn] 9)).size (fun z9 e9 => by have e9 := Option.some.inj e9; omega))
          have K6 := Lib.hid ((KU.out.alloc (o := .cells #[.string dn] 9)).grown hgr (fun e => by have e := Option.some.inj e; omega))
          have O6 := Lib.hid (owns_grown (OU.out.alloc (.cells #[.string dn] 9)) hgr (ne_blk nO))
          clear hown' hgrow hgr hnil hown RU BU KU OU HW QL QY d0 cL
          go_wp2_with fail
          go_roundw
          case rel => exact ⟨k + 1, q + 1, g5, c5, by omega, by go_num, rfl, Q6, R6, O6, K6, B6⟩
          case measure => simp [intOf]; omega
        · have QN := Lib.hid (lit_no HZ.out (by rw [HB.out]; exact decide_eq_false hxp))
          go_wp2_with fail
          go_roundw
          case rel => exact ⟨k + 1, q, g, c, by omega, by go_num, rfl, by rw [QN.out]; exact QL, by rw [QN.out]; exact RU, OU, KU, BU⟩
          case measure => simp [intOf]; omega
      · have QN := Lib.hid (lit_no HZ.out (HOt.out _ (List.mem_of_getElem? HZ.out) hk3))
        clear KK RK OK BK P1
        go_wp2_with fail
        go_roundw
        case rel => exact ⟨k + 1, q, g, c, by omega, by go_num, rfl, by rw [QN.out]; exact QL, by rw [QN.out]; exact R1, O1, K1, B1⟩
        case measure => simp [intOf]; omega
    · obtain rfl : k = n0 := by omega
      have ht : ds.take k = ds := by rw [← HN.out, List.take_length]
      rw [ht] at RK QL
      clear KK OK ht
      go_wp2_with fail
      go_ret
      exact row_of QL.out RK.out BK.out
end Go.Proofs.YtdkihpnckkfneaaGreat.Lv9
