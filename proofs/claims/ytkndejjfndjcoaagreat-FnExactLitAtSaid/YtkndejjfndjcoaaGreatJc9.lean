/- JetAt of the model. -/
import Derived.Test.YtkndejjfndjcoaaGreatJa9
namespace Go.Proofs.YtkndejjfndjcoaaGreat.Jc9
open Go.RowKit Go.ChangeShapes Go.WideShapes Go.WideElems Go.Deep Go.Proofs.YtkndejjfndjcoaaGreat.Mem Go.Proofs.YtkndejjfndjcoaaGreat.Rw Go.Proofs.YtkndejjfndjcoaaGreat.P2 Go.Proofs.YtkndejjfndjcoaaGreat.Bk Go.Proofs.YtkndejjfndjcoaaGreat.Sp Go.Proofs.YtkndejjfndjcoaaGreat.Sq Go.Proofs.YtkndejjfndjcoaaGreat.Jt
open Go.Proofs.YtkndejjfndjcoaaGreat.Sv hiding D C G
open Go.Proofs.YtkndejjfndjcoaaGreat.Ds (sb)
open Go.Proofs.YtkndejjfndjcoaaGreat.Ig (rig)
open Go.Proofs.YtkndejjfndjcoaaGreat.Fd (fd fdN fd_cases)
open Go.Proofs.YtkndejjfndjcoaaGreat.Wp (RowI rd_cell)
set_option linter.unusedVariables false
set_option linter.unusedSimpArgs false
open Go.Proofs.YtkndejjfndjcoaaGreat.La9 Go.Proofs.YtkndejjfndjcoaaGreat.Ja9

set_option maxRecDepth 100000 in
set_option maxHeartbeats 4000000 in
theorem jetAtS (A0 : Option Addr) (n0 c0 : Nat) (A1 : Option Addr) (n1 c1 : Nat) (A2 : Option Addr) (n2 c2 : Nat) (T : Int) (ds : List D) (cs : List C) (gs : List G) (s : ByteArray) (t : Int) (w : World) (hf : Fit n0 n1 n2 ds cs gs) (hr : SR w A0 A1 A2 ds cs gs) (hsz : ∀ z ∈ ds, z.nm.size ≤ 1048576 ∧ z.ln.size ≤ 1048576) (hsc : ∀ z ∈ cs, z.nm.size ≤ 1048576) (wt : (Lit.int .i64 t).wf = true) :
    Calls Tryz.prog 23 #[sv A0 n0 c0 A1 n1 c1 A2 n2 c2 T, .string s, .int .i64 t] w fun e w' => e = .returned (jvO (jaV ds cs gs T s t)) ∧ Below w.heap.size w w' := by
  have HS := Lib.hid hr
  have HN := Lib.hid hf.1.1
  have hb0 : n0 ≤ 1048576 := hf.1.2
  have hu : undef = Value.tuple #[] := rfl
  obtain ⟨r, hrr⟩ : ∃ r, show9 ds cs gs T = r := ⟨_, rfl⟩
  obtain ⟨f, hfd⟩ : ∃ f, fd ds s = f := ⟨_, rfl⟩
  have CF := Lib.hid (fun (W : World) (h : SR W A0 A1 A2 ds cs gs) => (by have := Fd.findS A0 n0 c0 ds s W hf.1.1 hf.1.2 h.r0; rw [hfd] at this; exact this : Calls Tryz.prog 60 #[.slice A0 n0 c0, .string s] W fun e w' => e = .returned (.int .i64 f) ∧ Below W.heap.size W w'))
  have CS := Lib.hid (fun (W : World) (h : SR W A0 A1 A2 ds cs gs) => (by have := Sw9.isShowS A0 n0 c0 A1 n1 c1 A2 n2 c2 T ds cs gs W hf h hsz hsc; rw [hrr] at this; exact this : Calls Tryz.prog 34 #[sv A0 n0 c0 A1 n1 c1 A2 n2 c2 T] W fun e w' => e = .returned (.bool r) ∧ Below W.heap.size W w'))
  have CL := Lib.hid (fun (W : World) (h : SR W A0 A1 A2 ds cs gs) (hr1 : r = true) => (by
    have hs := show_iff.1 (hrr.trans hr1)
    have := Lg9.l9Lifts A0 n0 c0 A1 n1 c1 A2 n2 c2 T ds cs gs t W hf h hs.1 hs.2.1 hs.2.2.2 wt; unfold RowI at this; rw [lifts_len, hf.1.1] at this; exact this :
    Calls Tryz.prog 35 #[sv A0 n0 c0 A1 n1 c1 A2 n2 c2 T, .int .i64 t] W (fun e w' => ∃ g c, e = .returned (.slice (some ⟨g, 0, none⟩) n0 c) ∧ w'.ownsRow W.heap.size 3 1 (.slice (some ⟨g, 0, none⟩) n0 c) n0 (ints (lifts ds cs T t)) ∧ Below W.heap.size W w')))
  obtain ⟨R, hR⟩ : ∃ R, jaV ds cs gs T s t = R := ⟨_, rfl⟩
  rw [hR]
  have HNo := Lib.hid (show (r = false ∨ f < 0) → R = none from fun c => by
    rw [← hR]; unfold jaV
    rcases c with c | c
    · rw [laV_no t (hrr.trans c)]; exact jaN_nil _ _
    · rw [← hfd] at c; exact ja_none c)
  have HYes := Lib.hid (show ∀ (j : Nat) (d : D) (x : Int), r = true → f = (j : Int) → ds[j]? = some d → (lifts ds cs T t)[j]? = some x → R = if x = 0 then none else some (d, x) from fun j d x c1 c2 c3 c4 => by
    rw [← hR]; unfold jaV
    rw [laV_yes t (hrr.trans c1)]
    exact ja_some (show_iff.1 (hrr.trans c1)).1 (hfd.trans c2) c3 c4)
  have HFL := Lib.hid (show ∀ (j : Nat), f = (j : Int) → j < n0 from fun j c => by
    rcases fd_cases ds s with e | ⟨i, e, hi, _⟩
    · omega
    · have := hf.1.1; omega)
  have HLL := Lib.hid (show (lifts ds cs T t).length = n0 by rw [lifts_len]; exact hf.1.1)
  have hz : (w.alloc (.cells (sc A0 n0 c0 A1 n1 c1 A2 n2 c2 T) 34)).heap.size = w.heap.size + 1 := by simp [go_sem]
  have B0a := (Below.refl w.heap.size w).alloc (Nat.le_refl _) (.cells (sc A0 n0 c0 A1 n1 c1 A2 n2 c2 T) 34)
  have B0 := Lib.hid (B0a.alloc B0a.size (.cells zj 50))
  have K0 := Lib.hid ((Bk.new w (sc A0 n0 c0 A1 n1 c1 A2 n2 c2 T) 34).alloc (o := .cells zj 50))
  have KR0 := Bk.new (w.alloc (.cells (sc A0 n0 c0 A1 n1 c1 A2 n2 c2 T) 34)) zj 50
  rw [hz] at KR0
  have KR := Lib.hid KR0
  have hb9 : w.heap.size < w.heap.size + 1 := by omega
  have b0 := K0.out.cell (i := 0) rfl
  clear hr hf wt hrr hfd hR hz B0a KR0 hsz hsc
  go_enter Tryz.func23, Tryz.ntmps23
  go_wp2_with fail
  refine (CF.out _ (HS.out.below B0.out)).mono ?_
  rintro e w1 ⟨rfl, hb⟩
  have B1 := Lib.hid (B0.out.trans (hb.mono B0.out.size))
  have K1 := Lib.hid (K0.out.below hb)
  have KR1 := Lib.hid (KR.out.below hb)
  clear hb CF K0 KR B0 b0 hb9
  have b0 := K1.out.cell (i := 0) rfl
  have b1 := K1.out.cell (i := 1) rfl
  have b2 := K1.out.cell (i := 2) rfl
  have b3 := K1.out.cell (i := 3) rfl
  go_wp2_with fail
  refine (CS.out _ (HS.out.below B1.out)).mono ?_
  rintro e w2 ⟨rfl, hb⟩
  have B2 := Lib.hid (B1.out.trans (hb.mono B1.out.size))
  have K2 := Lib.hid (K1.out.below hb)
  have KR2 := Lib.hid (KR1.out.below hb)
  clear hb CS K1 KR1 B1 b0 b1 b2 b3
  cases r
  · have HE := Lib.hid (HNo.out (Or.inl rfl))
    have KU := KR2.out
    have BU := B2.out
    have r0 := KU.cell (i := 0) rfl
    have q0 := KU.frozen 0
    have r1 := KU.cell (i := 1) rfl
    have q1 := KU.frozen 1
    have r2 := KU.cell (i := 2) rfl
    have q2 := KU.frozen 2
    have r3 := KU.cell (i := 3) rfl
    have q3 := KU.frozen 3
    have r4 := KU.cell (i := 4) rfl
    have q4 := KU.frozen 4
    clear K2 KR2 B2 CL HNo HYes HFL
    go_wp2_with fail
    have KX := (((((KU.set (i := 0) (v := .int .i64 0)).set (i := 1) (v := .int .i64 0)).set (i := 2) (v := .int .i64 0)).set (i := 3) (v := .int .i64 0)).set (i := 4) (v := .int .i64 0))
    have s0 := KX.cell (i := 0) rfl
    have s1 := KX.cell (i := 1) rfl
    have s2 := KX.cell (i := 2) rfl
    have s3 := KX.cell (i := 3) rfl
    have s4 := KX.cell (i := 4) rfl
    have BX := BU.grown (grown_trans (grown_trans (grown_trans (grown_trans (Bk.setG _ (w.heap.size + 1) 0 (.int .i64 0)) (Bk.setG _ (w.heap.size + 1) 1 (.int .i64 0))) (Bk.setG _ (w.heap.size + 1) 2 (.int .i64 0))) (Bk.setG _ (w.heap.size + 1) 3 (.int .i64 0))) (Bk.setG _ (w.heap.size + 1) 4 (.int .i64 0))) BU.size (fun z9 e9 => by have e9 := Option.some.inj e9; omega)
    refine bodyPost_ret (v := jvO none) (by simp [results, Tryz.results23, go_sem, s0, s1, s2, s3, s4]; try rfl) rfl ?_
    exact ⟨by rw [HE.out], BX⟩
  by_cases hf0 : f < 0
  · have HE := Lib.hid (HNo.out (Or.inr hf0))
    have KU := KR2.out
    have BU := B2.out
    have r0 := KU.cell (i := 0) rfl
    have q0 := KU.frozen 0
    have r1 := KU.cell (i := 1) rfl
    have q1 := KU.frozen 1
    have r2 := KU.cell (i := 2) rfl
    have q2 := KU.frozen 2
    have r3 := KU.cell (i := 3) rfl
    have q3 := KU.frozen 3
    have r4 := KU.cell (i := 4) rfl
    have q4 := KU.frozen 4
    clear K2 KR2 B2 CL HNo HYes HFL
    go_wp2_with fail
    have KX := (((((KU.set (i := 0) (v := .int .i64 0)).set (i := 1) (v := .int .i64 0)).set (i := 2) (v := .int .i64 0)).set (i := 3) (v := .int .i64 0)).set (i := 4) (v := .int .i64 0))
    have s0 := KX.cell (i := 0) rfl
    have s1 := KX.cell (i := 1) rfl
    have s2 := KX.cell (i := 2) rfl
    have s3 := KX.cell (i := 3) rfl
    have s4 := KX.cell (i := 4) rfl
    have BX := BU.grown (grown_trans (grown_trans (grown_trans (grown_trans (Bk.setG _ (w.heap.size + 1) 0 (.int .i64 0)) (Bk.setG _ (w.heap.size + 1) 1 (.int .i64 0))) (Bk.setG _ (w.heap.size + 1) 2 (.int .i64 0))) (Bk.setG _ (w.heap.size + 1) 3 (.int .i64 0))) (Bk.setG _ (w.heap.size + 1) 4 (.int .i64 0))) BU.size (fun z9 e9 => by have e9 := Option.some.inj e9; omega)
    refine bodyPost_ret (v := jvO none) (by simp [results, Tryz.results23, go_sem, s0, s1, s2, s3, s4]; try rfl) rfl ?_
    exact ⟨by rw [HE.out], BX⟩
  obtain ⟨j, rfl⟩ : ∃ j : Nat, f = j := ⟨f.toNat, by omega⟩
  have hj := HFL.out j rfl
  have b0 := K2.out.cell (i := 0) rfl
  have b1 := K2.out.cell (i := 1) rfl
  have b2 := K2.out.cell (i := 2) rfl
  have b3 := K2.out.cell (i := 3) rfl
  clear HFL HNo
  go_wp2_with fail
  refine (CL.out _ (HS.out.below B2.out) (by first | rfl | trivial)).mono ?_
  rintro e w3 ⟨g, c, rfl, o, hb⟩
  have B3 := Lib.hid (B2.out.trans (hb.mono B2.out.size))
  have K3 := Lib.hid (K2.out.below hb)
  have KR3 := Lib.hid (KR2.out.below hb)
  clear CL K2 KR2 B2 b0 b1 b2 b3 hb
  obtain ⟨x, hx⟩ : ∃ x, (lifts ds cs T t)[j]? = some x := ⟨_, List.getElem?_eq_getElem (by rw [HLL.out]; exact hj)⟩
  obtain ⟨z, hz⟩ : ∃ z, ds[j]? = some z := ⟨_, List.getElem?_eq_getElem (by rw [HN.out]; exact hj)⟩
  have HZ := Lib.hid hz
  have HY := Lib.hid (HYes.out j z x (by first | rfl | trivial) rfl hz hx)
  have cL : w3.cell? ⟨g, j, none⟩ = some (.int .i64 x) := (o.cellAt j (by omega)).trans (by unfold ints; rw [List.getElem?_map, hx]; rfl)
  have CJ := Lib.hid (fun (W : World) => l9Jet z x W)
  clear hz hx HYes o
  by_cases hx0 : x = 0
  · have HE := Lib.hid (show R = none by rw [HY.out, if_pos hx0])
    subst hx0
    have KU := KR3.out
    have BU := B3.out
    have r0 := KU.cell (i := 0) rfl
    have q0 := KU.frozen 0
    have r1 := KU.cell (i := 1) rfl
    have q1 := KU.frozen 1
    have r2 := KU.cell (i := 2) rfl
    have q2 := KU.frozen 2
    have r3 := KU.cell (i := 3) rfl
    have q3 := KU.frozen 3
    have r4 := KU.cell (i := 4) rfl
    have q4 := KU.frozen 4
    clear K3 KR3 B3 HY CJ
    go_wp2_with fail
    have KX := (((((KU.set (i := 0) (v := .int .i64 0)).set (i := 1) (v := .int .i64 0)).set (i := 2) (v := .int .i64 0)).set (i := 3) (v := .int .i64 0)).set (i := 4) (v := .int .i64 0))
    have s0 := KX.cell (i := 0) rfl
    have s1 := KX.cell (i := 1) rfl
    have s2 := KX.cell (i := 2) rfl
    have s3 := KX.cell (i := 3) rfl
    have s4 := KX.cell (i := 4) rfl
    have BX := BU.grown (grown_trans (grown_trans (grown_trans (grown_trans (Bk.setG _ (w.heap.size + 1) 0 (.int .i64 0)) (Bk.setG _ (w.heap.size + 1) 1 (.int .i64 0))) (Bk.setG _ (w.heap.size + 1) 2 (.int .i64 0))) (Bk.setG _ (w.heap.size + 1) 3 (.int .i64 0))) (Bk.setG _ (w.heap.size + 1) 4 (.int .i64 0))) BU.size (fun z9 e9 => by have e9 := Option.some.inj e9; omega)
    refine bodyPost_ret (v := jvO none) (by simp [results, Tryz.results23, go_sem, s0, s1, s2, s3, s4]; try rfl) rfl ?_
    exact ⟨by rw [HE.out], BX⟩
  have HE := Lib.hid (show R = some (z, x) by rw [HY.out, if_neg hx0])
  clear HY
  obtain ⟨dn, dk, dl, dx, dy, dh, dt, dm⟩ := z
  obtain ⟨bD, oD, eA, hbl, hcell⟩ := (HS.out.1.below B3.out).get (k := j * 8) (by rw [Dd.dls_len, HN.out]; omega)
  obtain ⟨z0, z1, z2, z3, z4, z5, z6, z7⟩ := Dd.dls_get HZ.out
  have v0 := hcell (j * 8) _ z0
  have v1 := hcell (j * 8 + 1) _ z1
  rw [← Nat.add_assoc] at v1
  have v2 := hcell (j * 8 + 2) _ z2
  rw [← Nat.add_assoc] at v2
  have v3 := hcell (j * 8 + 3) _ z3
  rw [← Nat.add_assoc] at v3
  have v4 := hcell (j * 8 + 4) _ z4
  rw [← Nat.add_assoc] at v4
  have v5 := hcell (j * 8 + 5) _ z5
  rw [← Nat.add_assoc] at v5
  have v6 := hcell (j * 8 + 6) _ z6
  rw [← Nat.add_assoc] at v6
  have v7 := hcell (j * 8 + 7) _ z7
  rw [← Nat.add_assoc] at v7
  clear hcell hbl z0 z1 z2 z3 z4 z5 z6 z7
  subst eA
  have b0 := K3.out.cell (i := 0) rfl
  go_wp2_with fail
  refine (CJ.out _).mono ?_
  rintro e u1 ⟨rfl, hb⟩
  have KU := KR3.out.below hb
  have BU := B3.out.trans (hb.mono B3.out.size)
  have r0 := KU.cell (i := 0) rfl
  have q0 := KU.frozen 0
  have r1 := KU.cell (i := 1) rfl
  have q1 := KU.frozen 1
  have r2 := KU.cell (i := 2) rfl
  have q2 := KU.frozen 2
  have r3 := KU.cell (i := 3) rfl
  have q3 := KU.frozen 3
  have r4 := KU.cell (i := 4) rfl
  have q4 := KU.frozen 4
  clear hb K3 KR3 B3 CJ v0 v1 v2 v3 v4 v5 v6 v7 cL b0
  go_wp2_with fail
  have KX := (((((KU.set (i := 0) (v := .int .i64 dx)).set (i := 1) (v := .int .i64 dy)).set (i := 2) (v := .int .i64 dh)).set (i := 3) (v := .int .i64 dt)).set (i := 4) (v := .int .i64 x))
  have s0 := KX.cell (i := 0) rfl
  have s1 := KX.cell (i := 1) rfl
  have s2 := KX.cell (i := 2) rfl
  have s3 := KX.cell (i := 3) rfl
  have s4 := KX.cell (i := 4) rfl
  have BX := BU.grown (grown_trans (grown_trans (grown_trans (grown_trans (Bk.setG _ (w.heap.size + 1) 0 (.int .i64 dx)) (Bk.setG _ (w.heap.size + 1) 1 (.int .i64 dy))) (Bk.setG _ (w.heap.size + 1) 2 (.int .i64 dh))) (Bk.setG _ (w.heap.size + 1) 3 (.int .i64 dt))) (Bk.setG _ (w.heap.size + 1) 4 (.int .i64 x))) BU.size (fun z9 e9 => by have e9 := Option.some.inj e9; omega)
  refine bodyPost_ret (v := jvO (some (⟨dn, dk, dl, dx, dy, dh, dt, dm⟩, x))) (by simp [results, Tryz.results23, go_sem, s0, s1, s2, s3, s4]; try rfl) rfl ?_
  exact ⟨by rw [HE.out], BX⟩
end Go.Proofs.YtkndejjfndjcoaaGreat.Jc9
