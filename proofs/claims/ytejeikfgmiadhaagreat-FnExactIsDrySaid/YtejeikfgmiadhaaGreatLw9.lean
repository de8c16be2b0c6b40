/- DropsAt of the model. -/
import Derived.Test.YtejeikfgmiadhaaGreatLz9
import Derived.Test.YtejeikfgmiadhaaGreatM20
import Derived.Test.YtejeikfgmiadhaaGreatPl9
import Derived.Test.YtejeikfgmiadhaaGreatM21
import Derived.Test.YtejeikfgmiadhaaGreatM5
import Derived.Test.YtejeikfgmiadhaaGreatTi9
import Derived.Maps.OwnOps
import Derived.Deep.RegionHeld3
import Derived.Deep.MidRow
import Derived.StillTailTactics
namespace Go.Proofs.YtejeikfgmiadhaaGreat.Lw9
open Go.RowKit Go.ChangeShapes Go.WideShapes Go.WideElems Go.Deep Go.Proofs.YtejeikfgmiadhaaGreat.Mem Go.Proofs.YtejeikfgmiadhaaGreat.Rw Go.Proofs.YtejeikfgmiadhaaGreat.P2 Go.Proofs.YtejeikfgmiadhaaGreat.Bk Go.Proofs.YtejeikfgmiadhaaGreat.Sp Go.Proofs.YtejeikfgmiadhaaGreat.Sq Go.Proofs.YtejeikfgmiadhaaGreat.Jt Go.Proofs.YtejeikfgmiadhaaGreat.Cm Go.Proofs.YtejeikfgmiadhaaGreat.Cx Go.Proofs.YtejeikfgmiadhaaGreat.Pl
open Go.Proofs.YtejeikfgmiadhaaGreat.Sv hiding D C G
open Go.Proofs.YtejeikfgmiadhaaGreat.Pd9
open Go.Proofs.YtejeikfgmiadhaaGreat.Tm9 (bls bls_get bls_len RowM)
open Go.Proofs.YtejeikfgmiadhaaGreat.Wm (wd dr drs plus sum2 dr_bound drs_get drs_len)
open Go.Proofs.YtejeikfgmiadhaaGreat.Gs (gls)
open Go.Proofs.YtejeikfgmiadhaaGreat.Wc (infoC made_c zs2 zv zs2_len zs2_get)
open Go.Proofs.YtejeikfgmiadhaaGreat.Pl9 (RowP pls pls_len pls_get pls_snoc infoP d0 pls_made)
open Go.Proofs.YtejeikfgmiadhaaGreat.Dp (ha heightI)
open Go.Proofs.YtejeikfgmiadhaaGreat.Pl9 (mixed mixed_zero mixed_all mixed_at mixed_put)
open Go.Proofs.YtejeikfgmiadhaaGreat.Lz9 (bv bca cB append_drop l9Drop blk_ne)
set_option linter.unusedVariables false
set_option linter.unusedSimpArgs false


/-- The drops in the air at a tick, of these. -/
def dpL (gs : List G) (t : Int) (l : List B) : List Pd9.P := (l.filter (fun z => inA z t)).map (tell gs t.toNat)
/-- The drops in the air at a tick. -/
noncomputable def dpV (ds : List D) (cs : List C) (gs : List G) (T t : Int) : List Pd9.P := dpL gs t (all9 ds cs gs T)
theorem dp_len (ds : List D) (cs : List C) (gs : List G) (T t : Int) : (dpV ds cs gs T t).length ≤ 512 := by
  unfold dpV dpL; rw [List.length_map]
  have := List.length_filter_le (fun z => inA z t) (all9 ds cs gs T)
  have := all9_len ds cs gs T
  omega
theorem dp_yes {gs : List G} {t : Int} {zs : List B} {k : Nat} {z : B} (hz : zs[k]? = some z) (h : inA z t = true) : dpL gs t (zs.take (k + 1)) = dpL gs t (zs.take k) ++ [tell gs t.toNat z] := by
  obtain ⟨hk, rfl⟩ := List.getElem?_eq_some_iff.1 hz
  unfold dpL
  rw [List.take_succ_eq_append_getElem hk, List.filter_append, List.map_append]
  simp [h]
theorem dp_no {gs : List G} {t : Int} {zs : List B} {k : Nat} {z : B} (hz : zs[k]? = some z) (h : inA z t = false) : dpL gs t (zs.take (k + 1)) = dpL gs t (zs.take k) := by
  obtain ⟨hk, rfl⟩ := List.getElem?_eq_some_iff.1 hz
  unfold dpL
  rw [List.take_succ_eq_append_getElem hk, List.filter_append]
  simp [h]

theorem wpList_append_drop {ops : Array Oper} {rest : List Oper} {o : Oper} {a : Act} {w w' : World} {Q : Exit → Act → World → Prop}
    (hg : o.guard = none) (s x : Operand) (hop : o.op = Op.call { callee := Callee.builtin Builtin.append, args := #[s, x], argTypes := #[28, 28] }) (hty : o.type = 28)
    (v v2 v' : Value) (hs : a.eval s = v) (hx : a.eval x = v2) (hrun : (Builtin.append_ #[28, 28] 28 #[v, v2]).run Tryz.prog w = .ok v' w') (hK : wpList Tryz.prog ops Q rest (a.put o.dst v') w') : wpList Tryz.prog ops Q (o :: rest) a w := by
  refine wpList_plain hg fun K' hK' => ?_
  unfold Oper.wp
  simp [execOp, hop, hty, resolve, invoke, builtin, hs, hx, hrun, Result.andThen]
  exact hK' _ _ hK

set_option maxRecDepth 100000 in
set_option maxHeartbeats 4000000 in
theorem dropsS (A0 : Option Addr) (n0 c0 : Nat) (A1 : Option Addr) (n1 c1 : Nat) (A2 : Option Addr) (n2 c2 : Nat) (T : Int) (ds : List D) (cs : List C) (gs : List G) (t : Int) (w : World) (hf : Fit n0 n1 n2 ds cs gs) (hr : SR w A0 A1 A2 ds cs gs) (hsz : ∀ z ∈ ds, z.nm.size ≤ 1048576 ∧ z.ln.size ≤ 1048576) (hsc : ∀ z ∈ cs, z.nm.size ≤ 1048576) :
    Calls Tryz.prog 17 #[sv A0 n0 c0 A1 n1 c1 A2 n2 c2 T, .int .i64 t] w (RowP w (dpV ds cs gs T t)) := by
  have K0 := Lib.hid ((Bk.new w (sc A0 n0 c0 A1 n1 c1 A2 n2 c2 T) 34).alloc (o := .cells #[] 69))
  have b0a := (Below.refl w.heap.size w).alloc (Nat.le_refl _) (.cells (sc A0 n0 c0 A1 n1 c1 A2 n2 c2 T) 34)
  have B0 := Lib.hid (b0a.alloc b0a.size (.cells #[] 69))
  have hzz : (w.alloc (.cells (sc A0 n0 c0 A1 n1 c1 A2 n2 c2 T) 34)).heap.size = w.heap.size + 1 := by simp [go_sem]
  have R0 := Lib.hid (by have := World.ownsRow_lit (base := w.heap.size) (e := 69) (size := 5) (w.alloc (.cells (sc A0 n0 c0 A1 n1 c1 A2 n2 c2 T) 34)) #[] 0 (by rw [hzz]; omega) (Nat.zero_le _) rfl; rw [hzz] at this; exact this : ((w.alloc (.cells (sc A0 n0 c0 A1 n1 c1 A2 n2 c2 T) 34)).alloc (.cells #[] 69)).ownsRow w.heap.size 69 5 (.slice (some ⟨w.heap.size + 1, 0, none⟩) 0 0) 0 [])
  have HS := Lib.hid (hr.below B0.out)
  obtain ⟨r, hrr⟩ : ∃ r, show9 ds cs gs T = r := ⟨_, rfl⟩
  have CS := Lib.hid (fun (W : World) (h : SR W A0 A1 A2 ds cs gs) => (by have := Sw9.isShowS A0 n0 c0 A1 n1 c1 A2 n2 c2 T ds cs gs W hf h hsz hsc; rw [hrr] at this; exact this : Calls Tryz.prog 31 #[sv A0 n0 c0 A1 n1 c1 A2 n2 c2 T] W fun e w' => e = .returned (.bool r) ∧ Below W.heap.size W w'))
  have hu : undef = Value.tuple #[] := rfl
  have z0 := K0.out.cell (i := 0) rfl
  have z1 := K0.out.cell (i := 1) rfl
  have z2 := K0.out.cell (i := 2) rfl
  have z3 := K0.out.cell (i := 3) rfl
  cases r
  · have HV := Lib.hid (show (dpV ds cs gs T t) = [] by unfold dpV; rw [all9_no hrr]; rfl)
    clear hf hr hrr hsz hsc b0a hzz
    go_enter Tryz.func17, Tryz.ntmps17
    go_wp2_with fail
    refine (CS.out _ HS.out).mono ?_
    rintro e w1 ⟨rfl, hb⟩
    have B1 := Lib.hid (B0.out.trans (hb.mono B0.out.size))
    have R1 := Lib.hid (owns_below R0.out hb)
    clear hb CS HS K0 B0 R0 z0 z1 z2 z3
    go_wp2_with fail
    go_ret
    exact ⟨w.heap.size + 1, 0, by rw [HV.out]; rfl, by rw [HV.out]; exact R1.out, B1.out⟩
  obtain ⟨zs, hzs⟩ : ∃ zs, all9 ds cs gs T = zs := ⟨_, rfl⟩
  obtain ⟨m, hm⟩ : ∃ m, zs.length = m := ⟨_, rfl⟩
  have hmb : m ≤ 512 := by have := all9_len ds cs gs T; rw [hzs, hm] at this; exact this
  have HZ := Lib.hid (show ∀ z ∈ zs, BOk z ∧ z.b < 64 from fun z hz => by have := all9_ok z (by rw [hzs]; exact hz); exact ⟨this.1.1, this.2⟩)
  have CA := Lib.hid (fun (W : World) (h : SR W A0 A1 A2 ds cs gs) => (by have := Tm9.l9All A0 n0 c0 A1 n1 c1 A2 n2 c2 T ds cs gs W hf h hrr; unfold RowM at this; rw [hzs, hm] at this; exact this :
    Calls Tryz.prog 32 #[sv A0 n0 c0 A1 n1 c1 A2 n2 c2 T] W (fun e w' => ∃ g c, e = .returned (.slice (some ⟨g, 0, none⟩) m c) ∧ w'.ownsRow W.heap.size 67 7 (.slice (some ⟨g, 0, none⟩) m c) m (bls zs) ∧ Below W.heap.size W w')))
  have HM := Lib.hid hm
  have HWD := Lib.hid (show_iff.1 hrr).2.2.1
  have HF := Lib.hid hf
  have HS0 := Lib.hid hr
  have HVAL := Lib.hid (show dpL gs t zs = dpV ds cs gs T t by unfold dpV; rw [hzs])
  clear hf hr hrr hsz hsc hzs hm b0a hzz
  go_enter Tryz.func17, Tryz.ntmps17
  go_wp2_with fail
  refine (CS.out _ HS.out).mono ?_
  rintro e w1 ⟨rfl, hb⟩
  have B1 := Lib.hid (B0.out.trans (hb.mono B0.out.size))
  have S1 := Lib.hid (HS.out.below hb)
  have K1 := Lib.hid (K0.out.below hb)
  have R1 := Lib.hid (owns_below R0.out hb)
  clear z0 z1 z2 z3
  have b0 := K1.out.cell (i := 0) rfl
  have b1 := K1.out.cell (i := 1) rfl
  have b2 := K1.out.cell (i := 2) rfl
  have b3 := K1.out.cell (i := 3) rfl
  clear hb CS HS K0 B0 R0
  go_wp2_with fail
  refine (CA.out _ S1.out).mono ?_
  rintro e w2 ⟨g, c, rfl, o, hb⟩
  have B2 := Lib.hid (B1.out.trans (hb.mono B1.out.size))
  have K2 := Lib.hid (K1.out.below hb)
  have R2 := Lib.hid (owns_below R1.out hb)
  have O2 := Lib.hid (owns_base o (Nat.le_trans B1.out.size (o.lt g rfl).1))
  clear hb o CA S1 B1 K1 R1 b0 b1 b2 b3
  go_wp2_with fail
  go_loopw [5, 16] (fun v i wr => ∃ k : Nat, k ≤ m ∧ i = .int .i64 k ∧ (∃ q gv cv, q ≤ k ∧ v = .slice (some ⟨gv, 0, none⟩) q cv ∧ Hid ((dpL gs t (zs.take k)).length = q) ∧ Hid (wr.ownsRow w.heap.size 69 5 (.slice (some ⟨gv, 0, none⟩) q cv) q (pls (dpL gs t (zs.take k))))) ∧ Hid (wr.ownsRow w.heap.size 67 7 (.slice (some ⟨g, 0, none⟩) m c) m (bls zs)) ∧ Hid (Bk wr w.heap.size (sc A0 n0 c0 A1 n1 c1 A2 n2 c2 T) 34) ∧ Hid (Below w.heap.size w wr)) (fun _ i _ => m - (intOf i).toNat)
  case atStart => exact ⟨0, Nat.zero_le _, rfl, ⟨0, w.heap.size + 1, 0, Nat.le_refl _, rfl, Lib.hid rfl, R2⟩, O2, K2, B2⟩
  case round =>
    obtain ⟨k, hk, rfl, ⟨q, gv, cv, hqk, rfl, HQ, RK⟩, OK, KK, BK⟩ := hrel
    clear O2 B2 K2 R2
    have hbs := BK.out.size
    by_cases hlt : k < m
    · obtain ⟨z, hz⟩ : ∃ z, zs[k]? = some z := ⟨_, List.getElem?_eq_getElem (by rw [HM.out]; exact hlt)⟩
      obtain ⟨x0, x1, x2, x3, x4, x5, x6⟩ := cB OK.out hz hlt
      have HV := Lib.hid hz
      have hj := HZ.out z (List.mem_of_getElem? hz)
      have hl := (jt_iff.1 hj.1).2.2.2.2
      obtain ⟨N, hN, hN2⟩ : ∃ N : Nat, (N : Int) = z.l + 1 ∧ z.b + N ≤ 128 := ⟨(z.l + 1).toNat, by omega, by omega⟩
      have CL := Lib.hid (fun (W : World) => (by have := Dp.flightS z.d.x z.d.y z.d.hd z.d.tl z.l W; rw [Dp.fl_yes hj.1, ← hN] at this; exact this : Calls Tryz.prog 34 #[jv z.d.x z.d.y z.d.hd z.d.tl z.l] W fun e w' => e = .returned (.int .i64 (N : Int)) ∧ Below W.heap.size W w'))
      have q1 : IntKind.i64.wrap ((z.b : Int) + (N : Int)) = (z.b : Int) + N := IntWalk.i64_in _ (by omega)
      have q2 : wrap64 ((z.b : Int) + (N : Int)) = (z.b : Int) + N := IntWalk.wrap64_in _ (by omega)
      have O1 := Lib.hid (OK.out.alloc (.cells (bca z) 67))
      have R1 := Lib.hid (RK.out.alloc (.cells (bca z) 67))
      have K1 := Lib.hid (KK.out.alloc (o := .cells (bca z) 67))
      have B1 := Lib.hid (BK.out.alloc hbs (.cells (bca z) 67))
      have KU := Lib.hid (Bk.new wr (bca z) 67)
      have hsz1 : (wr.alloc (.cells (bca z) 67)).heap.size = wr.heap.size + 1 := by simp [go_sem]
      have hgo : w.heap.size ≤ gv := (RK.out.lt _ rfl).1
      have hwk : w.heap.size < wr.heap.size := KK.out.lt
      have hgw : gv < wr.heap.size := (RK.out.lt _ rfl).2
      have hgn : gv ≠ g := Ti9.own_ne_own RK.out OK.out (by decide)
      have hgk : gv ≠ w.heap.size := blk_ne RK.out KK.out (by decide)
      by_cases g1 : (z.b : Int) ≤ t
      · have G1 : decide ((z.b : Int) ≤ t) = true := decide_eq_true g1
        obtain ⟨lt, hlt9⟩ : ∃ r, decide (t < (z.b : Int) + (N : Int)) = r := ⟨_, rfl⟩
        have HI := Lib.hid (show inA z t = lt by unfold inA; rw [G1, ← hlt9, hN]; rfl)
        have CD := Lib.hid (fun (hlt : lt = true) (W : World) (h : SR W A0 A1 A2 ds cs gs) => (by
          have h9 : t < (z.b : Int) + (N : Int) := of_decide_eq_true (hlt9.trans hlt)
          obtain ⟨q, hq⟩ : ∃ q : Nat, t = (z.b : Int) + q := ⟨(t - z.b).toNat, by omega⟩
          have := l9Drop A0 n0 c0 A1 n1 c1 A2 n2 c2 T gs z q W (by omega) hj.1 hj.2 HWD.out HF.out.2.2.1 HF.out.2.2.2 h.r2
          rw [mod_air (t := t.toNat) (by omega) (by omega), ← hq] at this; exact this :
          Calls Tryz.prog 33 #[sv A0 n0 c0 A1 n1 c1 A2 n2 c2 T, bv z, .int .i64 t] W fun e w' => ∃ x y h : Int, e = .returned (.agg #[.string z.d.nm, .int .i64 z.b, .int .i64 x, .int .i64 y, .int .i64 h]) ∧ tell gs t.toNat z = ⟨z.d.nm, z.b, x, y, h⟩ ∧ Below W.heap.size W w'))
        clear hz hj hl hN hN2 RK OK KK BK hbs
        go_upto_region 7 with fail
        clear x0 x1 x2 x3 x4 x5 x6
        refine wp_region_noPanic ?_
        refine wp_region_held_drew (S := (fun w' => w'.cell? ⟨wr.heap.size, 0, none⟩ = some (.string z.d.nm) ∧ w'.cell? ⟨wr.heap.size, 1, none⟩ = some (.int .i64 z.b) ∧ w'.cell? ⟨wr.heap.size, 2, none⟩ = some (.int .i64 z.d.x) ∧ w'.cell? ⟨wr.heap.size, 3, none⟩ = some (.int .i64 z.d.y) ∧ w'.cell? ⟨wr.heap.size, 4, none⟩ = some (.int .i64 z.d.hd) ∧ w'.cell? ⟨wr.heap.size, 5, none⟩ = some (.int .i64 z.d.tl) ∧ w'.cell? ⟨wr.heap.size, 6, none⟩ = some (.int .i64 z.l) ∧ Below (wr.heap.size + 1) (wr.alloc (.cells (bca z) 67)) w')) (by kernel_rfl) ?_ (fun hH => ?_)
        · exact ⟨KU.out.drew.cell (i := 0) rfl, KU.out.drew.cell (i := 1) rfl, KU.out.drew.cell (i := 2) rfl, KU.out.drew.cell (i := 3) rfl, KU.out.drew.cell (i := 4) rfl, KU.out.drew.cell (i := 5) rfl, KU.out.drew.cell (i := 6) rfl, (Below.refl _ _).drew⟩
        refine wpAnyH_take (i := 0) (oi := { dst := some 20, op := _, type := _, pos := _, after := _, guard := _ }) (v := ?_) rfl (by kernel_rfl) (by kernel_rfl) (by kernel_rfl) (fun _ _ _ h => h) (Or.inl ⟨by rfl, ?_⟩) hH ?_
        rotate_left 1
        · intro W hSw
          (try dsimp only at hSw)
          go_simp
          (try with_reducible rfl)
        try simp only [Act.put, List.setIfInBounds_toArray, List.set_cons_zero, List.set_cons_succ]
        refine wpAnyH_take (i := 1) (oi := { dst := some 21, op := _, type := _, pos := _, after := _, guard := _ }) (v := ?_) rfl (by kernel_rfl) (by kernel_rfl) (by kernel_rfl) (fun _ _ _ h => h) (Or.inl ⟨by rfl, ?_⟩) hH ?_
        rotate_left 1
        · intro W hSw
          (try dsimp only at hSw)
          go_simp
          (try with_reducible rfl)
        try simp only [Act.put, List.setIfInBounds_toArray, List.set_cons_zero, List.set_cons_succ]
        refine wpAnyH_take (i := 2) (oi := { dst := some 22, op := _, type := _, pos := _, after := _, guard := _ }) (v := ?_) rfl (by kernel_rfl) (by kernel_rfl) (by kernel_rfl) (fun _ _ _ h => h) (Or.inl ⟨by rfl, ?_⟩) hH ?_
        rotate_left 1
        · intro W hSw
          (try dsimp only at hSw)
          go_simp
          (try with_reducible rfl)
        try simp only [Act.put, List.setIfInBounds_toArray, List.set_cons_zero, List.set_cons_succ]
        refine wpAnyH_take (i := 3) (oi := { dst := some 23, op := _, type := _, pos := _, after := _, guard := _ }) (v := ?_) rfl (by kernel_rfl) (by kernel_rfl) (by kernel_rfl) (fun _ _ _ h => h) (Or.inl ⟨by rfl, ?_⟩) hH ?_
        rotate_left 1
        · intro W hSw
          (try dsimp only at hSw)
          go_simp
          (try with_reducible rfl)
        try simp only [Act.put, List.setIfInBounds_toArray, List.set_cons_zero, List.set_cons_succ]
        refine wpAnyH_take (i := 4) (oi := { dst := some 24, op := _, type := _, pos := _, after := _, guard := _ }) (v := ?_) rfl (by kernel_rfl) (by kernel_rfl) (by kernel_rfl) (fun _ _ _ h => h) (Or.inl ⟨by rfl, ?_⟩) hH ?_
        rotate_left 1
        · intro W hSw
          (try dsimp only at hSw)
          go_simp
          (try with_reducible rfl)
        try simp only [Act.put, List.setIfInBounds_toArray, List.set_cons_zero, List.set_cons_succ]
        refine wpAnyH_take (i := 5) (oi := { dst := some 25, op := _, type := _, pos := _, after := _, guard := _ }) (v := ?_) rfl (by kernel_rfl) (by kernel_rfl) (by kernel_rfl) (fun _ _ _ h => h) (Or.inl ⟨by rfl, ?_⟩) hH ?_
        rotate_left 1
        · intro W hSw
          (try dsimp only at hSw)
          go_simp
          (try with_reducible rfl)
        try simp only [Act.put, List.setIfInBounds_toArray, List.set_cons_zero, List.set_cons_succ]
        refine wpAnyH_take (i := 6) (oi := { dst := some 26, op := _, type := _, pos := _, after := _, guard := _ }) (v := ?_) rfl (by kernel_rfl) (by kernel_rfl) (by kernel_rfl) (fun _ _ _ h => h) (Or.inl ⟨by rfl, ?_⟩) hH ?_
        rotate_left 1
        · intro W hSw
          (try dsimp only at hSw)
          go_simp
          (try with_reducible rfl)
        try simp only [Act.put, List.setIfInBounds_toArray, List.set_cons_zero, List.set_cons_succ]
        refine wpAnyH_take (i := 7) (oi := { dst := some 27, op := _, type := _, pos := _, after := _, guard := _ }) (v := ?_) rfl (by kernel_rfl) (by kernel_rfl) (by kernel_rfl) (fun _ _ _ h => h) (Or.inl ⟨by rfl, ?_⟩) hH ?_
        rotate_left 1
        · intro W hSw
          (try dsimp only at hSw)
          go_simp
          (try with_reducible rfl)
        try simp only [Act.put, List.setIfInBounds_toArray, List.set_cons_zero, List.set_cons_succ]
        refine wpAnyH_take (i := 8) (oi := { dst := some 28, op := _, type := _, pos := _, after := _, guard := _ }) (v := ?_) rfl (by kernel_rfl) (by kernel_rfl) (by kernel_rfl) (fun _ _ _ h => h) (Or.inl ⟨by rfl, ?_⟩) hH ?_
        rotate_left 1
        · intro W hSw
          (try dsimp only at hSw)
          go_simp
          (try with_reducible rfl)
        try simp only [Act.put, List.setIfInBounds_toArray, List.set_cons_zero, List.set_cons_succ]
        refine wpAnyH_take (i := 9) (oi := { dst := some 29, op := _, type := _, pos := _, after := _, guard := _ }) (v := ?_) rfl (by kernel_rfl) (by kernel_rfl) (by kernel_rfl) (fun _ _ _ h => h) (Or.inl ⟨by rfl, ?_⟩) hH ?_
        rotate_left 1
        · intro W hSw
          (try dsimp only at hSw)
          go_simp
          (try with_reducible rfl)
        try simp only [Act.put, List.setIfInBounds_toArray, List.set_cons_zero, List.set_cons_succ]
        refine wpAnyH_ready (rs := [10]) (by kernel_rfl) (by simp) (AllReadyH.cons rfl (fun K hK => ?_) AllReadyH.nil)
        go_simp
        go_at_call 34; ((with_reducible refine (CL.out _).mono ?_); rintro e9 r1 ⟨rfl, hb1⟩); go_wp2_with fail
        refine hK.out _ _ ?_ (fun hG => ?_)
        · exact ⟨cell_below hb1 hH.1, cell_below hb1 hH.2.1, cell_below hb1 hH.2.2.1, cell_below hb1 hH.2.2.2.1, cell_below hb1 hH.2.2.2.2.1, cell_below hb1 hH.2.2.2.2.2.1, cell_below hb1 hH.2.2.2.2.2.2.1, hH.2.2.2.2.2.2.2.trans (hb1.mono (by rw [← hsz1]; exact hH.2.2.2.2.2.2.2.size))⟩
        replace hH := hG
        clear hK K hG
        try simp only [Act.put, List.setIfInBounds_toArray, List.set_cons_zero, List.set_cons_succ]
        refine wpAnyH_take (i := 11) (oi := { dst := some 31, op := _, type := _, pos := _, after := _, guard := _ }) (v := ?_) rfl (by kernel_rfl) (by kernel_rfl) (by kernel_rfl) (fun _ _ _ h => h) (Or.inl ⟨by rfl, ?_⟩) hH ?_
        rotate_left 1
        · intro W hSw
          (try dsimp only at hSw)
          go_simp
          (try with_reducible rfl)
        try simp only [Act.put, List.setIfInBounds_toArray, List.set_cons_zero, List.set_cons_succ]
        refine wpAnyH_take (i := 12) (oi := { dst := some 32, op := _, type := _, pos := _, after := _, guard := _ }) (v := ?_) rfl (by kernel_rfl) (by kernel_rfl) (by kernel_rfl) (fun _ _ _ h => h) (Or.inl ⟨by rfl, ?_⟩) hH ?_
        rotate_left 1
        · intro W hSw
          (try dsimp only at hSw)
          go_simp
          (try with_reducible rfl)
        try simp only [Act.put, List.setIfInBounds_toArray, List.set_cons_zero, List.set_cons_succ]
        refine wpAnyH_take (i := 13) (oi := { dst := some 33, op := _, type := _, pos := _, after := _, guard := _ }) (v := ?_) rfl (by kernel_rfl) (by kernel_rfl) (by kernel_rfl) (fun _ _ _ h => h) (Or.inl ⟨by rfl, ?_⟩) hH ?_
        rotate_left 1
        · intro W hSw
          (try dsimp only at hSw)
          go_simp
          (try with_reducible rfl)
        try simp only [Act.put, List.setIfInBounds_toArray, List.set_cons_zero, List.set_cons_succ]
        refine wpAnyH_done (by kernel_rfl) ?_ _
        refine NoPanic.normal ?_
        have hbX := hH.2.2.2.2.2.2.2
        have R2 := Lib.hid (owns_below R1.out (hbX.mono (by rw [hsz1]; exact Nat.le_refl _)))
        have O2 := Lib.hid (owns_below O1.out (hbX.mono (by rw [hsz1]; exact Nat.le_refl _)))
        have K2 := Lib.hid (K1.out.below (hbX.mono (by rw [hsz1]; exact Nat.le_refl _)))
        have B2 := Lib.hid (B1.out.trans (hbX.mono (by omega)))
        have KV := Lib.hid (KU.out.below (hbX.mono (by rw [hsz1]; exact Nat.le_refl _)))
        cases lt
        · have DN := Lib.hid (dp_no (gs := gs) HV.out (show inA z t = false from HI.out))
          have QN := Lib.hid (show (dpL gs t (zs.take (k + 1))).length = q by rw [DN.out]; exact HQ.out)
          have RX := R2.out
          rw [← DN.out] at RX
          have RX := Lib.hid RX
          clear hH hbX hb1 R1 R2 O1 K1 B1 KU KV CL
          go_wp2_with fail
          go_roundw
          case rel => exact ⟨k + 1, by omega, by go_num, ⟨q, gv, cv, by omega, rfl, QN, RX⟩, O2, K2, B2⟩
          case measure => simp [intOf]; omega
        · have y0 := KV.out.cell (i := 0) rfl
          have y1 := KV.out.cell (i := 1) rfl
          have y2 := KV.out.cell (i := 2) rfl
          have y3 := KV.out.cell (i := 3) rfl
          have y4 := KV.out.cell (i := 4) rfl
          have y5 := KV.out.cell (i := 5) rfl
          have y6 := KV.out.cell (i := 6) rfl
          have s0 := K2.out.cell (i := 0) rfl
          have s1 := K2.out.cell (i := 1) rfl
          have s2 := K2.out.cell (i := 2) rfl
          have s3 := K2.out.cell (i := 3) rfl
          have CD2 := Lib.hid (CD.out rfl _ (HS0.out.below B2.out))
          clear hH hbX hb1 R1 O1 K1 B1 KU CL CD
          go_wp2_with fail
          refine CD2.out.mono ?_
          rintro e9 r2 ⟨px, py, ph, rfl, hpt, hb2⟩
          have R3 := owns_below R2.out hb2
          have O3 := owns_below O2.out hb2
          have K3 := K2.out.below hb2
          have B3 := B2.out.trans (hb2.mono B2.out.size)
          obtain ⟨gX, cX, u9, hrun, ho9, hg9⟩ := append_drop (r2.alloc (.cells #[.string z.d.nm, .int .i64 (z.b : Int), .int .i64 px, .int .i64 py, .int .i64 ph] 69)) w.heap.size gv q cv _ (R3.alloc _) ⟨r2.heap.size, 0, none⟩ 1 1 [.string z.d.nm, .int .i64 (z.b : Int), .int .i64 px, .int .i64 py, .int .i64 ph] rfl (by intro j z9 hj9; match j, hj9 with | 0, hj9 => (simp at hj9; subst hj9; simp [Addr.add, go_sem]) | 1, hj9 => (simp at hj9; subst hj9; simp [Addr.add, go_sem]) | 2, hj9 => (simp at hj9; subst hj9; simp [Addr.add, go_sem]) | 3, hj9 => (simp at hj9; subst hj9; simp [Addr.add, go_sem]) | 4, hj9 => (simp at hj9; subst hj9; simp [Addr.add, go_sem])) (by intro z9 hz9; simp at hz9; rcases hz9 with rfl | rfl | rfl | rfl | rfl <;> rfl) (by omega) (by have := B3.size; simp; omega)
          have PT := Lib.hid (show dpL gs t (zs.take (k + 1)) = dpL gs t (zs.take k) ++ [⟨z.d.nm, z.b, px, py, ph⟩] by rw [← hpt]; exact dp_yes HV.out HI.out)
          have QN := Lib.hid (show (dpL gs t (zs.take (k + 1))).length = q + 1 by rw [PT.out, List.length_append, HQ.out]; rfl)
          rw [show pls (dpL gs t (zs.take k)) ++ [.string z.d.nm, .int .i64 (z.b : Int), .int .i64 px, .int .i64 py, .int .i64 ph] = pls (dpL gs t (zs.take (k + 1))) from (by rw [PT.out]; exact pls_snoc _ ⟨z.d.nm, z.b, px, py, ph⟩)] at ho9
          have RX := Lib.hid ho9
          have OX := Lib.hid (owns_grown (O3.alloc (.cells #[.string z.d.nm, .int .i64 (z.b : Int), .int .i64 px, .int .i64 py, .int .i64 ph] 69)) hg9 (Ti9.ne_blk hgn))
          have KX := Lib.hid ((K3.alloc (o := .cells #[.string z.d.nm, .int .i64 (z.b : Int), .int .i64 px, .int .i64 py, .int .i64 ph] 69)).grown hg9 (fun e => by have e := Option.some.inj e; omega))
          have BX := Lib.hid ((B3.alloc (Nat.le_trans B2.out.size hb2.size) (.cells #[.string z.d.nm, .int .i64 (z.b : Int), .int .i64 px, .int .i64 py, .int .i64 ph] 69)).grown hg9 (by have := B3.size; simp; omega) (fun z9 e9 => by have e9 := Option.some.inj e9; omega))
          clear hb2 ho9 hg9 R2 R3 O2 O3 K2 K3 B2 B3 CD2 hpt y0 y1 y2 y3 y4 y5 y6 s0 s1 s2 s3 KV
          go_wp2_with (at_builtin; refine wpList_append_drop rfl _ _ rfl rfl _ _ _ rfl rfl hrun ?_)
          go_roundw
          case rel => exact ⟨k + 1, by omega, by go_num, ⟨q + 1, gX, cX, by omega, rfl, QN, RX⟩, OX, KX, BX⟩
          case measure => simp [intOf]; omega
      · have G1 : decide ((z.b : Int) ≤ t) = false := decide_eq_false g1
        clear hz hj hl hN hN2 RK OK KK BK hbs
        go_upto_region 7 with fail
        clear x0 x1 x2 x3 x4 x5 x6
        refine wp_region_noPanic ?_
        refine wp_region_held_drew (S := (fun w' => w'.cell? ⟨wr.heap.size, 0, none⟩ = some (.string z.d.nm) ∧ w'.cell? ⟨wr.heap.size, 1, none⟩ = some (.int .i64 z.b) ∧ w'.cell? ⟨wr.heap.size, 2, none⟩ = some (.int .i64 z.d.x) ∧ w'.cell? ⟨wr.heap.size, 3, none⟩ = some (.int .i64 z.d.y) ∧ w'.cell? ⟨wr.heap.size, 4, none⟩ = some (.int .i64 z.d.hd) ∧ w'.cell? ⟨wr.heap.size, 5, none⟩ = some (.int .i64 z.d.tl) ∧ w'.cell? ⟨wr.heap.size, 6, none⟩ = some (.int .i64 z.l) ∧ Below (wr.heap.size + 1) (wr.alloc (.cells (bca z) 67)) w')) (by kernel_rfl) ?_ (fun hH => ?_)
        · exact ⟨KU.out.drew.cell (i := 0) rfl, KU.out.drew.cell (i := 1) rfl, KU.out.drew.cell (i := 2) rfl, KU.out.drew.cell (i := 3) rfl, KU.out.drew.cell (i := 4) rfl, KU.out.drew.cell (i := 5) rfl, KU.out.drew.cell (i := 6) rfl, (Below.refl _ _).drew⟩
        refine wpAnyH_take (i := 0) (oi := { dst := some 20, op := _, type := _, pos := _, after := _, guard := _ }) (v := ?_) rfl (by kernel_rfl) (by kernel_rfl) (by kernel_rfl) (fun _ _ _ h => h) (Or.inl ⟨by rfl, ?_⟩) hH ?_
        rotate_left 1
        · intro W hSw
          (try dsimp only at hSw)
          go_simp
          (try with_reducible rfl)
        try simp only [Act.put, List.setIfInBounds_toArray, List.set_cons_zero, List.set_cons_succ]
        refine wpAnyH_take (i := 1) (oi := { dst := some 21, op := _, type := _, pos := _, after := _, guard := _ }) (v := ?_) rfl (by kernel_rfl) (by kernel_rfl) (by kernel_rfl) (fun _ _ _ h => h) (Or.inl ⟨by rfl, ?_⟩) hH ?_
        rotate_left 1
        · intro W hSw
          (try dsimp only at hSw)
          go_simp
          (try with_reducible rfl)
        try simp only [Act.put, List.setIfInBounds_toArray, List.set_cons_zero, List.set_cons_succ]
        refine wpAnyH_take (i := 2) (oi := { dst := some 22, op := _, type := _, pos := _, after := _, guard := _ }) (v := ?_) rfl (by kernel_rfl) (by kernel_rfl) (by kernel_rfl) (fun _ _ _ h => h) (Or.inl ⟨by rfl, ?_⟩) hH ?_
        rotate_left 1
        · intro W hSw
          (try dsimp only at hSw)
          go_simp
          (try with_reducible rfl)
        try simp only [Act.put, List.setIfInBounds_toArray, List.set_cons_zero, List.set_cons_succ]
        refine wpAnyH_take (i := 3) (oi := { dst := some 23, op := _, type := _, pos := _, after := _, guard := _ }) (v := ?_) rfl (by kernel_rfl) (by kernel_rfl) (by kernel_rfl) (fun _ _ _ h => h) (Or.inl ⟨by rfl, ?_⟩) hH ?_
        rotate_left 1
        · intro W hSw
          (try dsimp only at hSw)
          go_simp
          (try with_reducible rfl)
        try simp only [Act.put, List.setIfInBounds_toArray, List.set_cons_zero, List.set_cons_succ]
        refine wpAnyH_take (i := 4) (oi := { dst := some 24, op := _, type := _, pos := _, after := _, guard := _ }) (v := ?_) rfl (by kernel_rfl) (by kernel_rfl) (by kernel_rfl) (fun _ _ _ h => h) (Or.inl ⟨by rfl, ?_⟩) hH ?_
        rotate_left 1
        · intro W hSw
          (try dsimp only at hSw)
          go_simp
          (try with_reducible rfl)
        try simp only [Act.put, List.setIfInBounds_toArray, List.set_cons_zero, List.set_cons_succ]
        refine wpAnyH_take (i := 5) (oi := { dst := some 25, op := _, type := _, pos := _, after := _, guard := _ }) (v := undef) rfl (by kernel_rfl) (by kernel_rfl) (by kernel_rfl) (fun _ _ _ h => h) (Or.inr ⟨by simp [Region.wanted, yielded, hu, G1], rfl⟩) hH ?_
        try simp only [Act.put, List.setIfInBounds_toArray, List.set_cons_zero, List.set_cons_succ]
        refine wpAnyH_take (i := 6) (oi := { dst := some 26, op := _, type := _, pos := _, after := _, guard := _ }) (v := undef) rfl (by kernel_rfl) (by kernel_rfl) (by kernel_rfl) (fun _ _ _ h => h) (Or.inr ⟨by simp [Region.wanted, yielded, hu, G1], rfl⟩) hH ?_
        try simp only [Act.put, List.setIfInBounds_toArray, List.set_cons_zero, List.set_cons_succ]
        refine wpAnyH_take (i := 7) (oi := { dst := some 27, op := _, type := _, pos := _, after := _, guard := _ }) (v := undef) rfl (by kernel_rfl) (by kernel_rfl) (by kernel_rfl) (fun _ _ _ h => h) (Or.inr ⟨by simp [Region.wanted, yielded, hu, G1], rfl⟩) hH ?_
        try simp only [Act.put, List.setIfInBounds_toArray, List.set_cons_zero, List.set_cons_succ]
        refine wpAnyH_take (i := 8) (oi := { dst := some 28, op := _, type := _, pos := _, after := _, guard := _ }) (v := undef) rfl (by kernel_rfl) (by kernel_rfl) (by kernel_rfl) (fun _ _ _ h => h) (Or.inr ⟨by simp [Region.wanted, yielded, hu, G1], rfl⟩) hH ?_
        try simp only [Act.put, List.setIfInBounds_toArray, List.set_cons_zero, List.set_cons_succ]
        refine wpAnyH_take (i := 9) (oi := { dst := some 29, op := _, type := _, pos := _, after := _, guard := _ }) (v := undef) rfl (by kernel_rfl) (by kernel_rfl) (by kernel_rfl) (fun _ _ _ h => h) (Or.inr ⟨by simp [Region.wanted, yielded, hu, G1], rfl⟩) hH ?_
        try simp only [Act.put, List.setIfInBounds_toArray, List.set_cons_zero, List.set_cons_succ]
        refine wpAnyH_take (i := 10) (oi := { dst := some 30, op := _, type := _, pos := _, after := _, guard := _ }) (v := undef) rfl (by kernel_rfl) (by kernel_rfl) (by kernel_rfl) (fun _ _ _ h => h) (Or.inr ⟨by simp [Region.wanted, yielded, hu, G1], rfl⟩) hH ?_
        try simp only [Act.put, List.setIfInBounds_toArray, List.set_cons_zero, List.set_cons_succ]
        refine wpAnyH_take (i := 11) (oi := { dst := some 31, op := _, type := _, pos := _, after := _, guard := _ }) (v := undef) rfl (by kernel_rfl) (by kernel_rfl) (by kernel_rfl) (fun _ _ _ h => h) (Or.inr ⟨by simp [Region.wanted, yielded, hu, G1], rfl⟩) hH ?_
        try simp only [Act.put, List.setIfInBounds_toArray, List.set_cons_zero, List.set_cons_succ]
        refine wpAnyH_take (i := 12) (oi := { dst := some 32, op := _, type := _, pos := _, after := _, guard := _ }) (v := undef) rfl (by kernel_rfl) (by kernel_rfl) (by kernel_rfl) (fun _ _ _ h => h) (Or.inr ⟨by simp [Region.wanted, yielded, hu, G1], rfl⟩) hH ?_
        try simp only [Act.put, List.setIfInBounds_toArray, List.set_cons_zero, List.set_cons_succ]
        refine wpAnyH_take (i := 13) (oi := { dst := some 33, op := _, type := _, pos := _, after := _, guard := _ }) (v := ?_) rfl (by kernel_rfl) (by kernel_rfl) (by kernel_rfl) (fun _ _ _ h => h) (Or.inl ⟨by rfl, ?_⟩) hH ?_
        rotate_left 1
        · intro W hSw
          (try dsimp only at hSw)
          go_simp
          (try with_reducible rfl)
        try simp only [Act.put, List.setIfInBounds_toArray, List.set_cons_zero, List.set_cons_succ]
        refine wpAnyH_done (by kernel_rfl) ?_ _
        refine NoPanic.normal ?_
        have hbX := hH.2.2.2.2.2.2.2
        have R2 := Lib.hid (owns_below R1.out (hbX.mono (by rw [hsz1]; exact Nat.le_refl _)))
        have O2 := Lib.hid (owns_below O1.out (hbX.mono (by rw [hsz1]; exact Nat.le_refl _)))
        have K2 := Lib.hid (K1.out.below (hbX.mono (by rw [hsz1]; exact Nat.le_refl _)))
        have B2 := Lib.hid (B1.out.trans (hbX.mono (by omega)))
        have KV := Lib.hid (KU.out.below (hbX.mono (by rw [hsz1]; exact Nat.le_refl _)))
        have DN := Lib.hid (dp_no (gs := gs) HV.out (show inA z t = false from inA_no (fun h => g1 h.1)))
        have QN := Lib.hid (show (dpL gs t (zs.take (k + 1))).length = q by rw [DN.out]; exact HQ.out)
        have RX := R2.out
        rw [← DN.out] at RX
        have RX := Lib.hid RX
        clear hH hbX R1 R2 O1 K1 B1 KU KV CL
        go_wp2_with fail
        go_roundw
        case rel => exact ⟨k + 1, by omega, by go_num, ⟨q, gv, cv, by omega, rfl, QN, RX⟩, O2, K2, B2⟩
        case measure => simp [intOf]; omega
    · obtain rfl : m = k := by omega
      have HV := Lib.hid (show dpL gs t (zs.take m) = (dpV ds cs gs T t) by rw [List.take_of_length_le (by rw [HM.out]; exact Nat.le_refl _)]; exact HVAL.out)
      rw [HV.out] at HQ RK
      clear OK KK
      go_wp2_with fail
      go_ret
      exact ⟨gv, cv, by rw [HQ.out]; rfl, by rw [HQ.out]; exact RK.out, BK.out⟩
end Go.Proofs.YtejeikfgmiadhaaGreat.Lw9
