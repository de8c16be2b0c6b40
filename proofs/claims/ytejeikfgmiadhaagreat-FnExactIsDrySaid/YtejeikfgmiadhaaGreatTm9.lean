/- The drops that the model throws. -/
import Derived.Test.YtejeikfgmiadhaaGreatTi9
import Derived.Test.YtejeikfgmiadhaaGreatLg9
import Derived.Deep.RegionHeld3
import Derived.Maps.AppendAt
namespace Go.Proofs.YtejeikfgmiadhaaGreat.Tm9
open Go.RowKit Go.ChangeShapes Go.WideShapes Go.WideElems Go.Deep Go.Proofs.YtejeikfgmiadhaaGreat.Mem Go.Proofs.YtejeikfgmiadhaaGreat.Rw Go.Proofs.YtejeikfgmiadhaaGreat.P2 Go.Proofs.YtejeikfgmiadhaaGreat.Bk Go.Proofs.YtejeikfgmiadhaaGreat.Sp Go.Proofs.YtejeikfgmiadhaaGreat.Sq Go.Proofs.YtejeikfgmiadhaaGreat.Jt Go.Proofs.YtejeikfgmiadhaaGreat.Cm Go.Proofs.YtejeikfgmiadhaaGreat.Cx Go.Proofs.YtejeikfgmiadhaaGreat.Pl
open Go.Proofs.YtejeikfgmiadhaaGreat.Sv hiding D C G
open Go.Proofs.YtejeikfgmiadhaaGreat.Ig (rig)
set_option linter.unusedVariables false
set_option linter.unusedSimpArgs false
open Go.Proofs.YtejeikfgmiadhaaGreat.Wp (RowI rd_cell)
open Go.Proofs.YtejeikfgmiadhaaGreat.Ti9 (own_ne_own ne_blk)


/-- The cells of a drop. -/
def bc (u : B) : List Value := [.string u.d.nm, .int .i64 u.b, .int .i64 u.d.x, .int .i64 u.d.y, .int .i64 u.d.hd, .int .i64 u.d.tl, .int .i64 u.l]
theorem bc_len (u : B) : (bc u).length = 7 := rfl
def bls (us : List B) : List Value := us.flatMap bc
theorem bls_len (us : List B) : (bls us).length = us.length * 7 := flat_len bc_len us
theorem bls_get {us : List B} {k : Nat} {u : B} (h : us[k]? = some u) :
    (bls us)[k * 7]? = some (.string u.d.nm) ∧ (bls us)[k * 7 + 1]? = some (.int .i64 u.b) ∧ (bls us)[k * 7 + 2]? = some (.int .i64 u.d.x) ∧ (bls us)[k * 7 + 3]? = some (.int .i64 u.d.y) ∧ (bls us)[k * 7 + 4]? = some (.int .i64 u.d.hd) ∧ (bls us)[k * 7 + 5]? = some (.int .i64 u.d.tl) ∧ (bls us)[k * 7 + 6]? = some (.int .i64 u.l) :=
  ⟨(flat_get bc_len h 0 (by omega)).trans rfl, (flat_get bc_len h 1 (by omega)).trans rfl, (flat_get bc_len h 2 (by omega)).trans rfl, (flat_get bc_len h 3 (by omega)).trans rfl, (flat_get bc_len h 4 (by omega)).trans rfl, (flat_get bc_len h 5 (by omega)).trans rfl, (flat_get bc_len h 6 (by omega)).trans rfl⟩
theorem bls_snoc (us : List B) (u : B) : bls us ++ bc u = bls (us ++ [u]) := (flat_snoc us u).symm
theorem info_bls : (Tryz.prog.info? 67).map (fun i => (i.zero, i.size, i.bytes)) = some (some (.agg #[.string ⟨#[]⟩, .int .i64 0, .int .i64 0, .int .i64 0, .int .i64 0, .int .i64 0, .int .i64 0]), 7, 64) := by kernel_rfl

def RowM (w : World) (zs : List B) (e : Ending) (w' : World) : Prop :=
  ∃ g c, e = .returned (.slice (some ⟨g, 0, none⟩) zs.length c) ∧ w'.ownsRow w.heap.size 67 7 (.slice (some ⟨g, 0, none⟩) zs.length c) zs.length (bls zs) ∧ Below w.heap.size w w'
theorem row_of {w w' : World} {l : List B} {q g c : Nat} (hq : l.length = q) (o : w'.ownsRow w.heap.size 67 7 (.slice (some ⟨g, 0, none⟩) q c) q (bls l)) (b : Below w.heap.size w w') : RowM w l (.returned (.slice (some ⟨g, 0, none⟩) q c)) w' := by
  subst hq; exact ⟨g, c, rfl, o, b⟩
set_option maxHeartbeats 1000000 in
theorem l9Jet (d : D) (l : Int) (w : World) : Calls Tryz.prog 73 #[Dd.va d.nm d.kd d.ln d.x d.y d.hd d.tl d.ms, .int .i64 l] w fun e w' => e = .returned (jv d.x d.y d.hd d.tl l) ∧ Below w.heap.size w w' := by
  obtain ⟨dn, dk, dl, dx, dy, dh, dt, dm⟩ := d
  go_enter Tryz.func73, Tryz.ntmps73
  go_wp2
  go_returns
  exact ⟨rfl, by go_grown⟩
theorem append_born (w : World) (base g n c : Nat) (xs : List Value) (hown : w.ownsRow base 67 7 (.slice (some ⟨g, 0, none⟩) n c) n xs) (a : Addr) (m c2 : Nat) (news : List Value) (hl : news.length = m * 7) (hnews : ∀ j u, news[j]? = some u → w.cell? (a.add j) = some u) (h1 : ∀ u ∈ news, u.oneCell' = true) (hs : n + m ≤ 2097152) (hbase : base ≤ w.heap.size) :
    ∃ (g' c' : Nat) (w' : World), (Builtin.append_ #[62, 62] 62 #[.slice (some ⟨g, 0, none⟩) n c, .slice (some a) m c2]).run Tryz.prog w = .ok (.slice (some ⟨g', 0, none⟩) (n + m) c') w' ∧ w'.ownsRow base 67 7 (.slice (some ⟨g', 0, none⟩) (n + m) c') (n + m) (xs ++ news) ∧ w.grownBy w' (some g) := by
  obtain ⟨i0, hi, hz0, hz1, hz2⟩ := info_of info_bls
  obtain ⟨v', w', hr, h2, h3, h4, _⟩ := run_append_own_at (P := Tryz.prog) w base 62 62 67 i0 (.agg #[.string ⟨#[]⟩, .int .i64 0, .int .i64 0, .int .i64 0, .int .i64 0, .int .i64 0, .int .i64 0]) 7 64 Tryz.underlying62 hi hz0 hz1 hz2 rfl (by decide) _ n xs hown a m c2 news hl hnews h1 (by unfold maxLen; omega) (by omega) hbase
  have hg : ∃ g c, v' = .slice (some ⟨g, 0, none⟩) (n + m) c := by
    rcases h2.2 with ⟨e1, _⟩ | ⟨g, cap, cur, e1, _⟩
    · exact absurd (h4.1 e1).1 (by intro h; cases h)
    · exact ⟨g, cap, e1⟩
  obtain ⟨g', c', rfl⟩ := hg
  exact ⟨g', c', w', hr, h2, h3⟩
theorem step_append_born {ops : Array Oper} {o : Oper} {a : Act} {w w' : World} {K : Act → World → Prop} {Q : Exit → Act → World → Prop} {E : Prop}
    (hg : o.guard = none) (s x : Operand) (hop : o.op = Op.call { callee := Callee.builtin Builtin.append, args := #[s, x], argTypes := #[62, 62] }) (hty : o.type = 62)
    (v v2 v' : Value) (hs : a.eval s = v) (hx : a.eval x = v2) (hrun : (Builtin.append_ #[62, 62] 62 #[v, v2]).run Tryz.prog w = .ok v' w') (hK : K (a.put o.dst v') w') :
    if Region.wanted o (yielded ops a.tmps) = true then Oper.wp Tryz.prog o a w K Q else E := by
  have hw : Region.wanted o (yielded ops a.tmps) = true := by simp [Region.wanted, hg]
  rw [if_pos hw]
  unfold Oper.wp
  simp [execOp, hop, hty, resolve, invoke, builtin, hs, hx, hrun, Result.andThen]
  exact hK

set_option maxRecDepth 100000 in
set_option maxHeartbeats 8000000 in
theorem l9All (A0 : Option Addr) (n0 c0 : Nat) (A1 : Option Addr) (n1 c1 : Nat) (A2 : Option Addr) (n2 c2 : Nat) (T : Int) (ds : List D) (cs : List C) (gs : List G) (w : World)
    (hf : Fit n0 n1 n2 ds cs gs) (hr : SR w A0 A1 A2 ds cs gs) (hrr : show9 ds cs gs T = true) :
    Calls Tryz.prog 32 #[sv A0 n0 c0 A1 n1 c1 A2 n2 c2 T] w (RowM w (all9 ds cs gs T)) := by
  have HF := Lib.hid hf
  have hu : undef = Value.tuple #[] := rfl
  have HS := Lib.hid hr
  have HN := Lib.hid hf.1.1
  have hb0 : n0 ≤ 1048576 := hf.1.2
  rw [all9_yes hrr]
  obtain ⟨hrig, hsco, _, hT0, hT1⟩ := show_iff.1 hrr
  obtain ⟨N, rfl⟩ : ∃ N : Nat, T = N := ⟨T.toNat, by omega⟩
  have hz : (w.alloc (.cells (sc A0 n0 c0 A1 n1 c1 A2 n2 c2 N) 34)).heap.size = w.heap.size + 1 := by simp [go_sem]
  have K1 := Lib.hid ((Bk.new w (sc A0 n0 c0 A1 n1 c1 A2 n2 c2 N) 34).alloc (o := .cells #[] 67))
  have B0a := (Below.refl w.heap.size w).alloc (Nat.le_refl _) (.cells (sc A0 n0 c0 A1 n1 c1 A2 n2 c2 N) 34)
  have B1 := Lib.hid (B0a.alloc B0a.size (.cells #[] 67))
  have R1 := World.ownsRow_lit (base := w.heap.size) (e := 67) (size := 7) (w.alloc (.cells (sc A0 n0 c0 A1 n1 c1 A2 n2 c2 N) 34)) #[] 0 B0a.size (Nat.zero_le _) rfl
  rw [hz] at R1
  have R1 := Lib.hid R1
  have CL := Lib.hid (fun (k : Nat) (hk : k ≤ 64) (W : World) (h : SR W A0 A1 A2 ds cs gs) => (by have := Lg9.l9Lifts A0 n0 c0 A1 n1 c1 A2 n2 c2 N ds cs gs (k : Int) W HF.out h hrig hsco ⟨hT0, hT1⟩ (Ld.wf64 (by omega) (by omega)); unfold Wp.RowI at this; rw [lifts_len, HN.out] at this; exact this :
    Calls Tryz.prog 72 #[sv A0 n0 c0 A1 n1 c1 A2 n2 c2 N, .int .i64 (k : Int)] W (fun e w' => ∃ g c, e = .returned (.slice (some ⟨g, 0, none⟩) n0 c) ∧ w'.ownsRow W.heap.size 3 1 (.slice (some ⟨g, 0, none⟩) n0 c) n0 (ints (lifts ds cs N (k : Int))) ∧ Below W.heap.size W w')))
  have HOK := Lib.hid (fun (k : Nat) => ok_lifts cs N (k : Int) hrig)
  have HLen := Lib.hid (fun (k : Nat) => lifts_len ds cs N (k : Int))
  have H8 := Lib.hid (Rz.rig_set.1 (Ig.rig_of hrig)).1
  have hN : N ≤ 64 := by omega
  rw [Int.toNat_natCast]
  clear hrr hrig hsco hT0 hT1 hr hf hz B0a
  go_enter Tryz.func32, Tryz.ntmps32
  go_wp2_with fail
  go_loopw [3, 4] (fun v i wr => ∃ k q g c : Nat, k ≤ N ∧ i = .int .i64 k ∧ v = .slice (some ⟨g, 0, none⟩) q c ∧ Hid ((allK ds cs N k).length = q) ∧ Hid (wr.ownsRow w.heap.size 67 7 (.slice (some ⟨g, 0, none⟩) q c) q (bls (allK ds cs N k))) ∧ Hid (Bk wr w.heap.size (sc A0 n0 c0 A1 n1 c1 A2 n2 c2 N) 34) ∧ Hid (Below w.heap.size w wr)) (fun _ i _ => N - (intOf i).toNat)
  case atStart => exact ⟨0, 0, _, _, Nat.zero_le _, rfl, rfl, Lib.hid rfl, R1, K1, B1⟩
  case round =>
    obtain ⟨k, q, g, c, hk, rfl, rfl, QK, RK, KK, BK⟩ := hrel
    clear R1 K1 B1
    have b3 := KK.out.cell (i := 3) rfl
    by_cases hlt : k < N
    · have b0 := KK.out.cell (i := 0) rfl
      have b1 := KK.out.cell (i := 1) rfl
      have b2 := KK.out.cell (i := 2) rfl
      have CLk := Lib.hid (CL.out k (by omega))
      obtain ⟨LI, hLI⟩ : ∃ LI, lifts ds cs N (k : Int) = LI := ⟨_, rfl⟩
      have HO := Lib.hid (show LiftOk ds LI by rw [← hLI]; exact HOK.out k)
      have HLL := Lib.hid (show LI.length = n0 by rw [← hLI, HLen.out k]; exact HN.out)
      have HAK := Lib.hid (show allK ds cs N (k + 1) = allK ds cs N k ++ rowK ds LI k ds.length by rw [← hLI]; rfl)
      rw [hLI] at CLk
      clear hLI
      go_wp2_with fail
      refine (CLk.out _ (HS.out.below BK.out)).mono ?_
      rintro e u1 ⟨g5, c5, rfl, o5, hb⟩
      have RA := Lib.hid (show u1.ownsRow w.heap.size 67 7 (.slice (some ⟨g, 0, none⟩) q c) q (bls (allK ds cs N k ++ rowK ds LI k 0)) by rw [show rowK ds LI k 0 = [] from rfl, List.append_nil]; exact owns_below RK.out hb)
      have QA := Lib.hid (show (allK ds cs N k ++ rowK ds LI k 0).length = q by rw [show rowK ds LI k 0 = [] from rfl, List.append_nil]; exact QK.out)
      have LA := Lib.hid (owns_base o5 (Nat.le_trans BK.out.size (o5.lt g5 rfl).1))
      have KA := Lib.hid (KK.out.below hb)
      have BA := Lib.hid (BK.out.trans (hb.mono BK.out.size))
      clear hb o5 RK KK BK QK CLk b0 b1 b2 b3
      go_wp2_with fail
      go_loopw [3, 18] (fun v i wr => ∃ i9 q g c : Nat, i9 ≤ n0 ∧ i = .int .i64 i9 ∧ v = .slice (some ⟨g, 0, none⟩) q c ∧ Hid ((allK ds cs N k ++ rowK ds LI k i9).length = q) ∧ Hid (wr.ownsRow w.heap.size 67 7 (.slice (some ⟨g, 0, none⟩) q c) q (bls (allK ds cs N k ++ rowK ds LI k i9))) ∧ Hid (wr.ownsRow w.heap.size 3 1 (.slice (some ⟨g5, 0, none⟩) n0 c5) n0 (ints LI)) ∧ Hid (Bk wr w.heap.size (sc A0 n0 c0 A1 n1 c1 A2 n2 c2 N) 34) ∧ Hid (Below w.heap.size w wr)) (fun _ i _ => n0 - (intOf i).toNat)
      case atStart => exact ⟨0, q, g, c, Nat.zero_le _, rfl, rfl, QA, RA, LA, KA, BA⟩
      case round =>
        obtain ⟨i, q, g, c, hi9, rfl, rfl, QI, RI, LI9, KI, BI⟩ := hrel
        clear QA RA LA KA BA
        by_cases hli : i < n0
        · obtain ⟨x, hx⟩ : ∃ x, LI[i]? = some x := ⟨_, List.getElem?_eq_getElem (by rw [HLL.out]; exact hli)⟩
          obtain ⟨z, hz⟩ : ∃ z, ds[i]? = some z := ⟨_, List.getElem?_eq_getElem (by rw [HN.out]; exact hli)⟩
          have HZ := Lib.hid hz
          have cL : wr.cell? ⟨g5, i, none⟩ = some (.int .i64 x) := (LI9.out.cellAt i (by omega)).trans (by unfold ints; rw [List.getElem?_map, hx]; rfl)
          by_cases hx0 : x = 0
          · have RN := Lib.hid (row_no (t := k) hz hx hx0)
            subst hx0
            clear hx hz
            go_wp2_with fail
            go_roundw
            case rel => exact ⟨i + 1, q, g, c, by omega, by go_num, rfl, by rw [RN.out]; exact QI, by rw [RN.out]; exact RI, LI9, KI, BI⟩
            case measure => simp [intOf]; omega
          · have RY := Lib.hid (row_yes (t := k) hz hx hx0)
            have hxp : 0 < x := by
              rcases HO.out i x hx with e | ⟨a, b, d', e, _, n, _⟩
              · exact absurd e hx0
              · omega
            clear hx hz hx0
            obtain ⟨dn, dk, dl, dx, dy, dh, dt, dm⟩ := z
            obtain ⟨bD, oD, eA, hbl, hcell⟩ := (HS.out.1.below BI.out).get (k := i * 8) (by rw [Dd.dls_len, HN.out]; omega)
            obtain ⟨z0, z1, z2, z3, z4, z5, z6, z7⟩ := Dd.dls_get HZ.out
            have v0 := hcell (i * 8) _ z0
            have v1 := hcell (i * 8 + 1) _ z1
            rw [← Nat.add_assoc] at v1
            have v2 := hcell (i * 8 + 2) _ z2
            rw [← Nat.add_assoc] at v2
            have v3 := hcell (i * 8 + 3) _ z3
            rw [← Nat.add_assoc] at v3
            have v4 := hcell (i * 8 + 4) _ z4
            rw [← Nat.add_assoc] at v4
            have v5 := hcell (i * 8 + 5) _ z5
            rw [← Nat.add_assoc] at v5
            have v6 := hcell (i * 8 + 6) _ z6
            rw [← Nat.add_assoc] at v6
            have v7 := hcell (i * 8 + 7) _ z7
            rw [← Nat.add_assoc] at v7
            have hbD : bD < w.heap.size := hbl; clear hcell hbl z0 z1 z2 z3 z4 z5 z6 z7
            subst eA
            have b0 := KI.out.cell (i := 0) rfl
            have nL : g ≠ g5 := own_ne_own RI.out LI9.out (by decide)
            have nB : g ≠ w.heap.size := fun e => own_ne RI.out KI.out (by decide) (by rw [e]; rfl)
            have lg : w.heap.size ≤ g := (RI.out.lt g rfl).1
            have hq : q ≤ 600 := by
              have h1 := QI.out; rw [List.length_append] at h1
              have := all_len (cs := cs) (T := N) H8.out k
              have := row_len ds LI k i
              have := HN.out; have := H8.out
              omega
            go_upto_region 9 with fail
            clear cL
            refine wp_region_noPanic ?_
            refine wp_region_held_drew (S := (fun w' => w'.cell? ⟨w.heap.size, 0, none⟩ = some (.slice (some ⟨bD, oD, none⟩) n0 c0) ∧ w'.cell? ⟨bD, oD + i * 8, none⟩ = some (.string dn) ∧ w'.cell? ⟨bD, oD + i * 8 + 1, none⟩ = some (.int .i64 dk) ∧ w'.cell? ⟨bD, oD + i * 8 + 2, none⟩ = some (.string dl) ∧ w'.cell? ⟨bD, oD + i * 8 + 3, none⟩ = some (.int .i64 dx) ∧ w'.cell? ⟨bD, oD + i * 8 + 4, none⟩ = some (.int .i64 dy) ∧ w'.cell? ⟨bD, oD + i * 8 + 5, none⟩ = some (.int .i64 dh) ∧ w'.cell? ⟨bD, oD + i * 8 + 6, none⟩ = some (.int .i64 dt) ∧ w'.cell? ⟨bD, oD + i * 8 + 7, none⟩ = some (.int .i64 dm) ∧ Below w.heap.size w w')) (by kernel_rfl) ?_ (fun hH => ?_)
            · exact ⟨b0, v0, v1, v2, v3, v4, v5, v6, v7, BI.out.drew⟩
            refine wpAnyH_take (i := 0) (oi := { dst := some 25, op := _, type := _, pos := _, after := _, guard := _ }) (v := ?_) rfl (by kernel_rfl) (by kernel_rfl) (by kernel_rfl) (fun _ _ _ h => h) (Or.inl ⟨by rfl, ?_⟩) hH ?_
            rotate_left 1
            · intro W hSw
              (try dsimp only at hSw)
              go_simp
              (try with_reducible rfl)
            try simp only [Act.put, List.setIfInBounds_toArray, List.set_cons_zero, List.set_cons_succ]
            refine wpAnyH_take (i := 1) (oi := { dst := some 26, op := _, type := _, pos := _, after := _, guard := _ }) (v := ?_) rfl (by kernel_rfl) (by kernel_rfl) (by kernel_rfl) (fun _ _ _ h => h) (Or.inl ⟨by rfl, ?_⟩) hH ?_
            rotate_left 1
            · intro W hSw
              (try dsimp only at hSw)
              go_simp
              (try with_reducible rfl)
            try simp only [Act.put, List.setIfInBounds_toArray, List.set_cons_zero, List.set_cons_succ]
            refine wpAnyH_take (i := 2) (oi := { dst := some 27, op := _, type := _, pos := _, after := _, guard := _ }) (v := ?_) rfl (by kernel_rfl) (by kernel_rfl) (by kernel_rfl) (fun _ _ _ h => h) (Or.inl ⟨by rfl, ?_⟩) hH ?_
            rotate_left 1
            · intro W hSw
              (try dsimp only at hSw)
              go_simp
              (try with_reducible rfl)
            try simp only [Act.put, List.setIfInBounds_toArray, List.set_cons_zero, List.set_cons_succ]
            refine wpAnyH_take (i := 3) (oi := { dst := some 28, op := _, type := _, pos := _, after := _, guard := _ }) (v := ?_) rfl (by kernel_rfl) (by kernel_rfl) (by kernel_rfl) (fun _ _ _ h => h) (Or.inl ⟨by rfl, ?_⟩) hH ?_
            rotate_left 1
            · intro W hSw
              (try dsimp only at hSw)
              go_simp
              (try with_reducible rfl)
            try simp only [Act.put, List.setIfInBounds_toArray, List.set_cons_zero, List.set_cons_succ]
            refine wpAnyH_take (i := 4) (oi := { dst := some 29, op := _, type := _, pos := _, after := _, guard := _ }) (v := ?_) rfl (by kernel_rfl) (by kernel_rfl) (by kernel_rfl) (fun _ _ _ h => h) (Or.inl ⟨by rfl, ?_⟩) hH ?_
            rotate_left 1
            · intro W hSw
              (try dsimp only at hSw)
              go_simp
              (try with_reducible rfl)
            try simp only [Act.put, List.setIfInBounds_toArray, List.set_cons_zero, List.set_cons_succ]
            refine wpAnyH_take (i := 5) (oi := { dst := some 30, op := _, type := _, pos := _, after := _, guard := _ }) (v := ?_) rfl (by kernel_rfl) (by kernel_rfl) (by kernel_rfl) (fun _ _ _ h => h) (Or.inl ⟨by rfl, ?_⟩) hH ?_
            rotate_left 1
            · intro W hSw
              (try dsimp only at hSw)
              go_simp
              (try with_reducible rfl)
            try simp only [Act.put, List.setIfInBounds_toArray, List.set_cons_zero, List.set_cons_succ]
            refine wpAnyH_take (i := 6) (oi := { dst := some 31, op := _, type := _, pos := _, after := _, guard := _ }) (v := ?_) rfl (by kernel_rfl) (by kernel_rfl) (by kernel_rfl) (fun _ _ _ h => h) (Or.inl ⟨by rfl, ?_⟩) hH ?_
            rotate_left 1
            · intro W hSw
              (try dsimp only at hSw)
              go_simp
              (try with_reducible rfl)
            try simp only [Act.put, List.setIfInBounds_toArray, List.set_cons_zero, List.set_cons_succ]
            refine wpAnyH_take (i := 7) (oi := { dst := some 32, op := _, type := _, pos := _, after := _, guard := _ }) (v := ?_) rfl (by kernel_rfl) (by kernel_rfl) (by kernel_rfl) (fun _ _ _ h => h) (Or.inl ⟨by rfl, ?_⟩) hH ?_
            rotate_left 1
            · intro W hSw
              (try dsimp only at hSw)
              go_simp
              (try with_reducible rfl)
            try simp only [Act.put, List.setIfInBounds_toArray, List.set_cons_zero, List.set_cons_succ]
            refine wpAnyH_take (i := 8) (oi := { dst := some 33, op := _, type := _, pos := _, after := _, guard := _ }) (v := ?_) rfl (by kernel_rfl) (by kernel_rfl) (by kernel_rfl) (fun _ _ _ h => h) (Or.inl ⟨by rfl, ?_⟩) hH ?_
            rotate_left 1
            · intro W hSw
              (try dsimp only at hSw)
              go_simp
              (try with_reducible rfl)
            try simp only [Act.put, List.setIfInBounds_toArray, List.set_cons_zero, List.set_cons_succ]
            refine wpAnyH_take (i := 9) (oi := { dst := some 34, op := _, type := _, pos := _, after := _, guard := _ }) (v := ?_) rfl (by kernel_rfl) (by kernel_rfl) (by kernel_rfl) (fun _ _ _ h => h) (Or.inl ⟨by rfl, ?_⟩) hH ?_
            rotate_left 1
            · intro W hSw
              (try dsimp only at hSw)
              go_simp
              (try with_reducible rfl)
            try simp only [Act.put, List.setIfInBounds_toArray, List.set_cons_zero, List.set_cons_succ]
            refine wpAnyH_take (i := 10) (oi := { dst := some 35, op := _, type := _, pos := _, after := _, guard := _ }) (v := ?_) rfl (by kernel_rfl) (by kernel_rfl) (by kernel_rfl) (fun _ _ _ h => h) (Or.inl ⟨by rfl, ?_⟩) hH ?_
            rotate_left 1
            · intro W hSw
              (try dsimp only at hSw)
              go_simp
              (try with_reducible rfl)
            try simp only [Act.put, List.setIfInBounds_toArray, List.set_cons_zero, List.set_cons_succ]
            refine wpAnyH_take (i := 11) (oi := { dst := some 36, op := _, type := _, pos := _, after := _, guard := _ }) (v := ?_) rfl (by kernel_rfl) (by kernel_rfl) (by kernel_rfl) (fun _ _ _ h => h) (Or.inl ⟨by rfl, ?_⟩) hH ?_
            rotate_left 1
            · intro W hSw
              (try dsimp only at hSw)
              go_simp
              (try with_reducible rfl)
            try simp only [Act.put, List.setIfInBounds_toArray, List.set_cons_zero, List.set_cons_succ]
            refine wpAnyH_take (i := 12) (oi := { dst := some 37, op := _, type := _, pos := _, after := _, guard := _ }) (v := ?_) rfl (by kernel_rfl) (by kernel_rfl) (by kernel_rfl) (fun _ _ _ h => h) (Or.inl ⟨by rfl, ?_⟩) hH ?_
            rotate_left 1
            · intro W hSw
              (try dsimp only at hSw)
              go_simp
              (try with_reducible rfl)
            try simp only [Act.put, List.setIfInBounds_toArray, List.set_cons_zero, List.set_cons_succ]
            refine wpAnyH_take (i := 13) (oi := { dst := some 38, op := _, type := _, pos := _, after := _, guard := _ }) (v := ?_) rfl (by kernel_rfl) (by kernel_rfl) (by kernel_rfl) (fun _ _ _ h => h) (Or.inl ⟨by rfl, ?_⟩) hH ?_
            rotate_left 1
            · intro W hSw
              (try dsimp only at hSw)
              go_simp
              (try with_reducible rfl)
            try simp only [Act.put, List.setIfInBounds_toArray, List.set_cons_zero, List.set_cons_succ]
            refine wpAnyH_ready (rs := [14]) (by kernel_rfl) (by simp) (AllReadyH.cons rfl (fun K hK => ?_) AllReadyH.nil)
            go_simp
            go_at_call 73; ((with_reducible refine (l9Jet ⟨dn, dk, dl, dx, dy, dh, dt, dm⟩ x _).mono ?_); rintro e r1 ⟨rfl, hb1⟩); have R1 := owns_below RI.out.drew hb1; have q1 : wr.heap.size ≤ r1.heap.size := hb1.size; go_wp2_with fail
            refine hK.out _ _ ?_ (fun hG => ?_)
            · exact ⟨cell_below hb1 hH.1, cell_below hb1 hH.2.1, cell_below hb1 hH.2.2.1, cell_below hb1 hH.2.2.2.1, cell_below hb1 hH.2.2.2.2.1, cell_below hb1 hH.2.2.2.2.2.1, cell_below hb1 hH.2.2.2.2.2.2.1, cell_below hb1 hH.2.2.2.2.2.2.2.1, cell_below hb1 hH.2.2.2.2.2.2.2.2.1, hH.2.2.2.2.2.2.2.2.2.trans (hb1.mono hH.2.2.2.2.2.2.2.2.2.size)⟩
            replace hH := hG
            clear hK K hG
            try simp only [Act.put, List.setIfInBounds_toArray, List.set_cons_zero, List.set_cons_succ]
            refine wpAnyH_take (i := 15) (oi := { dst := some 40, op := _, type := _, pos := _, after := _, guard := _ }) (v := ?_) rfl (by kernel_rfl) (by kernel_rfl) (by kernel_rfl) (fun _ _ _ h => h) (Or.inl ⟨by rfl, ?_⟩) hH ?_
            rotate_left 1
            · intro W hSw
              (try dsimp only at hSw)
              go_simp
              (try with_reducible rfl)
            try simp only [Act.put, List.setIfInBounds_toArray, List.set_cons_zero, List.set_cons_succ]
            refine wpAnyH_ready (rs := [16]) (by kernel_rfl) (by simp) (AllReadyH.cons rfl (fun K hK => ?_) AllReadyH.nil)
            go_simp
            refine hK.out _ _ ?_ (fun hG => ?_)
            · exact ⟨cell_alloc hH.1, cell_alloc hH.2.1, cell_alloc hH.2.2.1, cell_alloc hH.2.2.2.1, cell_alloc hH.2.2.2.2.1, cell_alloc hH.2.2.2.2.2.1, cell_alloc hH.2.2.2.2.2.2.1, cell_alloc hH.2.2.2.2.2.2.2.1, cell_alloc hH.2.2.2.2.2.2.2.2.1, hH.2.2.2.2.2.2.2.2.2.alloc hH.2.2.2.2.2.2.2.2.2.size _⟩
            replace hH := hG
            clear hK K hG
            try simp only [Act.put, List.setIfInBounds_toArray, List.set_cons_zero, List.set_cons_succ]
            refine wpAnyH_ready (rs := [17]) (by kernel_rfl) (by simp) (AllReadyH.cons rfl (fun K hK => ?_) AllReadyH.nil)
            (obtain ⟨gX, cX, u9, hrun, ho9, hg9⟩ := append_born (r1.alloc (.cells #[.string dn, .int .i64 (k : Int), .int .i64 dx, .int .i64 dy, .int .i64 dh, .int .i64 dt, .int .i64 x] 67)) w.heap.size g q c _ (R1.alloc _) ⟨r1.heap.size, 0, none⟩ 1 1 [.string dn, .int .i64 (k : Int), .int .i64 dx, .int .i64 dy, .int .i64 dh, .int .i64 dt, .int .i64 x] rfl (by intro j z9 hj; match j, hj with | 0, hj => (simp at hj; subst hj; simp [Addr.add, go_sem]) | 1, hj => (simp at hj; subst hj; simp [Addr.add, go_sem]) | 2, hj => (simp at hj; subst hj; simp [Addr.add, go_sem]) | 3, hj => (simp at hj; subst hj; simp [Addr.add, go_sem]) | 4, hj => (simp at hj; subst hj; simp [Addr.add, go_sem]) | 5, hj => (simp at hj; subst hj; simp [Addr.add, go_sem]) | 6, hj => (simp at hj; subst hj; simp [Addr.add, go_sem])) (by intro z9 hz; simp at hz; rcases hz with rfl | rfl | rfl | rfl | rfl | rfl | rfl <;> rfl) (by omega) (by have := hH.2.2.2.2.2.2.2.2.2.size; simpa using this); refine step_append_born rfl (.tmp 25) (.tmp 41) rfl rfl _ _ _ (by simp [Act.eval, Act.put]) (by simp [Act.eval, Act.put]) hrun ?_; refine (show K (Act.put _ (some 42) _) _ from ?_))
            refine hK.out _ _ ?_ (fun hG => ?_)
            · exact ⟨hg9.cell hH.1 (fun e => by have e := Option.some.inj e; (have e9 : w.heap.size = g := e); omega), hg9.cell hH.2.1 (fun e => by have e := Option.some.inj e; (have e9 : bD = g := e); omega), hg9.cell hH.2.2.1 (fun e => by have e := Option.some.inj e; (have e9 : bD = g := e); omega), hg9.cell hH.2.2.2.1 (fun e => by have e := Option.some.inj e; (have e9 : bD = g := e); omega), hg9.cell hH.2.2.2.2.1 (fun e => by have e := Option.some.inj e; (have e9 : bD = g := e); omega), hg9.cell hH.2.2.2.2.2.1 (fun e => by have e := Option.some.inj e; (have e9 : bD = g := e); omega), hg9.cell hH.2.2.2.2.2.2.1 (fun e => by have e := Option.some.inj e; (have e9 : bD = g := e); omega), hg9.cell hH.2.2.2.2.2.2.2.1 (fun e => by have e := Option.some.inj e; (have e9 : bD = g := e); omega), hg9.cell hH.2.2.2.2.2.2.2.2.1 (fun e => by have e := Option.some.inj e; (have e9 : bD = g := e); omega), hH.2.2.2.2.2.2.2.2.2.grown hg9 hH.2.2.2.2.2.2.2.2.2.size (fun q hq => by have hq := Option.some.inj hq; omega)⟩
            replace hH := hG
            clear hK K hG
            try simp only [Act.put, List.setIfInBounds_toArray, List.set_cons_zero, List.set_cons_succ]
            refine wpAnyH_take (i := 18) (oi := { dst := some 3, op := _, type := _, pos := _, after := _, guard := _ }) (v := ?_) rfl (by kernel_rfl) (by kernel_rfl) (by kernel_rfl) (fun _ _ _ h => h) (Or.inl ⟨by rfl, ?_⟩) hH ?_
            rotate_left 1
            · intro W hSw
              (try dsimp only at hSw)
              go_simp
              (try with_reducible rfl)
            try simp only [Act.put, List.setIfInBounds_toArray, List.set_cons_zero, List.set_cons_succ]
            refine wpAnyH_done (by kernel_rfl) ?_ _
            refine NoPanic.normal ?_
            have QN := Lib.hid (show (allK ds cs N k ++ rowK ds LI k (i + 1)).length = q + 1 by rw [RY.out, ← List.append_assoc, List.length_append, QI.out]; rfl)
            rw [show bls (allK ds cs N k ++ rowK ds LI k i) ++ [.string dn, .int .i64 (k : Int), .int .i64 dx, .int .i64 dy, .int .i64 dh, .int .i64 dt, .int .i64 x] = bls (allK ds cs N k ++ rowK ds LI k (i + 1)) from (by rw [RY.out, ← List.append_assoc]; exact bls_snoc _ ⟨k, ⟨dn, dk, dl, dx, dy, dh, dt, dm⟩, x⟩)] at ho9
            have OT := Lib.hid ho9
            have OL := Lib.hid (owns_grown ((owns_below LI9.out.drew hb1).alloc (.cells #[.string dn, .int .i64 (k : Int), .int .i64 dx, .int .i64 dy, .int .i64 dh, .int .i64 dt, .int .i64 x] 67)) hg9 (ne_blk nL))
            have OK := Lib.hid (((KI.out.drew.below hb1).alloc (o := .cells #[.string dn, .int .i64 (k : Int), .int .i64 dx, .int .i64 dy, .int .i64 dh, .int .i64 dt, .int .i64 x] 67)).grown hg9 (fun e => by have e := Option.some.inj e; omega))
            have OB := Lib.hid hH.2.2.2.2.2.2.2.2.2
            clear hH hb1 ho9 hg9 hrun R1 RI LI9 KI BI b0 v0 v1 v2 v3 v4 v5 v6 v7
            go_wp2_with fail
            go_roundw
            case rel => exact ⟨i + 1, q + 1, gX, cX, by omega, by go_num, rfl, QN, OT, OL, OK, OB⟩
            case measure => simp [intOf]; omega
        · obtain rfl : i = n0 := by omega
          have E := Lib.hid (show allK ds cs N k ++ rowK ds LI k i = allK ds cs N (k + 1) by rw [HAK.out, HN.out])
          rw [E.out] at QI RI
          clear LI9
          go_wp2_with fail
          go_roundw
          case rel => exact ⟨k + 1, q, g, c, by omega, by go_num, rfl, QI, RI, KI, BI⟩
          case measure => simp [intOf]; omega
    · obtain rfl : k = N := by omega
      clear KK CL
      go_wp2_with fail
      go_ret
      exact row_of QK.out RK.out BK.out
end Go.Proofs.YtejeikfgmiadhaaGreat.Tm9
