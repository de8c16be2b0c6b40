/- The lifts of a show, of the model. -/
import Derived.Test.YtokncfhpmjohdabGreatSw9
import Derived.Test.YtokncfhpmjohdabGreatM19
import Derived.Test.YtokncfhpmjohdabGreatLm7
import Derived.Test.YtokncfhpmjohdabGreatM20
import Derived.Maps.AppendAt
import Derived.Deep.DeepCutAuto
import Derived.Deep.RegionHeld3
import Derived.Lib.MinMax
import Derived.Test.YtokncfhpmjohdabGreatM7
import Derived.Test.YtokncfhpmjohdabGreatM4
set_option linter.unusedVariables false
set_option linter.unusedSimpArgs false
namespace Go.Proofs.YtokncfhpmjohdabGreat.Lg9
open Go.RowKit Go.ChangeShapes Go.WideShapes Go.WideElems Go.Deep Go.Proofs.YtokncfhpmjohdabGreat.Mem Go.Proofs.YtokncfhpmjohdabGreat.Rw Go.Proofs.YtokncfhpmjohdabGreat.P2 Go.Proofs.YtokncfhpmjohdabGreat.Bk Go.Proofs.YtokncfhpmjohdabGreat.Sp Go.Proofs.YtokncfhpmjohdabGreat.Sq Go.Proofs.YtokncfhpmjohdabGreat.Jt
open Go.Proofs.YtokncfhpmjohdabGreat.Sv hiding D C G
open Go.Proofs.YtokncfhpmjohdabGreat.Wp (RowI infoI own_mk own_base rd_cell ints_snoc row_nil)
open Go.Proofs.YtokncfhpmjohdabGreat.Ds (sb)
open Go.Proofs.YtokncfhpmjohdabGreat.Ig (rig)
open Go.Proofs.YtokncfhpmjohdabGreat.Dm (share)
open Go.Proofs.YtokncfhpmjohdabGreat.Ld (levV levP)
open Go.Proofs.YtokncfhpmjohdabGreat.Lf9
set_option linter.unusedVariables false
set_option linter.unusedSimpArgs false

theorem append_int (w : World) (base g n c : Nat) (xs : List Value) (hown : w.ownsRow base 3 1 (.slice (some ⟨g, 0, none⟩) n c) n xs) (a : Addr) (m c2 : Nat) (news : List Value) (hl : news.length = m * 1) (hnews : ∀ j u, news[j]? = some u → w.cell? (a.add j) = some u) (h1 : ∀ u ∈ news, u.oneCell' = true) (hs : n + m ≤ 2097152) (hbase : base ≤ w.heap.size) :
    ∃ (g' c' : Nat) (w' : World), (Builtin.append_ #[31, 31] 31 #[.slice (some ⟨g, 0, none⟩) n c, .slice (some a) m c2]).run Tryz.prog w = .ok (.slice (some ⟨g', 0, none⟩) (n + m) c') w' ∧ w'.ownsRow base 3 1 (.slice (some ⟨g', 0, none⟩) (n + m) c') (n + m) (xs ++ news) ∧ w.grownBy w' (some g) ∧ (g' = g ∨ g' = w.heap.size) := by
  obtain ⟨i0, hi, hz0, hz1, hz2⟩ := info_parts infoI
  obtain ⟨v', w', hr, h2, h3, h4, h5⟩ := run_append_own_at (P := Tryz.prog) w base 31 31 3 i0 (.int .i64 0) 1 8 Tryz.underlying31 hi hz0 hz1 hz2 rfl (by decide) _ n xs hown a m c2 news hl hnews h1 (by unfold maxLen; omega) (by omega) hbase
  have hg : ∃ g c, v' = .slice (some ⟨g, 0, none⟩) (n + m) c := by
    rcases h2.2 with ⟨e1, _⟩ | ⟨g, cap, cur, e1, _⟩
    · exact absurd (h4.1 e1).1 (by intro h; cases h)
    · exact ⟨g, cap, e1⟩
  obtain ⟨g', c', rfl⟩ := hg
  refine ⟨g', c', w', hr, h2, h3, ?_⟩
  rcases h5 with h5 | h5
  · exact Or.inl (Option.some.inj h5)
  · exact Or.inr (Option.some.inj h5)
theorem step_append_int {ops : Array Oper} {o : Oper} {a : Act} {w w' : World} {K : Act → World → Prop} {Q : Exit → Act → World → Prop} {E : Prop}
    (hg : o.guard = none) (s x : Operand) (hop : o.op = Op.call { callee := Callee.builtin Builtin.append, args := #[s, x], argTypes := #[31, 31] }) (hty : o.type = 31)
    (v v2 v' : Value) (hs : a.eval s = v) (hx : a.eval x = v2) (hrun : (Builtin.append_ #[31, 31] 31 #[v, v2]).run Tryz.prog w = .ok v' w') (hK : K (a.put o.dst v') w') :
    if Region.wanted o (yielded ops a.tmps) = true then Oper.wp Tryz.prog o a w K Q else E := by
  have hw : Region.wanted o (yielded ops a.tmps) = true := by simp [Region.wanted, hg]
  rw [if_pos hw]
  unfold Oper.wp
  simp [execOp, hop, hty, resolve, invoke, builtin, hs, hx, hrun, Result.andThen]
  exact hK
theorem ne_blk {g : Nat} {n c b : Nat} (hb : b ≠ g) : ∀ k, (Value.slice (some ⟨g, 0, none⟩) n c).ownBlock = some k → some b ≠ some k := by
  intro k hk e
  have hk : g = k := Option.some.inj hk
  have e := Option.some.inj e
  omega

set_option maxRecDepth 100000 in
set_option maxHeartbeats 8000000 in
theorem l9Lifts (A0 : Option Addr) (n0 c0 : Nat) (A1 : Option Addr) (n1 c1 : Nat) (A2 : Option Addr) (n2 c2 : Nat) (T : Int) (ds : List D) (cs : List C) (gs : List G) (t : Int) (w : World)
    (hf : Fit n0 n1 n2 ds cs gs) (hr : SR w A0 A1 A2 ds cs gs) (hrig : rig ds = true) (hsco : Sd.score cs = true) (hT : 0 ≤ T ∧ T ≤ 64) (wt : (Lit.int .i64 t).wf = true) :
    Calls Tryz.prog 77 #[sv A0 n0 c0 A1 n1 c1 A2 n2 c2 T, .int .i64 t] w (RowI w (lifts ds cs T t)) := by
  obtain ⟨⟨hn0, hb0⟩, ⟨hn1, hb1⟩, hn2, hb2⟩ := hf
  obtain ⟨i0, hi, hz0, hz1, hz2⟩ := info_parts infoI
  obtain ⟨i9, hi9, hz09, hz19, hz29⟩ := info_parts infoI
  have hu : undef = Value.tuple #[] := rfl
  have HS := Lib.hid hr
  have HN := Lib.hid hn0
  have HG := Lib.hid hrig
  obtain ⟨r, hrr⟩ : ∃ r, iw t 0 (T - 1) = r := ⟨_, rfl⟩
  have CL := Lib.hid (fun (s : ByteArray) (W : World) (h : Rd W W.heap.size A1 (Cd.dls cs)) (hr1 : r = true) => Lm7.l7Level A1 n1 c1 cs s t W hn1 hb1 (by rw [hr1] at hrr; have := iw_iff.1 hrr; omega) (by rw [hr1] at hrr; have := iw_iff.1 hrr; omega) (Ld.score_all hsco) h)
  have HL := Lib.hid (fun (d : D) => (show want cs t d = min (levP t (Oc.pick cs [d.nm])) d.ms by unfold want Ld.levV; rw [Oc.only_yes hsco]))
  have CX0 := Lib.hid (fun (l : List Nat) (p m : Nat) (ms : Int) (hm : l.length = m) (hmb : m ≤ 1048576) (hp : (share ms (wants ds cs t l)).length = p) (g c : Nat) (W : World) (h : Rd W W.heap.size (some ⟨g, 0, none⟩) (ints (wants ds cs t l))) => (by
    have := Wu.shareS (some ⟨g, 0, none⟩) m c (wants ds cs t l) ms W (by rw [wants_len, hm]) hmb h; unfold RowI at this; rw [hp] at this; exact this :
    Calls Tryz.prog 120 #[.int .i64 ms, .slice (some ⟨g, 0, none⟩) m c] W (fun e w' => ∃ g c, e = .returned (.slice (some ⟨g, 0, none⟩) p c) ∧ w'.ownsRow W.heap.size 3 1 (.slice (some ⟨g, 0, none⟩) p c) p (ints (share ms (wants ds cs t l))) ∧ Below W.heap.size W w')))
  have K0 := Bk.new w (sc A0 n0 c0 A1 n1 c1 A2 n2 c2 T) 28
  have B0 := (Below.refl w.heap.size w).alloc (Nat.le_refl _) (.cells (sc A0 n0 c0 A1 n1 c1 A2 n2 c2 T) 28)
  have hz : (w.alloc (.cells (sc A0 n0 c0 A1 n1 c1 A2 n2 c2 T) 28)).heap.size = w.heap.size + 1 := by simp [go_sem]
  have CI := Lib.hid (l1In_of hrr)
  have HO := Lib.hid (modK_all (ds := ds) (cs := cs) hrr)
  have hT1 : wrap64 (T - 1) = T - 1 := IntWalk.wrap64_in _ (by omega)
  clear hr hn0 hrig hsco wt hrr hn1 hn2
  go_enter Tryz.func77, Tryz.ntmps77
  go_wp2_with (at_make; refine wpList_make_full _ rfl _ _ 31 rfl w.heap.size 3 i0 (.int .i64 0) 1 Tryz.underlying31 hi hz0 hz1 .i64 .i64 n0 n0 n0 rfl rfl rfl rfl (by rw [hz2]; omega) (by unfold maxLen; omega) (by rw [hz]; omega) ?_)
  intro w1 hown hgrow
  clear hi hz0 hz1 hz2
  try rw [hz] at hown
  have R0 := Lib.hid (show w1.ownsRow w.heap.size 3 1 (.slice (some ⟨w.heap.size + 1, 0, none⟩) n0 n0) n0 (ints (modK r ds cs t 0)) by
    rw [modK_zero, HN.out, show ints (List.replicate n0 0) = List.replicate n0 (.int .i64 0) by simp [ints], ← toList_madeCells_one]; first | exact hown | (rw [Nat.mul_one] at hown; exact hown))
  have BW := Lib.hid (show Below w.heap.size w w1 from B0.grown hgrow B0.size (fun k hk => by cases hk))
  have KW := Lib.hid (K0.grown hgrow (by intro e; cases e))
  have y0 := KW.out.cell (i := 0) rfl
  clear hown hgrow K0 B0 hz
  go_wp2_with fail
  go_loopw [21] (fun i wr => ∃ k : Nat, k ≤ n0 ∧ i = .int .i64 k ∧ Hid (wr.ownsRow w.heap.size 3 1 (.slice (some ⟨w.heap.size + 1, 0, none⟩) n0 n0) n0 (ints (modK r ds cs t k))) ∧ Hid (Bk wr w.heap.size (sc A0 n0 c0 A1 n1 c1 A2 n2 c2 T) 28) ∧ Hid (Below w.heap.size w wr)) (fun i _ => n0 - (intOf i).toNat)
  case atStart => exact ⟨0, Nat.zero_le _, rfl, R0, KW, BW⟩
  case round =>
    obtain ⟨k, hk, rfl, RK, KK, BK⟩ := hrel
    clear y0 R0 KW BW
    by_cases hlt : k < n0
    · obtain ⟨z, hz⟩ : ∃ z, ds[k]? = some z := ⟨_, List.getElem?_eq_getElem (by rw [HN.out]; exact hlt)⟩
      have HZ := Lib.hid hz
      have HT := Lib.hid (modK_succ (r := r) (cs := cs) (t := t) hz)
      clear hz
      obtain ⟨dn, dk, dl, dx, dy, dh, dt, dm⟩ := z
      obtain ⟨bP, oP, eA, hbl, hcell⟩ := (HS.out.1.below BK.out).get (k := k * 8) (by rw [Dd.dls_len, HN.out]; omega)
      obtain ⟨z0, z1, z2, z3, z4, z5, z6, z7⟩ := Dd.dls_get HZ.out
      have c0 := hcell (k * 8) _ z0
      have c1 := hcell (k * 8 + 1) _ z1
      rw [← Nat.add_assoc] at c1
      have c2 := hcell (k * 8 + 2) _ z2
      rw [← Nat.add_assoc] at c2
      have c3 := hcell (k * 8 + 3) _ z3
      rw [← Nat.add_assoc] at c3
      have c4 := hcell (k * 8 + 4) _ z4
      rw [← Nat.add_assoc] at c4
      have c5 := hcell (k * 8 + 5) _ z5
      rw [← Nat.add_assoc] at c5
      have c6 := hcell (k * 8 + 6) _ z6
      rw [← Nat.add_assoc] at c6
      have c7 := hcell (k * 8 + 7) _ z7
      rw [← Nat.add_assoc] at c7
      clear hcell hbl z0 z1 z2 z3 z4 z5 z6 z7
      subst eA
      have K1 := KK.out.alloc (o := .cells (Dd.ca dn dk dl dx dy dh dt dm) 36)
      have B1 := BK.out.alloc BK.out.size (.cells (Dd.ca dn dk dl dx dy dh dt dm) 36)
      have RK1 := RK.out.alloc (.cells (Dd.ca dn dk dl dx dy dh dt dm) 36)
      have P1 := Bk.new wr (Dd.ca dn dk dl dx dy dh dt dm) 36
      have hw1 : w.heap.size + 1 < wr.heap.size := (RK.out.lt _ rfl).2
      have V0 := World.ownsRow_lit (base := wr.heap.size) (e := 3) (size := 1) (wr.alloc (.cells (Dd.ca dn dk dl dx dy dh dt dm) 36)) #[] 0 (by simp) (Nat.zero_le _) rfl
      have V1 := V0.alloc (.cells #[] 3)
      have U0 := World.ownsRow_lit (base := wr.heap.size) (e := 3) (size := 1) ((wr.alloc (.cells (Dd.ca dn dk dl dx dy dh dt dm) 36)).alloc (.cells #[] 3)) #[] 0 (by simp; omega) (Nat.zero_le _) rfl
      have K2 := Lib.hid ((K1.alloc (o := .cells #[] 3)).alloc (o := .cells #[] 3))
      have P2 := Lib.hid ((P1.alloc (o := .cells #[] 3)).alloc (o := .cells #[] 3))
      have RK2 := Lib.hid ((RK1.alloc (.cells #[] 3)).alloc (.cells #[] 3))
      have B2 := Lib.hid ((B1.alloc B1.size (.cells #[] 3)).alloc (B1.alloc B1.size (.cells #[] 3)).size (.cells #[] 3))
      have s1 : (wr.alloc (.cells (Dd.ca dn dk dl dx dy dh dt dm) 36)).heap.size = wr.heap.size + 1 := by simp [go_sem]
      have s2 : ((wr.alloc (.cells (Dd.ca dn dk dl dx dy dh dt dm) 36)).alloc (.cells #[] 3)).heap.size = wr.heap.size + 1 + 1 := by simp [go_sem]
      rw [s1] at V1
      rw [s2] at U0
      have HV := Lib.hid V1
      have HU := Lib.hid U0
      have b0 := KK.out.cell (i := 0) rfl
      have hw2 : w.heap.size < wr.heap.size := by omega
      have hw3 : w.heap.size < wr.heap.size + 1 := by omega
      have hw4 : w.heap.size < wr.heap.size + 1 + 1 := by omega
      clear V0 V1 U0 K1 P1 RK1 B1 s1 s2 KK RK
      obtain ⟨b, hbb⟩ : ∃ b, (r && decide (dk = 1)) = b := ⟨_, rfl⟩
      have HBB := Lib.hid hbb
      rw [hbb] at HT
      clear hbb
      go_wp2_with fail
      obtain ⟨wo, rfl⟩ : ∃ wo, wo = wr := ⟨_, rfl⟩
      clear c0 c1 c2 c3 c4 c5 c6 c7 b0
      go_loopw [8, 9, 30] (fun v u i wr => ∃ j q gW cW gH cH : Nat, j ≤ n0 ∧ i = .int .i64 j ∧ v = .slice (some ⟨gW, 0, none⟩) q cW ∧ u = .slice (some ⟨gH, 0, none⟩) q cH ∧ gW ≠ gH ∧ Hid ((hgB b dn (ds.take j)).length = q) ∧ Hid (wr.ownsRow wo.heap.size 3 1 (.slice (some ⟨gW, 0, none⟩) q cW) q (ints (wants ds cs t (hgB b dn (ds.take j))))) ∧ Hid (wr.ownsRow wo.heap.size 3 1 (.slice (some ⟨gH, 0, none⟩) q cH) q (ints (nn (hgB b dn (ds.take j))))) ∧ Hid (wr.ownsRow w.heap.size 3 1 (.slice (some ⟨w.heap.size + 1, 0, none⟩) n0 n0) n0 (ints (modK r ds cs t k))) ∧ Hid (Bk wr w.heap.size (sc (some ⟨bP, oP, none⟩) n0 c0 A1 n1 c1 A2 n2 c2 T) 28) ∧ Hid (Bk wr wo.heap.size (Dd.ca dn dk dl dx dy dh dt dm) 36) ∧ Hid (Below w.heap.size w wr)) (fun _ _ i _ => n0 - (intOf i).toNat)
      case atStart => exact ⟨0, 0, _, _, _, _, Nat.zero_le _, rfl, rfl, rfl, by simp, Lib.hid (by cases b <;> simp [hgB, hang]), (by cases b <;> exact HV), (by cases b <;> exact HU), RK2, K2, P2, B2⟩
      case round =>
        obtain ⟨j, q, gW, cW, gH, cH, hj, rfl, rfl, rfl, hne, QJ, VJ, UJ, RJ, KJ, PJ, BJ⟩ := hrel
        clear K2 P2 RK2 B2 HV HU
        by_cases hlj : j < n0
        · obtain ⟨z, hz⟩ : ∃ z, ds[j]? = some z := ⟨_, List.getElem?_eq_getElem (by rw [HN.out]; exact hlj)⟩
          have HE := Lib.hid hz
          have HKD := Lib.hid (kinds HG.out (List.mem_of_getElem? HZ.out) (List.mem_of_getElem? hz))
          have HWS := Lib.hid (fun (l : List Nat) => wants_snoc (cs := cs) (t := t) (l := l) hz)
          clear hz
          obtain ⟨en, ek, el, ex, ey, eh, et, em⟩ := z
          obtain ⟨bE, oE, eA, hbl, hcell⟩ := (HS.out.1.below BJ.out).get (k := j * 8) (by rw [Dd.dls_len, HN.out]; omega)
          obtain ⟨z0, z1, z2, z3, z4, z5, z6, z7⟩ := Dd.dls_get HE.out
          have c0 := hcell (j * 8) _ z0
          have c1 := hcell (j * 8 + 1) _ z1
          rw [← Nat.add_assoc] at c1
          have c2 := hcell (j * 8 + 2) _ z2
          rw [← Nat.add_assoc] at c2
          have c3 := hcell (j * 8 + 3) _ z3
          rw [← Nat.add_assoc] at c3
          have c4 := hcell (j * 8 + 4) _ z4
          rw [← Nat.add_assoc] at c4
          have c5 := hcell (j * 8 + 5) _ z5
          rw [← Nat.add_assoc] at c5
          have c6 := hcell (j * 8 + 6) _ z6
          rw [← Nat.add_assoc] at c6
          have c7 := hcell (j * 8 + 7) _ z7
          rw [← Nat.add_assoc] at c7
          clear hcell hbl z0 z1 z2 z3 z4 z5 z6 z7
          injection eA with eA
          injection eA with e1 e2 e3
          subst e1 e2
          have KK1 := Lib.hid (KJ.out.alloc (o := .cells (Dd.ca en ek el ex ey eh et em) 36))
          have KP1 := Lib.hid (PJ.out.alloc (o := .cells (Dd.ca en ek el ex ey eh et em) 36))
          have RO1 := Lib.hid (RJ.out.alloc (.cells (Dd.ca en ek el ex ey eh et em) 36))
          have WV := Lib.hid (VJ.out.alloc (.cells (Dd.ca en ek el ex ey eh et em) 36))
          have WU := Lib.hid (UJ.out.alloc (.cells (Dd.ca en ek el ex ey eh et em) 36))
          have B1 := Lib.hid (BJ.out.alloc BJ.out.size (.cells (Dd.ca en ek el ex ey eh et em) 36))
          have hp0 := PJ.out.cell (i := 0) rfl
          have hy3 := KJ.out.cell (i := 3) rfl
          have hpl := PJ.out.lt
          have hyl := KJ.out.lt
          have lW : wo.heap.size ≤ gW := (VJ.out.lt _ rfl).1
          have lH : wo.heap.size ≤ gH := (UJ.out.lt _ rfl).1
          have mW : gW < wr.heap.size := (VJ.out.lt _ rfl).2
          have mH : gH < wr.heap.size := (UJ.out.lt _ rfl).2
          have hq : q ≤ 1048576 := by have := hgB_len b dn (ds.take j); have := QJ.out; have := List.length_take_le j ds; have := HN.out; omega
          have nW : gW ≠ wo.heap.size := fun e => own_ne VJ.out PJ.out (by decide) (by rw [e]; rfl)
          have nH : gH ≠ wo.heap.size := fun e => own_ne UJ.out PJ.out (by decide) (by rw [e]; rfl)
          clear KJ PJ RJ VJ UJ
          by_cases hk2 : ek = 2
          · subst hk2
            cases hs : sb el dn
            · have hbs : (b && sb el dn) = false := by rw [hs]; cases b <;> rfl
              have hs2 : (el.toList == dn.toList) = false := hs
              clear hs
              have QN := Lib.hid (hgB_no (b := b) (s := dn) HE.out hbs)
              clear hbs
              go_wp2_with fail
              go_roundw
              case rel => exact ⟨j + 1, q, gW, cW, gH, cH, by omega, by go_num, rfl, rfl, hne, by rw [QN.out]; exact QJ, by rw [QN.out]; exact WV, by rw [QN.out]; exact WU, RO1, KK1, KP1, B1⟩
              case measure => simp [intOf]; omega
            · have hs2 : (el.toList == dn.toList) = true := hs
              cases r
              · have hbs : (b && sb el dn) = false := by rw [← HBB.out]; rfl
                clear hs
                have QN := Lib.hid (hgB_no (b := b) (s := dn) HE.out hbs)
                clear hbs
                go_wp2_with fail
                refine (CI.out _).mono ?_
                rintro e r1 ⟨rfl, rfl⟩
                go_wp2_with fail
                go_roundw
                case rel => exact ⟨j + 1, q, gW, cW, gH, cH, by omega, by go_num, rfl, rfl, hne, by rw [QN.out]; exact QJ, by rw [QN.out]; exact WV, by rw [QN.out]; exact WU, RO1, KK1, KP1, B1⟩
                case measure => simp [intOf]; omega
              · have hbs : (b && sb el dn) = true := by
                  have h9 := HKD.out
                  rw [show sb el dn = true from hs] at h9 ⊢
                  rw [← HBB.out]; simpa using h9.symm
                have QY := Lib.hid (hgB_yes (b := b) (s := dn) HE.out hbs)
                clear hs hbs
                go_wp2_with fail
                refine (CI.out _).mono ?_
                rintro e r9 ⟨rfl, rfl⟩
                go_upto_region 11 with fail
                have y1 := KK1.out.cell (i := 1) rfl
                have e0 : (wr.alloc (.cells (Dd.ca en 2 el ex ey eh et em) 36)).cell? ⟨wr.heap.size, 0, none⟩ = some (.string en) := by simp [go_sem]
                have e7 : (wr.alloc (.cells (Dd.ca en 2 el ex ey eh et em) 36)).cell? ⟨wr.heap.size, 7, none⟩ = some (.int .i64 em) := by simp [go_sem]
                have qz : wr.heap.size < (wr.alloc (.cells (Dd.ca en 2 el ex ey eh et em) 36)).heap.size := by simp
                clear c0 c1 c2 c3 c4 c5 c6 c7 hp0 hy3
                refine wp_region_noPanic ?_
                refine wp_region_held_drew (S := (fun w' => w'.cell? ⟨w.heap.size, 1, none⟩ = some (.slice A1 n1 c1) ∧ w'.cell? ⟨wr.heap.size, 0, none⟩ = some (.string en) ∧ w'.cell? ⟨wr.heap.size, 7, none⟩ = some (.int .i64 em) ∧ Below w.heap.size w w')) (by kernel_rfl) ?_ (fun hH => ?_)
                · exact ⟨y1, e0, e7, B1.out.drew⟩
                refine wpAnyH_take (i := 0) (oi := { dst := some 52, op := _, type := _, pos := _, after := _, guard := _ }) (v := ?_) rfl (by kernel_rfl) (by kernel_rfl) (by kernel_rfl) (fun _ _ _ h => h) (Or.inl ⟨by rfl, ?_⟩) hH ?_
                rotate_left 1
                · intro W hSw
                  (try dsimp only at hSw)
                  go_simp
                  (try with_reducible rfl)
                try simp only [Act.put, List.setIfInBounds_toArray, List.set_cons_zero, List.set_cons_succ]
                refine wpAnyH_take (i := 1) (oi := { dst := some 53, op := _, type := _, pos := _, after := _, guard := _ }) (v := ?_) rfl (by kernel_rfl) (by kernel_rfl) (by kernel_rfl) (fun _ _ _ h => h) (Or.inl ⟨by rfl, ?_⟩) hH ?_
                rotate_left 1
                · intro W hSw
                  (try dsimp only at hSw)
                  go_simp
                  (try with_reducible rfl)
                try simp only [Act.put, List.setIfInBounds_toArray, List.set_cons_zero, List.set_cons_succ]
                refine wpAnyH_take (i := 2) (oi := { dst := some 54, op := _, type := _, pos := _, after := _, guard := _ }) (v := ?_) rfl (by kernel_rfl) (by kernel_rfl) (by kernel_rfl) (fun _ _ _ h => h) (Or.inl ⟨by rfl, ?_⟩) hH ?_
                rotate_left 1
                · intro W hSw
                  (try dsimp only at hSw)
                  go_simp
                  (try with_reducible rfl)
                try simp only [Act.put, List.setIfInBounds_toArray, List.set_cons_zero, List.set_cons_succ]
                refine wpAnyH_take (i := 3) (oi := { dst := some 55, op := _, type := _, pos := _, after := _, guard := _ }) (v := ?_) rfl (by kernel_rfl) (by kernel_rfl) (by kernel_rfl) (fun _ _ _ h => h) (Or.inl ⟨by rfl, ?_⟩) hH ?_
                rotate_left 1
                · intro W hSw
                  (try dsimp only at hSw)
                  go_simp
                  (try with_reducible rfl)
                try simp only [Act.put, List.setIfInBounds_toArray, List.set_cons_zero, List.set_cons_succ]
                refine wpAnyH_take (i := 4) (oi := { dst := some 56, op := _, type := _, pos := _, after := _, guard := _ }) (v := ?_) rfl (by kernel_rfl) (by kernel_rfl) (by kernel_rfl) (fun _ _ _ h => h) (Or.inl ⟨by rfl, ?_⟩) hH ?_
                rotate_left 1
                · intro W hSw
                  (try dsimp only at hSw)
                  go_simp
                  (try with_reducible rfl)
                try simp only [Act.put, List.setIfInBounds_toArray, List.set_cons_zero, List.set_cons_succ]
                refine wpAnyH_take (i := 5) (oi := { dst := some 57, op := _, type := _, pos := _, after := _, guard := _ }) (v := ?_) rfl (by kernel_rfl) (by kernel_rfl) (by kernel_rfl) (fun _ _ _ h => h) (Or.inl ⟨by rfl, ?_⟩) hH ?_
                rotate_left 1
                · intro W hSw
                  (try dsimp only at hSw)
                  go_simp
                  (try with_reducible rfl)
                try simp only [Act.put, List.setIfInBounds_toArray, List.set_cons_zero, List.set_cons_succ]
                refine wpAnyH_take (i := 7) (oi := { dst := some 59, op := _, type := _, pos := _, after := _, guard := _ }) (v := ?_) rfl (by kernel_rfl) (by kernel_rfl) (by kernel_rfl) (fun _ _ _ h => h) (Or.inl ⟨by rfl, ?_⟩) hH ?_
                rotate_left 1
                · intro W hSw
                  (try dsimp only at hSw)
                  go_simp
                  (try with_reducible rfl)
                try simp only [Act.put, List.setIfInBounds_toArray, List.set_cons_zero, List.set_cons_succ]
                refine wpAnyH_take (i := 8) (oi := { dst := some 60, op := _, type := _, pos := _, after := _, guard := _ }) (v := ?_) rfl (by kernel_rfl) (by kernel_rfl) (by kernel_rfl) (fun _ _ _ h => h) (Or.inl ⟨by rfl, ?_⟩) hH ?_
                rotate_left 1
                · intro W hSw
                  (try dsimp only at hSw)
                  go_simp
                  (try with_reducible rfl)
                try simp only [Act.put, List.setIfInBounds_toArray, List.set_cons_zero, List.set_cons_succ]
                refine wpAnyH_ready (rs := [6]) (by kernel_rfl) (by simp) (AllReadyH.cons rfl (fun K hK => ?_) AllReadyH.nil)
                go_simp
                go_at_call 119; ((with_reducible refine (CL.out en _ (HS.out.below hH.2.2.2).r1 trivial).mono ?_); rintro e r1 ⟨rfl, hb1⟩); have WV1 := owns_below WV.out.drew hb1; have WU1 := owns_below WU.out.drew hb1; have q1 : (wr.alloc (.cells (Dd.ca en 2 el ex ey eh et em) 36)).heap.size ≤ r1.heap.size := hb1.size; go_wp2_with fail
                refine hK.out _ _ ?_ (fun hG => ?_)
                · exact ⟨cell_below hb1 hH.1, cell_below hb1 hH.2.1, cell_below hb1 hH.2.2.1, hH.2.2.2.trans (hb1.mono hH.2.2.2.size)⟩
                replace hH := hG
                clear hK K hG
                try simp only [Act.put, List.setIfInBounds_toArray, List.set_cons_zero, List.set_cons_succ]
                refine wpAnyH_ready (rs := [9]) (by kernel_rfl) (by simp) (AllReadyH.cons rfl (fun K hK => ?_) AllReadyH.nil)
                go_simp
                go_at_call 118; ((with_reducible refine (Ws.l1Min _ _ _).mono ?_); rintro e r2 ⟨rfl, hw2⟩; cases hw2); go_wp2_with fail
                refine hK.out _ _ ?_ (fun hG => ?_)
                · exact hH
                replace hH := hG
                clear hK K hG
                try simp only [Act.put, List.setIfInBounds_toArray, List.set_cons_zero, List.set_cons_succ]
                refine wpAnyH_ready (rs := [10]) (by kernel_rfl) (by simp) (AllReadyH.cons rfl (fun K hK => ?_) AllReadyH.nil)
                go_simp
                refine hK.out _ _ ?_ (fun hG => ?_)
                · exact ⟨cell_alloc hH.1, cell_alloc hH.2.1, cell_alloc hH.2.2.1, hH.2.2.2.alloc hH.2.2.2.size _⟩
                replace hH := hG
                clear hK K hG
                try simp only [Act.put, List.setIfInBounds_toArray, List.set_cons_zero, List.set_cons_succ]
                refine wpAnyH_ready (rs := [11]) (by kernel_rfl) (by simp) (AllReadyH.cons rfl (fun K hK => ?_) AllReadyH.nil)
                (obtain ⟨gX, cX, u9, hrun, ho9, hg9, hp9⟩ := append_int (r1.alloc (.cells #[.int .i64 (min (levP t (Oc.pick cs [en])) em)] 3)) wo.heap.size gW q cW _ (WV1.alloc _) ⟨r1.heap.size, 0, none⟩ 1 1 [.int .i64 (min (levP t (Oc.pick cs [en])) em)] rfl (by intro j u hj; match j, hj with | 0, hj => (simp at hj; subst hj; simp [Addr.add, go_sem])) (by intro u hu9; simp at hu9; subst hu9; rfl) (by omega) (by simp; omega); refine step_append_int rfl (.tmp 52) (.tmp 62) rfl rfl _ _ _ (by simp [Act.eval, Act.put]) (by simp [Act.eval, Act.put]) hrun ?_; refine (show K (Act.put _ (some 63) _) _ from ?_))
                refine hK.out _ _ ?_ (fun hG => ?_)
                · exact ⟨hg9.cell hH.1 (fun e => by have e := Option.some.inj e; (have e9 : w.heap.size = gW := e); omega), hg9.cell hH.2.1 (fun e => by have e := Option.some.inj e; (have e9 : wr.heap.size = gW := e); omega), hg9.cell hH.2.2.1 (fun e => by have e := Option.some.inj e; (have e9 : wr.heap.size = gW := e); omega), hH.2.2.2.grown hg9 hH.2.2.2.size (fun q hq => by have hq := Option.some.inj hq; omega)⟩
                replace hH := hG
                clear hK K hG
                try simp only [Act.put, List.setIfInBounds_toArray, List.set_cons_zero, List.set_cons_succ]
                refine wpAnyH_take (i := 12) (oi := { dst := some 8, op := _, type := _, pos := _, after := _, guard := _ }) (v := ?_) rfl (by kernel_rfl) (by kernel_rfl) (by kernel_rfl) (fun _ _ _ h => h) (Or.inl ⟨by rfl, ?_⟩) hH ?_
                rotate_left 1
                · intro W hSw
                  (try dsimp only at hSw)
                  go_simp
                  (try with_reducible rfl)
                try simp only [Act.put, List.setIfInBounds_toArray, List.set_cons_zero, List.set_cons_succ]
                refine wpAnyH_done (by kernel_rfl) ?_ _
                refine NoPanic.normal ?_
                have WU2 := Lib.hid (owns_grown (WU1.alloc _) hg9 (ne_blk hne))
                have KK2 := Lib.hid (((KK1.out.drew.below hb1).alloc).grown hg9 (fun e => by have e := Option.some.inj e; omega))
                have KP2 := Lib.hid (((KP1.out.drew.below hb1).alloc).grown hg9 (fun e => by have e := Option.some.inj e; omega))
                have RO2 := Lib.hid (owns_grown ((owns_below RO1.out.drew hb1).alloc _) hg9 (ne_blk (by omega)))
                have BB2 := Lib.hid hH.2.2.2
                have nX : gX ≠ gH := by
                  rcases hp9 with e | e
                  · omega
                  · (try simp at e); omega
                have lX : gX < u9.heap.size := (ho9.lt _ rfl).2
                have WV2 := Lib.hid ho9
                have hown := WU2.out.alloc
                have HW := Lib.hid BB2.out.size
                have lH2 : gH < u9.heap.size := (WU2.out.lt _ rfl).2
                clear hH hb1 WU1 WV1 ho9 hg9 hp9 hrun KK1 KP1 RO1 WV WU B1 y1 e0 e7
                go_wp2_with (at_builtin; refine wpList_append_own_at _ rfl _ _ 31 rfl wo.heap.size 3 i9 (.int .i64 0) 1 8 Tryz.underlying31 hi9 hz09 hz19 hz29 rfl (by decide) _ _ _ rfl (hown _) ⟨u9.heap.size, 0, none⟩ 1 1 [.int .i64 j] rfl rfl (by intro j u hj; match j, hj with | 0, hj => simp at hj; subst hj; simp [Addr.add, go_sem]) (by intro u hu; simp at hu; subst hu; rfl) (by unfold maxLen; omega) (by omega) (by simp; omega) ?_)
                intro v' w5 hown' hgrow hnil hpl
                have hgr : (u9.alloc (.cells #[.int .i64 (j : Int)] 3)).grownBy w5 (some gH) := hgrow
                rw [ints_snoc, nn_snoc, ← QY.out] at hown'
                obtain ⟨gY, cY, rfl⟩ := own_mk hown'
                have nY : gX ≠ gY := by
                  rcases hpl with e | e
                  · have e : gY = gH := Option.some.inj e
                    omega
                  · have e : gY = _ := Option.some.inj e
                    (try simp at e); omega
                have OU := Lib.hid hown'
                have OV := Lib.hid (show w5.ownsRow wo.heap.size 3 1 (.slice (some ⟨gX, 0, none⟩) (q + 1) cX) (q + 1) (ints (wants ds cs t (hgB b dn (ds.take (j + 1))))) by
                  have := owns_grown (WV2.out.alloc (.cells #[.int .i64 (j : Int)] 3)) hgr (ne_blk (by omega))
                  rw [ints_snoc, ← HL.out ⟨en, 2, el, ex, ey, eh, et, em⟩, ← HWS.out, ← QY.out] at this; exact this)
                have OR := Lib.hid (owns_grown (RO2.out.alloc (.cells #[.int .i64 (j : Int)] 3)) hgr (ne_blk (by omega)))
                have OK := Lib.hid ((KK2.out.alloc (o := .cells #[.int .i64 (j : Int)] 3)).grown hgr (fun e => by have e := Option.some.inj e; omega))
                have OP := Lib.hid ((KP2.out.alloc (o := .cells #[.int .i64 (j : Int)] 3)).grown hgr (fun e => by have e := Option.some.inj e; omega))
                have OB := Lib.hid ((BB2.out.alloc BB2.out.size (.cells #[.int .i64 (j : Int)] 3)).grown hgr (BB2.out.alloc BB2.out.size (.cells #[.int .i64 (j : Int)] 3)).size (fun z9 e9 => by have e9 := Option.some.inj e9; omega))
                have QN := Lib.hid (show (hgB b dn (ds.take (j + 1))).length = q + 1 by rw [QY.out, List.length_append, QJ.out]; rfl)
                clear hown' hgrow hgr hnil hpl hown WV2 RO2 KK2 KP2 BB2 WU2
                go_wp2_with fail
                go_roundw
                case rel => exact ⟨j + 1, q + 1, gX, cX, gY, cY, by omega, by go_num, rfl, rfl, nY, QN, OV, OU, OR, OK, OP, OB⟩
                case measure => simp [intOf]; omega
          · have hbs : (b && sb el dn) = false := by
              have h9 := HKD.out
              rw [show decide (ek = 2) = false from decide_eq_false hk2] at h9
              rw [← HBB.out]
              cases r
              · rfl
              · simpa using h9.symm
            have QN := Lib.hid (hgB_no (b := b) (s := dn) HE.out hbs)
            clear hbs
            go_wp2_with fail
            go_roundw
            case rel => exact ⟨j + 1, q, gW, cW, gH, cH, by omega, by go_num, rfl, rfl, hne, by rw [QN.out]; exact QJ, by rw [QN.out]; exact WV, by rw [QN.out]; exact WU, RO1, KK1, KP1, B1⟩
            case measure => simp [intOf]; omega
        · obtain rfl : j = n0 := by omega
          have ht : ds.take j = ds := by rw [← HN.out, List.take_length]
          rw [ht] at QJ VJ UJ
          obtain ⟨L, hL⟩ : ∃ L, hgB b dn ds = L := ⟨_, rfl⟩
          have HLI := Lib.hid (show ∀ i ∈ L, i < j from fun i hi => by
            rw [← hL] at hi
            cases b
            · cases hi
            · obtain ⟨d, hd, _⟩ := hang_lt hi; rw [← HN.out]; exact (List.getElem?_eq_some_iff.1 hd).1)
          have hd7 := PJ.out.cell (i := 7) rfl
          clear ht hlj
          by_cases hq0 : q = 0
          · subst hq0
            have HSt := Lib.hid (show modK r ds cs t (k + 1) = modK r ds cs t k by rw [HT.out]; show put _ (hgB b dn ds) _ = _; rw [List.eq_nil_of_length_eq_zero QJ.out, put_nil])
            have RR := Lib.hid (show wr.ownsRow w.heap.size 3 1 (.slice (some ⟨w.heap.size + 1, 0, none⟩) j j) j (ints (modK r ds cs t (k + 1))) by rw [HSt.out]; exact RJ.out)
            clear HSt RJ VJ UJ hL hd7
            go_wp2_with fail
            go_roundw
            case rel => exact ⟨k + 1, by omega, by go_num, RR, KJ, BJ⟩
            case measure => simp [intOf]; omega
          · have hbt : b = true ∧ dk = 1 := by
              have h9 := HBB.out
              cases b
              · exact absurd QJ.out.symm hq0
              · rw [Bool.and_eq_true] at h9; exact ⟨rfl, of_decide_eq_true h9.2⟩
            obtain ⟨rfl, hdk⟩ := hbt
            have HSH := Lib.hid (show (share dm (wants ds cs t (hgB true dn ds))).length = q by
              have := share_size (cs := cs) (t := t) HG.out (List.mem_of_getElem? HZ.out) hdk
              exact this.trans QJ.out)
            have hqb : q ≤ 1048576 := by have := hgB_len true dn ds; have := QJ.out; have := HN.out; omega
            have CX := Lib.hid (CX0.out (hgB true dn ds) q q dm QJ.out hqb HSH.out gW cW wr (Rd.own VJ.out))
            have HSt := Lib.hid (show modK r ds cs t (k + 1) = put (modK r ds cs t k) (hgB true dn ds) (share dm (wants ds cs t (hgB true dn ds))) from HT.out)
            obtain ⟨P, hP⟩ : ∃ P, modK r ds cs t k = P := ⟨_, rfl⟩
            have HPL := Lib.hid (show P.length = j by rw [← hP, modK_len]; exact HN.out)
            obtain ⟨X, hX⟩ : ∃ X, share dm (wants ds cs t (hgB true dn ds)) = X := ⟨_, rfl⟩
            rw [hP, hX, hL] at HSt
            rw [hX] at HSH CX
            rw [hL] at QJ UJ
            rw [hP] at RJ
            have hqp : (0 : Int) < (q : Int) := by omega
            have lH : wo.heap.size ≤ gH := (UJ.out.lt _ rfl).1
            clear HT hP hX hL VJ PJ hdk hq0 CX0 CL HL
            go_wp2_with fail
            refine CX.out.mono ?_
            rintro e u1 ⟨g3, c3, rfl, o3, hb1⟩
            have l3 : wo.heap.size ≤ g3 := by have h8 : wr.heap.size ≤ g3 := (o3.lt _ rfl).1; have := (UJ.out.lt _ rfl).2; have h7 : gH < wr.heap.size := this; omega
            have R3 := Lib.hid (show u1.ownsRow w.heap.size 3 1 (.slice (some ⟨w.heap.size + 1, 0, none⟩) j j) j (ints (put P (L.take 0) (X.take 0))) by rw [List.take_zero, put_nil]; exact owns_below RJ.out hb1)
            have N2 := Lib.hid (owns_below UJ.out hb1)
            have X2 := Lib.hid (owns_base o3 l3)
            have KU2 := Lib.hid (KJ.out.below hb1)
            have BU2 := Lib.hid (BJ.out.trans (hb1.mono BJ.out.size))
            clear hb1 o3 RJ UJ KJ BJ CX hd7 hqp
            go_wp2_with fail
            go_loopw [77] (fun i wr => ∃ i9 : Nat, i9 ≤ q ∧ i = .int .i64 i9 ∧ Hid (wr.ownsRow w.heap.size 3 1 (.slice (some ⟨w.heap.size + 1, 0, none⟩) j j) j (ints (put P (L.take i9) (X.take i9)))) ∧ Hid (wr.ownsRow wo.heap.size 3 1 (.slice (some ⟨gH, 0, none⟩) q cH) q (ints (nn L))) ∧ Hid (wr.ownsRow wo.heap.size 3 1 (.slice (some ⟨g3, 0, none⟩) q c3) q (ints X)) ∧ Hid (Bk wr w.heap.size (sc (some ⟨bP, oP, none⟩) j c0 A1 n1 c1 A2 n2 c2 T) 28) ∧ Hid (Below w.heap.size w wr)) (fun i _ => q - (intOf i).toNat)
            case atStart => exact ⟨0, Nat.zero_le _, rfl, R3, N2, X2, KU2, BU2⟩
            case round =>
              obtain ⟨m, hm, rfl, RJ, NJ, XJ, KJ, BJ⟩ := hrel
              clear R3 N2 X2 KU2 BU2
              by_cases hlm : m < q
              · obtain ⟨i, hi⟩ : ∃ i, L[m]? = some i := ⟨_, List.getElem?_eq_getElem (by rw [QJ.out]; exact hlm)⟩
                obtain ⟨x, hx⟩ : ∃ x, X[m]? = some x := ⟨_, List.getElem?_eq_getElem (by rw [HSH.out]; exact hlm)⟩
                have hin := HLI.out i (List.mem_of_getElem? hi)
                obtain ⟨y, hy⟩ : ∃ y, (put P (L.take m) (X.take m))[i]? = some y := ⟨_, List.getElem?_eq_getElem (by rw [put_len, HPL.out]; exact hin)⟩
                have cN : wr.cell? ⟨gH, m, none⟩ = some (.int .i64 (i : Int)) := (NJ.out.cellAt m (by omega)).trans (by unfold ints; rw [List.getElem?_map, nn_get hi]; rfl)
                have cX : wr.cell? ⟨g3, m, none⟩ = some (.int .i64 x) := (XJ.out.cellAt m (by omega)).trans (by unfold ints; rw [List.getElem?_map, hx]; rfl)
                have cO : wr.cell? ⟨w.heap.size + 1, i, none⟩ = some (.int .i64 y) := (RJ.out.cellAt i (by omega)).trans (by unfold ints; rw [List.getElem?_map, hy]; rfl)
                have fO := RJ.out.frozenAt i
                obtain ⟨q1, q2⟩ := RJ.out.stored i (.int .i64 x)
                rw [show (ints (put P (L.take m) (X.take m))).set i (.int .i64 x) = ints ((put P (L.take m) (X.take m)).set i x) by simp [ints, List.map_set], ← put_take hi hx] at q1
                have RR := Lib.hid q1
                have NN := Lib.hid (owns_grown NJ.out q2 (ne_blk (by omega)))
                have XX := Lib.hid (owns_grown XJ.out q2 (ne_blk (by omega)))
                have KN := Lib.hid (KJ.out.grown q2 (by intro e; have e := Option.some.inj e; omega))
                have BB := Lib.hid (BJ.out.grown q2 BJ.out.size (fun z9 e9 => by have e9 : w.heap.size + 1 = z9 := Option.some.inj e9; omega))
                clear q1 q2 RJ NJ XJ KJ BJ hi hx hy
                go_wp2_with fail
                go_roundw
                case rel => exact ⟨m + 1, by omega, by go_num, RR, NN, XX, KN, BB⟩
                case measure => simp [intOf]; omega
              · obtain rfl : m = q := by omega
                have RR := Lib.hid (show wr.ownsRow w.heap.size 3 1 (.slice (some ⟨w.heap.size + 1, 0, none⟩) j j) j (ints (modK r ds cs t (k + 1))) by
                  rw [HSt.out]; have := RJ.out
                  rw [show L.take m = L by rw [← QJ.out, List.take_length], show X.take m = X by rw [← HSH.out, List.take_length]] at this; exact this)
                clear RJ NJ XJ
                go_wp2_with fail
                go_roundw
                case rel => exact ⟨k + 1, by omega, by go_num, RR, KJ, BJ⟩
                case measure => simp [intOf]; omega
    · obtain rfl : k = n0 := by omega
      have OF := Lib.hid (show wr.ownsRow w.heap.size 3 1 (.slice (some ⟨w.heap.size + 1, 0, none⟩) k k) k (ints (lifts ds cs T t)) by rw [← HO.out, HN.out]; exact RK.out)
      have HM := Lib.hid (show (lifts ds cs T t).length = k by rw [lifts_len]; exact HN.out)
      clear RK KK CX0 CL
      go_wp2_with fail
      go_ret
      exact row_of HM.out OF.out BK.out
end Go.Proofs.YtokncfhpmjohdabGreat.Lg9
namespace Go.Proofs.YtokncfhpmjohdabGreat.La9
open Go.RowKit Go.ChangeShapes Go.WideShapes Go.WideElems Go.Deep Go.Proofs.YtokncfhpmjohdabGreat.Mem Go.Proofs.YtokncfhpmjohdabGreat.Rw Go.Proofs.YtokncfhpmjohdabGreat.P2 Go.Proofs.YtokncfhpmjohdabGreat.Bk Go.Proofs.YtokncfhpmjohdabGreat.Sp Go.Proofs.YtokncfhpmjohdabGreat.Sq Go.Proofs.YtokncfhpmjohdabGreat.Jt
open Go.Proofs.YtokncfhpmjohdabGreat.Sv hiding D C G
open Go.Proofs.YtokncfhpmjohdabGreat.Wp (RowI row_nil)
open Go.Proofs.YtokncfhpmjohdabGreat.Lf9 (row_of)
set_option linter.unusedVariables false
set_option linter.unusedSimpArgs false

/-- The lifts of a show, or none. -/
noncomputable def laV (ds : List D) (cs : List C) (gs : List G) (T t : Int) : List Int := if show9 ds cs gs T = true then lifts ds cs T t else []
theorem laV_yes {ds : List D} {cs : List C} {gs : List G} {T : Int} (t : Int) (h : show9 ds cs gs T = true) : laV ds cs gs T t = lifts ds cs T t := if_pos h
theorem laV_no {ds : List D} {cs : List C} {gs : List G} {T : Int} (t : Int) (h : show9 ds cs gs T = false) : laV ds cs gs T t = [] := if_neg (by rw [h]; decide)
theorem laV_len (ds : List D) (cs : List C) (gs : List G) (T t : Int) : (laV ds cs gs T t).length ≤ ds.length := by
  unfold laV; split
  · rw [lifts_len]; exact Nat.le_refl _
  · exact Nat.zero_le _
theorem row_base {w u w' : World} {l : List Int} {e : Ending} (h : RowI u l e w') (hb : Below w.heap.size w u) : RowI w l e w' := by
  obtain ⟨g, c, rfl, o, b⟩ := h
  exact ⟨g, c, rfl, owns_base o (Nat.le_trans hb.size (o.lt g rfl).1), hb.trans (b.mono hb.size)⟩

set_option maxRecDepth 100000 in
set_option maxHeartbeats 2000000 in
theorem liftsAtI (A0 : Option Addr) (n0 c0 : Nat) (A1 : Option Addr) (n1 c1 : Nat) (A2 : Option Addr) (n2 c2 : Nat) (T : Int) (ds : List D) (cs : List C) (gs : List G) (t : Int) (w : World)
    (hf : Fit n0 n1 n2 ds cs gs) (hr : SR w A0 A1 A2 ds cs gs) (wt : (Lit.int .i64 t).wf = true) :
    Calls Tryz.prog 9 #[sv A0 n0 c0 A1 n1 c1 A2 n2 c2 T, .int .i64 t] w (RowI w (laV ds cs gs T t)) := by
  have HF := Lib.hid hf
  have K0 := Lib.hid (Bk.new w (sc A0 n0 c0 A1 n1 c1 A2 n2 c2 T) 28)
  have B0 := Lib.hid ((Below.refl w.heap.size w).alloc (Nat.le_refl _) (.cells (sc A0 n0 c0 A1 n1 c1 A2 n2 c2 T) 28))
  have HS := Lib.hid (hr.below B0.out)
  obtain ⟨r, hrr⟩ : ∃ r, show9 ds cs gs T = r := ⟨_, rfl⟩
  have CS := Lib.hid (fun (W : World) (h : SR W A0 A1 A2 ds cs gs) => (by have := Sw9.isShowI A0 n0 c0 A1 n1 c1 A2 n2 c2 T ds cs gs W HF.out h; rw [hrr] at this; exact this : Calls Tryz.prog 27 #[sv A0 n0 c0 A1 n1 c1 A2 n2 c2 T] W fun e w' => e = .returned (.bool r) ∧ Below W.heap.size W w'))
  cases r
  · rw [laV_no t hrr]
    have hu : undef = Value.tuple #[] := rfl
    clear hf hr hrr
    go_enter Tryz.func9, Tryz.ntmps9
    go_wp2_with fail
    refine (CS.out _ HS.out).mono ?_
    rintro e w1 ⟨rfl, hb⟩
    have B1 := Lib.hid (B0.out.trans (hb.mono B0.out.size))
    clear hb CS HS K0 B0
    go_wp2_with fail
    go_ret
    exact row_base (row_nil w1) B1.out
  · rw [laV_yes t hrr]
    have hs := show_iff.1 hrr
    have CL := Lib.hid (fun (W : World) (h : SR W A0 A1 A2 ds cs gs) => Li9.liftsAt A0 n0 c0 A1 n1 c1 A2 n2 c2 T ds cs gs t W HF.out h hs.1 hs.2.2.2 wt)
    have hu : undef = Value.tuple #[] := rfl
    clear hf hr hrr hs wt
    go_enter Tryz.func9, Tryz.ntmps9
    go_wp2_with fail
    refine (CS.out _ HS.out).mono ?_
    rintro e w1 ⟨rfl, hb⟩
    have B1 := Lib.hid (B0.out.trans (hb.mono B0.out.size))
    have S1 := Lib.hid (HS.out.below hb)
    have K1 := Lib.hid (K0.out.below hb)
    have b0 := K1.out.cell (i := 0) rfl
    have b1 := K1.out.cell (i := 1) rfl
    have b2 := K1.out.cell (i := 2) rfl
    have b3 := K1.out.cell (i := 3) rfl
    clear hb CS HS K0 B0 K1
    go_wp2_with fail
    refine (CL.out _ S1.out).mono ?_
    rintro e w2 h
    obtain ⟨g, c, rfl, o, hb⟩ := row_base h B1.out
    have O := Lib.hid o
    have B2 := Lib.hid hb
    clear h o hb CL S1 b0 b1 b2 b3
    go_wp2_with fail
    go_ret
    exact ⟨g, c, rfl, O.out, B2.out⟩
end Go.Proofs.YtokncfhpmjohdabGreat.La9
namespace Go.Proofs.YtokncfhpmjohdabGreat.Ja9
open Go.RowKit Go.ChangeShapes Go.WideShapes Go.WideElems Go.Deep Go.Proofs.YtokncfhpmjohdabGreat.Mem Go.Proofs.YtokncfhpmjohdabGreat.Rw Go.Proofs.YtokncfhpmjohdabGreat.P2 Go.Proofs.YtokncfhpmjohdabGreat.Bk Go.Proofs.YtokncfhpmjohdabGreat.Sp Go.Proofs.YtokncfhpmjohdabGreat.Sq Go.Proofs.YtokncfhpmjohdabGreat.Jt
open Go.Proofs.YtokncfhpmjohdabGreat.Sv hiding D C G
open Go.Proofs.YtokncfhpmjohdabGreat.Ds (sb)
open Go.Proofs.YtokncfhpmjohdabGreat.Ig (rig)
open Go.Proofs.YtokncfhpmjohdabGreat.Fd (fd fdN fd_cases)
open Go.Proofs.YtokncfhpmjohdabGreat.Wp (RowI rd_cell)
set_option linter.unusedVariables false
set_option linter.unusedSimpArgs false
open Go.Proofs.YtokncfhpmjohdabGreat.La9
/-- The first device of this name with a lift. -/
def jaN (s : ByteArray) : List D → List Int → Option (D × Int)
  | d :: r, x :: xs => if sb d.nm s = true ∧ x ≠ 0 then some (d, x) else jaN s r xs
  | _, _ => none
noncomputable def jaV (ds : List D) (cs : List C) (gs : List G) (T : Int) (s : ByteArray) (t : Int) : Option (D × Int) := jaN s ds (laV ds cs gs T t)
theorem jaN_nil (s : ByteArray) (ds : List D) : jaN s ds [] = none := by cases ds <;> rfl
theorem jaN_drop {s : ByteArray} {ds : List D} {L : List Int} {k : Nat} {d : D} {x : Int} (hd : ds[k]? = some d) (hx : L[k]? = some x) : jaN s (ds.drop k) (L.drop k) = if sb d.nm s = true ∧ x ≠ 0 then some (d, x) else jaN s (ds.drop (k + 1)) (L.drop (k + 1)) := by
  obtain ⟨h1, rfl⟩ := List.getElem?_eq_some_iff.1 hd
  obtain ⟨h2, rfl⟩ := List.getElem?_eq_some_iff.1 hx
  rw [List.drop_eq_getElem_cons h1, List.drop_eq_getElem_cons h2, jaN]
theorem jaN_end {s : ByteArray} {ds : List D} {L : List Int} {k : Nat} (h : L.length ≤ k) : jaN s (ds.drop k) (L.drop k) = none := by rw [List.drop_of_length_le h]; exact jaN_nil _ _
theorem jaN_no (s : ByteArray) : ∀ (ds : List D) (L : List Int), (∀ d ∈ ds, sb d.nm s = false) → jaN s ds L = none
  | [], L, _ => by cases L <;> rfl
  | d :: r, [], _ => rfl
  | d :: r, x :: xs, h => by
    rw [jaN, if_neg (fun c => by rw [h d (List.mem_cons_self ..)] at c; exact absurd c.1 (by decide))]
    exact jaN_no s r xs fun e he => h e (List.mem_cons_of_mem _ he)
theorem jaN_at (s : ByteArray) : ∀ (ds : List D) (L : List Int) (j : Nat) (d : D) (x : Int), Rz.Ord ds → ds[j]? = some d → sb d.nm s = true → L[j]? = some x → jaN s ds L = if x = 0 then none else some (d, x)
  | [], _, _, _, _, _, h, _, _ => by simp at h
  | e :: r, [], j, d, x, _, _, _, h => by simp at h
  | e :: r, y :: ys, 0, d, x, ho, h1, h2, h3 => by
    simp at h1 h3
    subst h1 h3
    by_cases c : y = 0
    · rw [jaN, if_neg (fun q => q.2 c), if_pos c]
      refine jaN_no s r ys fun q hq => ?_
      rw [← Bool.not_eq_true]
      intro hs
      exact absurd ((sb_iff.1 h2).trans (sb_iff.1 hs).symm) (Rz.lt_ne ((List.pairwise_cons.1 ho).1 q hq))
    · rw [jaN, if_pos ⟨h2, c⟩, if_neg c]
  | e :: r, y :: ys, j + 1, d, x, ho, h1, h2, h3 => by
    simp at h1 h3
    have hne : ¬ (sb e.nm s = true ∧ y ≠ 0) := fun q => absurd ((sb_iff.1 q.1).trans (sb_iff.1 h2).symm) (Rz.lt_ne ((List.pairwise_cons.1 ho).1 d (List.mem_of_getElem? h1)))
    rw [jaN, if_neg hne]
    exact jaN_at s r ys j d x (List.pairwise_cons.1 ho).2 h1 h2 h3
/-- What comes back. -/
def jvO : Option (D × Int) → Value
  | some (d, x) => .tuple #[.agg #[.int .i64 d.x, .int .i64 d.y, .int .i64 d.hd, .int .i64 d.tl, .int .i64 x], .bool true]
  | none => .tuple #[.agg #[.int .i64 0, .int .i64 0, .int .i64 0, .int .i64 0, .int .i64 0], .bool false]
abbrev zj : Array Value := #[.int .i64 0, .int .i64 0, .int .i64 0, .int .i64 0, .int .i64 0]

set_option maxHeartbeats 1000000 in
theorem jetOf (d : D) (l : Int) (w : World) : Calls Tryz.prog 46 #[Dd.va d.nm d.kd d.ln d.x d.y d.hd d.tl d.ms, .int .i64 l] w fun e w' => e = .returned (.agg #[.int .i64 d.x, .int .i64 d.y, .int .i64 d.hd, .int .i64 d.tl, .int .i64 l]) ∧ Below w.heap.size w w' := by
  obtain ⟨dn, dk, dl, dx, dy, dh, dt, dm⟩ := d
  go_enter Tryz.func46, Tryz.ntmps46
  go_wp2
  go_returns
  exact ⟨rfl, by go_grown⟩

end Go.Proofs.YtokncfhpmjohdabGreat.Ja9
namespace Go.Proofs.YtokncfhpmjohdabGreat.Jb9
open Go.RowKit Go.ChangeShapes Go.WideShapes Go.WideElems Go.Deep Go.Proofs.YtokncfhpmjohdabGreat.Mem Go.Proofs.YtokncfhpmjohdabGreat.Rw Go.Proofs.YtokncfhpmjohdabGreat.P2 Go.Proofs.YtokncfhpmjohdabGreat.Bk Go.Proofs.YtokncfhpmjohdabGreat.Sp Go.Proofs.YtokncfhpmjohdabGreat.Sq Go.Proofs.YtokncfhpmjohdabGreat.Jt
open Go.Proofs.YtokncfhpmjohdabGreat.Sv hiding D C G
open Go.Proofs.YtokncfhpmjohdabGreat.Ds (sb)
open Go.Proofs.YtokncfhpmjohdabGreat.Ig (rig)
open Go.Proofs.YtokncfhpmjohdabGreat.Fd (fd fdN fd_cases)
open Go.Proofs.YtokncfhpmjohdabGreat.Wp (RowI rd_cell)
set_option linter.unusedVariables false
set_option linter.unusedSimpArgs false
open Go.Proofs.YtokncfhpmjohdabGreat.La9 Go.Proofs.YtokncfhpmjohdabGreat.Ja9

set_option maxRecDepth 100000 in
set_option maxHeartbeats 4000000 in
theorem jetAtI (A0 : Option Addr) (n0 c0 : Nat) (A1 : Option Addr) (n1 c1 : Nat) (A2 : Option Addr) (n2 c2 : Nat) (T : Int) (ds : List D) (cs : List C) (gs : List G) (s : ByteArray) (t : Int) (w : World) (hf : Fit n0 n1 n2 ds cs gs) (hr : SR w A0 A1 A2 ds cs gs) (wt : (Lit.int .i64 t).wf = true) :
    Calls Tryz.prog 19 #[sv A0 n0 c0 A1 n1 c1 A2 n2 c2 T, .string s, .int .i64 t] w fun e w' => e = .returned (jvO (jaV ds cs gs T s t)) ∧ Below w.heap.size w w' := by
  have HS := Lib.hid hr
  have HN := Lib.hid hf.1.1
  have hb0 : n0 ≤ 1048576 := hf.1.2
  have hu : undef = Value.tuple #[] := rfl
  obtain ⟨L, hL⟩ : ∃ L, laV ds cs gs T t = L := ⟨_, rfl⟩
  obtain ⟨m, hm⟩ : ∃ m, L.length = m := ⟨_, rfl⟩
  have hmn : m ≤ n0 := by have := laV_len ds cs gs T t; rw [hL, hm, HN.out] at this; exact this
  obtain ⟨R, hR⟩ : ∃ R, jaV ds cs gs T s t = R := ⟨_, rfl⟩
  have HR0 := Lib.hid (show jaN s (ds.drop 0) (L.drop 0) = R by rw [List.drop_zero, List.drop_zero, ← hL]; exact hR)
  rw [hR]
  have CL := Lib.hid (fun (W : World) (h : SR W A0 A1 A2 ds cs gs) => (by have := liftsAtI A0 n0 c0 A1 n1 c1 A2 n2 c2 T ds cs gs t W hf h wt; unfold RowI at this; rw [hL, hm] at this; exact this :
    Calls Tryz.prog 9 #[sv A0 n0 c0 A1 n1 c1 A2 n2 c2 T, .int .i64 t] W (fun e w' => ∃ g c, e = .returned (.slice (some ⟨g, 0, none⟩) m c) ∧ w'.ownsRow W.heap.size 3 1 (.slice (some ⟨g, 0, none⟩) m c) m (ints L) ∧ Below W.heap.size W w')))
  have hz : (w.alloc (.cells (sc A0 n0 c0 A1 n1 c1 A2 n2 c2 T) 28)).heap.size = w.heap.size + 1 := by simp [go_sem]
  have B0a := (Below.refl w.heap.size w).alloc (Nat.le_refl _) (.cells (sc A0 n0 c0 A1 n1 c1 A2 n2 c2 T) 28)
  have B0 := Lib.hid (B0a.alloc B0a.size (.cells zj 47))
  have K0 := Lib.hid ((Bk.new w (sc A0 n0 c0 A1 n1 c1 A2 n2 c2 T) 28).alloc (o := .cells zj 47))
  have KR0 := Bk.new (w.alloc (.cells (sc A0 n0 c0 A1 n1 c1 A2 n2 c2 T) 28)) zj 47
  rw [hz] at KR0
  have KR := Lib.hid KR0
  have HM := Lib.hid hm
  have hb9 : w.heap.size < w.heap.size + 1 := by omega
  have b0 := K0.out.cell (i := 0) rfl
  have b1 := K0.out.cell (i := 1) rfl
  have b2 := K0.out.cell (i := 2) rfl
  have b3 := K0.out.cell (i := 3) rfl
  clear hr hf wt hL hm hR hz B0a KR0
  go_enter Tryz.func19, Tryz.ntmps19
  go_wp2_with fail
  refine (CL.out _ (HS.out.below B0.out)).mono ?_
  rintro e w1 ⟨g, c, rfl, o, hb⟩
  have B1 := Lib.hid (B0.out.trans (hb.mono B0.out.size))
  have K1 := Lib.hid (K0.out.below hb)
  have KR1 := Lib.hid (KR.out.below hb)
  have O1 := Lib.hid (owns_base o (Nat.le_trans B0.out.size (o.lt g rfl).1))
  clear hb o CL K0 KR B0 b0 b1 b2 b3 hb9
  go_wp2_with fail
  go_loopw [14] (fun i wr => ∃ k : Nat, k ≤ m ∧ i = .int .i64 k ∧ Hid (jaN s (ds.drop k) (L.drop k) = R) ∧ Hid (wr.ownsRow w.heap.size 3 1 (.slice (some ⟨g, 0, none⟩) m c) m (ints L)) ∧ Hid (Bk wr w.heap.size (sc A0 n0 c0 A1 n1 c1 A2 n2 c2 T) 28) ∧ Hid (Bk wr (w.heap.size + 1) zj 47) ∧ Hid (Below w.heap.size w wr)) (fun i _ => m - (intOf i).toNat)
  case atStart => exact ⟨0, Nat.zero_le _, rfl, HR0, O1, K1, KR1, B1⟩
  case round =>
    obtain ⟨k, hk, rfl, HK, OK, KK, KQ, BK⟩ := hrel
    clear HR0 O1 K1 KR1 B1
    by_cases hlt : k < m
    · obtain ⟨x, hx⟩ : ∃ x, L[k]? = some x := ⟨_, List.getElem?_eq_getElem (by rw [HM.out]; exact hlt)⟩
      obtain ⟨z, hz⟩ : ∃ z, ds[k]? = some z := ⟨_, List.getElem?_eq_getElem (by rw [HN.out]; omega)⟩
      have HZ := Lib.hid hz
      have HD := Lib.hid (HK.out.symm.trans (jaN_drop (s := s) hz hx))
      have cL : wr.cell? ⟨g, k, none⟩ = some (.int .i64 x) := (OK.out.cellAt k (by omega)).trans (by unfold ints; rw [List.getElem?_map, hx]; rfl)
      have CJ := Lib.hid (fun (W : World) => jetOf z x W)
      clear hz hx HK
      obtain ⟨dn, dk, dl, dx, dy, dh, dt, dm⟩ := z
      obtain ⟨bD, oD, eA, hbl, hcell⟩ := (HS.out.1.below BK.out).get (k := k * 8) (by rw [Dd.dls_len, HN.out]; omega)
      obtain ⟨z0, z1, z2, z3, z4, z5, z6, z7⟩ := Dd.dls_get HZ.out
      have v0 := hcell (k * 8) _ z0
      have v1 := hcell (k * 8 + 1) _ z1
      rw [← Nat.add_assoc] at v1
      have v2 := hcell (k * 8 + 2) _ z2
      rw [← Nat.add_assoc] at v2
      have v3 := hcell (k * 8 + 3) _ z3
      rw [← Nat.add_assoc] at v3
      have v4 := hcell (k * 8 + 4) _ z4
      rw [← Nat.add_assoc] at v4
      have v5 := hcell (k * 8 + 5) _ z5
      rw [← Nat.add_assoc] at v5
      have v6 := hcell (k * 8 + 6) _ z6
      rw [← Nat.add_assoc] at v6
      have v7 := hcell (k * 8 + 7) _ z7
      rw [← Nat.add_assoc] at v7
      clear hcell hbl z0 z1 z2 z3 z4 z5 z6 z7
      subst eA
      have b0 := KK.out.cell (i := 0) rfl
      cases hs : sb dn s
      · have hs2 : (dn.toList == s.toList) = false := hs
        have HN2 := Lib.hid (show jaN s (ds.drop (k + 1)) (L.drop (k + 1)) = R by rw [HD.out, if_neg (fun q => by have := q.1; rw [show sb dn s = false from hs] at this; cases this)])
        clear hs HD
        go_wp2_with fail
        go_roundw
        case rel => exact ⟨k + 1, by omega, by go_num, HN2, OK, KK, KQ, BK⟩
        case measure => simp [intOf]; omega
      · have hs2 : (dn.toList == s.toList) = true := hs
        by_cases hx0 : x = 0
        · have HN2 := Lib.hid (show jaN s (ds.drop (k + 1)) (L.drop (k + 1)) = R by rw [HD.out, if_neg (fun q => q.2 hx0)])
          subst hx0
          clear hs HD
          go_wp2_with fail
          go_roundw
          case rel => exact ⟨k + 1, by omega, by go_num, HN2, OK, KK, KQ, BK⟩
          case measure => simp [intOf]; omega
        · have HE := Lib.hid (show R = some (⟨dn, dk, dl, dx, dy, dh, dt, dm⟩, x) by rw [HD.out, if_pos ⟨hs, hx0⟩])
          clear hs HD
          go_wp2_with fail
          refine (CJ.out _).mono ?_
          rintro e u1 ⟨rfl, hb⟩
          have KU := KQ.out.below hb
          have BU := BK.out.trans (hb.mono BK.out.size)
          have r0 := KU.cell (i := 0) rfl
          have q0 := KU.frozen 0
          have r1 := KU.cell (i := 1) rfl
          have q1 := KU.frozen 1
          have r2 := KU.cell (i := 2) rfl
          have q2 := KU.frozen 2
          have r3 := KU.cell (i := 3) rfl
          have q3 := KU.frozen 3
          have r4 := KU.cell (i := 4) rfl
          have q4 := KU.frozen 4
          clear hb OK KK KQ BK CJ v0 v1 v2 v3 v4 v5 v6 v7 cL b0
          go_wp2_with fail
          have KX := (((((KU.set (i := 0) (v := .int .i64 dx)).set (i := 1) (v := .int .i64 dy)).set (i := 2) (v := .int .i64 dh)).set (i := 3) (v := .int .i64 dt)).set (i := 4) (v := .int .i64 x))
          have s0 := KX.cell (i := 0) rfl
          have s1 := KX.cell (i := 1) rfl
          have s2 := KX.cell (i := 2) rfl
          have s3 := KX.cell (i := 3) rfl
          have s4 := KX.cell (i := 4) rfl
          have BX := BU.grown (grown_trans (grown_trans (grown_trans (grown_trans (Bk.setG _ (w.heap.size + 1) 0 (.int .i64 dx)) (Bk.setG _ (w.heap.size + 1) 1 (.int .i64 dy))) (Bk.setG _ (w.heap.size + 1) 2 (.int .i64 dh))) (Bk.setG _ (w.heap.size + 1) 3 (.int .i64 dt))) (Bk.setG _ (w.heap.size + 1) 4 (.int .i64 x))) BU.size (fun z9 e9 => by have e9 := Option.some.inj e9; omega)
          refine bodyPost_ret (v := jvO (some (⟨dn, dk, dl, dx, dy, dh, dt, dm⟩, x))) (by simp [results, Tryz.results19, go_sem, s0, s1, s2, s3, s4]; try rfl) rfl ?_
          exact ⟨by rw [HE.out], BX⟩
    · obtain rfl : k = m := by omega
      have HE := Lib.hid (show R = none by rw [← HK.out]; exact jaN_end (by rw [HM.out]; exact Nat.le_refl _))
      have KU := KQ.out
      have BU := BK.out
      have r0 := KU.cell (i := 0) rfl
      have q0 := KU.frozen 0
      have r1 := KU.cell (i := 1) rfl
      have q1 := KU.frozen 1
      have r2 := KU.cell (i := 2) rfl
      have q2 := KU.frozen 2
      have r3 := KU.cell (i := 3) rfl
      have q3 := KU.frozen 3
      have r4 := KU.cell (i := 4) rfl
      have q4 := KU.frozen 4
      clear OK KK KQ BK HK
      go_wp2_with fail
      have KX := (((((KU.set (i := 0) (v := .int .i64 0)).set (i := 1) (v := .int .i64 0)).set (i := 2) (v := .int .i64 0)).set (i := 3) (v := .int .i64 0)).set (i := 4) (v := .int .i64 0))
      have s0 := KX.cell (i := 0) rfl
      have s1 := KX.cell (i := 1) rfl
      have s2 := KX.cell (i := 2) rfl
      have s3 := KX.cell (i := 3) rfl
      have s4 := KX.cell (i := 4) rfl
      have BX := BU.grown (grown_trans (grown_trans (grown_trans (grown_trans (Bk.setG _ (w.heap.size + 1) 0 (.int .i64 0)) (Bk.setG _ (w.heap.size + 1) 1 (.int .i64 0))) (Bk.setG _ (w.heap.size + 1) 2 (.int .i64 0))) (Bk.setG _ (w.heap.size + 1) 3 (.int .i64 0))) (Bk.setG _ (w.heap.size + 1) 4 (.int .i64 0))) BU.size (fun z9 e9 => by have e9 := Option.some.inj e9; omega)
      refine bodyPost_ret (v := jvO none) (by simp [results, Tryz.results19, go_sem, s0, s1, s2, s3, s4]; try rfl) rfl ?_
      exact ⟨by rw [HE.out], BX⟩
end Go.Proofs.YtokncfhpmjohdabGreat.Jb9
namespace Go.Proofs.YtokncfhpmjohdabGreat.Jc9
open Go.RowKit Go.ChangeShapes Go.WideShapes Go.WideElems Go.Deep Go.Proofs.YtokncfhpmjohdabGreat.Mem Go.Proofs.YtokncfhpmjohdabGreat.Rw Go.Proofs.YtokncfhpmjohdabGreat.P2 Go.Proofs.YtokncfhpmjohdabGreat.Bk Go.Proofs.YtokncfhpmjohdabGreat.Sp Go.Proofs.YtokncfhpmjohdabGreat.Sq Go.Proofs.YtokncfhpmjohdabGreat.Jt
open Go.Proofs.YtokncfhpmjohdabGreat.Sv hiding D C G
open Go.Proofs.YtokncfhpmjohdabGreat.Ds (sb)
open Go.Proofs.YtokncfhpmjohdabGreat.Ig (rig)
open Go.Proofs.YtokncfhpmjohdabGreat.Fd (fd fdN fd_cases)
open Go.Proofs.YtokncfhpmjohdabGreat.Wp (RowI rd_cell)
set_option linter.unusedVariables false
set_option linter.unusedSimpArgs false
open Go.Proofs.YtokncfhpmjohdabGreat.La9 Go.Proofs.YtokncfhpmjohdabGreat.Ja9

end Go.Proofs.YtokncfhpmjohdabGreat.Jc9
namespace Go.Proofs.YtokncfhpmjohdabGreat.Lt9
open Go.RowKit Go.ChangeShapes Go.WideShapes Go.WideElems Go.Deep Go.Proofs.YtokncfhpmjohdabGreat.Mem Go.Proofs.YtokncfhpmjohdabGreat.Rw Go.Proofs.YtokncfhpmjohdabGreat.P2 Go.Proofs.YtokncfhpmjohdabGreat.Bk Go.Proofs.YtokncfhpmjohdabGreat.Sp Go.Proofs.YtokncfhpmjohdabGreat.Sq Go.Proofs.YtokncfhpmjohdabGreat.Jt
open Go.Proofs.YtokncfhpmjohdabGreat.Sv hiding D C G
open Go.Proofs.YtokncfhpmjohdabGreat.Ds (sb)
open Go.Proofs.YtokncfhpmjohdabGreat.Ig (rig)
open Go.Proofs.YtokncfhpmjohdabGreat.Fd (fd fdN fd_cases)
open Go.Proofs.YtokncfhpmjohdabGreat.Wp (RowI rd_cell)
set_option linter.unusedVariables false
set_option linter.unusedSimpArgs false
open Go.Proofs.YtokncfhpmjohdabGreat.La9 Go.Proofs.YtokncfhpmjohdabGreat.Ja9
end Go.Proofs.YtokncfhpmjohdabGreat.Lt9
