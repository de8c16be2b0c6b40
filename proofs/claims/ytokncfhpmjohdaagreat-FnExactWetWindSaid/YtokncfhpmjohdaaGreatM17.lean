/- The lifts of a show, of the model. -/
import Derived.Test.YtokncfhpmjohdaaGreatSw9
import Derived.Test.YtokncfhpmjohdaaGreatM13
import Derived.Test.YtokncfhpmjohdaaGreatLm7
import Derived.Test.YtokncfhpmjohdaaGreatM14
import Derived.Maps.AppendAt
import Derived.Deep.DeepCutAuto
import Derived.Deep.RegionHeld3
import Derived.Lib.MinMax
import Derived.Test.YtokncfhpmjohdaaGreatM16
set_option linter.unusedVariables false
set_option linter.unusedSimpArgs false
namespace Go.Proofs.YtokncfhpmjohdaaGreat.Lg9
open Go.RowKit Go.ChangeShapes Go.WideShapes Go.WideElems Go.Deep Go.Proofs.YtokncfhpmjohdaaGreat.Mem Go.Proofs.YtokncfhpmjohdaaGreat.Rw Go.Proofs.YtokncfhpmjohdaaGreat.P2 Go.Proofs.YtokncfhpmjohdaaGreat.Bk Go.Proofs.YtokncfhpmjohdaaGreat.Sp Go.Proofs.YtokncfhpmjohdaaGreat.Sq Go.Proofs.YtokncfhpmjohdaaGreat.Jt
open Go.Proofs.YtokncfhpmjohdaaGreat.Sv hiding D C G
open Go.Proofs.YtokncfhpmjohdaaGreat.Wp (RowI infoI own_mk own_base rd_cell ints_snoc row_nil)
open Go.Proofs.YtokncfhpmjohdaaGreat.Ds (sb)
open Go.Proofs.YtokncfhpmjohdaaGreat.Ig (rig)
open Go.Proofs.YtokncfhpmjohdaaGreat.Dm (share)
open Go.Proofs.YtokncfhpmjohdaaGreat.Ld (levV levP)
open Go.Proofs.YtokncfhpmjohdaaGreat.Lf9
set_option linter.unusedVariables false
set_option linter.unusedSimpArgs false

theorem append_int (w : World) (base g n c : Nat) (xs : List Value) (hown : w.ownsRow base 3 1 (.slice (some ⟨g, 0, none⟩) n c) n xs) (a : Addr) (m c2 : Nat) (news : List Value) (hl : news.length = m * 1) (hnews : ∀ j u, news[j]? = some u → w.cell? (a.add j) = some u) (h1 : ∀ u ∈ news, u.oneCell' = true) (hs : n + m ≤ 2097152) (hbase : base ≤ w.heap.size) :
    ∃ (g' c' : Nat) (w' : World), (Builtin.append_ #[131, 131] 131 #[.slice (some ⟨g, 0, none⟩) n c, .slice (some a) m c2]).run Tryz.prog w = .ok (.slice (some ⟨g', 0, none⟩) (n + m) c') w' ∧ w'.ownsRow base 3 1 (.slice (some ⟨g', 0, none⟩) (n + m) c') (n + m) (xs ++ news) ∧ w.grownBy w' (some g) ∧ (g' = g ∨ g' = w.heap.size) := by
  obtain ⟨i0, hi, hz0, hz1, hz2⟩ := info_parts infoI
  obtain ⟨v', w', hr, h2, h3, h4, h5⟩ := run_append_own_at (P := Tryz.prog) w base 131 131 3 i0 (.int .i64 0) 1 8 Tryz.underlying131 hi hz0 hz1 hz2 rfl (by decide) _ n xs hown a m c2 news hl hnews h1 (by unfold maxLen; omega) (by omega) hbase
  have hg : ∃ g c, v' = .slice (some ⟨g, 0, none⟩) (n + m) c := by
    rcases h2.2 with ⟨e1, _⟩ | ⟨g, cap, cur, e1, _⟩
    · exact absurd (h4.1 e1).1 (by intro h; cases h)
    · exact ⟨g, cap, e1⟩
  obtain ⟨g', c', rfl⟩ := hg
  refine ⟨g', c', w', hr, h2, h3, ?_⟩
  rcases h5 with h5 | h5
  · exact Or.inl (Option.some.inj h5)
  · exact Or.inr (Option.some.inj h5)
theorem step_append_int {ops : Array Oper} {o : Oper} {a : Act} {w w' : World} {K : Act → World → Prop} {Q : Exit → Act → World → Prop} {E : Prop}
    (hg : o.guard = none) (s x : Operand) (hop : o.op = Op.call { callee := Callee.builtin Builtin.append, args := #[s, x], argTypes := #[131, 131] }) (hty : o.type = 131)
    (v v2 v' : Value) (hs : a.eval s = v) (hx : a.eval x = v2) (hrun : (Builtin.append_ #[131, 131] 131 #[v, v2]).run Tryz.prog w = .ok v' w') (hK : K (a.put o.dst v') w') :
    if Region.wanted o (yielded ops a.tmps) = true then Oper.wp Tryz.prog o a w K Q else E := by
  have hw : Region.wanted o (yielded ops a.tmps) = true := by simp [Region.wanted, hg]
  rw [if_pos hw]
  unfold Oper.wp
  simp [execOp, hop, hty, resolve, invoke, builtin, hs, hx, hrun, Result.andThen]
  exact hK
theorem ne_own {w : World} {base e s n c g : Nat} {T : TypeId} {xs : List Value} (h : w.ownsRow base T s (.slice (some ⟨g, 0, none⟩) n c) n xs) {b : Nat} (hb : g ≠ b) : ∀ k, (Value.slice (some ⟨g, 0, none⟩) n c).ownBlock = some k → some b ≠ some k := by
  intro k hk e
  have hk : g = k := Option.some.inj hk
  have e := Option.some.inj e
  omega
theorem ne_blk {g : Nat} {n c b : Nat} (hb : b ≠ g) : ∀ k, (Value.slice (some ⟨g, 0, none⟩) n c).ownBlock = some k → some b ≠ some k := by
  intro k hk e
  have hk : g = k := Option.some.inj hk
  have e := Option.some.inj e
  omega

set_option maxRecDepth 100000 in
set_option maxHeartbeats 8000000 in
theorem l9Lifts (A0 : Option Addr) (n0 c0 : Nat) (A1 : Option Addr) (n1 c1 : Nat) (A2 : Option Addr) (n2 c2 : Nat) (T : Int) (ds : List D) (cs : List C) (gs : List G) (t : Int) (w : World)
    (hf : Fit n0 n1 n2 ds cs gs) (hr : SR w A0 A1 A2 ds cs gs) (hrig : rig ds = true) (hsco : Sd.score cs = true) (hT : 0 ≤ T ∧ T ≤ 64) (wt : (Lit.int .i64 t).wf = true) :
    Calls Tryz.prog 107 #[sv A0 n0 c0 A1 n1 c1 A2 n2 c2 T, .int .i64 t] w (RowI w (lifts ds cs T t)) := by
  obtain ⟨⟨hn0, hb0⟩, ⟨hn1, hb1⟩, hn2, hb2⟩ := hf
  obtain ⟨i0, hi, hz0, hz1, hz2⟩ := info_parts infoI
  obtain ⟨i9, hi9, hz09, hz19, hz29⟩ := info_parts infoI
  have hu : undef = Value.tuple #[] := rfl
  have HS := Lib.hid hr
  have HN := Lib.hid hn0
  have HG := Lib.hid hrig
  obtain ⟨r, hrr⟩ : ∃ r, iw t 0 (T - 1) = r := ⟨_, rfl⟩
  have CL := Lib.hid (fun (s : ByteArray) (W : World) (h : Rd W W.heap.size A1 (Cd.dls cs)) (hr1 : r = true) => Lm7.l7Level A1 n1 c1 cs s t W hn1 hb1 (by rw [hr1] at hrr; have := iw_iff.1 hrr; omega) (by rw [hr1] at hrr; have := iw_iff.1 hrr; omega) (Ld.score_all hsco) h)
  have HL := Lib.hid (fun (d : D) => (show want cs t d = min (levP t (Oc.pick cs [d.nm])) d.ms by unfold want Ld.levV; rw [Oc.only_yes hsco]))
  have CX0 := Lib.hid (fun (l : List Nat) (p m : Nat) (ms : Int) (hm : l.length = m) (hmb : m ≤ 1048576) (hp : (share ms (wants ds cs t l)).length = p) (g c : Nat) (W : World) (h : Rd W W.heap.size (some ⟨g, 0, none⟩) (ints (wants ds cs t l))) => (by
    have := Wu.shareS (some ⟨g, 0, none⟩) m c (wants ds cs t l) ms W (by rw [wants_len, hm]) hmb h; unfold RowI at this; rw [hp] at this; exact this :
    Calls Tryz.prog 148 #[.int .i64 ms, .slice (some ⟨g, 0, none⟩) m c] W (fun e w' => ∃ g c, e = .returned (.slice (some ⟨g, 0, none⟩) p c) ∧ w'.ownsRow W.heap.size 3 1 (.slice (some ⟨g, 0, none⟩) p c) p (ints (share ms (wants ds cs t l))) ∧ Below W.heap.size W w')))
  have K0 := Bk.new w (sc A0 n0 c0 A1 n1 c1 A2 n2 c2 T) 40
  have B0 := (Below.refl w.heap.size w).alloc (Nat.le_refl _) (.cells (sc A0 n0 c0 A1 n1 c1 A2 n2 c2 T) 40)
  have hz : (w.alloc (.cells (sc A0 n0 c0 A1 n1 c1 A2 n2 c2 T) 40)).heap.size = w.heap.size + 1 := by simp [go_sem]
  have CI := Lib.hid (l1In_of hrr)
  have HO := Lib.hid (modK_all (ds := ds) (cs := cs) hrr)
  have hT1 : wrap64 (T - 1) = T - 1 := IntWalk.wrap64_in _ (by omega)
  clear hr hn0 hrig hsco wt hrr hn1 hn2
  go_enter Tryz.func107, Tryz.ntmps107
  go_wp2_with (at_make; refine wpList_make_full _ rfl _ _ 131 rfl w.heap.size 3 i0 (.int .i64 0) 1 Tryz.underlying131 hi hz0 hz1 .i64 .i64 n0 n0 n0 rfl rfl rfl rfl (by rw [hz2]; omega) (by unfold maxLen; omega) (by rw [hz]; omega) ?_)
  intro w1 hown hgrow
  clear hi hz0 hz1 hz2
  try rw [hz] at hown
  have R0 := Lib.hid (show w1.ownsRow w.heap.size 3 1 (.slice (some ⟨w.heap.size + 1, 0, none⟩) n0 n0) n0 (ints (modK r ds cs t 0)) by
    rw [modK_zero, HN.out, show ints (List.replicate n0 0) = List.replicate n0 (.int .i64 0) by simp [ints], ← toList_madeCells_one]; first | exact hown | (rw [Nat.mul_one] at hown; exact hown))
  have BW := Lib.hid (show Below w.heap.size w w1 from B0.grown hgrow B0.size (fun k hk => by cases hk))
  have KW := Lib.hid (K0.grown hgrow (by intro e; cases e))
  have y0 := KW.out.cell (i := 0) rfl
  clear hown hgrow K0 B0 hz
  go_wp2_with fail
  go_loopw [21] (fun i wr => ∃ k : Nat, k ≤ n0 ∧ i = .int .i64 k ∧ Hid (wr.ownsRow w.heap.size 3 1 (.slice (some ⟨w.heap.size + 1, 0, none⟩) n0 n0) n0 (ints (modK r ds cs t k))) ∧ Hid (Bk wr w.heap.size (sc A0 n0 c0 A1 n1 c1 A2 n2 c2 T) 40) ∧ Hid (Below w.heap.size w wr)) (fun i _ => n0 - (intOf i).toNat)
  case atStart => exact ⟨0, Nat.zero_le _, rfl, R0, KW, BW⟩
  case round =>
    obtain ⟨k, hk, rfl, RK, KK, BK⟩ := hrel
    clear y0 R0 KW BW
    by_cases hlt : k < n0
    · obtain ⟨z, hz⟩ : ∃ z, ds[k]? = some z := ⟨_, List.getElem?_eq_getElem (by rw [HN.out]; exact hlt)⟩
      have HZ := Lib.hid hz
      have HT := Lib.hid (modK_succ (r := r) (cs := cs) (t := t) hz)
      clear hz
      obtain ⟨dn, dk, dl, dx, dy, dh, dt, dm⟩ := z
      obtain ⟨bP, oP, eA, hbl, hcell⟩ := (HS.out.1.below BK.out).get (k := k * 8) (by rw [Dd.dls_len, HN.out]; omega)
      obtain ⟨z0, z1, z2, z3, z4, z5, z6, z7⟩ := Dd.dls_get HZ.out
      have c0 := hcell (k * 8) _ z0
      have c1 := hcell (k * 8 + 1) _ z1
      rw [← Nat.add_assoc] at c1
      have c2 := hcell (k * 8 + 2) _ z2
      rw [← Nat.add_assoc] at c2
      have c3 := hcell (k * 8 + 3) _ z3
      rw [← Nat.add_assoc] at c3
      have c4 := hcell (k * 8 + 4) _ z4
      rw [← Nat.add_assoc] at c4
      have c5 := hcell (k * 8 + 5) _ z5
      rw [← Nat.add_assoc] at c5
      have c6 := hcell (k * 8 + 6) _ z6
      rw [← Nat.add_assoc] at c6
      have c7 := hcell (k * 8 + 7) _ z7
      rw [← Nat.add_assoc] at c7
      clear hcell hbl z0 z1 z2 z3 z4 z5 z6 z7
      subst eA
      have K1 := KK.out.alloc (o := .cells (Dd.ca dn dk dl dx dy dh dt dm) 98)
      have B1 := BK.out.alloc BK.out.size (.cells (Dd.ca dn dk dl dx dy dh dt dm) 98)
      have RK1 := RK.out.alloc (.cells (Dd.ca dn dk dl dx dy dh dt dm) 98)
      have P1 := Bk.new wr (Dd.ca dn dk dl dx dy dh dt dm) 98
      have hw1 : w.heap.size + 1 < wr.heap.size := (RK.out.lt _ rfl).2
      have V0 := World.ownsRow_lit (base := wr.heap.size) (e := 3) (size := 1) (wr.alloc (.cells (Dd.ca dn dk dl dx dy dh dt dm) 98)) #[] 0 (by simp) (Nat.zero_le _) rfl
      have V1 := V0.alloc (.cells #[] 3)
      have U0 := World.ownsRow_lit (base := wr.heap.size) (e := 3) (size := 1) ((wr.alloc (.cells (Dd.ca dn dk dl dx dy dh dt dm) 98)).alloc (.cells #[] 3)) #[] 0 (by simp; omega) (Nat.zero_le _) rfl
      have K2 := Lib.hid ((K1.alloc (o := .cells #[] 3)).alloc (o := .cells #[] 3))
      have P2 := Lib.hid ((P1.alloc (o := .cells #[] 3)).alloc (o := .cells #[] 3))
      have RK2 := Lib.hid ((RK1.alloc (.cells #[] 3)).alloc (.cells #[] 3))
      have B2 := Lib.hid ((B1.alloc B1.size (.cells #[] 3)).alloc (B1.alloc B1.size (.cells #[] 3)).size (.cells #[] 3))
      have s1 : (wr.alloc (.cells (Dd.ca dn dk dl dx dy dh dt dm) 98)).heap.size = wr.heap.size + 1 := by simp [go_sem]
      have s2 : ((wr.alloc (.cells (Dd.ca dn dk dl dx dy dh dt dm) 98)).alloc (.cells #[] 3)).heap.size = wr.heap.size + 1 + 1 := by simp [go_sem]
      rw [s1] at V1
      rw [s2] at U0
      have HV := Lib.hid V1
      have HU := Lib.hid U0
      have b0 := KK.out.cell (i := 0) rfl
      have hw2 : w.heap.size < wr.heap.size := by omega
      have hw3 : w.heap.size < wr.heap.size + 1 := by omega
      have hw4 : w.heap.size < wr.heap.size + 1 + 1 := by omega
      clear V0 V1 U0 K1 P1 RK1 B1 s1 s2 KK RK
      obtain ⟨b, hbb⟩ : ∃ b, (r && decide (dk = 1)) = b := ⟨_, rfl⟩
      have HBB := Lib.hid hbb
      rw [hbb] at HT
      clear hbb
      go_wp2_with fail
      obtain ⟨wo, rfl⟩ : ∃ wo, wo = wr := ⟨_, rfl⟩
      clear c0 c1 c2 c3 c4 c5 c6 c7 b0
      go_loopw [8, 9, 30] (fun v u i wr => ∃ j q gW cW gH cH : Nat, j ≤ n0 ∧ i = .int .i64 j ∧ v = .slice (some ⟨gW, 0, none⟩) q cW ∧ u = .slice (some ⟨gH, 0, none⟩) q cH ∧ gW ≠ gH ∧ Hid ((hgB b dn (ds.take j)).length = q) ∧ Hid (wr.ownsRow wo.heap.size 3 1 (.slice (some ⟨gW, 0, none⟩) q cW) q (ints (wants ds cs t (hgB b dn (ds.take j))))) ∧ Hid (wr.ownsRow wo.heap.size 3 1 (.slice (some ⟨gH, 0, none⟩) q cH) q (ints (nn (hgB b dn (ds.take j))))) ∧ Hid (wr.ownsRow w.heap.size 3 1 (.slice (some ⟨w.heap.size + 1, 0, none⟩) n0 n0) n0 (ints (modK r ds cs t k))) ∧ Hid (Bk wr w.heap.size (sc (some ⟨bP, oP, none⟩) n0 c0 A1 n1 c1 A2 n2 c2 T) 40) ∧ Hid (Bk wr wo.heap.size (Dd.ca dn dk dl dx dy dh dt dm) 98) ∧ Hid (Below w.heap.size w wr)) (fun _ _ i _ => n0 - (intOf i).toNat)
      case atStart => exact ⟨0, 0, _, _, _, _, Nat.zero_le _, rfl, rfl, rfl, by simp, Lib.hid (by cases b <;> simp [hgB, hang]), (by cases b <;> exact HV), (by cases b <;> exact HU), RK2, K2, P2, B2⟩
      case round =>
        obtain ⟨j, q, gW, cW, gH, cH, hj, rfl, rfl, rfl, hne, QJ, VJ, UJ, RJ, KJ, PJ, BJ⟩ := hrel
        clear K2 P2 RK2 B2 HV HU
        by_cases hlj : j < n0
        · obtain ⟨z, hz⟩ : ∃ z, ds[j]? = some z := ⟨_, List.getElem?_eq_getElem (by rw [HN.out]; exact hlj)⟩
          have HE := Lib.hid hz
          have HKD := Lib.hid (kinds HG.out (List.mem_of_getElem? HZ.out) (List.mem_of_getElem? hz))
          have HWS := Lib.hid (fun (l : List Nat) => wants_snoc (cs := cs) (t := t) (l := l) hz)
          clear hz
          obtain ⟨en, ek, el, ex, ey, eh, et, em⟩ := z
          obtain ⟨bE, oE, eA, hbl, hcell⟩ := (HS.out.1.below BJ.out).get (k := j * 8) (by rw [Dd.dls_len, HN.out]; omega)
          obtain ⟨z0, z1, z2, z3, z4, z5, z6, z7⟩ := Dd.dls_get HE.out
          have c0 := hcell (j * 8) _ z0
          have c1 := hcell (j * 8 + 1) _ z1
          rw [← Nat.add_assoc] at c1
          have c2 := hcell (j * 8 + 2) _ z2
          rw [← Nat.add_assoc] at c2
          have c3 := hcell (j * 8 + 3) _ z3
          rw [← Nat.add_assoc] at c3
          have c4 := hcell (j * 8 + 4) _ z4
          rw [← Nat.add_assoc] at c4
          have c5 := hcell (j * 8 + 5) _ z5
          rw [← Nat.add_assoc] at c5
          have c6 := hcell (j * 8 + 6) _ z6
          rw [← Nat.add_assoc] at c6
          have c7 := hcell (j * 8 + 7) _ z7
          rw [← Nat.add_assoc] at c7
          clear hcell hbl z0 z1 z2 z3 z4 z5 z6 z7
          injection eA with eA
          injection eA with e1 e2 e3
          subst e1 e2
          have KK1 := Lib.hid (KJ.out.alloc (o := .cells (Dd.ca en ek el ex ey eh et em) 98))
          have KP1 := Lib.hid (PJ.out.alloc (o := .cells (Dd.ca en ek el ex ey eh et em) 98))
          have RO1 := Lib.hid (RJ.out.alloc (.cells (Dd.ca en ek el ex ey eh et em) 98))
          have WV := Lib.hid (VJ.out.alloc (.cells (Dd.ca en ek el ex ey eh et em) 98))
          have WU := Lib.hid (UJ.out.alloc (.cells (Dd.ca en ek el ex ey eh et em) 98))
          have B1 := Lib.hid (BJ.out.alloc BJ.out.size (.cells (Dd.ca en ek el ex ey eh et em) 98))
          have hp0 := PJ.out.cell (i := 0) rfl
          have hy3 := KJ.out.cell (i := 3) rfl
          have hpl := PJ.out.lt
          have hyl := KJ.out.lt
          have lW : wo.heap.size ≤ gW := (VJ.out.lt _ rfl).1
          have lH : wo.heap.size ≤ gH := (UJ.out.lt _ rfl).1
          have mW : gW < wr.heap.size := (VJ.out.lt _ rfl).2
          have mH : gH < wr.heap.size := (UJ.out.lt _ rfl).2
          have hq : q ≤ 1048576 := by have := hgB_len b dn (ds.take j); have := QJ.out; have := List.length_take_le j ds; have := HN.out; omega
          have nW : gW ≠ wo.heap.size := fun e => own_ne VJ.out PJ.out (by decide) (by rw [e]; rfl)
          have nH : gH ≠ wo.heap.size := fun e => own_ne UJ.out PJ.out (by decide) (by rw [e]; rfl)
          clear KJ PJ RJ VJ UJ
          by_cases hk2 : ek = 2
          · subst hk2
            cases hs : sb el dn
            · have hbs : (b && sb el dn) = false := by rw [hs]; cases b <;> rfl
              have hs2 : (el.toList == dn.toList) = false := hs
              clear hs
              have QN := Lib.hid (hgB_no (b := b) (s := dn) HE.out hbs)
              clear hbs
              go_wp2_with fail
              go_roundw
              case rel => exact ⟨j + 1, q, gW, cW, gH, cH, by omega, by go_num, rfl, rfl, hne, by rw [QN.out]; exact QJ, by rw [QN.out]; exact WV, by rw [QN.out]; exact WU, RO1, KK1, KP1, B1⟩
              case measure => simp [intOf]; omega
            · have hs2 : (el.toList == dn.toList) = true := hs
              cases r
              · have hbs : (b && sb el dn) = false := by rw [← HBB.out]; rfl
                clear hs
                have QN := Lib.hid (hgB_no (b := b) (s := dn) HE.out hbs)
                clear hbs
                go_wp2_with fail
                refine (CI.out _).mono ?_
                rintro e r1 ⟨rfl, rfl⟩
                go_wp2_with fail
                go_roundw
                case rel => exact ⟨j + 1, q, gW, cW, gH, cH, by omega, by go_num, rfl, rfl, hne, by rw [QN.out]; exact QJ, by rw [QN.out]; exact WV, by rw [QN.out]; exact WU, RO1, KK1, KP1, B1⟩
                case measure => simp [intOf]; omega
              · have hbs : (b && sb el dn) = true := by
                  have h9 := HKD.out
                  rw [show sb el dn = true from hs] at h9 ⊢
                  rw [← HBB.out]; simpa using h9.symm
                have QY := Lib.hid (hgB_yes (b := b) (s := dn) HE.out hbs)
                clear hs hbs
                go_wp2_with fail
                refine (CI.out _).mono ?_
                rintro e r9 ⟨rfl, rfl⟩
                go_upto_region 11 with fail
                have y1 := KK1.out.cell (i := 1) rfl
                have e0 : (wr.alloc (.cells (Dd.ca en 2 el ex ey eh et em) 98)).cell? ⟨wr.heap.size, 0, none⟩ = some (.string en) := by simp [go_sem]
                have e7 : (wr.alloc (.cells (Dd.ca en 2 el ex ey eh et em) 98)).cell? ⟨wr.heap.size, 7, none⟩ = some (.int .i64 em) := by simp [go_sem]
                have qz : wr.heap.size < (wr.alloc (.cells (Dd.ca en 2 el ex ey eh et em) 98)).heap.size := by simp
                clear c0 c1 c2 c3 c4 c5 c6 c7 hp0 hy3
                refine wp_region_noPanic ?_
                refine wp_region_held_drew (S := (fun w' => w'.cell? ⟨w.heap.size, 1, none⟩ = some (.slice A1 n1 c1) ∧ w'.cell? ⟨wr.heap.size, 0, none⟩ = some (.string en) ∧ w'.cell? ⟨wr.heap.size, 7, none⟩ = some (.int .i64 em) ∧ Below w.heap.size w w')) (by kernel_rfl) ?_ (fun hH => ?_)
                · exact ⟨y1, e0, e7, B1.out.drew⟩
                refine wpAnyH_take (i := 0) (oi := { dst := some 52, op := _, type := _, pos := _, after := _, guard := _ }) (v := ?_) rfl (by kernel_rfl) (by kernel_rfl) (by kernel_rfl) (fun _ _ _ h => h) (Or.inl ⟨by rfl, ?_⟩) hH ?_
                rotate_left 1
                · intro W hSw
                  (try dsimp only at hSw)
                  go_simp
                  (try with_reducible rfl)
                try simp only [Act.put, List.setIfInBounds_toArray, List.set_cons_zero, List.set_cons_succ]
                refine wpAnyH_take (i := 1) (oi := { dst := some 53, op := _, type := _, pos := _, after := _, guard := _ }) (v := ?_) rfl (by kernel_rfl) (by kernel_rfl) (by kernel_rfl) (fun _ _ _ h => h) (Or.inl ⟨by rfl, ?_⟩) hH ?_
                rotate_left 1
                · intro W hSw
                  (try dsimp only at hSw)
                  go_simp
                  (try with_reducible rfl)
                try simp only [Act.put, List.setIfInBounds_toArray, List.set_cons_zero, List.set_cons_succ]
                refine wpAnyH_take (i := 2) (oi := { dst := some 54, op := _, type := _, pos := _, after := _, guard := _ }) (v := ?_) rfl (by kernel_rfl) (by kernel_rfl) (by kernel_rfl) (fun _ _ _ h => h) (Or.inl ⟨by rfl, ?_⟩) hH ?_
                rotate_left 1
                · intro W hSw
                  (try dsimp only at hSw)
                  go_simp
                  (try with_reducible rfl)
                try simp only [Act.put, List.setIfInBounds_toArray, List.set_cons_zero, List.set_cons_succ]
                refine wpAnyH_take (i := 3) (oi := { dst := some 55, op := _, type := _, pos := _, after := _, guard := _ }) (v := ?_) rfl (by kernel_rfl) (by kernel_rfl) (by kernel_rfl) (fun _ _ _ h => h) (Or.inl ⟨by rfl, ?_⟩) hH ?_
                rotate_left 1
                · intro W hSw
                  (try dsimp only at hSw)
                  go_simp
                  (try with_reducible rfl)
                try simp only [Act.put, List.setIfInBounds_toArray, List.set_cons_zero, List.set_cons_succ]
                refine wpAnyH_take (i := 4) (oi := { dst := some 56, op := _, type := _, pos := _, after := _, guard := _ }) (v := ?_) rfl (by kernel_rfl) (by kernel_rfl) (by kernel_rfl) (fun _ _ _ h => h) (Or.inl ⟨by rfl, ?_⟩) hH ?_
                rotate_left 1
                · intro W hSw
                  (try dsimp only at hSw)
                  go_simp
                  (try with_reducible rfl)
                try simp only [Act.put, List.setIfInBounds_toArray, List.set_cons_zero, List.set_cons_succ]
                refine wpAnyH_take (i := 5) (oi := { dst := some 57, op := _, type := _, pos := _, after := _, guard := _ }) (v := ?_) rfl (by kernel_rfl) (by kernel_rfl) (by kernel_rfl) (fun _ _ _ h => h) (Or.inl ⟨by rfl, ?_⟩) hH ?_
                rotate_left 1
                · intro W hSw
                  (try dsimp only at hSw)
                  go_simp
                  (try with_reducible rfl)
                try simp only [Act.put, List.setIfInBounds_toArray, List.set_cons_zero, List.set_cons_succ]
                refine wpAnyH_take (i := 7) (oi := { dst := some 59, op := _, type := _, pos := _, after := _, guard := _ }) (v := ?_) rfl (by kernel_rfl) (by kernel_rfl) (by kernel_rfl) (fun _ _ _ h => h) (Or.inl ⟨by rfl, ?_⟩) hH ?_
                rotate_left 1
                · intro W hSw
                  (try dsimp only at hSw)
                  go_simp
                  (try with_reducible rfl)
                try simp only [Act.put, List.setIfInBounds_toArray, List.set_cons_zero, List.set_cons_succ]
                refine wpAnyH_take (i := 8) (oi := { dst := some 60, op := _, type := _, pos := _, after := _, guard := _ }) (v := ?_) rfl (by kernel_rfl) (by kernel_rfl) (by kernel_rfl) (fun _ _ _ h => h) (Or.inl ⟨by rfl, ?_⟩) hH ?_
                rotate_left 1
                · intro W hSw
                  (try dsimp only at hSw)
                  go_simp
                  (try with_reducible rfl)
                try simp only [Act.put, List.setIfInBounds_toArray, List.set_cons_zero, List.set_cons_succ]
                refine wpAnyH_ready (rs := [6]) (by kernel_rfl) (by simp) (AllReadyH.cons rfl (fun K hK => ?_) AllReadyH.nil)
                go_simp
                go_at_call 147; ((with_reducible refine (CL.out en _ (HS.out.below hH.2.2.2).r1 trivial).mono ?_); rintro e r1 ⟨rfl, hb1⟩); have WV1 := owns_below WV.out.drew hb1; have WU1 := owns_below WU.out.drew hb1; have q1 : (wr.alloc (.cells (Dd.ca en 2 el ex ey eh et em) 98)).heap.size ≤ r1.heap.size := hb1.size; go_wp2_with fail
                refine hK.out _ _ ?_ (fun hG => ?_)
                · exact ⟨cell_below hb1 hH.1, cell_below hb1 hH.2.1, cell_below hb1 hH.2.2.1, hH.2.2.2.trans (hb1.mono hH.2.2.2.size)⟩
                replace hH := hG
                clear hK K hG
                try simp only [Act.put, List.setIfInBounds_toArray, List.set_cons_zero, List.set_cons_succ]
                refine wpAnyH_ready (rs := [9]) (by kernel_rfl) (by simp) (AllReadyH.cons rfl (fun K hK => ?_) AllReadyH.nil)
                go_simp
                go_at_call 109; ((with_reducible refine (Ws.l1Min _ _ _).mono ?_); rintro e r2 ⟨rfl, hw2⟩; cases hw2); go_wp2_with fail
                refine hK.out _ _ ?_ (fun hG => ?_)
                · exact hH
                replace hH := hG
                clear hK K hG
                try simp only [Act.put, List.setIfInBounds_toArray, List.set_cons_zero, List.set_cons_succ]
                refine wpAnyH_ready (rs := [10]) (by kernel_rfl) (by simp) (AllReadyH.cons rfl (fun K hK => ?_) AllReadyH.nil)
                go_simp
                refine hK.out _ _ ?_ (fun hG => ?_)
                · exact ⟨cell_alloc hH.1, cell_alloc hH.2.1, cell_alloc hH.2.2.1, hH.2.2.2.alloc hH.2.2.2.size _⟩
                replace hH := hG
                clear hK K hG
                try simp only [Act.put, List.setIfInBounds_toArray, List.set_cons_zero, List.set_cons_succ]
                refine wpAnyH_ready (rs := [11]) (by kernel_rfl) (by simp) (AllReadyH.cons rfl (fun K hK => ?_) AllReadyH.nil)
                (obtain ⟨gX, cX, u9, hrun, ho9, hg9, hp9⟩ := append_int (r1.alloc (.cells #[.int .i64 (min (levP t (Oc.pick cs [en])) em)] 3)) wo.heap.size gW q cW _ (WV1.alloc _) ⟨r1.heap.size, 0, none⟩ 1 1 [.int .i64 (min (levP t (Oc.pick cs [en])) em)] rfl (by intro j u hj; match j, hj with | 0, hj => (simp at hj; subst hj; simp [Addr.add, go_sem])) (by intro u hu9; simp at hu9; subst hu9; rfl) (by omega) (by simp; omega); refine step_append_int rfl (.tmp 52) (.tmp 62) rfl rfl _ _ _ (by simp [Act.eval, Act.put]) (by simp [Act.eval, Act.put]) hrun ?_; refine (show K (Act.put _ (some 63) _) _ from ?_))
                refine hK.out _ _ ?_ (fun hG => ?_)
                · exact ⟨hg9.cell hH.1 (fun e => by have e := Option.some.inj e; (have e9 : w.heap.size = gW := e); omega), hg9.cell hH.2.1 (fun e => by have e := Option.some.inj e; (have e9 : wr.heap.size = gW := e); omega), hg9.cell hH.2.2.1 (fun e => by have e := Option.some.inj e; (have e9 : wr.heap.size = gW := e); omega), hH.2.2.2.grown hg9 hH.2.2.2.size (fun q hq => by have hq := Option.some.inj hq; omega)⟩
                replace hH := hG
                clear hK K hG
                try simp only [Act.put, List.setIfInBounds_toArray, List.set_cons_zero, List.set_cons_succ]
                refine wpAnyH_take (i := 12) (oi := { dst := some 8, op := _, type := _, pos := _, after := _, guard := _ }) (v := ?_) rfl (by kernel_rfl) (by kernel_rfl) (by kernel_rfl) (fun _ _ _ h => h) (Or.inl ⟨by rfl, ?_⟩) hH ?_
                rotate_left 1
                · intro W hSw
                  (try dsimp only at hSw)
                  go_simp
                  (try with_reducible rfl)
                try simp only [Act.put, List.setIfInBounds_toArray, List.set_cons_zero, List.set_cons_succ]
                refine wpAnyH_done (by kernel_rfl) ?_ _
                refine NoPanic.normal ?_
                have WU2 := Lib.hid (owns_grown (WU1.alloc _) hg9 (ne_blk hne))
                have KK2 := Lib.hid (((KK1.out.drew.below hb1).alloc).grown hg9 (fun e => by have e := Option.some.inj e; omega))
                have KP2 := Lib.hid (((KP1.out.drew.below hb1).alloc).grown hg9 (fun e => by have e := Option.some.inj e; omega))
                have RO2 := Lib.hid (owns_grown ((owns_below RO1.out.drew hb1).alloc _) hg9 (ne_blk (by omega)))
                have BB2 := Lib.hid hH.2.2.2
                have nX : gX ≠ gH := by
                  rcases hp9 with e | e
                  · omega
                  · (try simp at e); omega
                have lX : gX < u9.heap.size := (ho9.lt _ rfl).2
                have WV2 := Lib.hid ho9
                have hown := WU2.out.alloc
                have HW := Lib.hid BB2.out.size
                have lH2 : gH < u9.heap.size := (WU2.out.lt _ rfl).2
                clear hH hb1 WU1 WV1 ho9 hg9 hp9 hrun KK1 KP1 RO1 WV WU B1 y1 e0 e7
                go_wp2_with (at_builtin; refine wpList_append_own_at _ rfl _ _ 131 rfl wo.heap.size 3 i9 (.int .i64 0) 1 8 Tryz.underlying131 hi9 hz09 hz19 hz29 rfl (by decide) _ _ _ rfl (hown _) ⟨u9.heap.size, 0, none⟩ 1 1 [.int .i64 j] rfl rfl (by intro j u hj; match j, hj with | 0, hj => simp at hj; subst hj; simp [Addr.add, go_sem]) (by intro u hu; simp at hu; subst hu; rfl) (by unfold maxLen; omega) (by omega) (by simp; omega) ?_)
                intro v' w5 hown' hgrow hnil hpl
                have hgr : (u9.alloc (.cells #[.int .i64 (j : Int)] 3)).grownBy w5 (some gH) := hgrow
                rw [ints_snoc, nn_snoc, ← QY.out] at hown'
                obtain ⟨gY, cY, rfl⟩ := own_mk hown'
                have nY : gX ≠ gY := by
                  rcases hpl with e | e
                  · have e : gY = gH := Option.some.inj e
                    omega
                  · have e : gY = _ := Option.some.inj e
                    (try simp at e); omega
                have OU := Lib.hid hown'
                have OV := Lib.hid (show w5.ownsRow wo.heap.size 3 1 (.slice (some ⟨gX, 0, none⟩) (q + 1) cX) (q + 1) (ints (wants ds cs t (hgB b dn (ds.take (j + 1))))) by
                  have := owns_grown (WV2.out.alloc (.cells #[.int .i64 (j : Int)] 3)) hgr (ne_blk (by omega))
                  rw [ints_snoc, ← HL.out ⟨en, 2, el, ex, ey, eh, et, em⟩, ← HWS.out, ← QY.out] at this; exact this)
                have OR := Lib.hid (owns_grown (RO2.out.alloc (.cells #[.int .i64 (j : Int)] 3)) hgr (ne_blk (by omega)))
                have OK := Lib.hid ((KK2.out.alloc (o := .cells #[.int .i64 (j : Int)] 3)).grown hgr (fun e => by have e := Option.some.inj e; omega))
                have OP := Lib.hid ((KP2.out.alloc (o := .cells #[.int .i64 (j : Int)] 3)).grown hgr (fun e => by have e := Option.some.inj e; omega))
                have OB := Lib.hid ((BB2.out.alloc BB2.out.size (.cells #[.int .i64 (j : Int)] 3)).grown hgr (BB2.out.alloc BB2.out.size (.cells #[.int .i64 (j : Int)] 3)).size (fun z9 e9 => by have e9 := Option.some.inj e9; omega))
                have QN := Lib.hid (show (hgB b dn (ds.take (j + 1))).length = q + 1 by rw [QY.out, List.length_append, QJ.out]; rfl)
                clear hown' hgrow hgr hnil hpl hown WV2 RO2 KK2 KP2 BB2 WU2
                go_wp2_with fail
                go_roundw
                case rel => exact ⟨j + 1, q + 1, gX, cX, gY, cY, by omega, by go_num, rfl, rfl, nY, QN, OV, OU, OR, OK, OP, OB⟩
                case measure => simp [intOf]; omega
          · have hbs : (b && sb el dn) = false := by
              have h9 := HKD.out
              rw [show decide (ek = 2) = false from decide_eq_false hk2] at h9
              rw [← HBB.out]
              cases r
              · rfl
              · simpa using h9.symm
            have QN := Lib.hid (hgB_no (b := b) (s := dn) HE.out hbs)
            clear hbs
            go_wp2_with fail
            go_roundw
            case rel => exact ⟨j + 1, q, gW, cW, gH, cH, by omega, by go_num, rfl, rfl, hne, by rw [QN.out]; exact QJ, by rw [QN.out]; exact WV, by rw [QN.out]; exact WU, RO1, KK1, KP1, B1⟩
            case measure => simp [intOf]; omega
        · obtain rfl : j = n0 := by omega
          have ht : ds.take j = ds := by rw [← HN.out, List.take_length]
          rw [ht] at QJ VJ UJ
          obtain ⟨L, hL⟩ : ∃ L, hgB b dn ds = L := ⟨_, rfl⟩
          have HLI := Lib.hid (show ∀ i ∈ L, i < j from fun i hi => by
            rw [← hL] at hi
            cases b
            · cases hi
            · obtain ⟨d, hd, _⟩ := hang_lt hi; rw [← HN.out]; exact (List.getElem?_eq_some_iff.1 hd).1)
          have hd7 := PJ.out.cell (i := 7) rfl
          clear ht hlj
          by_cases hq0 : q = 0
          · subst hq0
            have HSt := Lib.hid (show modK r ds cs t (k + 1) = modK r ds cs t k by rw [HT.out]; show put _ (hgB b dn ds) _ = _; rw [List.eq_nil_of_length_eq_zero QJ.out, put_nil])
            have RR := Lib.hid (show wr.ownsRow w.heap.size 3 1 (.slice (some ⟨w.heap.size + 1, 0, none⟩) j j) j (ints (modK r ds cs t (k + 1))) by rw [HSt.out]; exact RJ.out)
            clear HSt RJ VJ UJ hL hd7
            go_wp2_with fail
            go_roundw
            case rel => exact ⟨k + 1, by omega, by go_num, RR, KJ, BJ⟩
            case measure => simp [intOf]; omega
          · have hbt : b = true ∧ dk = 1 := by
              have h9 := HBB.out
              cases b
              · exact absurd QJ.out.symm hq0
              · rw [Bool.and_eq_true] at h9; exact ⟨rfl, of_decide_eq_true h9.2⟩
            obtain ⟨rfl, hdk⟩ := hbt
            have HSH := Lib.hid (show (share dm (wants ds cs t (hgB true dn ds))).length = q by
              have := share_size (cs := cs) (t := t) HG.out (List.mem_of_getElem? HZ.out) hdk
              exact this.trans QJ.out)
            have hqb : q ≤ 1048576 := by have := hgB_len true dn ds; have := QJ.out; have := HN.out; omega
            have CX := Lib.hid (CX0.out (hgB true dn ds) q q dm QJ.out hqb HSH.out gW cW wr (Rd.own VJ.out))
            have HSt := Lib.hid (show modK r ds cs t (k + 1) = put (modK r ds cs t k) (hgB true dn ds) (share dm (wants ds cs t (hgB true dn ds))) from HT.out)
            obtain ⟨P, hP⟩ : ∃ P, modK r ds cs t k = P := ⟨_, rfl⟩
            have HPL := Lib.hid (show P.length = j by rw [← hP, modK_len]; exact HN.out)
            obtain ⟨X, hX⟩ : ∃ X, share dm (wants ds cs t (hgB true dn ds)) = X := ⟨_, rfl⟩
            rw [hP, hX, hL] at HSt
            rw [hX] at HSH CX
            rw [hL] at QJ UJ
            rw [hP] at RJ
            have hqp : (0 : Int) < (q : Int) := by omega
            have lH : wo.heap.size ≤ gH := (UJ.out.lt _ rfl).1
            clear HT hP hX hL VJ PJ hdk hq0 CX0 CL HL
            go_wp2_with fail
            refine CX.out.mono ?_
            rintro e u1 ⟨g3, c3, rfl, o3, hb1⟩
            have l3 : wo.heap.size ≤ g3 := by have h8 : wr.heap.size ≤ g3 := (o3.lt _ rfl).1; have := (UJ.out.lt _ rfl).2; have h7 : gH < wr.heap.size := this; omega
            have R3 := Lib.hid (show u1.ownsRow w.heap.size 3 1 (.slice (some ⟨w.heap.size + 1, 0, none⟩) j j) j (ints (put P (L.take 0) (X.take 0))) by rw [List.take_zero, put_nil]; exact owns_below RJ.out hb1)
            have N2 := Lib.hid (owns_below UJ.out hb1)
            have X2 := Lib.hid (owns_base o3 l3)
            have KU2 := Lib.hid (KJ.out.below hb1)
            have BU2 := Lib.hid (BJ.out.trans (hb1.mono BJ.out.size))
            clear hb1 o3 RJ UJ KJ BJ CX hd7 hqp
            go_wp2_with fail
            go_loopw [77] (fun i wr => ∃ i9 : Nat, i9 ≤ q ∧ i = .int .i64 i9 ∧ Hid (wr.ownsRow w.heap.size 3 1 (.slice (some ⟨w.heap.size + 1, 0, none⟩) j j) j (ints (put P (L.take i9) (X.take i9)))) ∧ Hid (wr.ownsRow wo.heap.size 3 1 (.slice (some ⟨gH, 0, none⟩) q cH) q (ints (nn L))) ∧ Hid (wr.ownsRow wo.heap.size 3 1 (.slice (some ⟨g3, 0, none⟩) q c3) q (ints X)) ∧ Hid (Bk wr w.heap.size (sc (some ⟨bP, oP, none⟩) j c0 A1 n1 c1 A2 n2 c2 T) 40) ∧ Hid (Below w.heap.size w wr)) (fun i _ => q - (intOf i).toNat)
            case atStart => exact ⟨0, Nat.zero_le _, rfl, R3, N2, X2, KU2, BU2⟩
            case round =>
              obtain ⟨m, hm, rfl, RJ, NJ, XJ, KJ, BJ⟩ := hrel
              clear R3 N2 X2 KU2 BU2
              by_cases hlm : m < q
              · obtain ⟨i, hi⟩ : ∃ i, L[m]? = some i := ⟨_, List.getElem?_eq_getElem (by rw [QJ.out]; exact hlm)⟩
                obtain ⟨x, hx⟩ : ∃ x, X[m]? = some x := ⟨_, List.getElem?_eq_getElem (by rw [HSH.out]; exact hlm)⟩
                have hin := HLI.out i (List.mem_of_getElem? hi)
                obtain ⟨y, hy⟩ : ∃ y, (put P (L.take m) (X.take m))[i]? = some y := ⟨_, List.getElem?_eq_getElem (by rw [put_len, HPL.out]; exact hin)⟩
                have cN : wr.cell? ⟨gH, m, none⟩ = some (.int .i64 (i : Int)) := (NJ.out.cellAt m (by omega)).trans (by unfold ints; rw [List.getElem?_map, nn_get hi]; rfl)
                have cX : wr.cell? ⟨g3, m, none⟩ = some (.int .i64 x) := (XJ.out.cellAt m (by omega)).trans (by unfold ints; rw [List.getElem?_map, hx]; rfl)
                have cO : wr.cell? ⟨w.heap.size + 1, i, none⟩ = some (.int .i64 y) := (RJ.out.cellAt i (by omega)).trans (by unfold ints; rw [List.getElem?_map, hy]; rfl)
                have fO := RJ.out.frozenAt i
                obtain ⟨q1, q2⟩ := RJ.out.stored i (.int .i64 x)
                rw [show (ints (put P (L.take m) (X.take m))).set i (.int .i64 x) = ints ((put P (L.take m) (X.take m)).set i x) by simp [ints, List.map_set], ← put_take hi hx] at q1
                have RR := Lib.hid q1
                have NN := Lib.hid (owns_grown NJ.out q2 (ne_blk (by omega)))
                have XX := Lib.hid (owns_grown XJ.out q2 (ne_blk (by omega)))
                have KN := Lib.hid (KJ.out.grown q2 (by intro e; have e := Option.some.inj e; omega))
                have BB := Lib.hid (BJ.out.grown q2 BJ.out.size (fun z9 e9 => by have e9 : w.heap.size + 1 = z9 := Option.some.inj e9; omega))
                clear q1 q2 RJ NJ XJ KJ BJ hi hx hy
                go_wp2_with fail
                go_roundw
                case rel => exact ⟨m + 1, by omega, by go_num, RR, NN, XX, KN, BB⟩
                case measure => simp [intOf]; omega
              · obtain rfl : m = q := by omega
                have RR := Lib.hid (show wr.ownsRow w.heap.size 3 1 (.slice (some ⟨w.heap.size + 1, 0, none⟩) j j) j (ints (modK r ds cs t (k + 1))) by
                  rw [HSt.out]; have := RJ.out
                  rw [show L.take m = L by rw [← QJ.out, List.take_length], show X.take m = X by rw [← HSH.out, List.take_length]] at this; exact this)
                clear RJ NJ XJ
                go_wp2_with fail
                go_roundw
                case rel => exact ⟨k + 1, by omega, by go_num, RR, KJ, BJ⟩
                case measure => simp [intOf]; omega
    · obtain rfl : k = n0 := by omega
      have OF := Lib.hid (show wr.ownsRow w.heap.size 3 1 (.slice (some ⟨w.heap.size + 1, 0, none⟩) k k) k (ints (lifts ds cs T t)) by rw [← HO.out, HN.out]; exact RK.out)
      have HM := Lib.hid (show (lifts ds cs T t).length = k by rw [lifts_len]; exact HN.out)
      clear RK KK CX0 CL
      go_wp2_with fail
      go_ret
      exact row_of HM.out OF.out BK.out
end Go.Proofs.YtokncfhpmjohdaaGreat.Lg9
namespace Go.Proofs.YtokncfhpmjohdaaGreat.Tm9
open Go.RowKit Go.ChangeShapes Go.WideShapes Go.WideElems Go.Deep Go.Proofs.YtokncfhpmjohdaaGreat.Mem Go.Proofs.YtokncfhpmjohdaaGreat.Rw Go.Proofs.YtokncfhpmjohdaaGreat.P2 Go.Proofs.YtokncfhpmjohdaaGreat.Bk Go.Proofs.YtokncfhpmjohdaaGreat.Sp Go.Proofs.YtokncfhpmjohdaaGreat.Sq Go.Proofs.YtokncfhpmjohdaaGreat.Jt Go.Proofs.YtokncfhpmjohdaaGreat.Cm Go.Proofs.YtokncfhpmjohdaaGreat.Cx Go.Proofs.YtokncfhpmjohdaaGreat.Pl
open Go.Proofs.YtokncfhpmjohdaaGreat.Sv hiding D C G
open Go.Proofs.YtokncfhpmjohdaaGreat.Ig (rig)
set_option linter.unusedVariables false
set_option linter.unusedSimpArgs false
open Go.Proofs.YtokncfhpmjohdaaGreat.Wp (RowI rd_cell)
open Go.Proofs.YtokncfhpmjohdaaGreat.Ti9 (own_ne_own ne_blk)


/-- The cells of a drop. -/
def bc (u : B) : List Value := [.string u.d.nm, .int .i64 u.b, .int .i64 u.d.x, .int .i64 u.d.y, .int .i64 u.d.hd, .int .i64 u.d.tl, .int .i64 u.l]
theorem bc_len (u : B) : (bc u).length = 7 := rfl
def bls (us : List B) : List Value := us.flatMap bc
theorem bls_get {us : List B} {k : Nat} {u : B} (h : us[k]? = some u) :
    (bls us)[k * 7]? = some (.string u.d.nm) ∧ (bls us)[k * 7 + 1]? = some (.int .i64 u.b) ∧ (bls us)[k * 7 + 2]? = some (.int .i64 u.d.x) ∧ (bls us)[k * 7 + 3]? = some (.int .i64 u.d.y) ∧ (bls us)[k * 7 + 4]? = some (.int .i64 u.d.hd) ∧ (bls us)[k * 7 + 5]? = some (.int .i64 u.d.tl) ∧ (bls us)[k * 7 + 6]? = some (.int .i64 u.l) :=
  ⟨(flat_get bc_len h 0 (by omega)).trans rfl, (flat_get bc_len h 1 (by omega)).trans rfl, (flat_get bc_len h 2 (by omega)).trans rfl, (flat_get bc_len h 3 (by omega)).trans rfl, (flat_get bc_len h 4 (by omega)).trans rfl, (flat_get bc_len h 5 (by omega)).trans rfl, (flat_get bc_len h 6 (by omega)).trans rfl⟩
theorem bls_snoc (us : List B) (u : B) : bls us ++ bc u = bls (us ++ [u]) := (flat_snoc us u).symm
theorem info_bls : (Tryz.prog.info? 71).map (fun i => (i.zero, i.size, i.bytes)) = some (some (.agg #[.string ⟨#[]⟩, .int .i64 0, .int .i64 0, .int .i64 0, .int .i64 0, .int .i64 0, .int .i64 0]), 7, 64) := by kernel_rfl

def RowM (w : World) (zs : List B) (e : Ending) (w' : World) : Prop :=
  ∃ g c, e = .returned (.slice (some ⟨g, 0, none⟩) zs.length c) ∧ w'.ownsRow w.heap.size 71 7 (.slice (some ⟨g, 0, none⟩) zs.length c) zs.length (bls zs) ∧ Below w.heap.size w w'
theorem row_of {w w' : World} {l : List B} {q g c : Nat} (hq : l.length = q) (o : w'.ownsRow w.heap.size 71 7 (.slice (some ⟨g, 0, none⟩) q c) q (bls l)) (b : Below w.heap.size w w') : RowM w l (.returned (.slice (some ⟨g, 0, none⟩) q c)) w' := by
  subst hq; exact ⟨g, c, rfl, o, b⟩
set_option maxHeartbeats 1000000 in
theorem l9Jet (d : D) (l : Int) (w : World) : Calls Tryz.prog 101 #[Dd.va d.nm d.kd d.ln d.x d.y d.hd d.tl d.ms, .int .i64 l] w fun e w' => e = .returned (jv d.x d.y d.hd d.tl l) ∧ Below w.heap.size w w' := by
  obtain ⟨dn, dk, dl, dx, dy, dh, dt, dm⟩ := d
  go_enter Tryz.func101, Tryz.ntmps101
  go_wp2
  go_returns
  exact ⟨rfl, by go_grown⟩
theorem append_born (w : World) (base g n c : Nat) (xs : List Value) (hown : w.ownsRow base 71 7 (.slice (some ⟨g, 0, none⟩) n c) n xs) (a : Addr) (m c2 : Nat) (news : List Value) (hl : news.length = m * 7) (hnews : ∀ j u, news[j]? = some u → w.cell? (a.add j) = some u) (h1 : ∀ u ∈ news, u.oneCell' = true) (hs : n + m ≤ 2097152) (hbase : base ≤ w.heap.size) :
    ∃ (g' c' : Nat) (w' : World), (Builtin.append_ #[101, 101] 101 #[.slice (some ⟨g, 0, none⟩) n c, .slice (some a) m c2]).run Tryz.prog w = .ok (.slice (some ⟨g', 0, none⟩) (n + m) c') w' ∧ w'.ownsRow base 71 7 (.slice (some ⟨g', 0, none⟩) (n + m) c') (n + m) (xs ++ news) ∧ w.grownBy w' (some g) := by
  obtain ⟨i0, hi, hz0, hz1, hz2⟩ := info_of info_bls
  obtain ⟨v', w', hr, h2, h3, h4, _⟩ := run_append_own_at (P := Tryz.prog) w base 101 101 71 i0 (.agg #[.string ⟨#[]⟩, .int .i64 0, .int .i64 0, .int .i64 0, .int .i64 0, .int .i64 0, .int .i64 0]) 7 64 Tryz.underlying101 hi hz0 hz1 hz2 rfl (by decide) _ n xs hown a m c2 news hl hnews h1 (by unfold maxLen; omega) (by omega) hbase
  have hg : ∃ g c, v' = .slice (some ⟨g, 0, none⟩) (n + m) c := by
    rcases h2.2 with ⟨e1, _⟩ | ⟨g, cap, cur, e1, _⟩
    · exact absurd (h4.1 e1).1 (by intro h; cases h)
    · exact ⟨g, cap, e1⟩
  obtain ⟨g', c', rfl⟩ := hg
  exact ⟨g', c', w', hr, h2, h3⟩
theorem step_append_born {ops : Array Oper} {o : Oper} {a : Act} {w w' : World} {K : Act → World → Prop} {Q : Exit → Act → World → Prop} {E : Prop}
    (hg : o.guard = none) (s x : Operand) (hop : o.op = Op.call { callee := Callee.builtin Builtin.append, args := #[s, x], argTypes := #[101, 101] }) (hty : o.type = 101)
    (v v2 v' : Value) (hs : a.eval s = v) (hx : a.eval x = v2) (hrun : (Builtin.append_ #[101, 101] 101 #[v, v2]).run Tryz.prog w = .ok v' w') (hK : K (a.put o.dst v') w') :
    if Region.wanted o (yielded ops a.tmps) = true then Oper.wp Tryz.prog o a w K Q else E := by
  have hw : Region.wanted o (yielded ops a.tmps) = true := by simp [Region.wanted, hg]
  rw [if_pos hw]
  unfold Oper.wp
  simp [execOp, hop, hty, resolve, invoke, builtin, hs, hx, hrun, Result.andThen]
  exact hK

set_option maxRecDepth 100000 in
set_option maxHeartbeats 8000000 in
theorem l9All (A0 : Option Addr) (n0 c0 : Nat) (A1 : Option Addr) (n1 c1 : Nat) (A2 : Option Addr) (n2 c2 : Nat) (T : Int) (ds : List D) (cs : List C) (gs : List G) (w : World)
    (hf : Fit n0 n1 n2 ds cs gs) (hr : SR w A0 A1 A2 ds cs gs) (hrr : show9 ds cs gs T = true) :
    Calls Tryz.prog 59 #[sv A0 n0 c0 A1 n1 c1 A2 n2 c2 T] w (RowM w (all9 ds cs gs T)) := by
  have HF := Lib.hid hf
  have hu : undef = Value.tuple #[] := rfl
  have HS := Lib.hid hr
  have HN := Lib.hid hf.1.1
  have hb0 : n0 ≤ 1048576 := hf.1.2
  rw [all9_yes hrr]
  obtain ⟨hrig, hsco, _, hT0, hT1⟩ := show_iff.1 hrr
  obtain ⟨N, rfl⟩ : ∃ N : Nat, T = N := ⟨T.toNat, by omega⟩
  have hz : (w.alloc (.cells (sc A0 n0 c0 A1 n1 c1 A2 n2 c2 N) 40)).heap.size = w.heap.size + 1 := by simp [go_sem]
  have K1 := Lib.hid ((Bk.new w (sc A0 n0 c0 A1 n1 c1 A2 n2 c2 N) 40).alloc (o := .cells #[] 71))
  have B0a := (Below.refl w.heap.size w).alloc (Nat.le_refl _) (.cells (sc A0 n0 c0 A1 n1 c1 A2 n2 c2 N) 40)
  have B1 := Lib.hid (B0a.alloc B0a.size (.cells #[] 71))
  have R1 := World.ownsRow_lit (base := w.heap.size) (e := 71) (size := 7) (w.alloc (.cells (sc A0 n0 c0 A1 n1 c1 A2 n2 c2 N) 40)) #[] 0 B0a.size (Nat.zero_le _) rfl
  rw [hz] at R1
  have R1 := Lib.hid R1
  have CL := Lib.hid (fun (k : Nat) (hk : k ≤ 64) (W : World) (h : SR W A0 A1 A2 ds cs gs) => (by have := Lg9.l9Lifts A0 n0 c0 A1 n1 c1 A2 n2 c2 N ds cs gs (k : Int) W HF.out h hrig hsco ⟨hT0, hT1⟩ (Ld.wf64 (by omega) (by omega)); unfold Wp.RowI at this; rw [lifts_len, HN.out] at this; exact this :
    Calls Tryz.prog 107 #[sv A0 n0 c0 A1 n1 c1 A2 n2 c2 N, .int .i64 (k : Int)] W (fun e w' => ∃ g c, e = .returned (.slice (some ⟨g, 0, none⟩) n0 c) ∧ w'.ownsRow W.heap.size 3 1 (.slice (some ⟨g, 0, none⟩) n0 c) n0 (ints (lifts ds cs N (k : Int))) ∧ Below W.heap.size W w')))
  have HOK := Lib.hid (fun (k : Nat) => ok_lifts cs N (k : Int) hrig)
  have HLen := Lib.hid (fun (k : Nat) => lifts_len ds cs N (k : Int))
  have H8 := Lib.hid (Rz.rig_set.1 (Ig.rig_of hrig)).1
  have hN : N ≤ 64 := by omega
  rw [Int.toNat_natCast]
  clear hrr hrig hsco hT0 hT1 hr hf hz B0a
  go_enter Tryz.func59, Tryz.ntmps59
  go_wp2_with fail
  go_loopw [3, 4] (fun v i wr => ∃ k q g c : Nat, k ≤ N ∧ i = .int .i64 k ∧ v = .slice (some ⟨g, 0, none⟩) q c ∧ Hid ((allK ds cs N k).length = q) ∧ Hid (wr.ownsRow w.heap.size 71 7 (.slice (some ⟨g, 0, none⟩) q c) q (bls (allK ds cs N k))) ∧ Hid (Bk wr w.heap.size (sc A0 n0 c0 A1 n1 c1 A2 n2 c2 N) 40) ∧ Hid (Below w.heap.size w wr)) (fun _ i _ => N - (intOf i).toNat)
  case atStart => exact ⟨0, 0, _, _, Nat.zero_le _, rfl, rfl, Lib.hid rfl, R1, K1, B1⟩
  case round =>
    obtain ⟨k, q, g, c, hk, rfl, rfl, QK, RK, KK, BK⟩ := hrel
    clear R1 K1 B1
    have b3 := KK.out.cell (i := 3) rfl
    by_cases hlt : k < N
    · have b0 := KK.out.cell (i := 0) rfl
      have b1 := KK.out.cell (i := 1) rfl
      have b2 := KK.out.cell (i := 2) rfl
      have CLk := Lib.hid (CL.out k (by omega))
      obtain ⟨LI, hLI⟩ : ∃ LI, lifts ds cs N (k : Int) = LI := ⟨_, rfl⟩
      have HO := Lib.hid (show LiftOk ds LI by rw [← hLI]; exact HOK.out k)
      have HLL := Lib.hid (show LI.length = n0 by rw [← hLI, HLen.out k]; exact HN.out)
      have HAK := Lib.hid (show allK ds cs N (k + 1) = allK ds cs N k ++ rowK ds LI k ds.length by rw [← hLI]; rfl)
      rw [hLI] at CLk
      clear hLI
      go_wp2_with fail
      refine (CLk.out _ (HS.out.below BK.out)).mono ?_
      rintro e u1 ⟨g5, c5, rfl, o5, hb⟩
      have RA := Lib.hid (show u1.ownsRow w.heap.size 71 7 (.slice (some ⟨g, 0, none⟩) q c) q (bls (allK ds cs N k ++ rowK ds LI k 0)) by rw [show rowK ds LI k 0 = [] from rfl, List.append_nil]; exact owns_below RK.out hb)
      have QA := Lib.hid (show (allK ds cs N k ++ rowK ds LI k 0).length = q by rw [show rowK ds LI k 0 = [] from rfl, List.append_nil]; exact QK.out)
      have LA := Lib.hid (owns_base o5 (Nat.le_trans BK.out.size (o5.lt g5 rfl).1))
      have KA := Lib.hid (KK.out.below hb)
      have BA := Lib.hid (BK.out.trans (hb.mono BK.out.size))
      clear hb o5 RK KK BK QK CLk b0 b1 b2 b3
      go_wp2_with fail
      go_loopw [3, 18] (fun v i wr => ∃ i9 q g c : Nat, i9 ≤ n0 ∧ i = .int .i64 i9 ∧ v = .slice (some ⟨g, 0, none⟩) q c ∧ Hid ((allK ds cs N k ++ rowK ds LI k i9).length = q) ∧ Hid (wr.ownsRow w.heap.size 71 7 (.slice (some ⟨g, 0, none⟩) q c) q (bls (allK ds cs N k ++ rowK ds LI k i9))) ∧ Hid (wr.ownsRow w.heap.size 3 1 (.slice (some ⟨g5, 0, none⟩) n0 c5) n0 (ints LI)) ∧ Hid (Bk wr w.heap.size (sc A0 n0 c0 A1 n1 c1 A2 n2 c2 N) 40) ∧ Hid (Below w.heap.size w wr)) (fun _ i _ => n0 - (intOf i).toNat)
      case atStart => exact ⟨0, q, g, c, Nat.zero_le _, rfl, rfl, QA, RA, LA, KA, BA⟩
      case round =>
        obtain ⟨i, q, g, c, hi9, rfl, rfl, QI, RI, LI9, KI, BI⟩ := hrel
        clear QA RA LA KA BA
        by_cases hli : i < n0
        · obtain ⟨x, hx⟩ : ∃ x, LI[i]? = some x := ⟨_, List.getElem?_eq_getElem (by rw [HLL.out]; exact hli)⟩
          obtain ⟨z, hz⟩ : ∃ z, ds[i]? = some z := ⟨_, List.getElem?_eq_getElem (by rw [HN.out]; exact hli)⟩
          have HZ := Lib.hid hz
          have cL : wr.cell? ⟨g5, i, none⟩ = some (.int .i64 x) := (LI9.out.cellAt i (by omega)).trans (by unfold ints; rw [List.getElem?_map, hx]; rfl)
          by_cases hx0 : x = 0
          · have RN := Lib.hid (row_no (t := k) hz hx hx0)
            subst hx0
            clear hx hz
            go_wp2_with fail
            go_roundw
            case rel => exact ⟨i + 1, q, g, c, by omega, by go_num, rfl, by rw [RN.out]; exact QI, by rw [RN.out]; exact RI, LI9, KI, BI⟩
            case measure => simp [intOf]; omega
          · have RY := Lib.hid (row_yes (t := k) hz hx hx0)
            have hxp : 0 < x := by
              rcases HO.out i x hx with e | ⟨a, b, d', e, _, n, _⟩
              · exact absurd e hx0
              · omega
            clear hx hz hx0
            obtain ⟨dn, dk, dl, dx, dy, dh, dt, dm⟩ := z
            obtain ⟨bD, oD, eA, hbl, hcell⟩ := (HS.out.1.below BI.out).get (k := i * 8) (by rw [Dd.dls_len, HN.out]; omega)
            obtain ⟨z0, z1, z2, z3, z4, z5, z6, z7⟩ := Dd.dls_get HZ.out
            have v0 := hcell (i * 8) _ z0
            have v1 := hcell (i * 8 + 1) _ z1
            rw [← Nat.add_assoc] at v1
            have v2 := hcell (i * 8 + 2) _ z2
            rw [← Nat.add_assoc] at v2
            have v3 := hcell (i * 8 + 3) _ z3
            rw [← Nat.add_assoc] at v3
            have v4 := hcell (i * 8 + 4) _ z4
            rw [← Nat.add_assoc] at v4
            have v5 := hcell (i * 8 + 5) _ z5
            rw [← Nat.add_assoc] at v5
            have v6 := hcell (i * 8 + 6) _ z6
            rw [← Nat.add_assoc] at v6
            have v7 := hcell (i * 8 + 7) _ z7
            rw [← Nat.add_assoc] at v7
            have hbD : bD < w.heap.size := hbl; clear hcell hbl z0 z1 z2 z3 z4 z5 z6 z7
            subst eA
            have b0 := KI.out.cell (i := 0) rfl
            have nL : g ≠ g5 := own_ne_own RI.out LI9.out (by decide)
            have nB : g ≠ w.heap.size := fun e => own_ne RI.out KI.out (by decide) (by rw [e]; rfl)
            have lg : w.heap.size ≤ g := (RI.out.lt g rfl).1
            have hq : q ≤ 600 := by
              have h1 := QI.out; rw [List.length_append] at h1
              have := all_len (cs := cs) (T := N) H8.out k
              have := row_len ds LI k i
              have := HN.out; have := H8.out
              omega
            go_upto_region 9 with fail
            clear cL
            refine wp_region_noPanic ?_
            refine wp_region_held_drew (S := (fun w' => w'.cell? ⟨w.heap.size, 0, none⟩ = some (.slice (some ⟨bD, oD, none⟩) n0 c0) ∧ w'.cell? ⟨bD, oD + i * 8, none⟩ = some (.string dn) ∧ w'.cell? ⟨bD, oD + i * 8 + 1, none⟩ = some (.int .i64 dk) ∧ w'.cell? ⟨bD, oD + i * 8 + 2, none⟩ = some (.string dl) ∧ w'.cell? ⟨bD, oD + i * 8 + 3, none⟩ = some (.int .i64 dx) ∧ w'.cell? ⟨bD, oD + i * 8 + 4, none⟩ = some (.int .i64 dy) ∧ w'.cell? ⟨bD, oD + i * 8 + 5, none⟩ = some (.int .i64 dh) ∧ w'.cell? ⟨bD, oD + i * 8 + 6, none⟩ = some (.int .i64 dt) ∧ w'.cell? ⟨bD, oD + i * 8 + 7, none⟩ = some (.int .i64 dm) ∧ Below w.heap.size w w')) (by kernel_rfl) ?_ (fun hH => ?_)
            · exact ⟨b0, v0, v1, v2, v3, v4, v5, v6, v7, BI.out.drew⟩
            refine wpAnyH_take (i := 0) (oi := { dst := some 25, op := _, type := _, pos := _, after := _, guard := _ }) (v := ?_) rfl (by kernel_rfl) (by kernel_rfl) (by kernel_rfl) (fun _ _ _ h => h) (Or.inl ⟨by rfl, ?_⟩) hH ?_
            rotate_left 1
            · intro W hSw
              (try dsimp only at hSw)
              go_simp
              (try with_reducible rfl)
            try simp only [Act.put, List.setIfInBounds_toArray, List.set_cons_zero, List.set_cons_succ]
            refine wpAnyH_take (i := 1) (oi := { dst := some 26, op := _, type := _, pos := _, after := _, guard := _ }) (v := ?_) rfl (by kernel_rfl) (by kernel_rfl) (by kernel_rfl) (fun _ _ _ h => h) (Or.inl ⟨by rfl, ?_⟩) hH ?_
            rotate_left 1
            · intro W hSw
              (try dsimp only at hSw)
              go_simp
              (try with_reducible rfl)
            try simp only [Act.put, List.setIfInBounds_toArray, List.set_cons_zero, List.set_cons_succ]
            refine wpAnyH_take (i := 2) (oi := { dst := some 27, op := _, type := _, pos := _, after := _, guard := _ }) (v := ?_) rfl (by kernel_rfl) (by kernel_rfl) (by kernel_rfl) (fun _ _ _ h => h) (Or.inl ⟨by rfl, ?_⟩) hH ?_
            rotate_left 1
            · intro W hSw
              (try dsimp only at hSw)
              go_simp
              (try with_reducible rfl)
            try simp only [Act.put, List.setIfInBounds_toArray, List.set_cons_zero, List.set_cons_succ]
            refine wpAnyH_take (i := 3) (oi := { dst := some 28, op := _, type := _, pos := _, after := _, guard := _ }) (v := ?_) rfl (by kernel_rfl) (by kernel_rfl) (by kernel_rfl) (fun _ _ _ h => h) (Or.inl ⟨by rfl, ?_⟩) hH ?_
            rotate_left 1
            · intro W hSw
              (try dsimp only at hSw)
              go_simp
              (try with_reducible rfl)
            try simp only [Act.put, List.setIfInBounds_toArray, List.set_cons_zero, List.set_cons_succ]
            refine wpAnyH_take (i := 4) (oi := { dst := some 29, op := _, type := _, pos := _, after := _, guard := _ }) (v := ?_) rfl (by kernel_rfl) (by kernel_rfl) (by kernel_rfl) (fun _ _ _ h => h) (Or.inl ⟨by rfl, ?_⟩) hH ?_
            rotate_left 1
            · intro W hSw
              (try dsimp only at hSw)
              go_simp
              (try with_reducible rfl)
            try simp only [Act.put, List.setIfInBounds_toArray, List.set_cons_zero, List.set_cons_succ]
            refine wpAnyH_take (i := 5) (oi := { dst := some 30, op := _, type := _, pos := _, after := _, guard := _ }) (v := ?_) rfl (by kernel_rfl) (by kernel_rfl) (by kernel_rfl) (fun _ _ _ h => h) (Or.inl ⟨by rfl, ?_⟩) hH ?_
            rotate_left 1
            · intro W hSw
              (try dsimp only at hSw)
              go_simp
              (try with_reducible rfl)
            try simp only [Act.put, List.setIfInBounds_toArray, List.set_cons_zero, List.set_cons_succ]
            refine wpAnyH_take (i := 6) (oi := { dst := some 31, op := _, type := _, pos := _, after := _, guard := _ }) (v := ?_) rfl (by kernel_rfl) (by kernel_rfl) (by kernel_rfl) (fun _ _ _ h => h) (Or.inl ⟨by rfl, ?_⟩) hH ?_
            rotate_left 1
            · intro W hSw
              (try dsimp only at hSw)
              go_simp
              (try with_reducible rfl)
            try simp only [Act.put, List.setIfInBounds_toArray, List.set_cons_zero, List.set_cons_succ]
            refine wpAnyH_take (i := 7) (oi := { dst := some 32, op := _, type := _, pos := _, after := _, guard := _ }) (v := ?_) rfl (by kernel_rfl) (by kernel_rfl) (by kernel_rfl) (fun _ _ _ h => h) (Or.inl ⟨by rfl, ?_⟩) hH ?_
            rotate_left 1
            · intro W hSw
              (try dsimp only at hSw)
              go_simp
              (try with_reducible rfl)
            try simp only [Act.put, List.setIfInBounds_toArray, List.set_cons_zero, List.set_cons_succ]
            refine wpAnyH_take (i := 8) (oi := { dst := some 33, op := _, type := _, pos := _, after := _, guard := _ }) (v := ?_) rfl (by kernel_rfl) (by kernel_rfl) (by kernel_rfl) (fun _ _ _ h => h) (Or.inl ⟨by rfl, ?_⟩) hH ?_
            rotate_left 1
            · intro W hSw
              (try dsimp only at hSw)
              go_simp
              (try with_reducible rfl)
            try simp only [Act.put, List.setIfInBounds_toArray, List.set_cons_zero, List.set_cons_succ]
            refine wpAnyH_take (i := 9) (oi := { dst := some 34, op := _, type := _, pos := _, after := _, guard := _ }) (v := ?_) rfl (by kernel_rfl) (by kernel_rfl) (by kernel_rfl) (fun _ _ _ h => h) (Or.inl ⟨by rfl, ?_⟩) hH ?_
            rotate_left 1
            · intro W hSw
              (try dsimp only at hSw)
              go_simp
              (try with_reducible rfl)
            try simp only [Act.put, List.setIfInBounds_toArray, List.set_cons_zero, List.set_cons_succ]
            refine wpAnyH_take (i := 10) (oi := { dst := some 35, op := _, type := _, pos := _, after := _, guard := _ }) (v := ?_) rfl (by kernel_rfl) (by kernel_rfl) (by kernel_rfl) (fun _ _ _ h => h) (Or.inl ⟨by rfl, ?_⟩) hH ?_
            rotate_left 1
            · intro W hSw
              (try dsimp only at hSw)
              go_simp
              (try with_reducible rfl)
            try simp only [Act.put, List.setIfInBounds_toArray, List.set_cons_zero, List.set_cons_succ]
            refine wpAnyH_take (i := 11) (oi := { dst := some 36, op := _, type := _, pos := _, after := _, guard := _ }) (v := ?_) rfl (by kernel_rfl) (by kernel_rfl) (by kernel_rfl) (fun _ _ _ h => h) (Or.inl ⟨by rfl, ?_⟩) hH ?_
            rotate_left 1
            · intro W hSw
              (try dsimp only at hSw)
              go_simp
              (try with_reducible rfl)
            try simp only [Act.put, List.setIfInBounds_toArray, List.set_cons_zero, List.set_cons_succ]
            refine wpAnyH_take (i := 12) (oi := { dst := some 37, op := _, type := _, pos := _, after := _, guard := _ }) (v := ?_) rfl (by kernel_rfl) (by kernel_rfl) (by kernel_rfl) (fun _ _ _ h => h) (Or.inl ⟨by rfl, ?_⟩) hH ?_
            rotate_left 1
            · intro W hSw
              (try dsimp only at hSw)
              go_simp
              (try with_reducible rfl)
            try simp only [Act.put, List.setIfInBounds_toArray, List.set_cons_zero, List.set_cons_succ]
            refine wpAnyH_take (i := 13) (oi := { dst := some 38, op := _, type := _, pos := _, after := _, guard := _ }) (v := ?_) rfl (by kernel_rfl) (by kernel_rfl) (by kernel_rfl) (fun _ _ _ h => h) (Or.inl ⟨by rfl, ?_⟩) hH ?_
            rotate_left 1
            · intro W hSw
              (try dsimp only at hSw)
              go_simp
              (try with_reducible rfl)
            try simp only [Act.put, List.setIfInBounds_toArray, List.set_cons_zero, List.set_cons_succ]
            refine wpAnyH_ready (rs := [14]) (by kernel_rfl) (by simp) (AllReadyH.cons rfl (fun K hK => ?_) AllReadyH.nil)
            go_simp
            go_at_call 101; ((with_reducible refine (l9Jet ⟨dn, dk, dl, dx, dy, dh, dt, dm⟩ x _).mono ?_); rintro e r1 ⟨rfl, hb1⟩); have R1 := owns_below RI.out.drew hb1; have q1 : wr.heap.size ≤ r1.heap.size := hb1.size; go_wp2_with fail
            refine hK.out _ _ ?_ (fun hG => ?_)
            · exact ⟨cell_below hb1 hH.1, cell_below hb1 hH.2.1, cell_below hb1 hH.2.2.1, cell_below hb1 hH.2.2.2.1, cell_below hb1 hH.2.2.2.2.1, cell_below hb1 hH.2.2.2.2.2.1, cell_below hb1 hH.2.2.2.2.2.2.1, cell_below hb1 hH.2.2.2.2.2.2.2.1, cell_below hb1 hH.2.2.2.2.2.2.2.2.1, hH.2.2.2.2.2.2.2.2.2.trans (hb1.mono hH.2.2.2.2.2.2.2.2.2.size)⟩
            replace hH := hG
            clear hK K hG
            try simp only [Act.put, List.setIfInBounds_toArray, List.set_cons_zero, List.set_cons_succ]
            refine wpAnyH_take (i := 15) (oi := { dst := some 40, op := _, type := _, pos := _, after := _, guard := _ }) (v := ?_) rfl (by kernel_rfl) (by kernel_rfl) (by kernel_rfl) (fun _ _ _ h => h) (Or.inl ⟨by rfl, ?_⟩) hH ?_
            rotate_left 1
            · intro W hSw
              (try dsimp only at hSw)
              go_simp
              (try with_reducible rfl)
            try simp only [Act.put, List.setIfInBounds_toArray, List.set_cons_zero, List.set_cons_succ]
            refine wpAnyH_ready (rs := [16]) (by kernel_rfl) (by simp) (AllReadyH.cons rfl (fun K hK => ?_) AllReadyH.nil)
            go_simp
            refine hK.out _ _ ?_ (fun hG => ?_)
            · exact ⟨cell_alloc hH.1, cell_alloc hH.2.1, cell_alloc hH.2.2.1, cell_alloc hH.2.2.2.1, cell_alloc hH.2.2.2.2.1, cell_alloc hH.2.2.2.2.2.1, cell_alloc hH.2.2.2.2.2.2.1, cell_alloc hH.2.2.2.2.2.2.2.1, cell_alloc hH.2.2.2.2.2.2.2.2.1, hH.2.2.2.2.2.2.2.2.2.alloc hH.2.2.2.2.2.2.2.2.2.size _⟩
            replace hH := hG
            clear hK K hG
            try simp only [Act.put, List.setIfInBounds_toArray, List.set_cons_zero, List.set_cons_succ]
            refine wpAnyH_ready (rs := [17]) (by kernel_rfl) (by simp) (AllReadyH.cons rfl (fun K hK => ?_) AllReadyH.nil)
            (obtain ⟨gX, cX, u9, hrun, ho9, hg9⟩ := append_born (r1.alloc (.cells #[.string dn, .int .i64 (k : Int), .int .i64 dx, .int .i64 dy, .int .i64 dh, .int .i64 dt, .int .i64 x] 71)) w.heap.size g q c _ (R1.alloc _) ⟨r1.heap.size, 0, none⟩ 1 1 [.string dn, .int .i64 (k : Int), .int .i64 dx, .int .i64 dy, .int .i64 dh, .int .i64 dt, .int .i64 x] rfl (by intro j z9 hj; match j, hj with | 0, hj => (simp at hj; subst hj; simp [Addr.add, go_sem]) | 1, hj => (simp at hj; subst hj; simp [Addr.add, go_sem]) | 2, hj => (simp at hj; subst hj; simp [Addr.add, go_sem]) | 3, hj => (simp at hj; subst hj; simp [Addr.add, go_sem]) | 4, hj => (simp at hj; subst hj; simp [Addr.add, go_sem]) | 5, hj => (simp at hj; subst hj; simp [Addr.add, go_sem]) | 6, hj => (simp at hj; subst hj; simp [Addr.add, go_sem])) (by intro z9 hz; simp at hz; rcases hz with rfl | rfl | rfl | rfl | rfl | rfl | rfl <;> rfl) (by omega) (by have := hH.2.2.2.2.2.2.2.2.2.size; simpa using this); refine step_append_born rfl (.tmp 25) (.tmp 41) rfl rfl _ _ _ (by simp [Act.eval, Act.put]) (by simp [Act.eval, Act.put]) hrun ?_; refine (show K (Act.put _ (some 42) _) _ from ?_))
            refine hK.out _ _ ?_ (fun hG => ?_)
            · exact ⟨hg9.cell hH.1 (fun e => by have e := Option.some.inj e; (have e9 : w.heap.size = g := e); omega), hg9.cell hH.2.1 (fun e => by have e := Option.some.inj e; (have e9 : bD = g := e); omega), hg9.cell hH.2.2.1 (fun e => by have e := Option.some.inj e; (have e9 : bD = g := e); omega), hg9.cell hH.2.2.2.1 (fun e => by have e := Option.some.inj e; (have e9 : bD = g := e); omega), hg9.cell hH.2.2.2.2.1 (fun e => by have e := Option.some.inj e; (have e9 : bD = g := e); omega), hg9.cell hH.2.2.2.2.2.1 (fun e => by have e := Option.some.inj e; (have e9 : bD = g := e); omega), hg9.cell hH.2.2.2.2.2.2.1 (fun e => by have e := Option.some.inj e; (have e9 : bD = g := e); omega), hg9.cell hH.2.2.2.2.2.2.2.1 (fun e => by have e := Option.some.inj e; (have e9 : bD = g := e); omega), hg9.cell hH.2.2.2.2.2.2.2.2.1 (fun e => by have e := Option.some.inj e; (have e9 : bD = g := e); omega), hH.2.2.2.2.2.2.2.2.2.grown hg9 hH.2.2.2.2.2.2.2.2.2.size (fun q hq => by have hq := Option.some.inj hq; omega)⟩
            replace hH := hG
            clear hK K hG
            try simp only [Act.put, List.setIfInBounds_toArray, List.set_cons_zero, List.set_cons_succ]
            refine wpAnyH_take (i := 18) (oi := { dst := some 3, op := _, type := _, pos := _, after := _, guard := _ }) (v := ?_) rfl (by kernel_rfl) (by kernel_rfl) (by kernel_rfl) (fun _ _ _ h => h) (Or.inl ⟨by rfl, ?_⟩) hH ?_
            rotate_left 1
            · intro W hSw
              (try dsimp only at hSw)
              go_simp
              (try with_reducible rfl)
            try simp only [Act.put, List.setIfInBounds_toArray, List.set_cons_zero, List.set_cons_succ]
            refine wpAnyH_done (by kernel_rfl) ?_ _
            refine NoPanic.normal ?_
            have QN := Lib.hid (show (allK ds cs N k ++ rowK ds LI k (i + 1)).length = q + 1 by rw [RY.out, ← List.append_assoc, List.length_append, QI.out]; rfl)
            rw [show bls (allK ds cs N k ++ rowK ds LI k i) ++ [.string dn, .int .i64 (k : Int), .int .i64 dx, .int .i64 dy, .int .i64 dh, .int .i64 dt, .int .i64 x] = bls (allK ds cs N k ++ rowK ds LI k (i + 1)) from (by rw [RY.out, ← List.append_assoc]; exact bls_snoc _ ⟨k, ⟨dn, dk, dl, dx, dy, dh, dt, dm⟩, x⟩)] at ho9
            have OT := Lib.hid ho9
            have OL := Lib.hid (owns_grown ((owns_below LI9.out.drew hb1).alloc (.cells #[.string dn, .int .i64 (k : Int), .int .i64 dx, .int .i64 dy, .int .i64 dh, .int .i64 dt, .int .i64 x] 71)) hg9 (ne_blk nL))
            have OK := Lib.hid (((KI.out.drew.below hb1).alloc (o := .cells #[.string dn, .int .i64 (k : Int), .int .i64 dx, .int .i64 dy, .int .i64 dh, .int .i64 dt, .int .i64 x] 71)).grown hg9 (fun e => by have e := Option.some.inj e; omega))
            have OB := Lib.hid hH.2.2.2.2.2.2.2.2.2
            clear hH hb1 ho9 hg9 hrun R1 RI LI9 KI BI b0 v0 v1 v2 v3 v4 v5 v6 v7
            go_wp2_with fail
            go_roundw
            case rel => exact ⟨i + 1, q + 1, gX, cX, by omega, by go_num, rfl, QN, OT, OL, OK, OB⟩
            case measure => simp [intOf]; omega
        · obtain rfl : i = n0 := by omega
          have E := Lib.hid (show allK ds cs N k ++ rowK ds LI k i = allK ds cs N (k + 1) by rw [HAK.out, HN.out])
          rw [E.out] at QI RI
          clear LI9
          go_wp2_with fail
          go_roundw
          case rel => exact ⟨k + 1, q, g, c, by omega, by go_num, rfl, QI, RI, KI, BI⟩
          case measure => simp [intOf]; omega
    · obtain rfl : k = N := by omega
      clear KK CL
      go_wp2_with fail
      go_ret
      exact row_of QK.out RK.out BK.out
end Go.Proofs.YtokncfhpmjohdaaGreat.Tm9
