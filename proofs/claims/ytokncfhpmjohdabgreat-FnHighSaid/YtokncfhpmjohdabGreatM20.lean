/- The lifts of a show, of the program. -/
import Derived.Test.YtokncfhpmjohdabGreatSw9
import Derived.Test.YtokncfhpmjohdabGreatM19
import Derived.Deep.DeepCutAuto
import Derived.Deep.RegionHeld3
import Derived.Lib.MinMax
set_option linter.unusedVariables false
set_option linter.unusedSimpArgs false
namespace Go.Proofs.YtokncfhpmjohdabGreat.Lf9
open Go.RowKit Go.ChangeShapes Go.WideShapes Go.WideElems Go.Deep Go.Proofs.YtokncfhpmjohdabGreat.Mem Go.Proofs.YtokncfhpmjohdabGreat.Rw Go.Proofs.YtokncfhpmjohdabGreat.P2 Go.Proofs.YtokncfhpmjohdabGreat.Bk Go.Proofs.YtokncfhpmjohdabGreat.Sp Go.Proofs.YtokncfhpmjohdabGreat.Sq Go.Proofs.YtokncfhpmjohdabGreat.Jt
open Go.Proofs.YtokncfhpmjohdabGreat.Sv hiding D C G
open Go.Proofs.YtokncfhpmjohdabGreat.Wp (RowI infoI own_mk own_base rd_cell ints_snoc row_nil)
open Go.Proofs.YtokncfhpmjohdabGreat.Ds (sb)
open Go.Proofs.YtokncfhpmjohdabGreat.Ig (rig)
open Go.Proofs.YtokncfhpmjohdabGreat.Dm (share)
open Go.Proofs.YtokncfhpmjohdabGreat.Ld (levV)
set_option linter.unusedVariables false
set_option linter.unusedSimpArgs false
/-- Places as numbers. -/
def nn (l : List Nat) : List Int := l.map fun (i : Nat) => ((i : Nat) : Int)
theorem nn_len (l : List Nat) : (nn l).length = l.length := by simp [nn]
theorem nn_get {l : List Nat} {k i : Nat} (h : l[k]? = some i) : (nn l)[k]? = some (i : Int) := by unfold nn; rw [List.getElem?_map, h]; rfl
theorem nn_snoc (l : List Nat) (i : Nat) : nn l ++ [(i : Int)] = nn (l ++ [i]) := by simp [nn]
theorem row_of {w w' : World} {l : List Int} {q g c : Nat} (hq : l.length = q) (o : w'.ownsRow w.heap.size 3 1 (.slice (some ⟨g, 0, none⟩) q c) q (ints l)) (b : Below w.heap.size w w') : RowI w l (.returned (.slice (some ⟨g, 0, none⟩) q c)) w' := by
  subst hq; exact ⟨g, c, rfl, o, b⟩
set_option maxRecDepth 100000 in
set_option maxHeartbeats 4000000 in
theorem nozzlesOn (A : Option Addr) (n0 c9 : Nat) (ds : List D) (s : ByteArray) (w : World) (hn : ds.length = n0) (hb : n0 ≤ 1048576) (hr : Rd w w.heap.size A (Dd.dls ds)) :
    Calls Tryz.prog 65 #[.slice A n0 c9, .string s] w (RowI w (nn (hang s ds 0))) := by
  obtain ⟨i0, hi, hz0, hz1, hz2⟩ := info_parts infoI
  have HR := Lib.hid hr
  have HN := Lib.hid hn
  have R0 := Lib.hid (World.ownsRow_lit (base := w.heap.size) (e := 3) (size := 1) w #[] 0 (Nat.le_refl _) (Nat.zero_le _) rfl)
  have B0 := Lib.hid (show Below w.heap.size w (w.alloc (.cells #[] 3)) from by go_grown)
  clear hr hn
  go_enter Tryz.func65, Tryz.ntmps65
  go_wp2_with fail
  go_loopw [5, 11] (fun v i wr => ∃ k q : Nat, k ≤ n0 ∧ i = .int .i64 k ∧ (∃ b c, v = .slice (some ⟨b, 0, none⟩) q c) ∧ Hid ((hang s (ds.take k) 0).length = q) ∧ Hid (wr.ownsRow w.heap.size 3 1 v q (ints (nn (hang s (ds.take k) 0)))) ∧ Hid (Below w.heap.size w wr)) (fun _ i _ => n0 - (intOf i).toNat)
  case atStart => exact ⟨0, 0, Nat.zero_le _, rfl, ⟨_, _, rfl⟩, Lib.hid (by simp [hang]), R0, B0⟩
  case round =>
    obtain ⟨k, q, hk, rfl, ⟨gb, gc, rfl⟩, QL, RK, BK⟩ := hrel
    by_cases hlt : k < n0
    · obtain ⟨z, hz⟩ : ∃ z, ds[k]? = some z := ⟨_, List.getElem?_eq_getElem (by rw [HN.out]; exact hlt)⟩
      have HZ := Lib.hid hz
      have HT := Lib.hid (hang_take (s := s) hz)
      clear hz
      obtain ⟨dn, dk, dl, dx, dy, dh, dt, dm⟩ := z
      obtain ⟨bD, oD, eA, hbl, hcell⟩ := (HR.out.below BK.out).get (k := k * 8) (by rw [Dd.dls_len, HN.out]; omega)
      obtain ⟨z0, z1, z2, z3, z4, z5, z6, z7⟩ := Dd.dls_get HZ.out
      have c0 := hcell (k * 8) _ z0
      have c1 := hcell (k * 8 + 1) _ z1
      rw [← Nat.add_assoc] at c1
      have c2 := hcell (k * 8 + 2) _ z2
      rw [← Nat.add_assoc] at c2
      have c3 := hcell (k * 8 + 3) _ z3
      rw [← Nat.add_assoc] at c3
      have c4 := hcell (k * 8 + 4) _ z4
      rw [← Nat.add_assoc] at c4
      have c5 := hcell (k * 8 + 5) _ z5
      rw [← Nat.add_assoc] at c5
      have c6 := hcell (k * 8 + 6) _ z6
      rw [← Nat.add_assoc] at c6
      have c7 := hcell (k * 8 + 7) _ z7
      rw [← Nat.add_assoc] at c7
      clear hcell hbl z0 z1 z2 z3 z4 z5 z6 z7
      subst eA
      have R1 := RK.out.alloc (.cells (Dd.ca dn dk dl dx dy dh dt dm) 36)
      have B1 := BK.out.alloc BK.out.size (.cells (Dd.ca dn dk dl dx dy dh dt dm) 36)
      have hq : q ≤ 1048576 := by have := hang_len s (ds.take k) 0; have := QL.out; have := List.length_take_le k ds; have := HN.out; omega
      have hw1 := BK.out.size
      cases hs : sb dl s
      · have HT2 := Lib.hid (HT.out.trans (if_neg (by rw [hs]; decide)))
        have hs2 : (dl.toList == s.toList) = false := hs
        have RR := Lib.hid R1
        have BB := Lib.hid B1
        clear R1 B1 hs HT RK BK R0 B0
        go_wp2_with fail
        go_roundw
        case rel => exact ⟨k + 1, q, by omega, by go_num, ⟨_, _, rfl⟩, by rw [HT2.out]; exact QL, by rw [HT2.out]; exact RR, BB⟩
        case measure => simp [intOf]; omega
      · have HT2 := Lib.hid (HT.out.trans (if_pos hs))
        have hs2 : (dl.toList == s.toList) = true := hs
        have hown := R1.alloc
        have HS := Lib.hid (own_base R1)
        have B1' := Lib.hid B1
        have HW := Lib.hid hw1
        clear hs HT R0 B0 R1 B1 RK BK hw1
        go_wp2_with (at_builtin; refine wpList_append_own _ rfl _ _ 31 rfl w.heap.size 3 i0 (.int .i64 0) 1 8 Tryz.underlying31 hi hz0 hz1 hz2 rfl (by decide) _ _ _ rfl (hown _) ⟨wr.heap.size + 1, 0, none⟩ 1 1 [.int .i64 k] rfl rfl (by intro j u hj; match j, hj with | 0, hj => simp at hj; subst hj; simp [Addr.add, go_sem]) (by intro u hu; simp at hu; subst hu; rfl) (by unfold maxLen; omega) (by omega) (by have := HW.out; simp; omega) ?_)
        intro v' w5 hown' hgrow hnil
        rw [ints_snoc, nn_snoc, ← HT2.out] at hown'
        have hsh := own_mk hown'
        have OO := Lib.hid hown'
        have BB := Lib.hid ((B1'.out.alloc B1'.out.size _).grown hgrow (by have := HW.out; simp; omega) (fun j hj => HS.out j hj))
        clear hown' hgrow hnil HS HW hown B1'
        go_wp2_with fail
        go_roundw
        case rel => exact ⟨k + 1, q + 1, by omega, by go_num, hsh, Lib.hid (by rw [HT2.out, List.length_append, QL.out]; rfl), OO, BB⟩
        case measure => simp [intOf]; omega
    · obtain rfl : k = n0 := by omega
      have ht : ds.take k = ds := by rw [← HN.out, List.take_length]
      have OF := Lib.hid (show wr.ownsRow w.heap.size 3 1 (.slice (some ⟨gb, 0, none⟩) q gc) q (ints (nn (hang s ds 0))) by have := RK.out; rwa [ht] at this)
      have HL := Lib.hid (show (nn (hang s ds 0)).length = q by rw [nn_len, ← ht]; exact QL.out)
      clear ht RK R0 B0
      go_wp2_with fail
      go_ret
      exact row_of HL.out OF.out BK.out

set_option maxRecDepth 100000 in
set_option maxHeartbeats 4000000 in
theorem demandsAt (A0 : Option Addr) (n0 c0 : Nat) (A1 : Option Addr) (n1 c1 : Nat) (A2 : Option Addr) (n2 c2 : Nat) (T : Int) (ds : List D) (cs : List C) (gs : List G) (A : Option Addr) (q9 c9 : Nat) (l : List Nat) (t : Int) (w : World)
    (hf : Fit n0 n1 n2 ds cs gs) (hr : SR w A0 A1 A2 ds cs gs) (hl : l.length = q9) (hq : q9 ≤ 1048576) (ha : Rd w w.heap.size A (ints (nn l))) (hall : ∀ i ∈ l, i < n0) (wt : (Lit.int .i64 t).wf = true) :
    Calls Tryz.prog 67 #[sv A0 n0 c0 A1 n1 c1 A2 n2 c2 T, .slice A q9 c9, .int .i64 t] w (RowI w (wants ds cs t l)) := by
  obtain ⟨⟨hn0, hb0⟩, ⟨hn1, hb1⟩, hn2, hb2⟩ := hf
  obtain ⟨i0, hi, hz0, hz1, hz2⟩ := info_parts infoI
  have hu : undef = Value.tuple #[] := rfl
  have HS := Lib.hid hr
  have HA := Lib.hid ha
  have HN := Lib.hid hn0
  have HQ := Lib.hid hl
  have HAL := Lib.hid hall
  have CL := Lib.hid (fun (dn : ByteArray) (W : World) (h : Rd W W.heap.size A1 (Cd.dls cs)) => Li7.levelI A1 n1 c1 cs dn t W hn1 hb1 wt h)
  have HL := Lib.hid (show (ints (wants ds cs t l)).length = q9 by rw [ints_len, wants_len, hl])
  have K0 := Bk.new w (sc A0 n0 c0 A1 n1 c1 A2 n2 c2 T) 28
  have B0 := (Below.refl w.heap.size w).alloc (Nat.le_refl _) (.cells (sc A0 n0 c0 A1 n1 c1 A2 n2 c2 T) 28)
  have hz : (w.alloc (.cells (sc A0 n0 c0 A1 n1 c1 A2 n2 c2 T) 28)).heap.size = w.heap.size + 1 := by simp [go_sem]
  clear hr ha hn0 hall hl
  go_enter Tryz.func67, Tryz.ntmps67
  go_wp2_with (at_make; refine wpList_make_full _ rfl _ _ 31 rfl w.heap.size 3 i0 (.int .i64 0) 1 Tryz.underlying31 hi hz0 hz1 .i64 .i64 q9 q9 q9 rfl rfl rfl rfl (by rw [hz2]; omega) (by unfold maxLen; omega) (by rw [hz]; omega) ?_; intro w1 hown hgrow; clear hi hz0 hz1 hz2)
  rw [hz] at hown
  have R0 := Lib.hid (show w1.ownsRow w.heap.size 3 1 (.slice (some ⟨w.heap.size + 1, 0, none⟩) q9 q9) q9 (filled (ints (wants ds cs t l)) (.int .i64 0) 0) by
    rw [filled_zero, HL.out]; rw [made_ints _ 1 (by intro j hj; match j, hj with | 0, _ => rfl) rfl (by omega), Nat.mul_one] at hown; exact hown)
  have BW := Lib.hid (show Below w.heap.size w w1 from B0.grown hgrow B0.size (fun k hk => by cases hk))
  have KW := Lib.hid (K0.grown hgrow (by intro e; cases e))
  clear hown hgrow K0 B0 hz
  go_loopw [16] (fun i wr => ∃ k : Nat, k ≤ q9 ∧ i = .int .i64 k ∧ Hid (wr.ownsRow w.heap.size 3 1 (.slice (some ⟨w.heap.size + 1, 0, none⟩) q9 q9) q9 (filled (ints (wants ds cs t l)) (.int .i64 0) k)) ∧ Hid (Bk wr w.heap.size (sc A0 n0 c0 A1 n1 c1 A2 n2 c2 T) 28) ∧ Hid (Below w.heap.size w wr)) (fun i _ => q9 - (intOf i).toNat)
  case atStart => exact ⟨0, Nat.zero_le _, rfl, R0, KW, BW⟩
  case round =>
    obtain ⟨k, hk, rfl, RK, KK, BK⟩ := hrel
    by_cases hlt : k < q9
    · obtain ⟨i, hi⟩ : ∃ i, l[k]? = some i := ⟨_, List.getElem?_eq_getElem (by rw [HQ.out]; exact hlt)⟩
      have hin := HAL.out i (List.mem_of_getElem? hi)
      obtain ⟨z, hz⟩ : ∃ z, ds[i]? = some z := ⟨_, List.getElem?_eq_getElem (by rw [HN.out]; exact hin)⟩
      have HZ := Lib.hid hz
      have HW := Lib.hid (show (ints (wants ds cs t l))[k]? = some (.int .i64 (want cs t z)) by unfold ints; rw [List.getElem?_map, wants_get hi hz]; rfl)
      obtain ⟨bi, oi, eI, hbi, ci0⟩ := rd_cell HA.out (nn_get hi)
      have ci : wr.cell? ⟨bi, oi + k, none⟩ = some (.int .i64 (i : Int)) := (BK.out.cell (p := ⟨bi, oi + k, none⟩) hbi).trans ci0
      clear hi hz ci0 hbi
      subst eI
      obtain ⟨dn, dk, dl, dx, dy, dh, dt, dm⟩ := z
      obtain ⟨bD, oD, eA, hbl, hcell⟩ := (HS.out.1.below BK.out).get (k := i * 8) (by rw [Dd.dls_len, HN.out]; omega)
      obtain ⟨z0, z1, z2, z3, z4, z5, z6, z7⟩ := Dd.dls_get HZ.out
      have c0 := hcell (i * 8) _ z0
      have c1 := hcell (i * 8 + 1) _ z1
      rw [← Nat.add_assoc] at c1
      have c2 := hcell (i * 8 + 2) _ z2
      rw [← Nat.add_assoc] at c2
      have c3 := hcell (i * 8 + 3) _ z3
      rw [← Nat.add_assoc] at c3
      have c4 := hcell (i * 8 + 4) _ z4
      rw [← Nat.add_assoc] at c4
      have c5 := hcell (i * 8 + 5) _ z5
      rw [← Nat.add_assoc] at c5
      have c6 := hcell (i * 8 + 6) _ z6
      rw [← Nat.add_assoc] at c6
      have c7 := hcell (i * 8 + 7) _ z7
      rw [← Nat.add_assoc] at c7
      clear hcell hbl z0 z1 z2 z3 z4 z5 z6 z7
      subst eA
      have b0 := KK.out.cell (i := 0) rfl
      go_upto_region 6 with fail
      have K1 := KK.out.alloc (o := .cells (Dd.ca dn dk dl dx dy dh dt dm) 36)
      have B1 := Lib.hid (BK.out.alloc BK.out.size (.cells (Dd.ca dn dk dl dx dy dh dt dm) 36))
      have RK1 := Lib.hid (RK.out.alloc (.cells (Dd.ca dn dk dl dx dy dh dt dm) 36))
      have b1 := K1.cell (i := 1) rfl
      have d0 : (wr.alloc (.cells (Dd.ca dn dk dl dx dy dh dt dm) 36)).cell? ⟨wr.heap.size, 0, none⟩ = some (.string dn) := by simp [go_sem]
      have d6 : (wr.alloc (.cells (Dd.ca dn dk dl dx dy dh dt dm) 36)).cell? ⟨wr.heap.size, 7, none⟩ = some (.int .i64 dm) := by simp [go_sem]
      have hw1 : w.heap.size + 1 < wr.heap.size := (RK.out.lt _ rfl).2
      have KW1 := Lib.hid K1
      clear c0 c1 c2 c3 c4 c5 c6 c7 b0 RK KK K1
      refine wp_region_noPanic ?_
      refine wp_region_held_drew (S := (fun w' => w'.cell? ⟨w.heap.size, 1, none⟩ = some (.slice A1 n1 c1) ∧ w'.cell? ⟨wr.heap.size, 0, none⟩ = some (.string dn) ∧ w'.cell? ⟨wr.heap.size, 7, none⟩ = some (.int .i64 dm) ∧ Below w.heap.size w w')) (by kernel_rfl) ?_ (fun hH => ?_)
      · exact ⟨b1, d0, d6, B1.out.drew⟩
      refine wpAnyH_take (i := 0) (oi := { dst := some 26, op := _, type := _, pos := _, after := _, guard := _ }) (v := ?_) rfl (by kernel_rfl) (by kernel_rfl) (by kernel_rfl) (fun _ _ _ h => h) (Or.inl ⟨by rfl, ?_⟩) hH ?_
      rotate_left 1
      · intro W hSw
        (try dsimp only at hSw)
        go_simp
        (try with_reducible rfl)
      try simp only [Act.put, List.setIfInBounds_toArray, List.set_cons_zero, List.set_cons_succ]
      refine wpAnyH_take (i := 1) (oi := { dst := some 27, op := _, type := _, pos := _, after := _, guard := _ }) (v := ?_) rfl (by kernel_rfl) (by kernel_rfl) (by kernel_rfl) (fun _ _ _ h => h) (Or.inl ⟨by rfl, ?_⟩) hH ?_
      rotate_left 1
      · intro W hSw
        (try dsimp only at hSw)
        go_simp
        (try with_reducible rfl)
      try simp only [Act.put, List.setIfInBounds_toArray, List.set_cons_zero, List.set_cons_succ]
      refine wpAnyH_take (i := 2) (oi := { dst := some 28, op := _, type := _, pos := _, after := _, guard := _ }) (v := ?_) rfl (by kernel_rfl) (by kernel_rfl) (by kernel_rfl) (fun _ _ _ h => h) (Or.inl ⟨by rfl, ?_⟩) hH ?_
      rotate_left 1
      · intro W hSw
        (try dsimp only at hSw)
        go_simp
        (try with_reducible rfl)
      try simp only [Act.put, List.setIfInBounds_toArray, List.set_cons_zero, List.set_cons_succ]
      refine wpAnyH_take (i := 3) (oi := { dst := some 29, op := _, type := _, pos := _, after := _, guard := _ }) (v := ?_) rfl (by kernel_rfl) (by kernel_rfl) (by kernel_rfl) (fun _ _ _ h => h) (Or.inl ⟨by rfl, ?_⟩) hH ?_
      rotate_left 1
      · intro W hSw
        (try dsimp only at hSw)
        go_simp
        (try with_reducible rfl)
      try simp only [Act.put, List.setIfInBounds_toArray, List.set_cons_zero, List.set_cons_succ]
      refine wpAnyH_take (i := 4) (oi := { dst := some 30, op := _, type := _, pos := _, after := _, guard := _ }) (v := ?_) rfl (by kernel_rfl) (by kernel_rfl) (by kernel_rfl) (fun _ _ _ h => h) (Or.inl ⟨by rfl, ?_⟩) hH ?_
      rotate_left 1
      · intro W hSw
        (try dsimp only at hSw)
        go_simp
        (try with_reducible rfl)
      try simp only [Act.put, List.setIfInBounds_toArray, List.set_cons_zero, List.set_cons_succ]
      refine wpAnyH_take (i := 5) (oi := { dst := some 31, op := _, type := _, pos := _, after := _, guard := _ }) (v := ?_) rfl (by kernel_rfl) (by kernel_rfl) (by kernel_rfl) (fun _ _ _ h => h) (Or.inl ⟨by rfl, ?_⟩) hH ?_
      rotate_left 1
      · intro W hSw
        (try dsimp only at hSw)
        go_simp
        (try with_reducible rfl)
      try simp only [Act.put, List.setIfInBounds_toArray, List.set_cons_zero, List.set_cons_succ]
      refine wpAnyH_take (i := 6) (oi := { dst := some 32, op := _, type := _, pos := _, after := _, guard := _ }) (v := ?_) rfl (by kernel_rfl) (by kernel_rfl) (by kernel_rfl) (fun _ _ _ h => h) (Or.inl ⟨by rfl, ?_⟩) hH ?_
      rotate_left 1
      · intro W hSw
        (try dsimp only at hSw)
        go_simp
        (try with_reducible rfl)
      try simp only [Act.put, List.setIfInBounds_toArray, List.set_cons_zero, List.set_cons_succ]
      refine wpAnyH_take (i := 8) (oi := { dst := some 34, op := _, type := _, pos := _, after := _, guard := _ }) (v := ?_) rfl (by kernel_rfl) (by kernel_rfl) (by kernel_rfl) (fun _ _ _ h => h) (Or.inl ⟨by rfl, ?_⟩) hH ?_
      rotate_left 1
      · intro W hSw
        (try dsimp only at hSw)
        go_simp
        (try with_reducible rfl)
      try simp only [Act.put, List.setIfInBounds_toArray, List.set_cons_zero, List.set_cons_succ]
      refine wpAnyH_take (i := 9) (oi := { dst := some 35, op := _, type := _, pos := _, after := _, guard := _ }) (v := ?_) rfl (by kernel_rfl) (by kernel_rfl) (by kernel_rfl) (fun _ _ _ h => h) (Or.inl ⟨by rfl, ?_⟩) hH ?_
      rotate_left 1
      · intro W hSw
        (try dsimp only at hSw)
        go_simp
        (try with_reducible rfl)
      try simp only [Act.put, List.setIfInBounds_toArray, List.set_cons_zero, List.set_cons_succ]
      refine wpAnyH_ready (rs := [7]) (by kernel_rfl) (by simp) (AllReadyH.cons rfl (fun K hK => ?_) AllReadyH.nil)
      go_simp
      go_at_call 10; ((with_reducible refine (CL.out _ _ (HS.out.below B1.out.drew).r1).mono ?_); rintro e r1 ⟨rfl, hb1⟩); have R1 := owns_below RK1.out.drew hb1; have e1 : r1.cell? ⟨w.heap.size + 1, k, none⟩ = some (.int .i64 0) := (R1.cellAt k (by omega)).trans (filled_get (by have := HL.out; omega)); have f1 := R1.frozenAt k; go_wp2_with fail
      refine hK.out _ _ ?_ (fun hG => ?_)
      · exact ⟨cell_below hb1 hH.1, cell_below hb1 hH.2.1, cell_below hb1 hH.2.2.1, hH.2.2.2.trans (hb1.mono hH.2.2.2.size)⟩
      replace hH := hG
      clear hK K hG
      try simp only [Act.put, List.setIfInBounds_toArray, List.set_cons_zero, List.set_cons_succ]
      refine wpAnyH_take (i := 10) (oi := { dst := some 36, op := _, type := _, pos := _, after := _, guard := _ }) (v := ?_) rfl (by kernel_rfl) (by kernel_rfl) (by kernel_rfl) (fun _ _ _ h => h) (Or.inl ⟨by rfl, ?_⟩) hH ?_
      rotate_left 1
      · intro W hSw
        (try dsimp only at hSw)
        go_simp
        (try with_reducible rfl)
      try simp only [Act.put, List.setIfInBounds_toArray, List.set_cons_zero, List.set_cons_succ]
      refine wpAnyH_take (i := 11) (oi := { dst := some 37, op := _, type := _, pos := _, after := _, guard := _ }) (v := ?_) rfl (by kernel_rfl) (by kernel_rfl) (by kernel_rfl) (fun _ _ _ h => h) (Or.inl ⟨by rfl, ?_⟩) hH ?_
      rotate_left 1
      · intro W hSw
        (try dsimp only at hSw)
        go_simp
        (try with_reducible rfl)
      try simp only [Act.put, List.setIfInBounds_toArray, List.set_cons_zero, List.set_cons_succ]
      refine wpAnyH_ready (rs := [12]) (by kernel_rfl) (by simp) (AllReadyH.cons rfl (fun K hK => ?_) AllReadyH.nil)
      go_simp
      refine hK.out _ _ ?_ (fun hG => ?_)
      · exact ⟨(World.cell?_setCell_far _ _ _ _ (by show w.heap.size + 1 ≠ w.heap.size; omega)).trans hH.1, (World.cell?_setCell_far _ _ _ _ (by show w.heap.size + 1 ≠ wr.heap.size; omega)).trans hH.2.1, (World.cell?_setCell_far _ _ _ _ (by show w.heap.size + 1 ≠ wr.heap.size; omega)).trans hH.2.2.1, hH.2.2.2.grown (Bk.setG _ _ _ _) hH.2.2.2.size (fun j hj => by cases hj; omega)⟩
      replace hH := hG
      clear hK K hG
      try simp only [Act.put, List.setIfInBounds_toArray, List.set_cons_zero, List.set_cons_succ]
      refine wpAnyH_done (by kernel_rfl) ?_ _
      refine NoPanic.normal ?_
      have ZW := filled_put (z := .int .i64 0) HW.out
      obtain ⟨r2, g2⟩ := R1.stored k (.int .i64 (want cs t ⟨dn, dk, dl, dx, dy, dh, dt, dm⟩))
      rw [ZW] at r2
      have RR := Lib.hid r2
      have KN := Lib.hid ((KW1.out.drew.below hb1).grown g2 (by intro e; injection e with e; omega))
      have BB := Lib.hid hH.2.2.2
      clear hH hb1 R1 e1 f1 g2 r2 ZW RK1 KW1 B1 b1 d0 d6 R0 KW BW
      go_wp2_with fail
      go_roundw
      case rel => exact ⟨k + 1, by omega, by go_num, RR, KN, BB⟩
      case measure => simp [intOf]; omega
    · obtain rfl : k = q9 := by omega
      have OF := Lib.hid (show wr.ownsRow w.heap.size 3 1 (.slice (some ⟨w.heap.size + 1, 0, none⟩) k k) k (ints (wants ds cs t l)) by
        have := RK.out
        rw [show filled (ints (wants ds cs t l)) (.int .i64 0) k = ints (wants ds cs t l) by rw [← HL.out]; exact filled_all _ _] at this
        exact this)
      have HM := Lib.hid (show (wants ds cs t l).length = k by rw [wants_len]; exact HQ.out)
      clear RK KK R0 KW BW
      go_wp2_with fail
      go_ret
      exact row_of HM.out OF.out BK.out
end Go.Proofs.YtokncfhpmjohdabGreat.Lf9
namespace Go.Proofs.YtokncfhpmjohdabGreat.Li9
open Go.RowKit Go.ChangeShapes Go.WideShapes Go.WideElems Go.Deep Go.Proofs.YtokncfhpmjohdabGreat.Mem Go.Proofs.YtokncfhpmjohdabGreat.Rw Go.Proofs.YtokncfhpmjohdabGreat.P2 Go.Proofs.YtokncfhpmjohdabGreat.Bk Go.Proofs.YtokncfhpmjohdabGreat.Sp Go.Proofs.YtokncfhpmjohdabGreat.Sq Go.Proofs.YtokncfhpmjohdabGreat.Jt
open Go.Proofs.YtokncfhpmjohdabGreat.Sv hiding D C G
open Go.Proofs.YtokncfhpmjohdabGreat.Wp (RowI infoI own_mk own_base rd_cell ints_snoc row_nil)
open Go.Proofs.YtokncfhpmjohdabGreat.Ds (sb)
open Go.Proofs.YtokncfhpmjohdabGreat.Ig (rig)
open Go.Proofs.YtokncfhpmjohdabGreat.Dm (share)
open Go.Proofs.YtokncfhpmjohdabGreat.Ld (levV)
open Go.Proofs.YtokncfhpmjohdabGreat.Lf9
set_option linter.unusedVariables false
set_option linter.unusedSimpArgs false

set_option maxRecDepth 100000 in
set_option maxHeartbeats 4000000 in
theorem liftsAt (A0 : Option Addr) (n0 c0 : Nat) (A1 : Option Addr) (n1 c1 : Nat) (A2 : Option Addr) (n2 c2 : Nat) (T : Int) (ds : List D) (cs : List C) (gs : List G) (t : Int) (w : World)
    (hf : Fit n0 n1 n2 ds cs gs) (hr : SR w A0 A1 A2 ds cs gs) (hrig : rig ds = true) (hT : 0 ≤ T ∧ T ≤ 64) (wt : (Lit.int .i64 t).wf = true) :
    Calls Tryz.prog 28 #[sv A0 n0 c0 A1 n1 c1 A2 n2 c2 T, .int .i64 t] w (RowI w (lifts ds cs T t)) := by
  obtain ⟨⟨hn0, hb0⟩, ⟨hn1, hb1⟩, hn2, hb2⟩ := hf
  obtain ⟨i0, hi, hz0, hz1, hz2⟩ := info_parts infoI
  have hu : undef = Value.tuple #[] := rfl
  have HF := Lib.hid (show Fit n0 n1 n2 ds cs gs from ⟨⟨hn0, hb0⟩, ⟨hn1, hb1⟩, hn2, hb2⟩)
  have HS := Lib.hid hr
  have HN := Lib.hid hn0
  have HG := Lib.hid hrig
  have CN := Lib.hid (fun (s : ByteArray) (m : Nat) (hm : (hang s ds 0).length = m) (W : World) (h : Rd W W.heap.size A0 (Dd.dls ds)) => (by have := nozzlesOn A0 n0 c0 ds s W hn0 hb0 h; unfold RowI at this; rw [nn_len, hm] at this; exact this :
    Calls Tryz.prog 65 #[.slice A0 n0 c0, .string s] W (fun e w' => ∃ g c, e = .returned (.slice (some ⟨g, 0, none⟩) m c) ∧ w'.ownsRow W.heap.size 3 1 (.slice (some ⟨g, 0, none⟩) m c) m (ints (nn (hang s ds 0))) ∧ Below W.heap.size W w')))
  have CD0 := Lib.hid (fun (s : ByteArray) (m : Nat) (hm : (hang s ds 0).length = m) (hmb : m ≤ 1048576) (g c : Nat) (W : World) (h : SR W A0 A1 A2 ds cs gs) (ha : Rd W W.heap.size (some ⟨g, 0, none⟩) (ints (nn (hang s ds 0)))) => (by
    have := demandsAt A0 n0 c0 A1 n1 c1 A2 n2 c2 T ds cs gs (some ⟨g, 0, none⟩) m c (hang s ds 0) t W HF.out h hm hmb ha (fun i hi => by obtain ⟨d, hd, _⟩ := hang_lt hi; rw [← HN.out]; exact (List.getElem?_eq_some_iff.1 hd).1) wt
    unfold RowI at this; rw [wants_len, hm] at this; exact this :
    Calls Tryz.prog 67 #[sv A0 n0 c0 A1 n1 c1 A2 n2 c2 T, .slice (some ⟨g, 0, none⟩) m c, .int .i64 t] W (fun e w' => ∃ g c, e = .returned (.slice (some ⟨g, 0, none⟩) m c) ∧ w'.ownsRow W.heap.size 3 1 (.slice (some ⟨g, 0, none⟩) m c) m (ints (wants ds cs t (hang s ds 0))) ∧ Below W.heap.size W w')))
  have CX0 := Lib.hid (fun (s : ByteArray) (p m : Nat) (ms : Int) (hm : (hang s ds 0).length = m) (hmb : m ≤ 1048576) (hp : (share ms (wants ds cs t (hang s ds 0))).length = p) (g c : Nat) (W : World) (h : Rd W W.heap.size (some ⟨g, 0, none⟩) (ints (wants ds cs t (hang s ds 0)))) => (by
    have := Wu.shareI (some ⟨g, 0, none⟩) m c (wants ds cs t (hang s ds 0)) ms W (by rw [wants_len, hm]) hmb h; unfold RowI at this; rw [hp] at this; exact this :
    Calls Tryz.prog 66 #[.int .i64 ms, .slice (some ⟨g, 0, none⟩) m c] W (fun e w' => ∃ g c, e = .returned (.slice (some ⟨g, 0, none⟩) p c) ∧ w'.ownsRow W.heap.size 3 1 (.slice (some ⟨g, 0, none⟩) p c) p (ints (share ms (wants ds cs t (hang s ds 0)))) ∧ Below W.heap.size W w')))
  have K0 := Bk.new w (sc A0 n0 c0 A1 n1 c1 A2 n2 c2 T) 28
  have B0 := (Below.refl w.heap.size w).alloc (Nat.le_refl _) (.cells (sc A0 n0 c0 A1 n1 c1 A2 n2 c2 T) 28)
  have hz : (w.alloc (.cells (sc A0 n0 c0 A1 n1 c1 A2 n2 c2 T) 28)).heap.size = w.heap.size + 1 := by simp [go_sem]
  obtain ⟨r, hrr⟩ : ∃ r, iw t 0 (T - 1) = r := ⟨_, rfl⟩
  have CI := Lib.hid (isWithin_of hrr)
  have HI := Lib.hid hrr
  clear hr hn0 hrig wt hrr hn1 hn2
  go_enter Tryz.func28, Tryz.ntmps28
  go_wp2_with (at_make; refine wpList_make_full _ rfl _ _ 31 rfl w.heap.size 3 i0 (.int .i64 0) 1 Tryz.underlying31 hi hz0 hz1 .i64 .i64 n0 n0 n0 rfl rfl rfl rfl (by rw [hz2]; omega) (by unfold maxLen; omega) (by rw [hz]; omega) ?_)
  intro w1 hown hgrow
  clear hi hz0 hz1 hz2
  try rw [hz] at hown
  have R0 := Lib.hid (show w1.ownsRow w.heap.size 3 1 (.slice (some ⟨w.heap.size + 1, 0, none⟩) n0 n0) n0 (ints (List.replicate ds.length 0)) by
    rw [HN.out, show ints (List.replicate n0 0) = List.replicate n0 (.int .i64 0) by simp [ints], ← toList_madeCells_one]; first | exact hown | (rw [Nat.mul_one] at hown; exact hown))
  have BW := Lib.hid (show Below w.heap.size w w1 from B0.grown hgrow B0.size (fun k hk => by cases hk))
  have KW := Lib.hid (K0.grown hgrow (by intro e; cases e))
  have y3 := KW.out.cell (i := 3) rfl
  have y0 := KW.out.cell (i := 0) rfl
  have hT1 : wrap64 (T - 1) = T - 1 := IntWalk.wrap64_in _ (by omega)
  clear hown hgrow K0 B0 hz
  go_wp2_with fail
  refine (CI.out _).mono ?_
  rintro e u0 ⟨rfl, rfl⟩
  cases r
  · have HO := Lib.hid (show lifts ds cs T t = List.replicate ds.length 0 from lifts_out (fun c => by have := HI.out; rw [iw_yes ⟨c.1, by omega⟩] at this; cases this))
    have HM := Lib.hid (show (lifts ds cs T t).length = n0 by rw [lifts_len]; exact HN.out)
    have OF := Lib.hid (show w1.ownsRow w.heap.size 3 1 (.slice (some ⟨w.heap.size + 1, 0, none⟩) n0 n0) n0 (ints (lifts ds cs T t)) by rw [HO.out]; exact R0.out)
    clear KW R0
    go_wp2_with fail
    go_ret
    exact row_of HM.out OF.out BW.out
  have HO := Lib.hid (show lifts ds cs T t = liftK ds cs t ds.length from lifts_in (by have := iw_iff.1 HI.out; omega))
  have R1 := Lib.hid (show w1.ownsRow w.heap.size 3 1 (.slice (some ⟨w.heap.size + 1, 0, none⟩) n0 n0) n0 (ints (liftK ds cs t 0)) by rw [liftK_zero]; exact R0.out)
  clear R0 HI CI hT1
  go_wp2_with fail
  go_loopw [25] (fun i wr => ∃ k : Nat, k ≤ n0 ∧ i = .int .i64 k ∧ Hid (wr.ownsRow w.heap.size 3 1 (.slice (some ⟨w.heap.size + 1, 0, none⟩) n0 n0) n0 (ints (liftK ds cs t k))) ∧ Hid (Bk wr w.heap.size (sc A0 n0 c0 A1 n1 c1 A2 n2 c2 T) 28) ∧ Hid (Below w.heap.size w wr)) (fun i _ => n0 - (intOf i).toNat)
  case atStart => exact ⟨0, Nat.zero_le _, rfl, R1, KW, BW⟩
  case round =>
    obtain ⟨k, hk, rfl, RK, KK, BK⟩ := hrel
    clear y0 y3 R1 KW BW
    by_cases hlt : k < n0
    · obtain ⟨z, hz⟩ : ∃ z, ds[k]? = some z := ⟨_, List.getElem?_eq_getElem (by rw [HN.out]; exact hlt)⟩
      have HZ := Lib.hid hz
      have HT := Lib.hid (liftK_succ (cs := cs) (t := t) hz)
      clear hz
      obtain ⟨dn, dk, dl, dx, dy, dh, dt, dm⟩ := z
      obtain ⟨bD, oD, eA, hbl, hcell⟩ := (HS.out.1.below BK.out).get (k := k * 8) (by rw [Dd.dls_len, HN.out]; omega)
      obtain ⟨z0, z1, z2, z3, z4, z5, z6, z7⟩ := Dd.dls_get HZ.out
      have c0 := hcell (k * 8) _ z0
      have c1 := hcell (k * 8 + 1) _ z1
      rw [← Nat.add_assoc] at c1
      have c2 := hcell (k * 8 + 2) _ z2
      rw [← Nat.add_assoc] at c2
      have c3 := hcell (k * 8 + 3) _ z3
      rw [← Nat.add_assoc] at c3
      have c4 := hcell (k * 8 + 4) _ z4
      rw [← Nat.add_assoc] at c4
      have c5 := hcell (k * 8 + 5) _ z5
      rw [← Nat.add_assoc] at c5
      have c6 := hcell (k * 8 + 6) _ z6
      rw [← Nat.add_assoc] at c6
      have c7 := hcell (k * 8 + 7) _ z7
      rw [← Nat.add_assoc] at c7
      clear hcell hbl z0 z1 z2 z3 z4 z5 z6 z7
      subst eA
      have K1 := Lib.hid (KK.out.alloc (o := .cells (Dd.ca dn dk dl dx dy dh dt dm) 36))
      have B1 := Lib.hid (BK.out.alloc BK.out.size (.cells (Dd.ca dn dk dl dx dy dh dt dm) 36))
      have RK1 := Lib.hid (RK.out.alloc (.cells (Dd.ca dn dk dl dx dy dh dt dm) 36))
      have hw1 : w.heap.size + 1 < wr.heap.size := (RK.out.lt _ rfl).2
      by_cases hk1 : dk = 1
      · subst hk1
        have HSt := Lib.hid (HT.out.trans (if_pos rfl))
        obtain ⟨m, hm⟩ : ∃ m, (hang dn ds 0).length = m := ⟨_, rfl⟩
        have hmb : m ≤ 1048576 := by have := hang_len dn ds 0; have := HN.out; omega
        have hsh := share_size (cs := cs) (t := t) HG.out (List.mem_of_getElem? HZ.out) rfl
        have CNm := Lib.hid (CN.out dn m hm)
        have CD := Lib.hid (CD0.out dn m hm hmb)
        have CX := Lib.hid (CX0.out dn m m dm hm hmb (hsh.trans hm))
        have HM := Lib.hid hm
        have HSH := Lib.hid (hsh.trans hm)
        clear hm hsh HT CN CD0 CX0
        have b0 := KK.out.cell (i := 0) rfl
        have hw2 : w.heap.size < wr.heap.size := by omega
        clear KK RK
        go_wp2_with fail
        refine (CNm.out _ (HS.out.below B1.out).r0).mono ?_
        rintro e u1 ⟨g1, cc1, rfl, o1, hb1⟩
        have KU := Lib.hid (K1.out.below hb1)
        have RU := Lib.hid (owns_below RK1.out hb1)
        have BU := Lib.hid (B1.out.trans (hb1.mono B1.out.size))
        have b0 := KU.out.cell (i := 0) rfl
        have b1 := KU.out.cell (i := 1) rfl
        have b2 := KU.out.cell (i := 2) rfl
        have b3 := KU.out.cell (i := 3) rfl
        have d7 : u1.cell? ⟨wr.heap.size, 7, none⟩ = some (.int .i64 dm) := (hb1.cell (p := ⟨wr.heap.size, 7, none⟩) (by simp)).trans (by simp [go_sem])
        have l1 : wr.heap.size ≤ g1 := by have := (o1.lt _ rfl).1; simp at this; omega
        have hu1 : wr.heap.size + 1 ≤ u1.heap.size := by have := hb1.size; simp at this; omega
        clear c0 c1 c2 c3 c4 c5 c6 c7 K1 B1 RK1 hb1 CNm
        go_upto_region 9 with fail
        refine wp_region_noPanic ?_
        refine wp_region_held_drew (S := (fun w' => w'.cell? ⟨w.heap.size, 0, none⟩ = some (.slice (some ⟨bD, oD, none⟩) n0 c0) ∧ w'.cell? ⟨w.heap.size, 1, none⟩ = some (.slice A1 n1 c1) ∧ w'.cell? ⟨w.heap.size, 2, none⟩ = some (.slice A2 n2 c2) ∧ w'.cell? ⟨w.heap.size, 3, none⟩ = some (.int .i64 T) ∧ w'.cell? ⟨wr.heap.size, 7, none⟩ = some (.int .i64 dm) ∧ Below u1.heap.size u1 w')) (by kernel_rfl) ?_ (fun hH => ?_)
        · exact ⟨b0, b1, b2, b3, d7, (Below.refl _ _).drew⟩
        refine wpAnyH_take (i := 0) (oi := { dst := some 37, op := _, type := _, pos := _, after := _, guard := _ }) (v := ?_) rfl (by kernel_rfl) (by kernel_rfl) (by kernel_rfl) (fun _ _ _ h => h) (Or.inl ⟨by rfl, ?_⟩) hH ?_
        rotate_left 1
        · intro W hSw
          (try dsimp only at hSw)
          go_simp
          (try with_reducible rfl)
        try simp only [Act.put, List.setIfInBounds_toArray, List.set_cons_zero, List.set_cons_succ]
        refine wpAnyH_take (i := 1) (oi := { dst := some 38, op := _, type := _, pos := _, after := _, guard := _ }) (v := ?_) rfl (by kernel_rfl) (by kernel_rfl) (by kernel_rfl) (fun _ _ _ h => h) (Or.inl ⟨by rfl, ?_⟩) hH ?_
        rotate_left 1
        · intro W hSw
          (try dsimp only at hSw)
          go_simp
          (try with_reducible rfl)
        try simp only [Act.put, List.setIfInBounds_toArray, List.set_cons_zero, List.set_cons_succ]
        refine wpAnyH_take (i := 2) (oi := { dst := some 39, op := _, type := _, pos := _, after := _, guard := _ }) (v := ?_) rfl (by kernel_rfl) (by kernel_rfl) (by kernel_rfl) (fun _ _ _ h => h) (Or.inl ⟨by rfl, ?_⟩) hH ?_
        rotate_left 1
        · intro W hSw
          (try dsimp only at hSw)
          go_simp
          (try with_reducible rfl)
        try simp only [Act.put, List.setIfInBounds_toArray, List.set_cons_zero, List.set_cons_succ]
        refine wpAnyH_take (i := 3) (oi := { dst := some 40, op := _, type := _, pos := _, after := _, guard := _ }) (v := ?_) rfl (by kernel_rfl) (by kernel_rfl) (by kernel_rfl) (fun _ _ _ h => h) (Or.inl ⟨by rfl, ?_⟩) hH ?_
        rotate_left 1
        · intro W hSw
          (try dsimp only at hSw)
          go_simp
          (try with_reducible rfl)
        try simp only [Act.put, List.setIfInBounds_toArray, List.set_cons_zero, List.set_cons_succ]
        refine wpAnyH_take (i := 4) (oi := { dst := some 41, op := _, type := _, pos := _, after := _, guard := _ }) (v := ?_) rfl (by kernel_rfl) (by kernel_rfl) (by kernel_rfl) (fun _ _ _ h => h) (Or.inl ⟨by rfl, ?_⟩) hH ?_
        rotate_left 1
        · intro W hSw
          (try dsimp only at hSw)
          go_simp
          (try with_reducible rfl)
        try simp only [Act.put, List.setIfInBounds_toArray, List.set_cons_zero, List.set_cons_succ]
        refine wpAnyH_take (i := 8) (oi := { dst := some 45, op := _, type := _, pos := _, after := _, guard := _ }) (v := ?_) rfl (by kernel_rfl) (by kernel_rfl) (by kernel_rfl) (fun _ _ _ h => h) (Or.inl ⟨by rfl, ?_⟩) hH ?_
        rotate_left 1
        · intro W hSw
          (try dsimp only at hSw)
          go_simp
          (try with_reducible rfl)
        try simp only [Act.put, List.setIfInBounds_toArray, List.set_cons_zero, List.set_cons_succ]
        refine wpAnyH_ready (rs := [5]) (by kernel_rfl) (by simp) (AllReadyH.cons rfl (fun K hK => ?_) AllReadyH.nil)
        go_simp
        go_at_call 67; ((with_reducible refine (CD.out g1 cc1 _ (HS.out.below (BU.out.trans (hH.2.2.2.2.2.mono BU.out.size))) (Rd.own (owns_below o1 hH.2.2.2.2.2))).mono ?_); rintro e r1 ⟨g2, cc2, rfl, o2, hb2⟩); go_wp2_with fail
        refine hK.out _ _ ?_ (fun hG => ?_)
        · exact ⟨cell_below hb2 hH.1, cell_below hb2 hH.2.1, cell_below hb2 hH.2.2.1, cell_below hb2 hH.2.2.2.1, cell_below hb2 hH.2.2.2.2.1, hH.2.2.2.2.2.trans (hb2.mono hH.2.2.2.2.2.size)⟩
        replace hH := hG
        clear hK K hG
        try simp only [Act.put, List.setIfInBounds_toArray, List.set_cons_zero, List.set_cons_succ]
        refine wpAnyH_ready (rs := [6]) (by kernel_rfl) (by simp) (AllReadyH.cons rfl (fun K hK => ?_) AllReadyH.nil)
        go_simp
        go_at_call 66; ((with_reducible refine (CX.out g2 cc2 _ (Rd.own o2)).mono ?_); rintro e r2 ⟨g3, cc3, rfl, o3, hb3⟩); go_wp2_with fail
        refine hK.out _ _ ?_ (fun hG => ?_)
        · exact ⟨cell_below hb3 hH.1, cell_below hb3 hH.2.1, cell_below hb3 hH.2.2.1, cell_below hb3 hH.2.2.2.1, cell_below hb3 hH.2.2.2.2.1, hH.2.2.2.2.2.trans (hb3.mono hH.2.2.2.2.2.size)⟩
        replace hH := hG
        clear hK K hG
        try simp only [Act.put, List.setIfInBounds_toArray, List.set_cons_zero, List.set_cons_succ]
        refine wpAnyH_take (i := 7) (oi := { dst := some 44, op := _, type := _, pos := _, after := _, guard := _ }) (v := ?_) rfl (by kernel_rfl) (by kernel_rfl) (by kernel_rfl) (fun _ _ _ h => h) (Or.inl ⟨by rfl, ?_⟩) hH ?_
        rotate_left 1
        · intro W hSw
          (try dsimp only at hSw)
          go_simp
          (try with_reducible rfl)
        try simp only [Act.put, List.setIfInBounds_toArray, List.set_cons_zero, List.set_cons_succ]
        refine wpAnyH_done (by kernel_rfl) ?_ _
        refine NoPanic.normal ?_
        have hB := hH.2.2.2.2.2
        have RU2 := Lib.hid (owns_below RU.out hB)
        have N2 := Lib.hid (owns_base (owns_below o1 hB) l1)
        have l3 : wr.heap.size ≤ g3 := by have h8 : r1.heap.size ≤ g3 := (o3.lt _ rfl).1; have h9 : u1.heap.size ≤ r1.heap.size := hb2.size; omega
        have X2 := Lib.hid (owns_base o3 l3)
        have KU2 := Lib.hid (KU.out.below hB)
        have BU2 := Lib.hid (BU.out.trans (hB.mono BU.out.size))
        have hu2 : wr.heap.size + 1 ≤ r2.heap.size := Nat.le_trans hu1 hB.size
        obtain ⟨P, hP⟩ : ∃ P, liftK ds cs t k = P := ⟨_, rfl⟩
        have HPL := Lib.hid (show P.length = n0 by rw [← hP, liftK_len]; exact HN.out)
        rw [hP] at RU2 HSt
        obtain ⟨L, hL⟩ : ∃ L, hang dn ds 0 = L := ⟨_, rfl⟩
        have HLI := Lib.hid (show ∀ i ∈ L, i < n0 from fun i hi => by rw [← hL] at hi; obtain ⟨d, hd, _⟩ := hang_lt hi; rw [← HN.out]; exact (List.getElem?_eq_some_iff.1 hd).1)
        obtain ⟨X, hX⟩ : ∃ X, share dm (wants ds cs t (hang dn ds 0)) = X := ⟨_, rfl⟩
        rw [hX] at HSt X2 HSH
        rw [hL] at HSt N2 HM
        have R3 := Lib.hid (show r2.ownsRow w.heap.size 3 1 (.slice (some ⟨w.heap.size + 1, 0, none⟩) n0 n0) n0 (ints (put P (L.take 0) (X.take 0))) by rw [List.take_zero, put_nil]; exact RU2.out)
        clear hH hB hb2 hb3 o1 o2 o3 b0 b1 b2 b3 d7 KU RU BU CD CX hP hL hX RU2
        go_wp2_with fail
        obtain ⟨wo, rfl⟩ : ∃ wo, wo = wr := ⟨_, rfl⟩
        go_loopw [45] (fun i wr => ∃ j : Nat, j ≤ m ∧ i = .int .i64 j ∧ Hid (wr.ownsRow w.heap.size 3 1 (.slice (some ⟨w.heap.size + 1, 0, none⟩) n0 n0) n0 (ints (put P (L.take j) (X.take j)))) ∧ Hid (wr.ownsRow wo.heap.size 3 1 (.slice (some ⟨g1, 0, none⟩) m cc1) m (ints (nn L))) ∧ Hid (wr.ownsRow wo.heap.size 3 1 (.slice (some ⟨g3, 0, none⟩) m cc3) m (ints X)) ∧ Hid (Bk wr w.heap.size (sc (some ⟨bD, oD, none⟩) n0 c0 A1 n1 c1 A2 n2 c2 T) 28) ∧ Hid (Below w.heap.size w wr)) (fun i _ => m - (intOf i).toNat)
        case atStart => exact ⟨0, Nat.zero_le _, rfl, R3, N2, X2, KU2, BU2⟩
        case round =>
          obtain ⟨j, hj, rfl, RJ, NJ, XJ, KJ, BJ⟩ := hrel
          clear R3 N2 X2 KU2 BU2
          by_cases hlj : j < m
          · obtain ⟨i, hi⟩ : ∃ i, L[j]? = some i := ⟨_, List.getElem?_eq_getElem (by rw [HM.out]; exact hlj)⟩
            obtain ⟨x, hx⟩ : ∃ x, X[j]? = some x := ⟨_, List.getElem?_eq_getElem (by rw [HSH.out]; exact hlj)⟩
            have hin := HLI.out i (List.mem_of_getElem? hi)
            obtain ⟨y, hy⟩ : ∃ y, (put P (L.take j) (X.take j))[i]? = some y := ⟨_, List.getElem?_eq_getElem (by rw [put_len, HPL.out]; exact hin)⟩
            have cN : wr.cell? ⟨g1, j, none⟩ = some (.int .i64 (i : Int)) := (NJ.out.cellAt j (by omega)).trans (by unfold ints; rw [List.getElem?_map, nn_get hi]; rfl)
            have cX : wr.cell? ⟨g3, j, none⟩ = some (.int .i64 x) := (XJ.out.cellAt j (by omega)).trans (by unfold ints; rw [List.getElem?_map, hx]; rfl)
            have cO : wr.cell? ⟨w.heap.size + 1, i, none⟩ = some (.int .i64 y) := (RJ.out.cellAt i (by omega)).trans (by unfold ints; rw [List.getElem?_map, hy]; rfl)
            have fO := RJ.out.frozenAt i
            obtain ⟨q1, q2⟩ := RJ.out.stored i (.int .i64 x)
            rw [show (ints (put P (L.take j) (X.take j))).set i (.int .i64 x) = ints ((put P (L.take j) (X.take j)).set i x) by simp [ints, List.map_set], ← put_take hi hx] at q1
            have RR := Lib.hid q1
            have n1' : wo.heap.size ≤ g1 := (NJ.out.lt _ rfl).1
            have n3' : wo.heap.size ≤ g3 := (XJ.out.lt _ rfl).1
            have NN := Lib.hid (owns_grown NJ.out q2 (by intro z9 e9 e8; have e9 : g1 = z9 := Option.some.inj e9; have e8 : w.heap.size + 1 = z9 := Option.some.inj e8; omega))
            have XX := Lib.hid (owns_grown XJ.out q2 (by intro z9 e9 e8; have e9 : g3 = z9 := Option.some.inj e9; have e8 : w.heap.size + 1 = z9 := Option.some.inj e8; omega))
            have KN := Lib.hid (KJ.out.grown q2 (by intro e; have e := Option.some.inj e; omega))
            have BB := Lib.hid (BJ.out.grown q2 BJ.out.size (fun z9 e9 => by have e9 : w.heap.size + 1 = z9 := Option.some.inj e9; omega))
            clear q1 q2 RJ NJ XJ KJ BJ hi hx hy
            go_wp2_with fail
            go_roundw
            case rel => exact ⟨j + 1, by omega, by go_num, RR, NN, XX, KN, BB⟩
            case measure => simp [intOf]; omega
          · obtain rfl : j = m := by omega
            have RR := Lib.hid (show wr.ownsRow w.heap.size 3 1 (.slice (some ⟨w.heap.size + 1, 0, none⟩) n0 n0) n0 (ints (liftK ds cs t (k + 1))) by
              rw [HSt.out]; have := RJ.out
              rw [show L.take j = L by rw [← HM.out, List.take_length], show X.take j = X by rw [← HSH.out, List.take_length]] at this; exact this)
            clear RJ NJ XJ
            go_wp2_with fail
            go_roundw
            case rel => exact ⟨k + 1, by omega, by go_num, RR, KJ, BJ⟩
            case measure => simp [intOf]; omega
      · have HSt := Lib.hid (HT.out.trans (if_neg hk1))
        have RR := Lib.hid (show (wr.alloc (.cells (Dd.ca dn dk dl dx dy dh dt dm) 36)).ownsRow w.heap.size 3 1 (.slice (some ⟨w.heap.size + 1, 0, none⟩) n0 n0) n0 (ints (liftK ds cs t (k + 1))) by rw [HSt.out]; exact RK1.out)
        clear HT HSt RK KK RK1 CN CD0 CX0
        go_wp2_with fail
        go_roundw
        case rel => exact ⟨k + 1, by omega, by go_num, RR, K1, B1⟩
        case measure => simp [intOf]; omega
    · obtain rfl : k = n0 := by omega
      have OF := Lib.hid (show wr.ownsRow w.heap.size 3 1 (.slice (some ⟨w.heap.size + 1, 0, none⟩) k k) k (ints (lifts ds cs T t)) by rw [HO.out, HN.out]; exact RK.out)
      have HM := Lib.hid (show (lifts ds cs T t).length = k by rw [lifts_len]; exact HN.out)
      clear RK KK CN CD0 CX0
      go_wp2_with fail
      go_ret
      exact row_of HM.out OF.out BK.out
end Go.Proofs.YtokncfhpmjohdabGreat.Li9
