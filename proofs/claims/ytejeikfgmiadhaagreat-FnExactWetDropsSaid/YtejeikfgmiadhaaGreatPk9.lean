/- The marks that the laws lay into a list of drops, and how they find them again. -/
import Derived.Test.YtejeikfgmiadhaaGreatPl9
import Derived.Test.YtejeikfgmiadhaaGreatM6
namespace Go.Proofs.YtejeikfgmiadhaaGreat.Pk9
open Go.RowKit Go.ChangeShapes Go.WideShapes Go.WideElems Go.Deep Go.Proofs.YtejeikfgmiadhaaGreat.Mem Go.Proofs.YtejeikfgmiadhaaGreat.Rw Go.Proofs.YtejeikfgmiadhaaGreat.Pl9
open Go.Proofs.YtejeikfgmiadhaaGreat.Pd9 (P)
open Go.Proofs.YtejeikfgmiadhaaGreat.Mark (M markText)
open Go.Proofs.YtejeikfgmiadhaaGreat.Rw (owns_below)
open Go.Proofs.YtejeikfgmiadhaaGreat.P2 (cell_below)
set_option linter.unusedVariables false
set_option linter.unusedSimpArgs false

/-- A drop of marks from q on. -/
def mkq (q : Nat) : P := ⟨M q, (q : Int) + 1, (q : Int) + 1 + 1, (q : Int) + 1 + 1 + 1, (q : Int) + 1 + 1 + 1 + 1⟩
/-- n drops of marks from k on. -/
def mkd (k n : Nat) : List P := (List.range n).map fun j => mkq (k + j * 5)
theorem mkd_len (k n : Nat) : (mkd k n).length = n := by simp [mkd]
theorem mkd_get {k n j : Nat} (h : j < n) : (mkd k n)[j]? = some (mkq (k + j * 5)) := by
  unfold mkd; rw [List.getElem?_map, List.getElem?_range h]; rfl

/-- The marks are laid; what lies in other blocks is as it was. -/
def Laid (w : World) (base g n c k : Nat) (e : Ending) (w' : World) : Prop :=
  e = .returned (.int .i64 ((k : Int) + ((n * 5 : Nat) : Int))) ∧ w'.ownsRow base 69 5 (.slice (some ⟨g, 0, none⟩) n c) n (pls (mkd k n)) ∧ w.grownBy w' (some g)
theorem below_grown {w w' : World} {r : Option Nat} (h : Below w.heap.size w w') : w.grownBy w' r := ⟨h.os, h.tape, h.output, h.size, fun j hj _ => h.block j hj⟩

set_option maxHeartbeats 4000000 in
set_option maxRecDepth 100000 in
theorem markDropS (base g n c k : Nat) (zs : List P) (w : World) (hn : zs.length = n) (hb : n ≤ 1048576) (hk0 : 0 < k) (hk : k ≤ 8388608) (hr : w.ownsRow base 69 5 (.slice (some ⟨g, 0, none⟩) n c) n (pls zs)) :
    Calls Tryz.prog 15 #[.slice (some ⟨g, 0, none⟩) n c, .int .i64 k] w (Laid w base g n c k) := by
  have HN := Lib.hid hn
  have HL := Lib.hid (show (pls zs).length = (pls (mkd k n)).length by rw [pls_len, pls_len, mkd_len, hn])
  have R0 := Lib.hid (show w.ownsRow base 69 5 (.slice (some ⟨g, 0, none⟩) n c) n (mixed (pls (mkd k n)) (pls zs) 0) by rw [mixed_zero]; exact hr)
  clear hn hr
  go_enter Tryz.func15, Tryz.ntmps15
  go_wp2_with fail
  go_loopw [1, 5] (fun q i wr => ∃ j : Nat, j ≤ n ∧ i = .int .i64 j ∧ q = .int .i64 ((k : Int) + ((j * 5 : Nat) : Int)) ∧ Hid (wr.ownsRow base 69 5 (.slice (some ⟨g, 0, none⟩) n c) n (mixed (pls (mkd k n)) (pls zs) (j * 5))) ∧ Hid (w.grownBy wr (some g))) (fun _ i _ => n - (intOf i).toNat)
  case atStart => exact ⟨0, Nat.zero_le _, rfl, by simp, R0, Lib.hid (grown_refl _ _)⟩
  case round =>
    obtain ⟨j, hj, rfl, rfl, RK, GK⟩ := hrel
    obtain ⟨q, hq⟩ : ∃ q : Nat, q = k + j * 5 := ⟨_, rfl⟩
    rw [show (k : Int) + ((j * 5 : Nat) : Int) = (q : Int) by omega]
    by_cases hlt : j < n
    · obtain ⟨z, hz⟩ : ∃ z, zs[j]? = some z := ⟨_, List.getElem?_eq_getElem (by rw [HN.out]; exact hlt)⟩
      obtain ⟨n_, b_, x_, y_, h_⟩ := z
      obtain ⟨y0, y1, y2, y3, y4⟩ := pls_get hz
      have hm := mkd_get (k := k) hlt
      rw [← hq] at hm
      obtain ⟨v0, v1, v2, v3, v4⟩ := pls_get (zs := mkd k n) (k := j) (n := M q) (b := (q : Int) + 1) (x := (q : Int) + 1 + 1) (y := (q : Int) + 1 + 1 + 1) (h := (q : Int) + 1 + 1 + 1 + 1) hm
      obtain ⟨m1, hm1⟩ : ∃ m, M q = m := ⟨_, rfl⟩
      rw [hm1] at v0
      have C1 := Lib.hid (fun W => by have C := markText q W (by omega) (by omega); rw [hm1] at C; exact C)
      have V := Lib.hid (⟨v0, v1, v2, v3, v4⟩ : _ ∧ _ ∧ _ ∧ _ ∧ _)
      have Y := Lib.hid (⟨y0, y1, y2, y3, y4⟩ : _ ∧ _ ∧ _ ∧ _ ∧ _)
      have HQ := Lib.hid hq
      have hq8 : q ≤ 20971520 := by omega
      have HJ : j * 5 + 4 < n * 5 := by omega
      have hl8 := HL.out
      clear v0 v1 v2 v3 v4 y0 y1 y2 y3 y4 hm hm1 hz hq R0
      go_wp2_with fail
      refine (C1.out _).mono ?_
      rintro e w2 ⟨rfl, b2⟩
      have R2 := owns_below RK.out b2
      have G2 := grown_trans GK.out (below_grown (r := some g) b2)
      have c0 := (R2.cellAt (j * 5) (by omega)).trans (mixed_at HL.out (by omega) Y.out.1)
      have f0 := R2.frozenAt (j * 5)
      obtain ⟨r0, g0⟩ := R2.stored (j * 5) (.string m1)
      rw [mixed_put HL.out V.out.1] at r0
      have c1 := (r0.cellAt (j * 5 + 1) (by omega)).trans (mixed_at HL.out (by omega) Y.out.2.1)
      have f1 := r0.frozenAt (j * 5 + 1)
      obtain ⟨r1, g1⟩ := r0.stored (j * 5 + 1) (.int .i64 ((q : Int) + 1))
      rw [mixed_put HL.out V.out.2.1] at r1
      have c2 := (r1.cellAt (j * 5 + 2) (by omega)).trans (mixed_at HL.out (by omega) Y.out.2.2.1)
      have f2 := r1.frozenAt (j * 5 + 2)
      obtain ⟨r2, g2⟩ := r1.stored (j * 5 + 1 + 1) (.int .i64 ((q : Int) + 1 + 1))
      rw [mixed_put HL.out V.out.2.2.1] at r2
      have c3 := (r2.cellAt (j * 5 + 3) (by omega)).trans (mixed_at HL.out (by omega) Y.out.2.2.2.1)
      have f3 := r2.frozenAt (j * 5 + 3)
      obtain ⟨r3, g3⟩ := r2.stored (j * 5 + 1 + 1 + 1) (.int .i64 ((q : Int) + 1 + 1 + 1))
      rw [mixed_put HL.out V.out.2.2.2.1] at r3
      have c4 := (r3.cellAt (j * 5 + 4) (by omega)).trans (mixed_at HL.out (by omega) Y.out.2.2.2.2)
      have f4 := r3.frozenAt (j * 5 + 4)
      obtain ⟨r4, g4⟩ := r3.stored (j * 5 + 1 + 1 + 1 + 1) (.int .i64 ((q : Int) + 1 + 1 + 1 + 1))
      rw [mixed_put HL.out V.out.2.2.2.2] at r4
      have R9 := Lib.hid r4
      have G9 := Lib.hid (grown_trans (grown_trans (grown_trans (grown_trans (grown_trans G2 g0) g1) g2) g3) g4)
      clear r0 g0 r1 g1 r2 g2 r3 g3 r4 g4 R2 G2 RK GK b2 C1 hl8
      go_wp2_with fail
      go_roundw
      case rel => exact ⟨j + 1, by omega, by go_num, by (have := HQ.out; congr 1; omega), by rw [show (j + 1) * 5 = j * 5 + 1 + 1 + 1 + 1 + 1 by omega]; exact R9, G9⟩
      case measure => simp [intOf]; omega
    · obtain rfl : j = n := by omega
      have F := Lib.hid (show wr.ownsRow base 69 5 (.slice (some ⟨g, 0, none⟩) j c) j (pls (mkd k j)) by
        have := RK.out
        rw [show j * 5 = (pls (mkd k j)).length by rw [pls_len, mkd_len], mixed_all HL.out] at this
        exact this)
      have HQ := Lib.hid hq
      clear hq R0
      go_wp2_with fail
      go_ret
      exact ⟨by rw [HQ.out]; congr 1, F.out, GK.out⟩

set_option maxHeartbeats 4000000 in
set_option maxRecDepth 100000 in
theorem heldDropS (A : Option Addr) (n c k : Nat) (w : World) (hb : n ≤ 1048576) (hk0 : 0 < k) (hk : k ≤ 8388608) (hr : Rd w w.heap.size A (pls (mkd k n))) :
    Calls Tryz.prog 16 #[.slice A n c, .int .i64 k] w fun e w' => e = .returned (.int .i64 ((k : Int) + ((n * 5 : Nat) : Int))) ∧ Below w.heap.size w w' := by
  have HR := Lib.hid hr
  clear hr
  go_enter Tryz.func16, Tryz.ntmps16
  go_wp2_with fail
  go_loopw [1, 5] (fun q i wr => ∃ j : Nat, j ≤ n ∧ i = .int .i64 j ∧ q = .int .i64 ((k : Int) + ((j * 5 : Nat) : Int)) ∧ Hid (Below w.heap.size w wr)) (fun _ i _ => n - (intOf i).toNat)
  case atStart => exact ⟨0, Nat.zero_le _, rfl, by simp, Lib.hid (Below.refl _ _)⟩
  case round =>
    obtain ⟨j, hj, rfl, rfl, BK⟩ := hrel
    obtain ⟨q, hq⟩ : ∃ q : Nat, q = k + j * 5 := ⟨_, rfl⟩
    rw [show (k : Int) + ((j * 5 : Nat) : Int) = (q : Int) by omega]
    by_cases hlt : j < n
    · obtain ⟨b, o, eA, hbl, hcell⟩ := (HR.out.below BK.out).get (k := j * 5) (by rw [pls_len, mkd_len]; omega)
      have hm := mkd_get (k := k) hlt
      rw [← hq] at hm
      obtain ⟨v0, v1, v2, v3, v4⟩ := pls_get (zs := mkd k n) (k := j) (n := M q) (b := (q : Int) + 1) (x := (q : Int) + 1 + 1) (y := (q : Int) + 1 + 1 + 1) (h := (q : Int) + 1 + 1 + 1 + 1) hm
      obtain ⟨m1, hm1⟩ : ∃ m, M q = m := ⟨_, rfl⟩
      rw [hm1] at v0
      have c0 := hcell _ _ v0
      have c1 := hcell _ _ v1
      rw [← Nat.add_assoc] at c1
      have c2 := hcell _ _ v2
      rw [← Nat.add_assoc] at c2
      have c3 := hcell _ _ v3
      rw [← Nat.add_assoc] at c3
      have c4 := hcell _ _ v4
      rw [← Nat.add_assoc] at c4
      have C1 := Lib.hid (fun W => by have C := markText q W (by omega) (by omega); rw [hm1] at C; exact C)
      have HQ := Lib.hid hq
      have hq8 : q ≤ 20971520 := by omega
      have s1 : (m1.toList == m1.toList) = true := by simp
      have hu : undef = Value.tuple #[] := rfl
      clear v0 v1 v2 v3 v4 hm hm1 hq hcell hbl
      subst eA
      go_wp2_with fail
      refine wp_region_noPanic ?_
      refine wp_region_held_drew (S := (fun w' => w'.cell? ⟨b, o + j * 5, none⟩ = some (.string m1) ∧ w'.cell? ⟨b, o + j * 5 + 1, none⟩ = some (.int .i64 ((q : Int) + 1)) ∧ w'.cell? ⟨b, o + j * 5 + 2, none⟩ = some (.int .i64 ((q : Int) + 1 + 1)) ∧ w'.cell? ⟨b, o + j * 5 + 3, none⟩ = some (.int .i64 ((q : Int) + 1 + 1 + 1)) ∧ w'.cell? ⟨b, o + j * 5 + 4, none⟩ = some (.int .i64 ((q : Int) + 1 + 1 + 1 + 1)) ∧ Below wr.heap.size wr w')) (by kernel_rfl) ?_ (fun hH => ?_)
      · exact ⟨c0, c1, c2, c3, c4, (Below.refl _ _).drew⟩
      refine wpAnyH_take (i := 0) (oi := { dst := some 12, op := _, type := _, pos := _, after := _, guard := _ }) (v := ?_) rfl (by kernel_rfl) (by kernel_rfl) (by kernel_rfl) (fun _ _ _ h => h) (Or.inl ⟨by rfl, ?_⟩) hH ?_
      rotate_left 1
      · intro W hSw
        (try dsimp only at hSw)
        go_simp
        (try with_reducible rfl)
      try simp only [Act.put, List.setIfInBounds_toArray, List.set_cons_zero, List.set_cons_succ]
      refine wpAnyH_take (i := 1) (oi := { dst := some 13, op := _, type := _, pos := _, after := _, guard := _ }) (v := ?_) rfl (by kernel_rfl) (by kernel_rfl) (by kernel_rfl) (fun _ _ _ h => h) (Or.inl ⟨by rfl, ?_⟩) hH ?_
      rotate_left 1
      · intro W hSw
        (try dsimp only at hSw)
        go_simp
        (try with_reducible rfl)
      try simp only [Act.put, List.setIfInBounds_toArray, List.set_cons_zero, List.set_cons_succ]
      refine wpAnyH_take (i := 2) (oi := { dst := some 14, op := _, type := _, pos := _, after := _, guard := _ }) (v := ?_) rfl (by kernel_rfl) (by kernel_rfl) (by kernel_rfl) (fun _ _ _ h => h) (Or.inl ⟨by rfl, ?_⟩) hH ?_
      rotate_left 1
      · intro W hSw
        (try dsimp only at hSw)
        go_simp
        (try with_reducible rfl)
      try simp only [Act.put, List.setIfInBounds_toArray, List.set_cons_zero, List.set_cons_succ]
      refine wpAnyH_take (i := 3) (oi := { dst := some 15, op := _, type := _, pos := _, after := _, guard := _ }) (v := ?_) rfl (by kernel_rfl) (by kernel_rfl) (by kernel_rfl) (fun _ _ _ h => h) (Or.inl ⟨by rfl, ?_⟩) hH ?_
      rotate_left 1
      · intro W hSw
        (try dsimp only at hSw)
        go_simp
        (try with_reducible rfl)
      try simp only [Act.put, List.setIfInBounds_toArray, List.set_cons_zero, List.set_cons_succ]
      refine wpAnyH_take (i := 4) (oi := { dst := some 16, op := _, type := _, pos := _, after := _, guard := _ }) (v := ?_) rfl (by kernel_rfl) (by kernel_rfl) (by kernel_rfl) (fun _ _ _ h => h) (Or.inl ⟨by rfl, ?_⟩) hH ?_
      rotate_left 1
      · intro W hSw
        (try dsimp only at hSw)
        go_simp
        (try with_reducible rfl)
      try simp only [Act.put, List.setIfInBounds_toArray, List.set_cons_zero, List.set_cons_succ]
      refine wpAnyH_take (i := 5) (oi := { dst := some 17, op := _, type := _, pos := _, after := _, guard := _ }) (v := ?_) rfl (by kernel_rfl) (by kernel_rfl) (by kernel_rfl) (fun _ _ _ h => h) (Or.inl ⟨by rfl, ?_⟩) hH ?_
      rotate_left 1
      · intro W hSw
        (try dsimp only at hSw)
        go_simp
        (try with_reducible rfl)
      try simp only [Act.put, List.setIfInBounds_toArray, List.set_cons_zero, List.set_cons_succ]
      refine wpAnyH_ready (rs := [6]) (by kernel_rfl) (by simp) (AllReadyH.cons rfl (fun K hK => ?_) AllReadyH.nil)
      go_simp
      go_at_call 47; ((with_reducible refine (C1.out _).mono ?_); rintro e r1 ⟨rfl, hb9⟩); go_wp2_with fail
      refine hK.out _ _ ?_ (fun hG => ?_)
      · exact ⟨cell_below hb9 hH.1, cell_below hb9 hH.2.1, cell_below hb9 hH.2.2.1, cell_below hb9 hH.2.2.2.1, cell_below hb9 hH.2.2.2.2.1, Below.trans hH.2.2.2.2.2 (hb9.mono hH.2.2.2.2.2.size)⟩
      replace hH := hG
      clear hK K hG
      try simp only [Act.put, List.setIfInBounds_toArray, List.set_cons_zero, List.set_cons_succ]
      refine wpAnyH_take (i := 7) (oi := { dst := some 19, op := _, type := _, pos := _, after := _, guard := _ }) (v := ?_) rfl (by kernel_rfl) (by kernel_rfl) (by kernel_rfl) (fun _ _ _ h => h) (Or.inl ⟨by rfl, ?_⟩) hH ?_
      rotate_left 1
      · intro W hSw
        (try dsimp only at hSw)
        go_simp
        (try with_reducible rfl)
      try simp only [Act.put, List.setIfInBounds_toArray, List.set_cons_zero, List.set_cons_succ]
      refine wpAnyH_done (by kernel_rfl) ?_ _
      refine NoPanic.normal ?_
      obtain ⟨e0, e1, e2, e3, e4, hB⟩ := hH
      have B1 := Lib.hid (BK.out.trans (hB.mono BK.out.size))
      clear hB c0 c1 c2 c3 c4 BK C1
      go_wp2_with fail
      go_roundw
      case rel => first | exact ⟨j + 1, by omega, by go_num, by (have := HQ.out; congr 1; omega), B1⟩ | ((repeat apply Exists.intro); exact ⟨⟨j + 1, by omega, by go_num, by (have := HQ.out; congr 1; omega), B1⟩, rfl⟩)
      case measure => simp [intOf]; omega
    · obtain rfl : j = n := by omega
      have HQ := Lib.hid hq
      clear hq
      go_wp2_with fail
      go_ret
      exact ⟨by rw [HQ.out]; congr 1, BK.out⟩

end Go.Proofs.YtejeikfgmiadhaaGreat.Pk9
