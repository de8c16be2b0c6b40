/- The ticks at which two drops meet, of the model. -/
import Derived.Test.YtppaknjiadnogaaMi
namespace Go.Proofs.Ytppaknjiadnogaa.Dp
open Go.RowKit Go.Proofs.Ytppaknjiadnogaa.Cx Go.Proofs.Ytppaknjiadnogaa.Cm Go.Proofs.Ytppaknjiadnogaa.Pl Go.Proofs.Ytppaknjiadnogaa.Str Go.Proofs.Ytppaknjiadnogaa.Pw Go.Proofs.Ytppaknjiadnogaa.P2 Go.Proofs.Ytppaknjiadnogaa.Hd Go.Proofs.Ytppaknjiadnogaa.Jt Go.Proofs.Ytppaknjiadnogaa.Dr4
open Go.Proofs.Ytppaknjiadnogaa.Mem (Rd ints ints_len below_drewN)
open Go.Proofs.Ytppaknjiadnogaa.Rw (owns_below owns_grown owns_base)
set_option linter.unusedVariables false
set_option linter.unusedSimpArgs false

set_option maxHeartbeats 4000000 in
set_option maxRecDepth 100000 in
theorem meetS (x1 y1 h1 t1 l1 x2 y2 h2 t2 l2 : Int) (w : World) :
    Calls Try.prog 38 #[jv x1 y1 h1 t1 l1, jv x2 y2 h2 t2 l2] w (RowI w (mto x1 y1 h1 t1 l1 x2 y2 h2 t2 l2)) := by
  have hu : undef = Value.tuple #[] := rfl
  have F1 := flightS x1 y1 h1 t1 l1
  have F2 := flightS x2 y2 h2 t2 l2
  have BA := Lib.hid (show Below w.heap.size w (((w.alloc (.cells (jc x1 y1 h1 t1 l1) 27)).alloc (.cells (jc x2 y2 h2 t2 l2) 27)).alloc (.cells #[] 3)) from by go_grown)
  have JA := Lib.hid (((JB.new w x1 y1 h1 t1 l1).alloc (.cells (jc x2 y2 h2 t2 l2) 27)).alloc (.cells #[] 3))
  have JJ := Lib.hid ((show JB ((w.alloc (.cells (jc x1 y1 h1 t1 l1) 27)).alloc (.cells (jc x2 y2 h2 t2 l2) 27)) (w.heap.size + 1) x2 y2 h2 t2 l2 from by simpa using JB.new (w.alloc (.cells (jc x1 y1 h1 t1 l1) 27)) x2 y2 h2 t2 l2).alloc (.cells #[] 3))
  have R0 := Lib.hid (World.ownsRow_lit (base := w.heap.size) (e := 3) (size := 1) ((w.alloc (.cells (jc x1 y1 h1 t1 l1) 27)).alloc (.cells (jc x2 y2 h2 t2 l2) 27)) #[] 0 (by simp; omega) (Nat.zero_le _) rfl)
  rw [show ((w.alloc (.cells (jc x1 y1 h1 t1 l1) 27)).alloc (.cells (jc x2 y2 h2 t2 l2) 27)).heap.size = w.heap.size + 1 + 1 by simp] at R0
  by_cases j1 : jt x1 y1 h1 t1 l1 = true
  · have C1 := Lib.hid (isJetS_of j1)
    by_cases j2 : jt x2 y2 h2 t2 l2 = true
    · have C2 := Lib.hid (isJetS_of j2)
      have hl1 := (jt_iff.1 j1).2.2.2.2
      have hl2 := (jt_iff.1 j2).2.2.2.2
      have P1 := Lib.hid (fun (k : Nat) (hk : (k : Int) ≤ l1 + 1) => l3Place j1 hk)
      have P2 := Lib.hid (fun (k : Nat) (hk : (k : Int) ≤ l2 + 1) => l3Place j2 hk)
      have H1 := Lib.hid (fun (k : Nat) (hk : (k : Int) ≤ l1 + 1) => by
        have := heightS x1 y1 h1 t1 l1 (k : Int) (by omega) (by omega)
        unfold ha at this
        rw [if_pos (inF_iff.2 ⟨j1, by omega, hk⟩), Int.toNat_natCast] at this
        exact this)
      have H2 := Lib.hid (fun (k : Nat) (hk : (k : Int) ≤ l2 + 1) => by
        have := heightS x2 y2 h2 t2 l2 (k : Int) (by omega) (by omega)
        unfold ha at this
        rw [if_pos (inF_iff.2 ⟨j2, by omega, hk⟩), Int.toNat_natCast] at this
        exact this)
      rw [fl_yes j1] at F1
      rw [fl_yes j2] at F2
      replace F1 := Lib.hid F1
      replace F2 := Lib.hid F2
      obtain ⟨T, hT⟩ : ∃ T : Nat, T = (min l1 l2).toNat + 1 := ⟨_, rfl⟩
      have M := Lib.hid (show mto x1 y1 h1 t1 l1 x2 y2 h2 t2 l2 = mts (mv x1 y1 h1 t1 l1 x2 y2 h2 t2 l2) (T + 1) by unfold mto; rw [if_pos ⟨j1, j2⟩, hT])
      have hTT : T ≤ 33 := by omega
      have hTl := Lib.hid (show (T : Int) ≤ l1 + 1 ∧ (T : Int) ≤ l2 + 1 ∧ ((T : Int) = l1 + 1 ∨ (T : Int) = l2 + 1) by omega)
      clear hT j1 j2
      obtain ⟨i0, hi, hz0, hz1, hz2⟩ := info_parts infoI
      obtain ⟨f, hf⟩ : ∃ f, mv x1 y1 h1 t1 l1 x2 y2 h2 t2 l2 = f := ⟨_, rfl⟩
      have FH := Lib.hid hf
      rw [hf] at M
      clear hf
      go_enter Try.func38, Try.ntmps38
      go_wp2_with fail
      go_loopw [5, 6] (fun v i wr => ∃ k q : Nat, k ≤ T + 1 ∧ i = .int .i64 k ∧ (∃ b c, v = .slice (some ⟨b, 0, none⟩) q c) ∧ Hid ((mts f k).length = q) ∧ Hid (wr.ownsRow w.heap.size 3 1 v q (ints (mts f k))) ∧ Hid (JB wr w.heap.size x1 y1 h1 t1 l1) ∧ Hid (JB wr (w.heap.size + 1) x2 y2 h2 t2 l2) ∧ Hid (Below w.heap.size w wr)) (fun _ i _ => T + 1 - (intOf i).toNat)
      case atStart => exact ⟨0, 0, by omega, rfl, ⟨_, _, rfl⟩, Lib.hid rfl, Lib.hid (owns_base R0.out (show w.heap.size ≤ w.heap.size + 1 + 1 by omega)), JA, JJ, BA⟩
      case round =>
        clear R0 JA JJ BA
        obtain ⟨k, q, hk, rfl, ⟨gr, cc, rfl⟩, QL, RK, JA, JJ, BK⟩ := hrel
        have hkk := hTl.out
        have hnr : ∀ (x y h t l : Int) (b : Nat), JB wr b x y h t l → gr ≠ b := fun x y h t l b k e => by
          subst e
          rcases RK.out.2 with ⟨e1, _⟩ | ⟨g', cap, cur, e1, _, e3, _⟩
          · cases e1
          · injection e1 with e1; injection e1 with e1; injection e1 with e1; subst e1
            rw [show wr.heap[gr]? = _ from k] at e3
            injection e3 with e3; injection e3 with _ e3
            exact absurd e3 (by decide)
        have hr1 := Lib.hid (hnr _ _ _ _ _ _ JA.out)
        have hr2 := Lib.hid (hnr _ _ _ _ _ _ JJ.out)
        clear hnr
        by_cases hlt : k < T + 1
        · have d1 : decide ((k : Int) ≤ l1 + 1) = true := decide_eq_true (by omega)
          have d2 : decide ((k : Int) ≤ l2 + 1) = true := decide_eq_true (by omega)
          have hk1 : (k : Int) ≤ l1 + 1 := by omega
          have hk2 : (k : Int) ≤ l2 + 1 := by omega
          obtain ⟨a0, a1, a2, a3, a4⟩ := JA.out.c
          obtain ⟨b0, b1, b2, b3, b4⟩ := JJ.out.c
          go_wp2_with fail
          refine (F1.out _).mono ?_
          rintro e v1 ⟨rfl, hb⟩
          clear a0 a1 a2 a3 a4 b0 b1 b2 b3 b4
          have RK2 := Lib.hid (owns_below RK.out hb)
          have JA2 := Lib.hid (JB.below JA.out hb)
          have JJ2 := Lib.hid (JB.below JJ.out hb)
          have BK2 := Lib.hid (BK.out.trans (hb.mono BK.out.size))
          clear hb RK JA JJ BK
          have RK := RK2
          have JA := JA2
          have JJ := JJ2
          have BK := BK2
          clear RK2 JA2 JJ2 BK2
          obtain ⟨a0, a1, a2, a3, a4⟩ := JA.out.c
          obtain ⟨b0, b1, b2, b3, b4⟩ := JJ.out.c
          go_wp2_with fail
          refine (F2.out _).mono ?_
          rintro e v2 ⟨rfl, hb⟩
          clear a0 a1 a2 a3 a4 b0 b1 b2 b3 b4
          have RK2 := Lib.hid (owns_below RK.out hb)
          have JA2 := Lib.hid (JB.below JA.out hb)
          have JJ2 := Lib.hid (JB.below JJ.out hb)
          have BK2 := Lib.hid (BK.out.trans (hb.mono BK.out.size))
          clear hb RK JA JJ BK
          have RK := RK2
          have JA := JA2
          have JJ := JJ2
          have BK := BK2
          clear RK2 JA2 JJ2 BK2
          obtain ⟨a0, a1, a2, a3, a4⟩ := JA.out.c
          obtain ⟨b0, b1, b2, b3, b4⟩ := JJ.out.c
          go_wp2_with fail
          refine (C1.out _).mono ?_
          rintro e v3 ⟨rfl, hw⟩
          have hb := hw.symm ▸ (Below.refl _ _).alloc (Nat.le_refl _) (.cells (jc x1 y1 h1 t1 l1) 27)
          clear hw
          clear a0 a1 a2 a3 a4 b0 b1 b2 b3 b4
          have RK2 := Lib.hid (owns_below RK.out hb)
          have JA2 := Lib.hid (JB.below JA.out hb)
          have JJ2 := Lib.hid (JB.below JJ.out hb)
          have BK2 := Lib.hid (BK.out.trans (hb.mono BK.out.size))
          clear hb RK JA JJ BK
          have RK := RK2
          have JA := JA2
          have JJ := JJ2
          have BK := BK2
          clear RK2 JA2 JJ2 BK2
          obtain ⟨a0, a1, a2, a3, a4⟩ := JA.out.c
          obtain ⟨b0, b1, b2, b3, b4⟩ := JJ.out.c
          go_wp2_with fail
          refine (C2.out _).mono ?_
          rintro e v4 ⟨rfl, hw⟩
          have hb := hw.symm ▸ (Below.refl _ _).alloc (Nat.le_refl _) (.cells (jc x2 y2 h2 t2 l2) 27)
          clear hw
          clear a0 a1 a2 a3 a4 b0 b1 b2 b3 b4
          have RK2 := Lib.hid (owns_below RK.out hb)
          have JA2 := Lib.hid (JB.below JA.out hb)
          have JJ2 := Lib.hid (JB.below JJ.out hb)
          have BK2 := Lib.hid (BK.out.trans (hb.mono BK.out.size))
          clear hb RK JA JJ BK
          have RK := RK2
          have JA := JA2
          have JJ := JJ2
          have BK := BK2
          clear RK2 JA2 JJ2 BK2
          have Q1 := P1.out k hk1
          have Q2 := P2.out k hk2
          have G1 := H1.out k hk1
          have G2 := H2.out k hk2
          have FK := congrFun FH.out k
          unfold mv mb mq at FK
          generalize wy x1 (tx h1.toNat t1 0) k = X1 at Q1 FK
          generalize wy y1 (ty h1.toNat t1 0) k = Y1 at Q1 FK
          generalize wy x2 (tx h2.toNat t2 0) k = X2 at Q2 FK
          generalize wy y2 (ty h2.toNat t2 0) k = Y2 at Q2 FK
          generalize hg l1 k = Z1 at G1 FK
          generalize hg l2 k = Z2 at G2 FK
          replace Q1 := Lib.hid Q1
          replace Q2 := Lib.hid Q2
          replace G1 := Lib.hid G1
          replace G2 := Lib.hid G2
          obtain ⟨b9, hb9⟩ : ∃ b, f k = b := ⟨_, rfl⟩
          rw [hb9] at FK
          have MS := Lib.hid hb9
          clear hb9 hkk
          go_upto_region 5 with fail
          go_cut [43] (fun v wx => v = .bool b9 ∧ Hid (Below v4.heap.size v4 wx))
          case first =>
            obtain ⟨a0, a1, a2, a3, a4⟩ := JA.out.c
            obtain ⟨b0, b1, b2, b3, b4⟩ := JJ.out.c
            by_cases e1 : X1 = X2
            · by_cases e2 : Y1 = Y2
              · subst e1 e2
                have q1 : (X1 == X1) = true := by simp
                have q2 : (Y1 == Y1) = true := by simp
                by_cases e3 : Z1 = Z2
                · subst e3
                  have q3 : (Z1 == Z1) = true := by simp
                  obtain rfl : true = b9 := by rw [← FK]; simp
                  refine wp_region_held_drew (S := (fun w' => w'.cell? ⟨w.heap.size, 0, none⟩ = some (.int .i64 x1) ∧ w'.cell? ⟨w.heap.size, 1, none⟩ = some (.int .i64 y1) ∧ w'.cell? ⟨w.heap.size, 2, none⟩ = some (.int .i64 h1) ∧ w'.cell? ⟨w.heap.size, 3, none⟩ = some (.int .i64 t1) ∧ w'.cell? ⟨w.heap.size, 4, none⟩ = some (.int .i64 l1) ∧ w'.cell? ⟨w.heap.size + 1, 0, none⟩ = some (.int .i64 x2) ∧ w'.cell? ⟨w.heap.size + 1, 1, none⟩ = some (.int .i64 y2) ∧ w'.cell? ⟨w.heap.size + 1, 2, none⟩ = some (.int .i64 h2) ∧ w'.cell? ⟨w.heap.size + 1, 3, none⟩ = some (.int .i64 t2) ∧ w'.cell? ⟨w.heap.size + 1, 4, none⟩ = some (.int .i64 l2) ∧ Below v4.heap.size v4 w')) (by kernel_rfl) ?_ (fun hH => ?_)
                  · exact ⟨a0, a1, a2, a3, a4, b0, b1, b2, b3, b4, (Below.refl _ _).drew⟩
                  refine wpAnyH_take (i := 0) (oi := { dst := some 28, op := _, type := _, pos := _, after := _, guard := _ }) (v := ?_) rfl (by kernel_rfl) (by kernel_rfl) (by kernel_rfl) (fun _ _ _ h => h) (Or.inl ⟨by rfl, ?_⟩) hH ?_
                  rotate_left 1
                  · intro W hSw
                    (try dsimp only at hSw)
                    go_simp
                    (try with_reducible rfl)
                  try simp only [Act.put, List.setIfInBounds_toArray, List.set_cons_zero, List.set_cons_succ]
                  refine wpAnyH_take (i := 1) (oi := { dst := some 29, op := _, type := _, pos := _, after := _, guard := _ }) (v := ?_) rfl (by kernel_rfl) (by kernel_rfl) (by kernel_rfl) (fun _ _ _ h => h) (Or.inl ⟨by rfl, ?_⟩) hH ?_
                  rotate_left 1
                  · intro W hSw
                    (try dsimp only at hSw)
                    go_simp
                    (try with_reducible rfl)
                  try simp only [Act.put, List.setIfInBounds_toArray, List.set_cons_zero, List.set_cons_succ]
                  refine wpAnyH_take (i := 3) (oi := { dst := some 31, op := _, type := _, pos := _, after := _, guard := _ }) (v := ?_) rfl (by kernel_rfl) (by kernel_rfl) (by kernel_rfl) (fun _ _ _ h => h) (Or.inl ⟨by rfl, ?_⟩) hH ?_
                  rotate_left 1
                  · intro W hSw
                    (try dsimp only at hSw)
                    go_simp
                    (try with_reducible rfl)
                  try simp only [Act.put, List.setIfInBounds_toArray, List.set_cons_zero, List.set_cons_succ]
                  refine wpAnyH_take (i := 4) (oi := { dst := some 32, op := _, type := _, pos := _, after := _, guard := _ }) (v := ?_) rfl (by kernel_rfl) (by kernel_rfl) (by kernel_rfl) (fun _ _ _ h => h) (Or.inl ⟨by rfl, ?_⟩) hH ?_
                  rotate_left 1
                  · intro W hSw
                    (try dsimp only at hSw)
                    go_simp
                    (try with_reducible rfl)
                  try simp only [Act.put, List.setIfInBounds_toArray, List.set_cons_zero, List.set_cons_succ]
                  refine wpAnyH_ready (rs := [2]) (by kernel_rfl) (by simp) (AllReadyH.cons rfl (fun K hK => ?_) AllReadyH.nil)
                  go_simp
                  go_at_call 95; ((with_reducible refine (Q1.out _).mono ?_); rintro e u1 ⟨rfl, hb⟩); go_wp2_with fail
                  refine hK.out _ _ ?_ (fun hG => ?_)
                  · exact ⟨cell_below hb hH.1, cell_below hb hH.2.1, cell_below hb hH.2.2.1, cell_below hb hH.2.2.2.1, cell_below hb hH.2.2.2.2.1, cell_below hb hH.2.2.2.2.2.1, cell_below hb hH.2.2.2.2.2.2.1, cell_below hb hH.2.2.2.2.2.2.2.1, cell_below hb hH.2.2.2.2.2.2.2.2.1, cell_below hb hH.2.2.2.2.2.2.2.2.2.1, hH.2.2.2.2.2.2.2.2.2.2.trans (hb.mono hH.2.2.2.2.2.2.2.2.2.2.size)⟩
                  replace hH := hG
                  clear hK K hG
                  try simp only [Act.put, List.setIfInBounds_toArray, List.set_cons_zero, List.set_cons_succ]
                  refine wpAnyH_ready (rs := [5]) (by kernel_rfl) (by simp) (AllReadyH.cons rfl (fun K hK => ?_) AllReadyH.nil)
                  go_simp
                  go_at_call 95; ((with_reducible refine (Q2.out _).mono ?_); rintro e u2 ⟨rfl, hb⟩); go_wp2_with fail
                  refine hK.out _ _ ?_ (fun hG => ?_)
                  · exact ⟨cell_below hb hH.1, cell_below hb hH.2.1, cell_below hb hH.2.2.1, cell_below hb hH.2.2.2.1, cell_below hb hH.2.2.2.2.1, cell_below hb hH.2.2.2.2.2.1, cell_below hb hH.2.2.2.2.2.2.1, cell_below hb hH.2.2.2.2.2.2.2.1, cell_below hb hH.2.2.2.2.2.2.2.2.1, cell_below hb hH.2.2.2.2.2.2.2.2.2.1, hH.2.2.2.2.2.2.2.2.2.2.trans (hb.mono hH.2.2.2.2.2.2.2.2.2.2.size)⟩
                  replace hH := hG
                  clear hK K hG
                  try simp only [Act.put, List.setIfInBounds_toArray, List.set_cons_zero, List.set_cons_succ]
                  refine wpAnyH_take (i := 6) (oi := { dst := some 34, op := _, type := _, pos := _, after := _, guard := _ }) (v := ?_) rfl (by kernel_rfl) (by kernel_rfl) (by kernel_rfl) (fun _ _ _ h => h) (Or.inl ⟨by rfl, ?_⟩) hH ?_
                  rotate_left 1
                  · intro W hSw
                    (try dsimp only at hSw)
                    go_simp
                    (try with_reducible rfl)
                  try simp only [Act.put, List.setIfInBounds_toArray, List.set_cons_zero, List.set_cons_succ]
                  refine wpAnyH_take (i := 7) (oi := { dst := some 35, op := _, type := _, pos := _, after := _, guard := _ }) (v := ?_) rfl (by kernel_rfl) (by kernel_rfl) (by kernel_rfl) (fun _ _ _ h => h) (Or.inl ⟨by rfl, ?_⟩) hH ?_
                  rotate_left 1
                  · intro W hSw
                    (try dsimp only at hSw)
                    go_simp
                    (try with_reducible rfl)
                  try simp only [Act.put, List.setIfInBounds_toArray, List.set_cons_zero, List.set_cons_succ]
                  refine wpAnyH_take (i := 8) (oi := { dst := some 36, op := _, type := _, pos := _, after := _, guard := _ }) (v := ?_) rfl (by kernel_rfl) (by kernel_rfl) (by kernel_rfl) (fun _ _ _ h => h) (Or.inl ⟨by rfl, ?_⟩) hH ?_
                  rotate_left 1
                  · intro W hSw
                    (try dsimp only at hSw)
                    go_simp
                    (try with_reducible rfl)
                  try simp only [Act.put, List.setIfInBounds_toArray, List.set_cons_zero, List.set_cons_succ]
                  refine wpAnyH_take (i := 9) (oi := { dst := some 37, op := _, type := _, pos := _, after := _, guard := _ }) (v := ?_) rfl (by kernel_rfl) (by kernel_rfl) (by kernel_rfl) (fun _ _ _ h => h) (Or.inl ⟨by rfl, ?_⟩) hH ?_
                  rotate_left 1
                  · intro W hSw
                    (try dsimp only at hSw)
                    go_simp
                    (try with_reducible rfl)
                  try simp only [Act.put, List.setIfInBounds_toArray, List.set_cons_zero, List.set_cons_succ]
                  refine wpAnyH_take (i := 11) (oi := { dst := some 39, op := _, type := _, pos := _, after := _, guard := _ }) (v := ?_) rfl (by kernel_rfl) (by kernel_rfl) (by kernel_rfl) (fun _ _ _ h => h) (Or.inl ⟨by rfl, ?_⟩) hH ?_
                  rotate_left 1
                  · intro W hSw
                    (try dsimp only at hSw)
                    go_simp
                    (try with_reducible rfl)
                  try simp only [Act.put, List.setIfInBounds_toArray, List.set_cons_zero, List.set_cons_succ]
                  refine wpAnyH_take (i := 12) (oi := { dst := some 40, op := _, type := _, pos := _, after := _, guard := _ }) (v := ?_) rfl (by kernel_rfl) (by kernel_rfl) (by kernel_rfl) (fun _ _ _ h => h) (Or.inl ⟨by rfl, ?_⟩) hH ?_
                  rotate_left 1
                  · intro W hSw
                    (try dsimp only at hSw)
                    go_simp
                    (try with_reducible rfl)
                  try simp only [Act.put, List.setIfInBounds_toArray, List.set_cons_zero, List.set_cons_succ]
                  refine wpAnyH_ready (rs := [10]) (by kernel_rfl) (by simp) (AllReadyH.cons rfl (fun K hK => ?_) AllReadyH.nil)
                  go_simp
                  go_at_call 96; ((with_reducible refine (G1.out _).mono ?_); rintro e u3 ⟨rfl, hb⟩); go_wp2_with fail
                  refine hK.out _ _ ?_ (fun hG => ?_)
                  · exact ⟨cell_below hb hH.1, cell_below hb hH.2.1, cell_below hb hH.2.2.1, cell_below hb hH.2.2.2.1, cell_below hb hH.2.2.2.2.1, cell_below hb hH.2.2.2.2.2.1, cell_below hb hH.2.2.2.2.2.2.1, cell_below hb hH.2.2.2.2.2.2.2.1, cell_below hb hH.2.2.2.2.2.2.2.2.1, cell_below hb hH.2.2.2.2.2.2.2.2.2.1, hH.2.2.2.2.2.2.2.2.2.2.trans (hb.mono hH.2.2.2.2.2.2.2.2.2.2.size)⟩
                  replace hH := hG
                  clear hK K hG
                  try simp only [Act.put, List.setIfInBounds_toArray, List.set_cons_zero, List.set_cons_succ]
                  refine wpAnyH_ready (rs := [13]) (by kernel_rfl) (by simp) (AllReadyH.cons rfl (fun K hK => ?_) AllReadyH.nil)
                  go_simp
                  go_at_call 96; ((with_reducible refine (G2.out _).mono ?_); rintro e u4 ⟨rfl, hb⟩); go_wp2_with fail
                  refine hK.out _ _ ?_ (fun hG => ?_)
                  · exact ⟨cell_below hb hH.1, cell_below hb hH.2.1, cell_below hb hH.2.2.1, cell_below hb hH.2.2.2.1, cell_below hb hH.2.2.2.2.1, cell_below hb hH.2.2.2.2.2.1, cell_below hb hH.2.2.2.2.2.2.1, cell_below hb hH.2.2.2.2.2.2.2.1, cell_below hb hH.2.2.2.2.2.2.2.2.1, cell_below hb hH.2.2.2.2.2.2.2.2.2.1, hH.2.2.2.2.2.2.2.2.2.2.trans (hb.mono hH.2.2.2.2.2.2.2.2.2.2.size)⟩
                  replace hH := hG
                  clear hK K hG
                  try simp only [Act.put, List.setIfInBounds_toArray, List.set_cons_zero, List.set_cons_succ]
                  refine wpAnyH_take (i := 14) (oi := { dst := some 42, op := _, type := _, pos := _, after := _, guard := _ }) (v := ?_) rfl (by kernel_rfl) (by kernel_rfl) (by kernel_rfl) (fun _ _ _ h => h) (Or.inl ⟨by rfl, ?_⟩) hH ?_
                  rotate_left 1
                  · intro W hSw
                    (try dsimp only at hSw)
                    go_simp
                    (try with_reducible rfl)
                  try simp only [Act.put, List.setIfInBounds_toArray, List.set_cons_zero, List.set_cons_succ]
                  refine wpAnyH_take (i := 15) (oi := { dst := some 43, op := _, type := _, pos := _, after := _, guard := _ }) (v := ?_) rfl (by kernel_rfl) (by kernel_rfl) (by kernel_rfl) (fun _ _ _ h => h) (Or.inl ⟨by rfl, ?_⟩) hH ?_
                  rotate_left 1
                  · intro W hSw
                    (try dsimp only at hSw)
                    go_simp
                    (try with_reducible rfl)
                  try simp only [Act.put, List.setIfInBounds_toArray, List.set_cons_zero, List.set_cons_succ]
                  refine wpAnyH_done (by kernel_rfl) ?_ _
                  have BF := Lib.hid hH.2.2.2.2.2.2.2.2.2.2
                  clear hH
                  go_wp2_with fail
                  go_meet
                  exact ⟨rfl, BF⟩
                · have q3 : (Z1 == Z2) = false := by simpa using e3
                  obtain rfl : false = b9 := by rw [← FK]; simp [e3]
                  clear e3 FK
                  refine wp_region_held_drew (S := (fun w' => w'.cell? ⟨w.heap.size, 0, none⟩ = some (.int .i64 x1) ∧ w'.cell? ⟨w.heap.size, 1, none⟩ = some (.int .i64 y1) ∧ w'.cell? ⟨w.heap.size, 2, none⟩ = some (.int .i64 h1) ∧ w'.cell? ⟨w.heap.size, 3, none⟩ = some (.int .i64 t1) ∧ w'.cell? ⟨w.heap.size, 4, none⟩ = some (.int .i64 l1) ∧ w'.cell? ⟨w.heap.size + 1, 0, none⟩ = some (.int .i64 x2) ∧ w'.cell? ⟨w.heap.size + 1, 1, none⟩ = some (.int .i64 y2) ∧ w'.cell? ⟨w.heap.size + 1, 2, none⟩ = some (.int .i64 h2) ∧ w'.cell? ⟨w.heap.size + 1, 3, none⟩ = some (.int .i64 t2) ∧ w'.cell? ⟨w.heap.size + 1, 4, none⟩ = some (.int .i64 l2) ∧ Below v4.heap.size v4 w')) (by kernel_rfl) ?_ (fun hH => ?_)
                  · exact ⟨a0, a1, a2, a3, a4, b0, b1, b2, b3, b4, (Below.refl _ _).drew⟩
                  refine wpAnyH_take (i := 0) (oi := { dst := some 28, op := _, type := _, pos := _, after := _, guard := _ }) (v := ?_) rfl (by kernel_rfl) (by kernel_rfl) (by kernel_rfl) (fun _ _ _ h => h) (Or.inl ⟨by rfl, ?_⟩) hH ?_
                  rotate_left 1
                  · intro W hSw
                    (try dsimp only at hSw)
                    go_simp
                    (try with_reducible rfl)
                  try simp only [Act.put, List.setIfInBounds_toArray, List.set_cons_zero, List.set_cons_succ]
                  refine wpAnyH_take (i := 1) (oi := { dst := some 29, op := _, type := _, pos := _, after := _, guard := _ }) (v := ?_) rfl (by kernel_rfl) (by kernel_rfl) (by kernel_rfl) (fun _ _ _ h => h) (Or.inl ⟨by rfl, ?_⟩) hH ?_
                  rotate_left 1
                  · intro W hSw
                    (try dsimp only at hSw)
                    go_simp
                    (try with_reducible rfl)
                  try simp only [Act.put, List.setIfInBounds_toArray, List.set_cons_zero, List.set_cons_succ]
                  refine wpAnyH_take (i := 3) (oi := { dst := some 31, op := _, type := _, pos := _, after := _, guard := _ }) (v := ?_) rfl (by kernel_rfl) (by kernel_rfl) (by kernel_rfl) (fun _ _ _ h => h) (Or.inl ⟨by rfl, ?_⟩) hH ?_
                  rotate_left 1
                  · intro W hSw
                    (try dsimp only at hSw)
                    go_simp
                    (try with_reducible rfl)
                  try simp only [Act.put, List.setIfInBounds_toArray, List.set_cons_zero, List.set_cons_succ]
                  refine wpAnyH_take (i := 4) (oi := { dst := some 32, op := _, type := _, pos := _, after := _, guard := _ }) (v := ?_) rfl (by kernel_rfl) (by kernel_rfl) (by kernel_rfl) (fun _ _ _ h => h) (Or.inl ⟨by rfl, ?_⟩) hH ?_
                  rotate_left 1
                  · intro W hSw
                    (try dsimp only at hSw)
                    go_simp
                    (try with_reducible rfl)
                  try simp only [Act.put, List.setIfInBounds_toArray, List.set_cons_zero, List.set_cons_succ]
                  refine wpAnyH_ready (rs := [2]) (by kernel_rfl) (by simp) (AllReadyH.cons rfl (fun K hK => ?_) AllReadyH.nil)
                  go_simp
                  go_at_call 95; ((with_reducible refine (Q1.out _).mono ?_); rintro e u1 ⟨rfl, hb⟩); go_wp2_with fail
                  refine hK.out _ _ ?_ (fun hG => ?_)
                  · exact ⟨cell_below hb hH.1, cell_below hb hH.2.1, cell_below hb hH.2.2.1, cell_below hb hH.2.2.2.1, cell_below hb hH.2.2.2.2.1, cell_below hb hH.2.2.2.2.2.1, cell_below hb hH.2.2.2.2.2.2.1, cell_below hb hH.2.2.2.2.2.2.2.1, cell_below hb hH.2.2.2.2.2.2.2.2.1, cell_below hb hH.2.2.2.2.2.2.2.2.2.1, hH.2.2.2.2.2.2.2.2.2.2.trans (hb.mono hH.2.2.2.2.2.2.2.2.2.2.size)⟩
                  replace hH := hG
                  clear hK K hG
                  try simp only [Act.put, List.setIfInBounds_toArray, List.set_cons_zero, List.set_cons_succ]
                  refine wpAnyH_ready (rs := [5]) (by kernel_rfl) (by simp) (AllReadyH.cons rfl (fun K hK => ?_) AllReadyH.nil)
                  go_simp
                  go_at_call 95; ((with_reducible refine (Q2.out _).mono ?_); rintro e u2 ⟨rfl, hb⟩); go_wp2_with fail
                  refine hK.out _ _ ?_ (fun hG => ?_)
                  · exact ⟨cell_below hb hH.1, cell_below hb hH.2.1, cell_below hb hH.2.2.1, cell_below hb hH.2.2.2.1, cell_below hb hH.2.2.2.2.1, cell_below hb hH.2.2.2.2.2.1, cell_below hb hH.2.2.2.2.2.2.1, cell_below hb hH.2.2.2.2.2.2.2.1, cell_below hb hH.2.2.2.2.2.2.2.2.1, cell_below hb hH.2.2.2.2.2.2.2.2.2.1, hH.2.2.2.2.2.2.2.2.2.2.trans (hb.mono hH.2.2.2.2.2.2.2.2.2.2.size)⟩
                  replace hH := hG
                  clear hK K hG
                  try simp only [Act.put, List.setIfInBounds_toArray, List.set_cons_zero, List.set_cons_succ]
                  refine wpAnyH_take (i := 6) (oi := { dst := some 34, op := _, type := _, pos := _, after := _, guard := _ }) (v := ?_) rfl (by kernel_rfl) (by kernel_rfl) (by kernel_rfl) (fun _ _ _ h => h) (Or.inl ⟨by rfl, ?_⟩) hH ?_
                  rotate_left 1
                  · intro W hSw
                    (try dsimp only at hSw)
                    go_simp
                    (try with_reducible rfl)
                  try simp only [Act.put, List.setIfInBounds_toArray, List.set_cons_zero, List.set_cons_succ]
                  refine wpAnyH_take (i := 7) (oi := { dst := some 35, op := _, type := _, pos := _, after := _, guard := _ }) (v := ?_) rfl (by kernel_rfl) (by kernel_rfl) (by kernel_rfl) (fun _ _ _ h => h) (Or.inl ⟨by rfl, ?_⟩) hH ?_
                  rotate_left 1
                  · intro W hSw
                    (try dsimp only at hSw)
                    go_simp
                    (try with_reducible rfl)
                  try simp only [Act.put, List.setIfInBounds_toArray, List.set_cons_zero, List.set_cons_succ]
                  refine wpAnyH_take (i := 8) (oi := { dst := some 36, op := _, type := _, pos := _, after := _, guard := _ }) (v := ?_) rfl (by kernel_rfl) (by kernel_rfl) (by kernel_rfl) (fun _ _ _ h => h) (Or.inl ⟨by rfl, ?_⟩) hH ?_
                  rotate_left 1
                  · intro W hSw
                    (try dsimp only at hSw)
                    go_simp
                    (try with_reducible rfl)
                  try simp only [Act.put, List.setIfInBounds_toArray, List.set_cons_zero, List.set_cons_succ]
                  refine wpAnyH_take (i := 9) (oi := { dst := some 37, op := _, type := _, pos := _, after := _, guard := _ }) (v := ?_) rfl (by kernel_rfl) (by kernel_rfl) (by kernel_rfl) (fun _ _ _ h => h) (Or.inl ⟨by rfl, ?_⟩) hH ?_
                  rotate_left 1
                  · intro W hSw
                    (try dsimp only at hSw)
                    go_simp
                    (try with_reducible rfl)
                  try simp only [Act.put, List.setIfInBounds_toArray, List.set_cons_zero, List.set_cons_succ]
                  refine wpAnyH_take (i := 11) (oi := { dst := some 39, op := _, type := _, pos := _, after := _, guard := _ }) (v := ?_) rfl (by kernel_rfl) (by kernel_rfl) (by kernel_rfl) (fun _ _ _ h => h) (Or.inl ⟨by rfl, ?_⟩) hH ?_
                  rotate_left 1
                  · intro W hSw
                    (try dsimp only at hSw)
                    go_simp
                    (try with_reducible rfl)
                  try simp only [Act.put, List.setIfInBounds_toArray, List.set_cons_zero, List.set_cons_succ]
                  refine wpAnyH_take (i := 12) (oi := { dst := some 40, op := _, type := _, pos := _, after := _, guard := _ }) (v := ?_) rfl (by kernel_rfl) (by kernel_rfl) (by kernel_rfl) (fun _ _ _ h => h) (Or.inl ⟨by rfl, ?_⟩) hH ?_
                  rotate_left 1
                  · intro W hSw
                    (try dsimp only at hSw)
                    go_simp
                    (try with_reducible rfl)
                  try simp only [Act.put, List.setIfInBounds_toArray, List.set_cons_zero, List.set_cons_succ]
                  refine wpAnyH_ready (rs := [10]) (by kernel_rfl) (by simp) (AllReadyH.cons rfl (fun K hK => ?_) AllReadyH.nil)
                  go_simp
                  go_at_call 96; ((with_reducible refine (G1.out _).mono ?_); rintro e u3 ⟨rfl, hb⟩); go_wp2_with fail
                  refine hK.out _ _ ?_ (fun hG => ?_)
                  · exact ⟨cell_below hb hH.1, cell_below hb hH.2.1, cell_below hb hH.2.2.1, cell_below hb hH.2.2.2.1, cell_below hb hH.2.2.2.2.1, cell_below hb hH.2.2.2.2.2.1, cell_below hb hH.2.2.2.2.2.2.1, cell_below hb hH.2.2.2.2.2.2.2.1, cell_below hb hH.2.2.2.2.2.2.2.2.1, cell_below hb hH.2.2.2.2.2.2.2.2.2.1, hH.2.2.2.2.2.2.2.2.2.2.trans (hb.mono hH.2.2.2.2.2.2.2.2.2.2.size)⟩
                  replace hH := hG
                  clear hK K hG
                  try simp only [Act.put, List.setIfInBounds_toArray, List.set_cons_zero, List.set_cons_succ]
                  refine wpAnyH_ready (rs := [13]) (by kernel_rfl) (by simp) (AllReadyH.cons rfl (fun K hK => ?_) AllReadyH.nil)
                  go_simp
                  go_at_call 96; ((with_reducible refine (G2.out _).mono ?_); rintro e u4 ⟨rfl, hb⟩); go_wp2_with fail
                  refine hK.out _ _ ?_ (fun hG => ?_)
                  · exact ⟨cell_below hb hH.1, cell_below hb hH.2.1, cell_below hb hH.2.2.1, cell_below hb hH.2.2.2.1, cell_below hb hH.2.2.2.2.1, cell_below hb hH.2.2.2.2.2.1, cell_below hb hH.2.2.2.2.2.2.1, cell_below hb hH.2.2.2.2.2.2.2.1, cell_below hb hH.2.2.2.2.2.2.2.2.1, cell_below hb hH.2.2.2.2.2.2.2.2.2.1, hH.2.2.2.2.2.2.2.2.2.2.trans (hb.mono hH.2.2.2.2.2.2.2.2.2.2.size)⟩
                  replace hH := hG
                  clear hK K hG
                  try simp only [Act.put, List.setIfInBounds_toArray, List.set_cons_zero, List.set_cons_succ]
                  refine wpAnyH_take (i := 14) (oi := { dst := some 42, op := _, type := _, pos := _, after := _, guard := _ }) (v := ?_) rfl (by kernel_rfl) (by kernel_rfl) (by kernel_rfl) (fun _ _ _ h => h) (Or.inl ⟨by rfl, ?_⟩) hH ?_
                  rotate_left 1
                  · intro W hSw
                    (try dsimp only at hSw)
                    go_simp
                    (try with_reducible rfl)
                  try simp only [Act.put, List.setIfInBounds_toArray, List.set_cons_zero, List.set_cons_succ]
                  refine wpAnyH_take (i := 15) (oi := { dst := some 43, op := _, type := _, pos := _, after := _, guard := _ }) (v := ?_) rfl (by kernel_rfl) (by kernel_rfl) (by kernel_rfl) (fun _ _ _ h => h) (Or.inl ⟨by rfl, ?_⟩) hH ?_
                  rotate_left 1
                  · intro W hSw
                    (try dsimp only at hSw)
                    go_simp
                    (try with_reducible rfl)
                  try simp only [Act.put, List.setIfInBounds_toArray, List.set_cons_zero, List.set_cons_succ]
                  refine wpAnyH_done (by kernel_rfl) ?_ _
                  have BF := Lib.hid hH.2.2.2.2.2.2.2.2.2.2
                  clear hH
                  go_wp2_with fail
                  go_meet
                  exact ⟨rfl, BF⟩
              · have q1 : (Y1 == Y2) = false := by simpa using e2
                obtain rfl : false = b9 := by rw [← FK]; simp [e2]
                subst e1
                have q2 : (X1 == X1) = true := by simp
                clear e2 FK
                refine wp_region_held_drew (S := (fun w' => w'.cell? ⟨w.heap.size, 0, none⟩ = some (.int .i64 x1) ∧ w'.cell? ⟨w.heap.size, 1, none⟩ = some (.int .i64 y1) ∧ w'.cell? ⟨w.heap.size, 2, none⟩ = some (.int .i64 h1) ∧ w'.cell? ⟨w.heap.size, 3, none⟩ = some (.int .i64 t1) ∧ w'.cell? ⟨w.heap.size, 4, none⟩ = some (.int .i64 l1) ∧ w'.cell? ⟨w.heap.size + 1, 0, none⟩ = some (.int .i64 x2) ∧ w'.cell? ⟨w.heap.size + 1, 1, none⟩ = some (.int .i64 y2) ∧ w'.cell? ⟨w.heap.size + 1, 2, none⟩ = some (.int .i64 h2) ∧ w'.cell? ⟨w.heap.size + 1, 3, none⟩ = some (.int .i64 t2) ∧ w'.cell? ⟨w.heap.size + 1, 4, none⟩ = some (.int .i64 l2) ∧ Below v4.heap.size v4 w')) (by kernel_rfl) ?_ (fun hH => ?_)
                · exact ⟨a0, a1, a2, a3, a4, b0, b1, b2, b3, b4, (Below.refl _ _).drew⟩
                refine wpAnyH_take (i := 0) (oi := { dst := some 28, op := _, type := _, pos := _, after := _, guard := _ }) (v := ?_) rfl (by kernel_rfl) (by kernel_rfl) (by kernel_rfl) (fun _ _ _ h => h) (Or.inl ⟨by rfl, ?_⟩) hH ?_
                rotate_left 1
                · intro W hSw
                  (try dsimp only at hSw)
                  go_simp
                  (try with_reducible rfl)
                try simp only [Act.put, List.setIfInBounds_toArray, List.set_cons_zero, List.set_cons_succ]
                refine wpAnyH_take (i := 1) (oi := { dst := some 29, op := _, type := _, pos := _, after := _, guard := _ }) (v := ?_) rfl (by kernel_rfl) (by kernel_rfl) (by kernel_rfl) (fun _ _ _ h => h) (Or.inl ⟨by rfl, ?_⟩) hH ?_
                rotate_left 1
                · intro W hSw
                  (try dsimp only at hSw)
                  go_simp
                  (try with_reducible rfl)
                try simp only [Act.put, List.setIfInBounds_toArray, List.set_cons_zero, List.set_cons_succ]
                refine wpAnyH_take (i := 3) (oi := { dst := some 31, op := _, type := _, pos := _, after := _, guard := _ }) (v := ?_) rfl (by kernel_rfl) (by kernel_rfl) (by kernel_rfl) (fun _ _ _ h => h) (Or.inl ⟨by rfl, ?_⟩) hH ?_
                rotate_left 1
                · intro W hSw
                  (try dsimp only at hSw)
                  go_simp
                  (try with_reducible rfl)
                try simp only [Act.put, List.setIfInBounds_toArray, List.set_cons_zero, List.set_cons_succ]
                refine wpAnyH_take (i := 4) (oi := { dst := some 32, op := _, type := _, pos := _, after := _, guard := _ }) (v := ?_) rfl (by kernel_rfl) (by kernel_rfl) (by kernel_rfl) (fun _ _ _ h => h) (Or.inl ⟨by rfl, ?_⟩) hH ?_
                rotate_left 1
                · intro W hSw
                  (try dsimp only at hSw)
                  go_simp
                  (try with_reducible rfl)
                try simp only [Act.put, List.setIfInBounds_toArray, List.set_cons_zero, List.set_cons_succ]
                refine wpAnyH_ready (rs := [2]) (by kernel_rfl) (by simp) (AllReadyH.cons rfl (fun K hK => ?_) AllReadyH.nil)
                go_simp
                go_at_call 95; ((with_reducible refine (Q1.out _).mono ?_); rintro e u1 ⟨rfl, hb⟩); go_wp2_with fail
                refine hK.out _ _ ?_ (fun hG => ?_)
                · exact ⟨cell_below hb hH.1, cell_below hb hH.2.1, cell_below hb hH.2.2.1, cell_below hb hH.2.2.2.1, cell_below hb hH.2.2.2.2.1, cell_below hb hH.2.2.2.2.2.1, cell_below hb hH.2.2.2.2.2.2.1, cell_below hb hH.2.2.2.2.2.2.2.1, cell_below hb hH.2.2.2.2.2.2.2.2.1, cell_below hb hH.2.2.2.2.2.2.2.2.2.1, hH.2.2.2.2.2.2.2.2.2.2.trans (hb.mono hH.2.2.2.2.2.2.2.2.2.2.size)⟩
                replace hH := hG
                clear hK K hG
                try simp only [Act.put, List.setIfInBounds_toArray, List.set_cons_zero, List.set_cons_succ]
                refine wpAnyH_ready (rs := [5]) (by kernel_rfl) (by simp) (AllReadyH.cons rfl (fun K hK => ?_) AllReadyH.nil)
                go_simp
                go_at_call 95; ((with_reducible refine (Q2.out _).mono ?_); rintro e u2 ⟨rfl, hb⟩); go_wp2_with fail
                refine hK.out _ _ ?_ (fun hG => ?_)
                · exact ⟨cell_below hb hH.1, cell_below hb hH.2.1, cell_below hb hH.2.2.1, cell_below hb hH.2.2.2.1, cell_below hb hH.2.2.2.2.1, cell_below hb hH.2.2.2.2.2.1, cell_below hb hH.2.2.2.2.2.2.1, cell_below hb hH.2.2.2.2.2.2.2.1, cell_below hb hH.2.2.2.2.2.2.2.2.1, cell_below hb hH.2.2.2.2.2.2.2.2.2.1, hH.2.2.2.2.2.2.2.2.2.2.trans (hb.mono hH.2.2.2.2.2.2.2.2.2.2.size)⟩
                replace hH := hG
                clear hK K hG
                try simp only [Act.put, List.setIfInBounds_toArray, List.set_cons_zero, List.set_cons_succ]
                refine wpAnyH_take (i := 6) (oi := { dst := some 34, op := _, type := _, pos := _, after := _, guard := _ }) (v := ?_) rfl (by kernel_rfl) (by kernel_rfl) (by kernel_rfl) (fun _ _ _ h => h) (Or.inl ⟨by rfl, ?_⟩) hH ?_
                rotate_left 1
                · intro W hSw
                  (try dsimp only at hSw)
                  go_simp
                  (try with_reducible rfl)
                try simp only [Act.put, List.setIfInBounds_toArray, List.set_cons_zero, List.set_cons_succ]
                refine wpAnyH_take (i := 7) (oi := { dst := some 35, op := _, type := _, pos := _, after := _, guard := _ }) (v := ?_) rfl (by kernel_rfl) (by kernel_rfl) (by kernel_rfl) (fun _ _ _ h => h) (Or.inl ⟨by rfl, ?_⟩) hH ?_
                rotate_left 1
                · intro W hSw
                  (try dsimp only at hSw)
                  go_simp
                  (try with_reducible rfl)
                try simp only [Act.put, List.setIfInBounds_toArray, List.set_cons_zero, List.set_cons_succ]
                refine wpAnyH_take (i := 8) (oi := { dst := some 36, op := _, type := _, pos := _, after := _, guard := _ }) (v := undef) rfl (by kernel_rfl) (by kernel_rfl) (by kernel_rfl) (fun _ _ _ h => h) (Or.inr ⟨by simp [Region.wanted, yielded, hu], rfl⟩) hH ?_
                try simp only [Act.put, List.setIfInBounds_toArray, List.set_cons_zero, List.set_cons_succ]
                refine wpAnyH_take (i := 9) (oi := { dst := some 37, op := _, type := _, pos := _, after := _, guard := _ }) (v := undef) rfl (by kernel_rfl) (by kernel_rfl) (by kernel_rfl) (fun _ _ _ h => h) (Or.inr ⟨by simp [Region.wanted, yielded, hu], rfl⟩) hH ?_
                try simp only [Act.put, List.setIfInBounds_toArray, List.set_cons_zero, List.set_cons_succ]
                refine wpAnyH_take (i := 10) (oi := { dst := some 38, op := _, type := _, pos := _, after := _, guard := _ }) (v := undef) rfl (by kernel_rfl) (by kernel_rfl) (by kernel_rfl) (fun _ _ _ h => h) (Or.inr ⟨by simp [Region.wanted, yielded, hu], rfl⟩) hH ?_
                try simp only [Act.put, List.setIfInBounds_toArray, List.set_cons_zero, List.set_cons_succ]
                refine wpAnyH_take (i := 11) (oi := { dst := some 39, op := _, type := _, pos := _, after := _, guard := _ }) (v := undef) rfl (by kernel_rfl) (by kernel_rfl) (by kernel_rfl) (fun _ _ _ h => h) (Or.inr ⟨by simp [Region.wanted, yielded, hu], rfl⟩) hH ?_
                try simp only [Act.put, List.setIfInBounds_toArray, List.set_cons_zero, List.set_cons_succ]
                refine wpAnyH_take (i := 12) (oi := { dst := some 40, op := _, type := _, pos := _, after := _, guard := _ }) (v := undef) rfl (by kernel_rfl) (by kernel_rfl) (by kernel_rfl) (fun _ _ _ h => h) (Or.inr ⟨by simp [Region.wanted, yielded, hu], rfl⟩) hH ?_
                try simp only [Act.put, List.setIfInBounds_toArray, List.set_cons_zero, List.set_cons_succ]
                refine wpAnyH_take (i := 13) (oi := { dst := some 41, op := _, type := _, pos := _, after := _, guard := _ }) (v := undef) rfl (by kernel_rfl) (by kernel_rfl) (by kernel_rfl) (fun _ _ _ h => h) (Or.inr ⟨by simp [Region.wanted, yielded, hu], rfl⟩) hH ?_
                try simp only [Act.put, List.setIfInBounds_toArray, List.set_cons_zero, List.set_cons_succ]
                refine wpAnyH_take (i := 14) (oi := { dst := some 42, op := _, type := _, pos := _, after := _, guard := _ }) (v := undef) rfl (by kernel_rfl) (by kernel_rfl) (by kernel_rfl) (fun _ _ _ h => h) (Or.inr ⟨by simp [Region.wanted, yielded, hu], rfl⟩) hH ?_
                try simp only [Act.put, List.setIfInBounds_toArray, List.set_cons_zero, List.set_cons_succ]
                refine wpAnyH_take (i := 15) (oi := { dst := some 43, op := _, type := _, pos := _, after := _, guard := _ }) (v := ?_) rfl (by kernel_rfl) (by kernel_rfl) (by kernel_rfl) (fun _ _ _ h => h) (Or.inl ⟨by rfl, ?_⟩) hH ?_
                rotate_left 1
                · intro W hSw
                  (try dsimp only at hSw)
                  go_simp
                  (try with_reducible rfl)
                try simp only [Act.put, List.setIfInBounds_toArray, List.set_cons_zero, List.set_cons_succ]
                refine wpAnyH_done (by kernel_rfl) ?_ _
                have BF := Lib.hid hH.2.2.2.2.2.2.2.2.2.2
                clear hH
                go_wp2_with fail
                go_meet
                exact ⟨rfl, BF⟩
            · have q1 : (X1 == X2) = false := by simpa using e1
              obtain rfl : false = b9 := by rw [← FK]; simp [e1]
              clear e1 FK
              refine wp_region_held_drew (S := (fun w' => w'.cell? ⟨w.heap.size, 0, none⟩ = some (.int .i64 x1) ∧ w'.cell? ⟨w.heap.size, 1, none⟩ = some (.int .i64 y1) ∧ w'.cell? ⟨w.heap.size, 2, none⟩ = some (.int .i64 h1) ∧ w'.cell? ⟨w.heap.size, 3, none⟩ = some (.int .i64 t1) ∧ w'.cell? ⟨w.heap.size, 4, none⟩ = some (.int .i64 l1) ∧ w'.cell? ⟨w.heap.size + 1, 0, none⟩ = some (.int .i64 x2) ∧ w'.cell? ⟨w.heap.size + 1, 1, none⟩ = some (.int .i64 y2) ∧ w'.cell? ⟨w.heap.size + 1, 2, none⟩ = some (.int .i64 h2) ∧ w'.cell? ⟨w.heap.size + 1, 3, none⟩ = some (.int .i64 t2) ∧ w'.cell? ⟨w.heap.size + 1, 4, none⟩ = some (.int .i64 l2) ∧ Below v4.heap.size v4 w')) (by kernel_rfl) ?_ (fun hH => ?_)
              · exact ⟨a0, a1, a2, a3, a4, b0, b1, b2, b3, b4, (Below.refl _ _).drew⟩
              refine wpAnyH_take (i := 0) (oi := { dst := some 28, op := _, type := _, pos := _, after := _, guard := _ }) (v := ?_) rfl (by kernel_rfl) (by kernel_rfl) (by kernel_rfl) (fun _ _ _ h => h) (Or.inl ⟨by rfl, ?_⟩) hH ?_
              rotate_left 1
              · intro W hSw
                (try dsimp only at hSw)
                go_simp
                (try with_reducible rfl)
              try simp only [Act.put, List.setIfInBounds_toArray, List.set_cons_zero, List.set_cons_succ]
              refine wpAnyH_take (i := 1) (oi := { dst := some 29, op := _, type := _, pos := _, after := _, guard := _ }) (v := ?_) rfl (by kernel_rfl) (by kernel_rfl) (by kernel_rfl) (fun _ _ _ h => h) (Or.inl ⟨by rfl, ?_⟩) hH ?_
              rotate_left 1
              · intro W hSw
                (try dsimp only at hSw)
                go_simp
                (try with_reducible rfl)
              try simp only [Act.put, List.setIfInBounds_toArray, List.set_cons_zero, List.set_cons_succ]
              refine wpAnyH_take (i := 3) (oi := { dst := some 31, op := _, type := _, pos := _, after := _, guard := _ }) (v := ?_) rfl (by kernel_rfl) (by kernel_rfl) (by kernel_rfl) (fun _ _ _ h => h) (Or.inl ⟨by rfl, ?_⟩) hH ?_
              rotate_left 1
              · intro W hSw
                (try dsimp only at hSw)
                go_simp
                (try with_reducible rfl)
              try simp only [Act.put, List.setIfInBounds_toArray, List.set_cons_zero, List.set_cons_succ]
              refine wpAnyH_take (i := 4) (oi := { dst := some 32, op := _, type := _, pos := _, after := _, guard := _ }) (v := ?_) rfl (by kernel_rfl) (by kernel_rfl) (by kernel_rfl) (fun _ _ _ h => h) (Or.inl ⟨by rfl, ?_⟩) hH ?_
              rotate_left 1
              · intro W hSw
                (try dsimp only at hSw)
                go_simp
                (try with_reducible rfl)
              try simp only [Act.put, List.setIfInBounds_toArray, List.set_cons_zero, List.set_cons_succ]
              refine wpAnyH_ready (rs := [2]) (by kernel_rfl) (by simp) (AllReadyH.cons rfl (fun K hK => ?_) AllReadyH.nil)
              go_simp
              go_at_call 95; ((with_reducible refine (Q1.out _).mono ?_); rintro e u1 ⟨rfl, hb⟩); go_wp2_with fail
              refine hK.out _ _ ?_ (fun hG => ?_)
              · exact ⟨cell_below hb hH.1, cell_below hb hH.2.1, cell_below hb hH.2.2.1, cell_below hb hH.2.2.2.1, cell_below hb hH.2.2.2.2.1, cell_below hb hH.2.2.2.2.2.1, cell_below hb hH.2.2.2.2.2.2.1, cell_below hb hH.2.2.2.2.2.2.2.1, cell_below hb hH.2.2.2.2.2.2.2.2.1, cell_below hb hH.2.2.2.2.2.2.2.2.2.1, hH.2.2.2.2.2.2.2.2.2.2.trans (hb.mono hH.2.2.2.2.2.2.2.2.2.2.size)⟩
              replace hH := hG
              clear hK K hG
              try simp only [Act.put, List.setIfInBounds_toArray, List.set_cons_zero, List.set_cons_succ]
              refine wpAnyH_ready (rs := [5]) (by kernel_rfl) (by simp) (AllReadyH.cons rfl (fun K hK => ?_) AllReadyH.nil)
              go_simp
              go_at_call 95; ((with_reducible refine (Q2.out _).mono ?_); rintro e u2 ⟨rfl, hb⟩); go_wp2_with fail
              refine hK.out _ _ ?_ (fun hG => ?_)
              · exact ⟨cell_below hb hH.1, cell_below hb hH.2.1, cell_below hb hH.2.2.1, cell_below hb hH.2.2.2.1, cell_below hb hH.2.2.2.2.1, cell_below hb hH.2.2.2.2.2.1, cell_below hb hH.2.2.2.2.2.2.1, cell_below hb hH.2.2.2.2.2.2.2.1, cell_below hb hH.2.2.2.2.2.2.2.2.1, cell_below hb hH.2.2.2.2.2.2.2.2.2.1, hH.2.2.2.2.2.2.2.2.2.2.trans (hb.mono hH.2.2.2.2.2.2.2.2.2.2.size)⟩
              replace hH := hG
              clear hK K hG
              try simp only [Act.put, List.setIfInBounds_toArray, List.set_cons_zero, List.set_cons_succ]
              refine wpAnyH_take (i := 6) (oi := { dst := some 34, op := _, type := _, pos := _, after := _, guard := _ }) (v := ?_) rfl (by kernel_rfl) (by kernel_rfl) (by kernel_rfl) (fun _ _ _ h => h) (Or.inl ⟨by rfl, ?_⟩) hH ?_
              rotate_left 1
              · intro W hSw
                (try dsimp only at hSw)
                go_simp
                (try with_reducible rfl)
              try simp only [Act.put, List.setIfInBounds_toArray, List.set_cons_zero, List.set_cons_succ]
              refine wpAnyH_take (i := 7) (oi := { dst := some 35, op := _, type := _, pos := _, after := _, guard := _ }) (v := ?_) rfl (by kernel_rfl) (by kernel_rfl) (by kernel_rfl) (fun _ _ _ h => h) (Or.inl ⟨by rfl, ?_⟩) hH ?_
              rotate_left 1
              · intro W hSw
                (try dsimp only at hSw)
                go_simp
                (try with_reducible rfl)
              try simp only [Act.put, List.setIfInBounds_toArray, List.set_cons_zero, List.set_cons_succ]
              refine wpAnyH_take (i := 8) (oi := { dst := some 36, op := _, type := _, pos := _, after := _, guard := _ }) (v := undef) rfl (by kernel_rfl) (by kernel_rfl) (by kernel_rfl) (fun _ _ _ h => h) (Or.inr ⟨by simp [Region.wanted, yielded, hu], rfl⟩) hH ?_
              try simp only [Act.put, List.setIfInBounds_toArray, List.set_cons_zero, List.set_cons_succ]
              refine wpAnyH_take (i := 9) (oi := { dst := some 37, op := _, type := _, pos := _, after := _, guard := _ }) (v := undef) rfl (by kernel_rfl) (by kernel_rfl) (by kernel_rfl) (fun _ _ _ h => h) (Or.inr ⟨by simp [Region.wanted, yielded, hu], rfl⟩) hH ?_
              try simp only [Act.put, List.setIfInBounds_toArray, List.set_cons_zero, List.set_cons_succ]
              refine wpAnyH_take (i := 10) (oi := { dst := some 38, op := _, type := _, pos := _, after := _, guard := _ }) (v := undef) rfl (by kernel_rfl) (by kernel_rfl) (by kernel_rfl) (fun _ _ _ h => h) (Or.inr ⟨by simp [Region.wanted, yielded, hu], rfl⟩) hH ?_
              try simp only [Act.put, List.setIfInBounds_toArray, List.set_cons_zero, List.set_cons_succ]
              refine wpAnyH_take (i := 11) (oi := { dst := some 39, op := _, type := _, pos := _, after := _, guard := _ }) (v := undef) rfl (by kernel_rfl) (by kernel_rfl) (by kernel_rfl) (fun _ _ _ h => h) (Or.inr ⟨by simp [Region.wanted, yielded, hu], rfl⟩) hH ?_
              try simp only [Act.put, List.setIfInBounds_toArray, List.set_cons_zero, List.set_cons_succ]
              refine wpAnyH_take (i := 12) (oi := { dst := some 40, op := _, type := _, pos := _, after := _, guard := _ }) (v := undef) rfl (by kernel_rfl) (by kernel_rfl) (by kernel_rfl) (fun _ _ _ h => h) (Or.inr ⟨by simp [Region.wanted, yielded, hu], rfl⟩) hH ?_
              try simp only [Act.put, List.setIfInBounds_toArray, List.set_cons_zero, List.set_cons_succ]
              refine wpAnyH_take (i := 13) (oi := { dst := some 41, op := _, type := _, pos := _, after := _, guard := _ }) (v := undef) rfl (by kernel_rfl) (by kernel_rfl) (by kernel_rfl) (fun _ _ _ h => h) (Or.inr ⟨by simp [Region.wanted, yielded, hu], rfl⟩) hH ?_
              try simp only [Act.put, List.setIfInBounds_toArray, List.set_cons_zero, List.set_cons_succ]
              refine wpAnyH_take (i := 14) (oi := { dst := some 42, op := _, type := _, pos := _, after := _, guard := _ }) (v := undef) rfl (by kernel_rfl) (by kernel_rfl) (by kernel_rfl) (fun _ _ _ h => h) (Or.inr ⟨by simp [Region.wanted, yielded, hu], rfl⟩) hH ?_
              try simp only [Act.put, List.setIfInBounds_toArray, List.set_cons_zero, List.set_cons_succ]
              refine wpAnyH_take (i := 15) (oi := { dst := some 43, op := _, type := _, pos := _, after := _, guard := _ }) (v := ?_) rfl (by kernel_rfl) (by kernel_rfl) (by kernel_rfl) (fun _ _ _ h => h) (Or.inl ⟨by rfl, ?_⟩) hH ?_
              rotate_left 1
              · intro W hSw
                (try dsimp only at hSw)
                go_simp
                (try with_reducible rfl)
              try simp only [Act.put, List.setIfInBounds_toArray, List.set_cons_zero, List.set_cons_succ]
              refine wpAnyH_done (by kernel_rfl) ?_ _
              have BF := Lib.hid hH.2.2.2.2.2.2.2.2.2.2
              clear hH
              go_wp2_with fail
              go_meet
              exact ⟨rfl, BF⟩
          case rest =>
            obtain ⟨rfl, BC⟩ := hcut
            have hb := BC.out
            have RK2 := Lib.hid (owns_below RK.out hb)
            have JA2 := Lib.hid (JB.below JA.out hb)
            have JJ2 := Lib.hid (JB.below JJ.out hb)
            have BK2 := Lib.hid (BK.out.trans (hb.mono BK.out.size))
            clear hb BC RK JA JJ BK Q1 Q2 G1 G2 FK d1 d2
            cases b9
            · have RK6 := Lib.hid (show wc.ownsRow w.heap.size 3 1 (.slice (some ⟨gr, 0, none⟩) q cc) q (ints (mts f (k + 1))) by rw [mts_no MS.out]; exact RK2.out)
              have QL6 := Lib.hid (show (mts f (k + 1)).length = q by rw [mts_no MS.out]; exact QL.out)
              clear RK2 QL
              go_wp2_with fail
              go_roundw
              case rel => exact ⟨k + 1, q, by omega, by go_num, ⟨_, _, rfl⟩, QL6, RK6, JA2, JJ2, BK2⟩
              case measure => simp [intOf]; omega
            · have hq : q ≤ 33 := by have := mts_len f k; have := QL.out; omega
              have hown := RK2.out.alloc
              have HW := Lib.hid BK2.out.size
              go_wp2_with (at_builtin; refine wpList_append_own _ rfl _ _ 44 rfl w.heap.size 3 i0 (.int .i64 0) 1 8 Try.underlying44 hi hz0 hz1 hz2 rfl (by decide) _ _ _ rfl (hown _) ⟨wc.heap.size, 0, none⟩ 1 1 [.int .i64 (k : Int)] rfl rfl (by intro j u hj; match j, hj with | 0, hj => simp at hj; subst hj; simp [Addr.add]) (by intro u hu; simp at hu; subst hu; rfl) (by unfold maxLen; omega) (by omega) (by have := HW.out; simp; omega) ?_; intro v' w6 hown' hgrow hnil)
              have ZE := mts_yes MS.out
              rw [ints_snoc, ← ZE] at hown'
              obtain ⟨g5, c5, rfl⟩ := own_mk hown'
              have RK6 := Lib.hid hown'
              have QL6 := Lib.hid (show (mts f (k + 1)).length = q + 1 by rw [ZE, List.length_append, QL.out]; rfl)
              have JA6 := Lib.hid (JB.grown (JB.alloc JA2.out (.cells #[.int .i64 (k : Int)] 3)) hgrow (fun e => hr1.out (Option.some.inj e).symm))
              have JJ6 := Lib.hid (JB.grown (JB.alloc JJ2.out (.cells #[.int .i64 (k : Int)] 3)) hgrow (fun e => hr2.out (Option.some.inj e).symm))
              have BK6 := Lib.hid ((BK2.out.alloc BK2.out.size (.cells #[.int .i64 (k : Int)] 3)).grown hgrow (by have := HW.out; simp; omega) (fun j hj => own_base RK2.out j hj))
              clear hown' hgrow hnil hown RK2 JA2 JJ2 BK2 HW QL ZE
              go_wp2_with fail
              go_roundw
              case rel => exact ⟨k + 1, q + 1, by omega, by go_num, ⟨_, _, rfl⟩, QL6, RK6, JA6, JJ6, BK6⟩
              case measure => simp [intOf]; omega
        · obtain rfl : k = T + 1 := by omega
          obtain ⟨z, hz⟩ : ∃ z : Int, ((T + 1 : Nat) : Int) = z := ⟨_, rfl⟩
          by_cases hx : z ≤ l1 + 1
          · have d1 : decide (z ≤ l1 + 1) = true := decide_eq_true hx
            have d2 : decide (z ≤ l2 + 1) = false := decide_eq_false (by omega)
            rw [hz]
            clear hx hz hkk
            obtain ⟨a0, a1, a2, a3, a4⟩ := JA.out.c
            obtain ⟨b0, b1, b2, b3, b4⟩ := JJ.out.c
            go_wp2_with fail
            refine (F1.out _).mono ?_
            rintro e v1 ⟨rfl, hb⟩
            clear a0 a1 a2 a3 a4 b0 b1 b2 b3 b4
            have RK2 := Lib.hid (owns_below RK.out hb)
            have JA2 := Lib.hid (JB.below JA.out hb)
            have JJ2 := Lib.hid (JB.below JJ.out hb)
            have BK2 := Lib.hid (BK.out.trans (hb.mono BK.out.size))
            clear hb RK JA JJ BK
            have RK := RK2
            have JA := JA2
            have JJ := JJ2
            have BK := BK2
            clear RK2 JA2 JJ2 BK2
            obtain ⟨a0, a1, a2, a3, a4⟩ := JA.out.c
            obtain ⟨b0, b1, b2, b3, b4⟩ := JJ.out.c
            go_wp2_with fail
            refine (F2.out _).mono ?_
            rintro e v2 ⟨rfl, hb⟩
            clear a0 a1 a2 a3 a4 b0 b1 b2 b3 b4
            have RK2 := Lib.hid (owns_below RK.out hb)
            have JA2 := Lib.hid (JB.below JA.out hb)
            have JJ2 := Lib.hid (JB.below JJ.out hb)
            have BK2 := Lib.hid (BK.out.trans (hb.mono BK.out.size))
            clear hb RK JA JJ BK
            have RK := RK2
            have JA := JA2
            have JJ := JJ2
            have BK := BK2
            clear RK2 JA2 JJ2 BK2
            go_wp2_with fail
            go_ret
            refine ⟨gr, cc, ?_, ?_, BK.out⟩
            · rw [M.out, QL.out]; rfl
            · rw [M.out, QL.out]; exact RK.out
          · have d1 : decide (z ≤ l1 + 1) = false := decide_eq_false hx
            rw [hz]
            clear hx hz hkk
            obtain ⟨a0, a1, a2, a3, a4⟩ := JA.out.c
            obtain ⟨b0, b1, b2, b3, b4⟩ := JJ.out.c
            go_wp2_with fail
            refine (F1.out _).mono ?_
            rintro e v1 ⟨rfl, hb⟩
            clear a0 a1 a2 a3 a4 b0 b1 b2 b3 b4
            have RK2 := Lib.hid (owns_below RK.out hb)
            have JA2 := Lib.hid (JB.below JA.out hb)
            have JJ2 := Lib.hid (JB.below JJ.out hb)
            have BK2 := Lib.hid (BK.out.trans (hb.mono BK.out.size))
            clear hb RK JA JJ BK
            have RK := RK2
            have JA := JA2
            have JJ := JJ2
            have BK := BK2
            clear RK2 JA2 JJ2 BK2
            go_wp2_with fail
            go_ret
            refine ⟨gr, cc, ?_, ?_, BK.out⟩
            · rw [M.out, QL.out]; rfl
            · rw [M.out, QL.out]; exact RK.out
    · have j2' : jt x2 y2 h2 t2 l2 = false := by simpa using j2
      have C2 := Lib.hid (isJetS_of j2')
      have M := Lib.hid (show mto x1 y1 h1 t1 l1 x2 y2 h2 t2 l2 = [] by unfold mto; rw [if_neg (fun c => j2 c.2)])
      have hl1 := (jt_iff.1 j1).2.2.2.2
      have d1 : decide (0 ≤ l1 + 1) = true := decide_eq_true (by omega)
      rw [fl_yes j1] at F1
      rw [fl_no j2'] at F2
      replace F1 := Lib.hid F1
      replace F2 := Lib.hid F2
      clear j1 j2 j2'
      go_enter Try.func38, Try.ntmps38
      go_wp2_with fail
      refine wp_loop_rounds 1 ?_
      rw [rounds_succ]
      have RK := Lib.hid (owns_base R0.out (show w.heap.size ≤ w.heap.size + 1 + 1 by omega))
      have BK := BA
      clear R0 BA
      obtain ⟨a0, a1, a2, a3, a4⟩ := JA.out.c
      obtain ⟨b0, b1, b2, b3, b4⟩ := JJ.out.c
      go_wp2_with fail
      refine (F1.out _).mono ?_
      rintro e v1 ⟨rfl, hb⟩
      clear a0 a1 a2 a3 a4 b0 b1 b2 b3 b4
      have RK2 := Lib.hid (owns_below RK.out hb)
      have JA2 := Lib.hid (JB.below JA.out hb)
      have JJ2 := Lib.hid (JB.below JJ.out hb)
      have BK2 := Lib.hid (BK.out.trans (hb.mono BK.out.size))
      clear hb RK JA JJ BK
      have RK := RK2
      have JA := JA2
      have JJ := JJ2
      have BK := BK2
      clear RK2 JA2 JJ2 BK2
      obtain ⟨a0, a1, a2, a3, a4⟩ := JA.out.c
      obtain ⟨b0, b1, b2, b3, b4⟩ := JJ.out.c
      go_wp2_with fail
      refine (F2.out _).mono ?_
      rintro e v2 ⟨rfl, hb⟩
      clear a0 a1 a2 a3 a4 b0 b1 b2 b3 b4
      have RK2 := Lib.hid (owns_below RK.out hb)
      have JA2 := Lib.hid (JB.below JA.out hb)
      have JJ2 := Lib.hid (JB.below JJ.out hb)
      have BK2 := Lib.hid (BK.out.trans (hb.mono BK.out.size))
      clear hb RK JA JJ BK
      have RK := RK2
      have JA := JA2
      have JJ := JJ2
      have BK := BK2
      clear RK2 JA2 JJ2 BK2
      obtain ⟨a0, a1, a2, a3, a4⟩ := JA.out.c
      obtain ⟨b0, b1, b2, b3, b4⟩ := JJ.out.c
      go_wp2_with fail
      refine (C1.out _).mono ?_
      rintro e v3 ⟨rfl, hw⟩
      have hb := hw.symm ▸ (Below.refl _ _).alloc (Nat.le_refl _) (.cells (jc x1 y1 h1 t1 l1) 27)
      clear hw
      clear a0 a1 a2 a3 a4 b0 b1 b2 b3 b4
      have RK2 := Lib.hid (owns_below RK.out hb)
      have JA2 := Lib.hid (JB.below JA.out hb)
      have JJ2 := Lib.hid (JB.below JJ.out hb)
      have BK2 := Lib.hid (BK.out.trans (hb.mono BK.out.size))
      clear hb RK JA JJ BK
      have RK := RK2
      have JA := JA2
      have JJ := JJ2
      have BK := BK2
      clear RK2 JA2 JJ2 BK2
      obtain ⟨a0, a1, a2, a3, a4⟩ := JA.out.c
      obtain ⟨b0, b1, b2, b3, b4⟩ := JJ.out.c
      go_wp2_with fail
      refine (C2.out _).mono ?_
      rintro e v4 ⟨rfl, hw⟩
      have hb := hw.symm ▸ (Below.refl _ _).alloc (Nat.le_refl _) (.cells (jc x2 y2 h2 t2 l2) 27)
      clear hw
      clear a0 a1 a2 a3 a4 b0 b1 b2 b3 b4
      have RK2 := Lib.hid (owns_below RK.out hb)
      have JA2 := Lib.hid (JB.below JA.out hb)
      have JJ2 := Lib.hid (JB.below JJ.out hb)
      have BK2 := Lib.hid (BK.out.trans (hb.mono BK.out.size))
      clear hb RK JA JJ BK
      have RK := RK2
      have JA := JA2
      have JJ := JJ2
      have BK := BK2
      clear RK2 JA2 JJ2 BK2
      go_wp2_with fail
      go_ret
      rw [M.out]
      exact ⟨_, _, rfl, RK.out, BK.out⟩
  · have j1' : jt x1 y1 h1 t1 l1 = false := by simpa using j1
    have C1 := Lib.hid (isJetS_of j1')
    have M := Lib.hid (show mto x1 y1 h1 t1 l1 x2 y2 h2 t2 l2 = [] by unfold mto; rw [if_neg (fun c => j1 c.1)])
    rw [fl_no j1'] at F1
    replace F1 := Lib.hid F1
    have h9 : 0 ≤ fl x2 y2 h2 t2 l2 := by
      unfold fl; split
      · rename_i j; have := (jt_iff.1 j).2.2.2.2; omega
      · omega
    generalize fl x2 y2 h2 t2 l2 = z2 at *
    have d2 : decide (0 ≤ z2) = true := decide_eq_true h9
    replace F2 := Lib.hid F2
    clear j1 j1'
    go_enter Try.func38, Try.ntmps38
    go_wp2_with fail
    refine wp_loop_rounds 1 ?_
    rw [rounds_succ]
    have RK := Lib.hid (owns_base R0.out (show w.heap.size ≤ w.heap.size + 1 + 1 by omega))
    have BK := BA
    clear R0 BA
    obtain ⟨a0, a1, a2, a3, a4⟩ := JA.out.c
    obtain ⟨b0, b1, b2, b3, b4⟩ := JJ.out.c
    go_wp2_with fail
    refine (F1.out _).mono ?_
    rintro e v1 ⟨rfl, hb⟩
    clear a0 a1 a2 a3 a4 b0 b1 b2 b3 b4
    have RK2 := Lib.hid (owns_below RK.out hb)
    have JA2 := Lib.hid (JB.below JA.out hb)
    have JJ2 := Lib.hid (JB.below JJ.out hb)
    have BK2 := Lib.hid (BK.out.trans (hb.mono BK.out.size))
    clear hb RK JA JJ BK
    have RK := RK2
    have JA := JA2
    have JJ := JJ2
    have BK := BK2
    clear RK2 JA2 JJ2 BK2
    obtain ⟨a0, a1, a2, a3, a4⟩ := JA.out.c
    obtain ⟨b0, b1, b2, b3, b4⟩ := JJ.out.c
    go_wp2_with fail
    refine (F2.out _).mono ?_
    rintro e v2 ⟨rfl, hb⟩
    clear a0 a1 a2 a3 a4 b0 b1 b2 b3 b4
    have RK2 := Lib.hid (owns_below RK.out hb)
    have JA2 := Lib.hid (JB.below JA.out hb)
    have JJ2 := Lib.hid (JB.below JJ.out hb)
    have BK2 := Lib.hid (BK.out.trans (hb.mono BK.out.size))
    clear hb RK JA JJ BK
    have RK := RK2
    have JA := JA2
    have JJ := JJ2
    have BK := BK2
    clear RK2 JA2 JJ2 BK2
    obtain ⟨a0, a1, a2, a3, a4⟩ := JA.out.c
    obtain ⟨b0, b1, b2, b3, b4⟩ := JJ.out.c
    go_wp2_with fail
    refine (C1.out _).mono ?_
    rintro e v3 ⟨rfl, hw⟩
    have hb := hw.symm ▸ (Below.refl _ _).alloc (Nat.le_refl _) (.cells (jc x1 y1 h1 t1 l1) 27)
    clear hw
    clear a0 a1 a2 a3 a4 b0 b1 b2 b3 b4
    have RK2 := Lib.hid (owns_below RK.out hb)
    have JA2 := Lib.hid (JB.below JA.out hb)
    have JJ2 := Lib.hid (JB.below JJ.out hb)
    have BK2 := Lib.hid (BK.out.trans (hb.mono BK.out.size))
    clear hb RK JA JJ BK
    have RK := RK2
    have JA := JA2
    have JJ := JJ2
    have BK := BK2
    clear RK2 JA2 JJ2 BK2
    go_wp2_with fail
    go_ret
    rw [M.out]
    exact ⟨_, _, rfl, RK.out, BK.out⟩

end Go.Proofs.Ytppaknjiadnogaa.Dp
