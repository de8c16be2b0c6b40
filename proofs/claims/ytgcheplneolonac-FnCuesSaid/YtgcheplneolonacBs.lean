/- BinarySearchFunc at cues, by CompareCues. -/
import Derived.Test.YtgcheplneolonacCq
import Derived.Test.YtgcheplneolonacCs
namespace Go.Proofs.Ytgcheplneolonac.Bs
open Go.RowKit Go.ChangeShapes Go.WideShapes Go.WideElems Go.Deep Go.Proofs.Ytgcheplneolonac.Mem Go.Proofs.Ytgcheplneolonac.Rw Go.Proofs.Ytgcheplneolonac.P2 Go.Proofs.Ytgcheplneolonac.Cd Go.Proofs.Ytgcheplneolonac.Cv Go.Proofs.Ytgcheplneolonac.Cl Go.Proofs.Ytgcheplneolonac.Cs
set_option linter.unusedVariables false
set_option linter.unusedSimpArgs false
open Go.Proofs.Ytgcheplneolonac.Sd Go.Proofs.Ytgcheplneolonac.Ld Go.Proofs.Ytgcheplneolonac.Cq

theorem half (i j : Nat) (h : i + j ≤ 4194304) : True := trivial

set_option maxHeartbeats 4000000 in
set_option maxRecDepth 100000 in
theorem search (A : Option Addr) (n0 c9 : Nat) (zs : List C) (t : Int) (n : ByteArray) (l r : Int) (w : World) (hn : zs.length = n0) (hb : n0 ≤ 1048576) (ho : Ord zs) (hr : Rd w w.heap.size A (dls zs)) :
    Calls Try.prog 20 #[.slice A n0 c9, va t n l r, .func (.func 21) #[] #[]] w fun e w' => ∃ (k : Nat) (f : Bool), e = .returned (.tuple #[.int .i64 k, .bool f]) ∧ Parts zs ⟨t, n, l, r⟩ k ∧ (f = true ↔ ∃ d, zs[k]? = some d ∧ cmp2 d ⟨t, n, l, r⟩ = 0) ∧ Below w.heap.size w w' := by
  have hu : undef = Value.tuple #[] := rfl
  have HR := Lib.hid (hr.below (show Below w.heap.size w (w.alloc (.cells (ca t n l r) 26)) from by go_grown))
  have HN := Lib.hid hn
  have HO := Lib.hid ho
  have X0 := Lib.hid (show ∀ (j : Nat) (v : Value), (cl t n l r)[j]? = some v → (w.alloc (.cells (ca t n l r) 26)).cell? ⟨w.heap.size, j, none⟩ = some v from fun j v hv => cell_here (by simpa using hv))
  have B0 := Lib.hid (show Below w.heap.size w (w.alloc (.cells (ca t n l r) 26)) from by go_grown)
  have L0 := Lib.hid (show w.heap.size < (w.alloc (.cells (ca t n l r) 26)).heap.size by simp)
  clear hr hn ho
  go_enter Try.func20, Try.ntmps20
  go_wp2_with fail
  generalize hW0 : w.alloc (.cells (ca t n l r) 26) = W0 at *
  clear hW0
  go_loopw [9, 10] (fun a b wr => ∃ i j : Nat, i ≤ j ∧ j ≤ n0 ∧ a = .int .i64 i ∧ b = .int .i64 j ∧ Hid ((∀ k d, k < i → zs[k]? = some d → Bef d ⟨t, n, l, r⟩) ∧ (∀ k d, j ≤ k → zs[k]? = some d → ¬ Bef d ⟨t, n, l, r⟩)) ∧ Hid (Below W0.heap.size W0 wr)) (fun a b _ => (intOf b).toNat - (intOf a).toNat)
  case atStart => exact ⟨0, n0, Nat.zero_le _, Nat.le_refl _, rfl, rfl, Lib.hid ⟨fun k d h => by omega, fun k d h hd => by have := (List.getElem?_eq_some_iff.1 hd).1; rw [HN.out] at this; omega⟩, Lib.hid (Below.refl _ _)⟩
  case round =>
    obtain ⟨i, j, hij, hj, rfl, rfl, PK, BK⟩ := hrel
    have e0 : wr.cell? ⟨w.heap.size, 0, none⟩ = some (.int .i64 t) := cell_below BK.out (X0.out 0 _ rfl)
    have e1 : wr.cell? ⟨w.heap.size, 1, none⟩ = some (.string n) := cell_below BK.out (X0.out 1 _ rfl)
    have e2 : wr.cell? ⟨w.heap.size, 2, none⟩ = some (.int .i64 l) := cell_below BK.out (X0.out 2 _ rfl)
    have e3 : wr.cell? ⟨w.heap.size, 3, none⟩ = some (.int .i64 r) := cell_below BK.out (X0.out 3 _ rfl)
    have RW := Lib.hid ((HR.out.more (Nat.le_of_lt L0.out)).below BK.out)
    by_cases hlt : i < j
    · obtain ⟨h, hh⟩ : ∃ h, (i + j) / 2 = h := ⟨_, rfl⟩
      have hh1 : i ≤ h := by omega
      have hh2 : h < j := by omega
      obtain ⟨z, hz⟩ : ∃ z, zs[h]? = some z := ⟨_, List.getElem?_eq_getElem (by rw [HN.out]; omega)⟩
      have HZ := Lib.hid hz
      obtain ⟨t1, n1, l1, r1⟩ := z
      obtain ⟨b, o, eA, hbl, hcell⟩ := RW.out.get (k := h * 4) (by rw [dls_len, HN.out]; omega)
      have zz := dls_get hz
      have c0 := hcell _ _ zz.1
      have c1 := hcell _ _ zz.2.1
      rw [← Nat.add_assoc] at c1
      have c2 := hcell _ _ zz.2.2.1
      rw [← Nat.add_assoc] at c2
      have c3 := hcell _ _ zz.2.2.2
      rw [← Nat.add_assoc] at c3
      clear hcell zz hz hbl
      subst eA
      have CC := compareI t1 n1 l1 r1 t n l r
      obtain ⟨v, hv⟩ : ∃ v, cc t1 n1 t n = v := ⟨_, rfl⟩
      have HV := Lib.hid (show cmp2 ⟨t1, n1, l1, r1⟩ ⟨t, n, l, r⟩ = v from hv)
      rw [hv] at CC
      have CC := Lib.hid CC
      clear hv
      have ha : wrap64 ((i : Int) + (j : Int)) = ((i + j : Nat) : Int) := by rw [IntWalk.wrap64_in _ (by omega)]; omega
      have hdv : ((i : Int) + (j : Int)) / 2 = (h : Int) := by omega
      go_wp2_with fail
      have hhn : h < n0 := by omega
      refine wp_region_noPanic ?_
      refine wp_region_held_drew (S := (fun w' => w'.cell? ⟨b, o + (h * 4), none⟩ = some (.int .i64 t1) ∧ w'.cell? ⟨b, o + (h * 4) + 1, none⟩ = some (.string n1) ∧ w'.cell? ⟨b, o + (h * 4) + 2, none⟩ = some (.int .i64 l1) ∧ w'.cell? ⟨b, o + (h * 4) + 3, none⟩ = some (.int .i64 r1) ∧ w'.cell? ⟨w.heap.size, 0, none⟩ = some (.int .i64 t) ∧ w'.cell? ⟨w.heap.size, 1, none⟩ = some (.string n) ∧ w'.cell? ⟨w.heap.size, 2, none⟩ = some (.int .i64 l) ∧ w'.cell? ⟨w.heap.size, 3, none⟩ = some (.int .i64 r) ∧ Below wr.heap.size wr w')) (by kernel_rfl) ?_ (fun hH => ?_)
      · exact ⟨c0, c1, c2, c3, e0, e1, e2, e3, (Below.refl _ _).drew⟩
      refine wpAnyH_take (i := 0) (oi := { dst := some 24, op := _, type := _, pos := _, after := _, guard := _ }) (v := ?_) rfl (by kernel_rfl) (by kernel_rfl) (by kernel_rfl) (fun _ _ _ h => h) (Or.inl ⟨by rfl, ?_⟩) hH ?_
      rotate_left 1
      · intro W hSw
        (try dsimp only at hSw)
        go_simp
        (try with_reducible rfl)
      try simp only [Act.put, List.setIfInBounds_toArray, List.set_cons_zero, List.set_cons_succ]
      refine wpAnyH_take (i := 1) (oi := { dst := some 25, op := _, type := _, pos := _, after := _, guard := _ }) (v := ?_) rfl (by kernel_rfl) (by kernel_rfl) (by kernel_rfl) (fun _ _ _ h => h) (Or.inl ⟨by rfl, ?_⟩) hH ?_
      rotate_left 1
      · intro W hSw
        (try dsimp only at hSw)
        go_simp
        (try with_reducible rfl)
      try simp only [Act.put, List.setIfInBounds_toArray, List.set_cons_zero, List.set_cons_succ]
      refine wpAnyH_take (i := 2) (oi := { dst := some 26, op := _, type := _, pos := _, after := _, guard := _ }) (v := ?_) rfl (by kernel_rfl) (by kernel_rfl) (by kernel_rfl) (fun _ _ _ h => h) (Or.inl ⟨by rfl, ?_⟩) hH ?_
      rotate_left 1
      · intro W hSw
        (try dsimp only at hSw)
        go_simp
        (try with_reducible rfl)
      try simp only [Act.put, List.setIfInBounds_toArray, List.set_cons_zero, List.set_cons_succ]
      refine wpAnyH_take (i := 3) (oi := { dst := some 27, op := _, type := _, pos := _, after := _, guard := _ }) (v := ?_) rfl (by kernel_rfl) (by kernel_rfl) (by kernel_rfl) (fun _ _ _ h => h) (Or.inl ⟨by rfl, ?_⟩) hH ?_
      rotate_left 1
      · intro W hSw
        (try dsimp only at hSw)
        go_simp
        (try with_reducible rfl)
      try simp only [Act.put, List.setIfInBounds_toArray, List.set_cons_zero, List.set_cons_succ]
      refine wpAnyH_take (i := 4) (oi := { dst := some 28, op := _, type := _, pos := _, after := _, guard := _ }) (v := ?_) rfl (by kernel_rfl) (by kernel_rfl) (by kernel_rfl) (fun _ _ _ h => h) (Or.inl ⟨by rfl, ?_⟩) hH ?_
      rotate_left 1
      · intro W hSw
        (try dsimp only at hSw)
        go_simp
        (try with_reducible rfl)
      try simp only [Act.put, List.setIfInBounds_toArray, List.set_cons_zero, List.set_cons_succ]
      refine wpAnyH_take (i := 5) (oi := { dst := some 29, op := _, type := _, pos := _, after := _, guard := _ }) (v := ?_) rfl (by kernel_rfl) (by kernel_rfl) (by kernel_rfl) (fun _ _ _ h => h) (Or.inl ⟨by rfl, ?_⟩) hH ?_
      rotate_left 1
      · intro W hSw
        (try dsimp only at hSw)
        go_simp
        (try with_reducible rfl)
      try simp only [Act.put, List.setIfInBounds_toArray, List.set_cons_zero, List.set_cons_succ]
      refine wpAnyH_ready (rs := [6]) (by kernel_rfl) (by simp) (AllReadyH.cons rfl (fun K hK => ?_) AllReadyH.nil)
      go_simp
      go_at_call 21; ((with_reducible refine (CC.out _).mono ?_); rintro e r9 ⟨rfl, hb9⟩); go_wp2_with fail
      refine hK.out _ _ ?_ (fun hG => ?_)
      · exact ⟨cell_below hb9 hH.1, cell_below hb9 hH.2.1, cell_below hb9 hH.2.2.1, cell_below hb9 hH.2.2.2.1, cell_below hb9 hH.2.2.2.2.1, cell_below hb9 hH.2.2.2.2.2.1, cell_below hb9 hH.2.2.2.2.2.2.1, cell_below hb9 hH.2.2.2.2.2.2.2.1, Below.trans hH.2.2.2.2.2.2.2.2 (hb9.mono hH.2.2.2.2.2.2.2.2.size)⟩
      replace hH := hG
      clear hK K hG
      try simp only [Act.put, List.setIfInBounds_toArray, List.set_cons_zero, List.set_cons_succ]
      refine wpAnyH_take (i := 7) (oi := { dst := some 31, op := _, type := _, pos := _, after := _, guard := _ }) (v := ?_) rfl (by kernel_rfl) (by kernel_rfl) (by kernel_rfl) (fun _ _ _ h => h) (Or.inl ⟨by rfl, ?_⟩) hH ?_
      rotate_left 1
      · intro W hSw
        (try dsimp only at hSw)
        go_simp
        (try with_reducible rfl)
      try simp only [Act.put, List.setIfInBounds_toArray, List.set_cons_zero, List.set_cons_succ]
      refine wpAnyH_done (by kernel_rfl) ?_ _
      refine NoPanic.normal ?_
      have B1 := Lib.hid (BK.out.trans (hH.2.2.2.2.2.2.2.2.mono BK.out.size))
      clear hH c0 c1 c2 c3 e0 e1 e2 e3 BK
      by_cases hv : v < 0
      · have P9 := Lib.hid (show (∀ k d, k < h + 1 → zs[k]? = some d → Bef d ⟨t, n, l, r⟩) ∧ (∀ k d, j ≤ k → zs[k]? = some d → ¬ Bef d ⟨t, n, l, r⟩) from ⟨fun k d hk hd => by
          have hx : Bef ⟨t1, n1, l1, r1⟩ ⟨t, n, l, r⟩ := by unfold Bef; rw [HV.out]; exact hv
          by_cases c : k = h
          · subst c; rw [HZ.out] at hd; cases hd; exact hx
          · exact bef_trans (ord_at HO.out hd HZ.out (by omega)) hx, PK.out.2⟩)
        have hd9 : decide (v < 0) = true := decide_eq_true hv
        go_wp2_with fail
        go_roundw
        case rel => first | exact ⟨h + 1, j, by omega, by omega, by go_num, rfl, P9, B1⟩ | ((repeat apply Exists.intro); exact ⟨⟨h + 1, j, by omega, by omega, by go_num, rfl, P9, B1⟩, rfl⟩)
        case measure => simp [intOf]; omega
      · have P9 := Lib.hid (show (∀ k d, k < i → zs[k]? = some d → Bef d ⟨t, n, l, r⟩) ∧ (∀ k d, h ≤ k → zs[k]? = some d → ¬ Bef d ⟨t, n, l, r⟩) from ⟨PK.out.1, fun k d hk hd hx => by
          refine hv ?_
          have hy : Bef ⟨t1, n1, l1, r1⟩ ⟨t, n, l, r⟩ := by
            by_cases c : k = h
            · subst c; rw [HZ.out] at hd; cases hd; exact hx
            · exact bef_trans (ord_at HO.out HZ.out hd (by omega)) hx
          unfold Bef at hy; rw [HV.out] at hy; exact hy⟩)
        have hd9 : decide (v < 0) = false := decide_eq_false hv
        go_wp2_with fail
        go_roundw
        case rel => first | exact ⟨i, h, by omega, by omega, rfl, rfl, P9, B1⟩ | exact ⟨i, h, by omega, by omega, rfl, rfl, P9⟩
        case measure => simp [intOf]; omega
    · obtain rfl : i = j := by omega
      have PP := Lib.hid (show Parts zs ⟨t, n, l, r⟩ i from ⟨by rw [HN.out]; exact hj, PK.out.1, PK.out.2⟩)
      by_cases hin : i < n0
      · obtain ⟨h, hih⟩ : ∃ h, i = h := ⟨_, rfl⟩
        rw [hih] at PP PK hin hlt hij hj ⊢
        clear hih
        obtain ⟨z, hz⟩ : ∃ z, zs[h]? = some z := ⟨_, List.getElem?_eq_getElem (by rw [HN.out]; omega)⟩
        have HZ := Lib.hid hz
        obtain ⟨t1, n1, l1, r1⟩ := z
        obtain ⟨b, o, eA, hbl, hcell⟩ := RW.out.get (k := h * 4) (by rw [dls_len, HN.out]; omega)
        have zz := dls_get hz
        have c0 := hcell _ _ zz.1
        have c1 := hcell _ _ zz.2.1
        rw [← Nat.add_assoc] at c1
        have c2 := hcell _ _ zz.2.2.1
        rw [← Nat.add_assoc] at c2
        have c3 := hcell _ _ zz.2.2.2
        rw [← Nat.add_assoc] at c3
        clear hcell zz hz hbl
        subst eA
        have CC := compareI t1 n1 l1 r1 t n l r
        obtain ⟨v, hv⟩ : ∃ v, cc t1 n1 t n = v := ⟨_, rfl⟩
        have HV := Lib.hid (show cmp2 ⟨t1, n1, l1, r1⟩ ⟨t, n, l, r⟩ = v from hv)
        rw [hv] at CC
        have CC := Lib.hid CC
        clear hv
        have gn : ((h : Int) < (n0 : Int)) := by omega
        have gd : decide ((h : Int) < (n0 : Int)) = true := decide_eq_true gn
        go_wp2_with fail
        refine wp_region_noPanic ?_
        refine wp_region_held_drew (S := (fun w' => w'.cell? ⟨b, o + (h * 4), none⟩ = some (.int .i64 t1) ∧ w'.cell? ⟨b, o + (h * 4) + 1, none⟩ = some (.string n1) ∧ w'.cell? ⟨b, o + (h * 4) + 2, none⟩ = some (.int .i64 l1) ∧ w'.cell? ⟨b, o + (h * 4) + 3, none⟩ = some (.int .i64 r1) ∧ w'.cell? ⟨w.heap.size, 0, none⟩ = some (.int .i64 t) ∧ w'.cell? ⟨w.heap.size, 1, none⟩ = some (.string n) ∧ w'.cell? ⟨w.heap.size, 2, none⟩ = some (.int .i64 l) ∧ w'.cell? ⟨w.heap.size, 3, none⟩ = some (.int .i64 r) ∧ Below wr.heap.size wr w')) (by kernel_rfl) ?_ (fun hH => ?_)
        · exact ⟨c0, c1, c2, c3, e0, e1, e2, e3, (Below.refl _ _).drew⟩
        refine wpAnyH_take (i := 0) (oi := { dst := some 35, op := _, type := _, pos := _, after := _, guard := _ }) (v := ?_) rfl (by kernel_rfl) (by kernel_rfl) (by kernel_rfl) (fun _ _ _ h => h) (Or.inl ⟨by rfl, ?_⟩) hH ?_
        rotate_left 1
        · intro W hSw
          (try dsimp only at hSw)
          go_simp
          (try with_reducible rfl)
        try simp only [Act.put, List.setIfInBounds_toArray, List.set_cons_zero, List.set_cons_succ]
        refine wpAnyH_take (i := 1) (oi := { dst := some 36, op := _, type := _, pos := _, after := _, guard := _ }) (v := ?_) rfl (by kernel_rfl) (by kernel_rfl) (by kernel_rfl) (fun _ _ _ h => h) (Or.inl ⟨by rfl, ?_⟩) hH ?_
        rotate_left 1
        · intro W hSw
          (try dsimp only at hSw)
          go_simp
          (try with_reducible rfl)
        try simp only [Act.put, List.setIfInBounds_toArray, List.set_cons_zero, List.set_cons_succ]
        refine wpAnyH_take (i := 2) (oi := { dst := some 37, op := _, type := _, pos := _, after := _, guard := _ }) (v := ?_) rfl (by kernel_rfl) (by kernel_rfl) (by kernel_rfl) (fun _ _ _ h => h) (Or.inl ⟨by rfl, ?_⟩) hH ?_
        rotate_left 1
        · intro W hSw
          (try dsimp only at hSw)
          go_simp
          (try with_reducible rfl)
        try simp only [Act.put, List.setIfInBounds_toArray, List.set_cons_zero, List.set_cons_succ]
        refine wpAnyH_take (i := 3) (oi := { dst := some 38, op := _, type := _, pos := _, after := _, guard := _ }) (v := ?_) rfl (by kernel_rfl) (by kernel_rfl) (by kernel_rfl) (fun _ _ _ h => h) (Or.inl ⟨by rfl, ?_⟩) hH ?_
        rotate_left 1
        · intro W hSw
          (try dsimp only at hSw)
          go_simp
          (try with_reducible rfl)
        try simp only [Act.put, List.setIfInBounds_toArray, List.set_cons_zero, List.set_cons_succ]
        refine wpAnyH_take (i := 4) (oi := { dst := some 39, op := _, type := _, pos := _, after := _, guard := _ }) (v := ?_) rfl (by kernel_rfl) (by kernel_rfl) (by kernel_rfl) (fun _ _ _ h => h) (Or.inl ⟨by rfl, ?_⟩) hH ?_
        rotate_left 1
        · intro W hSw
          (try dsimp only at hSw)
          go_simp
          (try with_reducible rfl)
        try simp only [Act.put, List.setIfInBounds_toArray, List.set_cons_zero, List.set_cons_succ]
        refine wpAnyH_take (i := 5) (oi := { dst := some 40, op := _, type := _, pos := _, after := _, guard := _ }) (v := ?_) rfl (by kernel_rfl) (by kernel_rfl) (by kernel_rfl) (fun _ _ _ h => h) (Or.inl ⟨by rfl, ?_⟩) hH ?_
        rotate_left 1
        · intro W hSw
          (try dsimp only at hSw)
          go_simp
          (try with_reducible rfl)
        try simp only [Act.put, List.setIfInBounds_toArray, List.set_cons_zero, List.set_cons_succ]
        refine wpAnyH_take (i := 6) (oi := { dst := some 41, op := _, type := _, pos := _, after := _, guard := _ }) (v := ?_) rfl (by kernel_rfl) (by kernel_rfl) (by kernel_rfl) (fun _ _ _ h => h) (Or.inl ⟨by rfl, ?_⟩) hH ?_
        rotate_left 1
        · intro W hSw
          (try dsimp only at hSw)
          go_simp
          (try with_reducible rfl)
        try simp only [Act.put, List.setIfInBounds_toArray, List.set_cons_zero, List.set_cons_succ]
        refine wpAnyH_take (i := 7) (oi := { dst := some 42, op := _, type := _, pos := _, after := _, guard := _ }) (v := ?_) rfl (by kernel_rfl) (by kernel_rfl) (by kernel_rfl) (fun _ _ _ h => h) (Or.inl ⟨by rfl, ?_⟩) hH ?_
        rotate_left 1
        · intro W hSw
          (try dsimp only at hSw)
          go_simp
          (try with_reducible rfl)
        try simp only [Act.put, List.setIfInBounds_toArray, List.set_cons_zero, List.set_cons_succ]
        refine wpAnyH_take (i := 8) (oi := { dst := some 43, op := _, type := _, pos := _, after := _, guard := _ }) (v := ?_) rfl (by kernel_rfl) (by kernel_rfl) (by kernel_rfl) (fun _ _ _ h => h) (Or.inl ⟨by rfl, ?_⟩) hH ?_
        rotate_left 1
        · intro W hSw
          (try dsimp only at hSw)
          go_simp
          (try with_reducible rfl)
        try simp only [Act.put, List.setIfInBounds_toArray, List.set_cons_zero, List.set_cons_succ]
        refine wpAnyH_take (i := 9) (oi := { dst := some 44, op := _, type := _, pos := _, after := _, guard := _ }) (v := ?_) rfl (by kernel_rfl) (by kernel_rfl) (by kernel_rfl) (fun _ _ _ h => h) (Or.inl ⟨by rfl, ?_⟩) hH ?_
        rotate_left 1
        · intro W hSw
          (try dsimp only at hSw)
          go_simp
          (try with_reducible rfl)
        try simp only [Act.put, List.setIfInBounds_toArray, List.set_cons_zero, List.set_cons_succ]
        refine wpAnyH_take (i := 10) (oi := { dst := some 45, op := _, type := _, pos := _, after := _, guard := _ }) (v := ?_) rfl (by kernel_rfl) (by kernel_rfl) (by kernel_rfl) (fun _ _ _ h => h) (Or.inl ⟨by rfl, ?_⟩) hH ?_
        rotate_left 1
        · intro W hSw
          (try dsimp only at hSw)
          go_simp
          (try with_reducible rfl)
        try simp only [Act.put, List.setIfInBounds_toArray, List.set_cons_zero, List.set_cons_succ]
        refine wpAnyH_ready (rs := [11]) (by kernel_rfl) (by simp) (AllReadyH.cons rfl (fun K hK => ?_) AllReadyH.nil)
        go_simp
        go_at_call 21; ((with_reducible refine (CC.out _).mono ?_); rintro e r9 ⟨rfl, hb9⟩); go_wp2_with fail
        refine hK.out _ _ ?_ (fun hG => ?_)
        · exact ⟨cell_below hb9 hH.1, cell_below hb9 hH.2.1, cell_below hb9 hH.2.2.1, cell_below hb9 hH.2.2.2.1, cell_below hb9 hH.2.2.2.2.1, cell_below hb9 hH.2.2.2.2.2.1, cell_below hb9 hH.2.2.2.2.2.2.1, cell_below hb9 hH.2.2.2.2.2.2.2.1, Below.trans hH.2.2.2.2.2.2.2.2 (hb9.mono hH.2.2.2.2.2.2.2.2.size)⟩
        replace hH := hG
        clear hK K hG
        try simp only [Act.put, List.setIfInBounds_toArray, List.set_cons_zero, List.set_cons_succ]
        refine wpAnyH_take (i := 12) (oi := { dst := some 47, op := _, type := _, pos := _, after := _, guard := _ }) (v := ?_) rfl (by kernel_rfl) (by kernel_rfl) (by kernel_rfl) (fun _ _ _ h => h) (Or.inl ⟨by rfl, ?_⟩) hH ?_
        rotate_left 1
        · intro W hSw
          (try dsimp only at hSw)
          go_simp
          (try with_reducible rfl)
        try simp only [Act.put, List.setIfInBounds_toArray, List.set_cons_zero, List.set_cons_succ]
        refine wpAnyH_take (i := 13) (oi := { dst := some 48, op := _, type := _, pos := _, after := _, guard := _ }) (v := ?_) rfl (by kernel_rfl) (by kernel_rfl) (by kernel_rfl) (fun _ _ _ h => h) (Or.inl ⟨by rfl, ?_⟩) hH ?_
        rotate_left 1
        · intro W hSw
          (try dsimp only at hSw)
          go_simp
          (try with_reducible rfl)
        try simp only [Act.put, List.setIfInBounds_toArray, List.set_cons_zero, List.set_cons_succ]
        refine wpAnyH_take (i := 14) (oi := { dst := some 6, op := _, type := _, pos := _, after := _, guard := _ }) (v := ?_) rfl (by kernel_rfl) (by kernel_rfl) (by kernel_rfl) (fun _ _ _ h => h) (Or.inl ⟨by rfl, ?_⟩) hH ?_
        rotate_left 1
        · intro W hSw
          (try dsimp only at hSw)
          go_simp
          (try with_reducible rfl)
        try simp only [Act.put, List.setIfInBounds_toArray, List.set_cons_zero, List.set_cons_succ]
        refine wpAnyH_take (i := 15) (oi := { dst := some 7, op := _, type := _, pos := _, after := _, guard := _ }) (v := ?_) rfl (by kernel_rfl) (by kernel_rfl) (by kernel_rfl) (fun _ _ _ h => h) (Or.inl ⟨by rfl, ?_⟩) hH ?_
        rotate_left 1
        · intro W hSw
          (try dsimp only at hSw)
          go_simp
          (try with_reducible rfl)
        try simp only [Act.put, List.setIfInBounds_toArray, List.set_cons_zero, List.set_cons_succ]
        refine wpAnyH_done (by kernel_rfl) ?_ _
        refine NoPanic.normal ?_
        have B1 := Lib.hid (BK.out.trans (hH.2.2.2.2.2.2.2.2.mono BK.out.size))
        clear hH c0 c1 c2 c3 e0 e1 e2 e3 BK
        have B2 := Lib.hid (B0.out.trans (B1.out.mono (by have := B0.out.size; exact this)))
        have F9 := Lib.hid (show (v == 0) = true ↔ ∃ d, zs[h]? = some d ∧ cmp2 d ⟨t, n, l, r⟩ = 0 from ⟨fun e => ⟨_, HZ.out, HV.out.trans (by simpa using e)⟩, fun ⟨d, hd, e⟩ => by rw [HZ.out] at hd; cases hd; rw [HV.out] at e; simpa using e⟩)
        clear gd
        go_wp2_with fail
        go_returns
        exact ⟨h, (v == 0), rfl, PP.out, F9.out, B2.out⟩
      · have gn : ¬ ((i : Int) < (n0 : Int)) := by omega
        have gd : decide ((i : Int) < (n0 : Int)) = false := decide_eq_false gn
        go_wp2_with fail
        refine wp_region_noPanic ?_
        refine wp_region_held_drew (S := (fun w' => Below wr.heap.size wr w')) (by kernel_rfl) ?_ (fun hH => ?_)
        · exact (Below.refl _ _).drew
        refine wpAnyH_take (i := 0) (oi := { dst := some 35, op := _, type := _, pos := _, after := _, guard := _ }) (v := ?_) rfl (by kernel_rfl) (by kernel_rfl) (by kernel_rfl) (fun _ _ _ h => h) (Or.inl ⟨by rfl, ?_⟩) hH ?_
        rotate_left 1
        · intro W hSw
          (try dsimp only at hSw)
          go_simp
          (try with_reducible rfl)
        try simp only [Act.put, List.setIfInBounds_toArray, List.set_cons_zero, List.set_cons_succ]
        refine wpAnyH_take (i := 1) (oi := { dst := some 36, op := _, type := _, pos := _, after := _, guard := _ }) (v := ?_) rfl (by kernel_rfl) (by kernel_rfl) (by kernel_rfl) (fun _ _ _ h => h) (Or.inl ⟨by rfl, ?_⟩) hH ?_
        rotate_left 1
        · intro W hSw
          (try dsimp only at hSw)
          go_simp
          (try with_reducible rfl)
        try simp only [Act.put, List.setIfInBounds_toArray, List.set_cons_zero, List.set_cons_succ]
        refine wpAnyH_take (i := 2) (oi := { dst := some 37, op := _, type := _, pos := _, after := _, guard := _ }) (v := ?_) rfl (by kernel_rfl) (by kernel_rfl) (by kernel_rfl) (fun _ _ _ h => h) (Or.inl ⟨by rfl, ?_⟩) hH ?_
        rotate_left 1
        · intro W hSw
          (try dsimp only at hSw)
          go_simp
          (try with_reducible rfl)
        try simp only [Act.put, List.setIfInBounds_toArray, List.set_cons_zero, List.set_cons_succ]
        refine wpAnyH_take (i := 3) (oi := { dst := some 38, op := _, type := _, pos := _, after := _, guard := _ }) (v := ?_) rfl (by kernel_rfl) (by kernel_rfl) (by kernel_rfl) (fun _ _ _ h => h) (Or.inl ⟨by rfl, ?_⟩) hH ?_
        rotate_left 1
        · intro W hSw
          (try dsimp only at hSw)
          go_simp
          (try with_reducible rfl)
        try simp only [Act.put, List.setIfInBounds_toArray, List.set_cons_zero, List.set_cons_succ]
        refine wpAnyH_take (i := 4) (oi := { dst := some 39, op := _, type := _, pos := _, after := _, guard := _ }) (v := ?_) rfl (by kernel_rfl) (by kernel_rfl) (by kernel_rfl) (fun _ _ _ h => h) (Or.inl ⟨by rfl, ?_⟩) hH ?_
        rotate_left 1
        · intro W hSw
          (try dsimp only at hSw)
          go_simp
          (try with_reducible rfl)
        try simp only [Act.put, List.setIfInBounds_toArray, List.set_cons_zero, List.set_cons_succ]
        refine wpAnyH_take (i := 5) (oi := { dst := some 40, op := _, type := _, pos := _, after := _, guard := _ }) (v := undef) rfl (by kernel_rfl) (by kernel_rfl) (by kernel_rfl) (fun _ _ _ h => h) (Or.inr ⟨by simp [Region.wanted, yielded, hu, hin], rfl⟩) hH ?_
        try simp only [Act.put, List.setIfInBounds_toArray, List.set_cons_zero, List.set_cons_succ]
        refine wpAnyH_take (i := 6) (oi := { dst := some 41, op := _, type := _, pos := _, after := _, guard := _ }) (v := undef) rfl (by kernel_rfl) (by kernel_rfl) (by kernel_rfl) (fun _ _ _ h => h) (Or.inr ⟨by simp [Region.wanted, yielded, hu, hin], rfl⟩) hH ?_
        try simp only [Act.put, List.setIfInBounds_toArray, List.set_cons_zero, List.set_cons_succ]
        refine wpAnyH_take (i := 7) (oi := { dst := some 42, op := _, type := _, pos := _, after := _, guard := _ }) (v := undef) rfl (by kernel_rfl) (by kernel_rfl) (by kernel_rfl) (fun _ _ _ h => h) (Or.inr ⟨by simp [Region.wanted, yielded, hu, hin], rfl⟩) hH ?_
        try simp only [Act.put, List.setIfInBounds_toArray, List.set_cons_zero, List.set_cons_succ]
        refine wpAnyH_take (i := 8) (oi := { dst := some 43, op := _, type := _, pos := _, after := _, guard := _ }) (v := undef) rfl (by kernel_rfl) (by kernel_rfl) (by kernel_rfl) (fun _ _ _ h => h) (Or.inr ⟨by simp [Region.wanted, yielded, hu, hin], rfl⟩) hH ?_
        try simp only [Act.put, List.setIfInBounds_toArray, List.set_cons_zero, List.set_cons_succ]
        refine wpAnyH_take (i := 9) (oi := { dst := some 44, op := _, type := _, pos := _, after := _, guard := _ }) (v := undef) rfl (by kernel_rfl) (by kernel_rfl) (by kernel_rfl) (fun _ _ _ h => h) (Or.inr ⟨by simp [Region.wanted, yielded, hu, hin], rfl⟩) hH ?_
        try simp only [Act.put, List.setIfInBounds_toArray, List.set_cons_zero, List.set_cons_succ]
        refine wpAnyH_take (i := 10) (oi := { dst := some 45, op := _, type := _, pos := _, after := _, guard := _ }) (v := undef) rfl (by kernel_rfl) (by kernel_rfl) (by kernel_rfl) (fun _ _ _ h => h) (Or.inr ⟨by simp [Region.wanted, yielded, hu, hin], rfl⟩) hH ?_
        try simp only [Act.put, List.setIfInBounds_toArray, List.set_cons_zero, List.set_cons_succ]
        refine wpAnyH_take (i := 11) (oi := { dst := some 46, op := _, type := _, pos := _, after := _, guard := _ }) (v := undef) rfl (by kernel_rfl) (by kernel_rfl) (by kernel_rfl) (fun _ _ _ h => h) (Or.inr ⟨by simp [Region.wanted, yielded, hu, hin], rfl⟩) hH ?_
        try simp only [Act.put, List.setIfInBounds_toArray, List.set_cons_zero, List.set_cons_succ]
        refine wpAnyH_take (i := 12) (oi := { dst := some 47, op := _, type := _, pos := _, after := _, guard := _ }) (v := undef) rfl (by kernel_rfl) (by kernel_rfl) (by kernel_rfl) (fun _ _ _ h => h) (Or.inr ⟨by simp [Region.wanted, yielded, hu, hin], rfl⟩) hH ?_
        try simp only [Act.put, List.setIfInBounds_toArray, List.set_cons_zero, List.set_cons_succ]
        refine wpAnyH_take (i := 13) (oi := { dst := some 48, op := _, type := _, pos := _, after := _, guard := _ }) (v := ?_) rfl (by kernel_rfl) (by kernel_rfl) (by kernel_rfl) (fun _ _ _ h => h) (Or.inl ⟨by rfl, ?_⟩) hH ?_
        rotate_left 1
        · intro W hSw
          (try dsimp only at hSw)
          go_simp
          (try with_reducible rfl)
        try simp only [Act.put, List.setIfInBounds_toArray, List.set_cons_zero, List.set_cons_succ]
        refine wpAnyH_take (i := 14) (oi := { dst := some 6, op := _, type := _, pos := _, after := _, guard := _ }) (v := ?_) rfl (by kernel_rfl) (by kernel_rfl) (by kernel_rfl) (fun _ _ _ h => h) (Or.inl ⟨by rfl, ?_⟩) hH ?_
        rotate_left 1
        · intro W hSw
          (try dsimp only at hSw)
          go_simp
          (try with_reducible rfl)
        try simp only [Act.put, List.setIfInBounds_toArray, List.set_cons_zero, List.set_cons_succ]
        refine wpAnyH_take (i := 15) (oi := { dst := some 7, op := _, type := _, pos := _, after := _, guard := _ }) (v := ?_) rfl (by kernel_rfl) (by kernel_rfl) (by kernel_rfl) (fun _ _ _ h => h) (Or.inl ⟨by rfl, ?_⟩) hH ?_
        rotate_left 1
        · intro W hSw
          (try dsimp only at hSw)
          go_simp
          (try with_reducible rfl)
        try simp only [Act.put, List.setIfInBounds_toArray, List.set_cons_zero, List.set_cons_succ]
        refine wpAnyH_done (by kernel_rfl) ?_ _
        refine NoPanic.normal ?_
        have B2 := Lib.hid (B0.out.trans ((BK.out.trans (hH.mono BK.out.size)).mono (by have := B0.out.size; exact this)))
        have F9 := Lib.hid (show (false = true) ↔ ∃ d, zs[i]? = some d ∧ cmp2 d ⟨t, n, l, r⟩ = 0 from ⟨(fun e => by cases e), (fun ⟨d, hd, e⟩ => by have := (List.getElem?_eq_some_iff.1 hd).1; rw [HN.out] at this; omega)⟩)
        clear hH BK gd
        go_wp2_with fail
        go_returns
        exact ⟨i, false, rfl, PP.out, F9.out, B2.out⟩
end Go.Proofs.Ytgcheplneolonac.Bs
