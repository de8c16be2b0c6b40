/- A cue put into a list of cues where it belongs, of the model. -/
import Derived.Test.YtokncfhpmjohdabGreatM5
import Derived.Test.YtokncfhpmjohdabGreatSm7
import Derived.Maps.AppendAt
set_option linter.unusedVariables false
set_option linter.unusedSimpArgs false
namespace Go.Proofs.YtokncfhpmjohdabGreat.Am7
open Go.RowKit Go.ChangeShapes Go.WideShapes Go.WideElems Go.Deep Go.Proofs.YtokncfhpmjohdabGreat.Mem Go.Proofs.YtokncfhpmjohdabGreat.Rw Go.Proofs.YtokncfhpmjohdabGreat.P2 Go.Proofs.YtokncfhpmjohdabGreat.Cd Go.Proofs.YtokncfhpmjohdabGreat.Cv Go.Proofs.YtokncfhpmjohdabGreat.Cl Go.Proofs.YtokncfhpmjohdabGreat.Cs
set_option linter.unusedVariables false
set_option linter.unusedSimpArgs false
open Go.Proofs.YtokncfhpmjohdabGreat.Sd Go.Proofs.YtokncfhpmjohdabGreat.Oc Go.Proofs.YtokncfhpmjohdabGreat.Cr Go.Proofs.YtokncfhpmjohdabGreat.Ld Go.Proofs.YtokncfhpmjohdabGreat.Hc Go.Proofs.YtokncfhpmjohdabGreat.Cq Go.Proofs.YtokncfhpmjohdabGreat.Ac Go.Proofs.YtokncfhpmjohdabGreat.Sm7
open Go.Proofs.YtokncfhpmjohdabGreat.Rw (owns_below owns_grown owns_base)

theorem append_cue (w : World) (base g n c : Nat) (xs : List Value) (hown : w.ownsRow base 63 4 (.slice (some ⟨g, 0, none⟩) n c) n xs) (a : Addr) (m c2 : Nat) (news : List Value) (hl : news.length = m * 4) (hnews : ∀ j u, news[j]? = some u → w.cell? (a.add j) = some u) (h1 : ∀ u ∈ news, u.oneCell' = true) (hs : n + m ≤ 1048577) (hbase : base ≤ w.heap.size) :
    ∃ (g' c' : Nat) (w' : World), (Builtin.append_ #[25, 25] 25 #[.slice (some ⟨g, 0, none⟩) n c, .slice (some a) m c2]).run Tryz.prog w = .ok (.slice (some ⟨g', 0, none⟩) (n + m) c') w' ∧ w'.ownsRow base 63 4 (.slice (some ⟨g', 0, none⟩) (n + m) c') (n + m) (xs ++ news) ∧ w.grownBy w' (some g) := by
  obtain ⟨i0, hi, hz0, hz1, hz2⟩ := info_of infoD
  obtain ⟨v', w', hr, h2, h3, h4, _⟩ := run_append_own_at (P := Tryz.prog) w base 25 25 63 i0 (.agg #[.int .i64 0, .string ⟨#[]⟩, .int .i64 0, .int .i64 0]) 4 40 Tryz.underlying25 hi hz0 hz1 hz2 rfl (by decide) _ n xs hown a m c2 news hl hnews h1 (by unfold maxLen; omega) (by omega) hbase
  have hg : ∃ g c, v' = .slice (some ⟨g, 0, none⟩) (n + m) c := by
    rcases h2.2 with ⟨e1, _⟩ | ⟨g, cap, cur, e1, _⟩
    · exact absurd (h4.1 e1).1 (by intro h; cases h)
    · exact ⟨g, cap, e1⟩
  obtain ⟨g', c', rfl⟩ := hg
  exact ⟨g', c', w', hr, h2, h3⟩
theorem step_append_run {ops : Array Oper} {o : Oper} {a : Act} {w w' : World} {K : Act → World → Prop} {Q : Exit → Act → World → Prop} {E : Prop}
    (hg : o.guard = none) (s x : Operand) (hop : o.op = Op.call { callee := Callee.builtin Builtin.append, args := #[s, x], argTypes := #[25, 25] }) (hty : o.type = 25)
    (v v2 v' : Value) (hs : a.eval s = v) (hx : a.eval x = v2) (hrun : (Builtin.append_ #[25, 25] 25 #[v, v2]).run Tryz.prog w = .ok v' w') (hK : K (a.put o.dst v') w') :
    if Region.wanted o (yielded ops a.tmps) = true then Oper.wp Tryz.prog o a w K Q else E := by
  have hw : Region.wanted o (yielded ops a.tmps) = true := by simp [Region.wanted, hg]
  rw [if_pos hw]
  unfold Oper.wp
  simp [execOp, hop, hty, resolve, invoke, builtin, hs, hx, hrun, Result.andThen]
  exact hK
set_option maxHeartbeats 2000000 in
set_option maxRecDepth 100000 in
theorem putS (b0 o0 n0 c9 : Nat) (zs : List C) (t : Int) (n : ByteArray) (l r : Int) (w : World) (hn : zs.length = n0) (hb : n0 ≤ 1048576) (hc9 : n0 ≤ c9) (hc8 : c9 ≤ maxLen) (hr : Rd w w.heap.size (some ⟨b0, o0, none⟩) (dls zs)) :
    Calls Tryz.prog 98 #[.slice (some ⟨b0, o0, none⟩) n0 c9, va t n l r] w (RowB w (putL zs ⟨t, n, l, r⟩) (freeB zs ⟨t, n, l, r⟩)) := by
  have hu : undef = Value.tuple #[] := rfl
  unfold maxLen at hc8
  have HR := Lib.hid hr
  have HN := Lib.hid hn
  have HX := Lib.hid (R4.new w (.int .i64 t) (.string n) (.int .i64 l) (.int .i64 r) 63)
  have B0 := Lib.hid (show Below w.heap.size w (w.alloc (.cells (ca t n l r) 63)) from (Below.refl _ _).alloc (Nat.le_refl _) _)
  have L0 := Lib.hid (show w.heap.size < (w.alloc (.cells (ca t n l r) 63)).heap.size by simp)
  have CP := Lib.hid (fun (W : World) (hW : Below w.heap.size w W) (j : Nat) (hj : j ≤ n0) => copiesC ⟨b0, o0, none⟩ j c9 (zs.take j) W (by rw [List.length_take, hn]; omega) (by omega) (by rw [(dls_part (zs := zs) (k := j) (by omega)).1]; exact rd_take ((hr.below hW).more hW.size) _))
  clear hr hn
  go_enter Tryz.func98, Tryz.ntmps98
  go_wp2_with fail
  generalize w.alloc (.cells (ca t n l r) 63) = W0 at *
  go_loopw [6] (fun v wr => ∃ k : Nat, k ≤ n0 ∧ v = .int .i64 k ∧ Hid (∀ j d, j < k → zs[j]? = some d → cmp2 d ⟨t, n, l, r⟩ < 0) ∧ Hid (Below W0.heap.size W0 wr)) (fun v _ => n0 - (intOf v).toNat)
  case atStart => exact ⟨0, Nat.zero_le _, rfl, Lib.hid (fun j d h => by omega), Lib.hid (Below.refl _ _)⟩
  case round =>
    obtain ⟨k, hk, rfl, AK, BK⟩ := hrel
    have RX := HX.out.below BK.out
    have e0 := RX.c0
    have e1 := RX.c1
    have e2 := RX.c2
    have e3 := RX.c3
    have BW := Lib.hid (B0.out.trans (BK.out.mono B0.out.size))
    have hxl : w.heap.size < wr.heap.size := RX.lt
    clear RX
    have q0 : k ≤ c9 := by omega
    have g4 : wrap64 ((k : Int) + 1) = ((k + 1 : Nat) : Int) := by rw [IntWalk.wrap64_in _ (by omega)]; omega
    by_cases hlt : k < n0
    · obtain ⟨z, hz⟩ : ∃ z, zs[k]? = some z := ⟨_, List.getElem?_eq_getElem (by rw [HN.out]; exact hlt)⟩
      have HZ := Lib.hid hz
      obtain ⟨t1, n1, l1, r1⟩ := z
      obtain ⟨b1, o1, eA, hbl, hcell⟩ := (HR.out.below BW.out).get (k := k * 4) (by rw [dls_len, HN.out]; omega)
      injection eA with eA
      injection eA with x1 x2 x3
      subst x1 x2
      have zz := dls_get hz
      have c0 := hcell _ _ zz.1
      have c1 := hcell _ _ zz.2.1
      rw [← Nat.add_assoc] at c1
      have c2 := hcell _ _ zz.2.2.1
      rw [← Nat.add_assoc] at c2
      have c3 := hcell _ _ zz.2.2.2
      rw [← Nat.add_assoc] at c3
      clear zz hz hcell hbl
      have CC := compareS t1 n1 l1 r1 t n l r
      obtain ⟨v, hv⟩ : ∃ v, cc t1 n1 t n = v := ⟨_, rfl⟩
      have HV := Lib.hid (show cmp2 ⟨t1, n1, l1, r1⟩ ⟨t, n, l, r⟩ = v from hv)
      rw [hv] at CC
      have CC := Lib.hid CC
      clear hv
      have gn : (k : Int) < (n0 : Int) := by omega
      have gd : decide ((k : Int) < (n0 : Int)) = true := decide_eq_true gn
      go_wp2_with fail
      refine wp_region_noPanic ?_
      refine wp_region_held_drew (S := (fun w' => w'.cell? ⟨b0, o0 + k * 4, none⟩ = some (.int .i64 t1) ∧ w'.cell? ⟨b0, o0 + k * 4 + 1, none⟩ = some (.string n1) ∧ w'.cell? ⟨b0, o0 + k * 4 + 2, none⟩ = some (.int .i64 l1) ∧ w'.cell? ⟨b0, o0 + k * 4 + 3, none⟩ = some (.int .i64 r1) ∧ w'.cell? ⟨w.heap.size, 0, none⟩ = some (.int .i64 t) ∧ w'.cell? ⟨w.heap.size, 1, none⟩ = some (.string n) ∧ w'.cell? ⟨w.heap.size, 2, none⟩ = some (.int .i64 l) ∧ w'.cell? ⟨w.heap.size, 3, none⟩ = some (.int .i64 r) ∧ Below wr.heap.size wr w')) (by kernel_rfl) ?_ (fun hH => ?_)
      · exact ⟨c0, c1, c2, c3, e0, e1, e2, e3, (Below.refl _ _).drew⟩
      refine wpAnyH_take (i := 0) (oi := { dst := some 8, op := _, type := _, pos := _, after := _, guard := _ }) (v := ?_) rfl (by kernel_rfl) (by kernel_rfl) (by kernel_rfl) (fun _ _ _ h => h) (Or.inl ⟨by rfl, ?_⟩) hH ?_
      rotate_left 1
      · intro W hSw
        (try dsimp only at hSw)
        go_simp
        (try with_reducible rfl)
      try simp only [Act.put, List.setIfInBounds_toArray, List.set_cons_zero, List.set_cons_succ]
      refine wpAnyH_take (i := 1) (oi := { dst := some 9, op := _, type := _, pos := _, after := _, guard := _ }) (v := ?_) rfl (by kernel_rfl) (by kernel_rfl) (by kernel_rfl) (fun _ _ _ h => h) (Or.inl ⟨by rfl, ?_⟩) hH ?_
      rotate_left 1
      · intro W hSw
        (try dsimp only at hSw)
        go_simp
        (try with_reducible rfl)
      try simp only [Act.put, List.setIfInBounds_toArray, List.set_cons_zero, List.set_cons_succ]
      refine wpAnyH_take (i := 2) (oi := { dst := some 10, op := _, type := _, pos := _, after := _, guard := _ }) (v := ?_) rfl (by kernel_rfl) (by kernel_rfl) (by kernel_rfl) (fun _ _ _ h => h) (Or.inl ⟨by rfl, ?_⟩) hH ?_
      rotate_left 1
      · intro W hSw
        (try dsimp only at hSw)
        go_simp
        (try with_reducible rfl)
      try simp only [Act.put, List.setIfInBounds_toArray, List.set_cons_zero, List.set_cons_succ]
      refine wpAnyH_take (i := 3) (oi := { dst := some 11, op := _, type := _, pos := _, after := _, guard := _ }) (v := ?_) rfl (by kernel_rfl) (by kernel_rfl) (by kernel_rfl) (fun _ _ _ h => h) (Or.inl ⟨by rfl, ?_⟩) hH ?_
      rotate_left 1
      · intro W hSw
        (try dsimp only at hSw)
        go_simp
        (try with_reducible rfl)
      try simp only [Act.put, List.setIfInBounds_toArray, List.set_cons_zero, List.set_cons_succ]
      refine wpAnyH_take (i := 4) (oi := { dst := some 12, op := _, type := _, pos := _, after := _, guard := _ }) (v := ?_) rfl (by kernel_rfl) (by kernel_rfl) (by kernel_rfl) (fun _ _ _ h => h) (Or.inl ⟨by rfl, ?_⟩) hH ?_
      rotate_left 1
      · intro W hSw
        (try dsimp only at hSw)
        go_simp
        (try with_reducible rfl)
      try simp only [Act.put, List.setIfInBounds_toArray, List.set_cons_zero, List.set_cons_succ]
      refine wpAnyH_take (i := 5) (oi := { dst := some 13, op := _, type := _, pos := _, after := _, guard := _ }) (v := ?_) rfl (by kernel_rfl) (by kernel_rfl) (by kernel_rfl) (fun _ _ _ h => h) (Or.inl ⟨by rfl, ?_⟩) hH ?_
      rotate_left 1
      · intro W hSw
        (try dsimp only at hSw)
        go_simp
        (try with_reducible rfl)
      try simp only [Act.put, List.setIfInBounds_toArray, List.set_cons_zero, List.set_cons_succ]
      refine wpAnyH_take (i := 6) (oi := { dst := some 14, op := _, type := _, pos := _, after := _, guard := _ }) (v := ?_) rfl (by kernel_rfl) (by kernel_rfl) (by kernel_rfl) (fun _ _ _ h => h) (Or.inl ⟨by rfl, ?_⟩) hH ?_
      rotate_left 1
      · intro W hSw
        (try dsimp only at hSw)
        go_simp
        (try with_reducible rfl)
      try simp only [Act.put, List.setIfInBounds_toArray, List.set_cons_zero, List.set_cons_succ]
      refine wpAnyH_take (i := 7) (oi := { dst := some 15, op := _, type := _, pos := _, after := _, guard := _ }) (v := ?_) rfl (by kernel_rfl) (by kernel_rfl) (by kernel_rfl) (fun _ _ _ h => h) (Or.inl ⟨by rfl, ?_⟩) hH ?_
      rotate_left 1
      · intro W hSw
        (try dsimp only at hSw)
        go_simp
        (try with_reducible rfl)
      try simp only [Act.put, List.setIfInBounds_toArray, List.set_cons_zero, List.set_cons_succ]
      refine wpAnyH_take (i := 8) (oi := { dst := some 16, op := _, type := _, pos := _, after := _, guard := _ }) (v := ?_) rfl (by kernel_rfl) (by kernel_rfl) (by kernel_rfl) (fun _ _ _ h => h) (Or.inl ⟨by rfl, ?_⟩) hH ?_
      rotate_left 1
      · intro W hSw
        (try dsimp only at hSw)
        go_simp
        (try with_reducible rfl)
      try simp only [Act.put, List.setIfInBounds_toArray, List.set_cons_zero, List.set_cons_succ]
      refine wpAnyH_take (i := 9) (oi := { dst := some 17, op := _, type := _, pos := _, after := _, guard := _ }) (v := ?_) rfl (by kernel_rfl) (by kernel_rfl) (by kernel_rfl) (fun _ _ _ h => h) (Or.inl ⟨by rfl, ?_⟩) hH ?_
      rotate_left 1
      · intro W hSw
        (try dsimp only at hSw)
        go_simp
        (try with_reducible rfl)
      try simp only [Act.put, List.setIfInBounds_toArray, List.set_cons_zero, List.set_cons_succ]
      refine wpAnyH_ready (rs := [10]) (by kernel_rfl) (by simp) (AllReadyH.cons rfl (fun K hK => ?_) AllReadyH.nil)
      go_simp
      go_at_call 116; ((with_reducible refine (CC.out _).mono ?_); rintro e r9 ⟨rfl, rfl⟩); go_wp2_with fail
      refine hK.out _ _ ?_ (fun hG => ?_)
      · exact ⟨cell_alloc (cell_alloc hH.1), cell_alloc (cell_alloc hH.2.1), cell_alloc (cell_alloc hH.2.2.1), cell_alloc (cell_alloc hH.2.2.2.1), cell_alloc (cell_alloc hH.2.2.2.2.1), cell_alloc (cell_alloc hH.2.2.2.2.2.1), cell_alloc (cell_alloc hH.2.2.2.2.2.2.1), cell_alloc (cell_alloc hH.2.2.2.2.2.2.2.1), (hH.2.2.2.2.2.2.2.2.alloc hH.2.2.2.2.2.2.2.2.size _).alloc (Nat.le_trans hH.2.2.2.2.2.2.2.2.size (by simp)) _⟩
      replace hH := hG
      clear hK K hG
      try simp only [Act.put, List.setIfInBounds_toArray, List.set_cons_zero, List.set_cons_succ]
      refine wpAnyH_take (i := 11) (oi := { dst := some 19, op := _, type := _, pos := _, after := _, guard := _ }) (v := ?_) rfl (by kernel_rfl) (by kernel_rfl) (by kernel_rfl) (fun _ _ _ h => h) (Or.inl ⟨by rfl, ?_⟩) hH ?_
      rotate_left 1
      · intro W hSw
        (try dsimp only at hSw)
        go_simp
        (try with_reducible rfl)
      try simp only [Act.put, List.setIfInBounds_toArray, List.set_cons_zero, List.set_cons_succ]
      refine wpAnyH_take (i := 12) (oi := { dst := some 20, op := _, type := _, pos := _, after := _, guard := _ }) (v := ?_) rfl (by kernel_rfl) (by kernel_rfl) (by kernel_rfl) (fun _ _ _ h => h) (Or.inl ⟨by rfl, ?_⟩) hH ?_
      rotate_left 1
      · intro W hSw
        (try dsimp only at hSw)
        go_simp
        (try with_reducible rfl)
      try simp only [Act.put, List.setIfInBounds_toArray, List.set_cons_zero, List.set_cons_succ]
      refine wpAnyH_done (by kernel_rfl) ?_ _
      refine NoPanic.normal ?_
      obtain ⟨c0, c1, c2, c3, e0, e1, e2, e3, hB⟩ := hH
      have B1 := Lib.hid (BK.out.trans (hB.mono BK.out.size))
      have BW1 := Lib.hid (B0.out.trans (B1.out.mono B0.out.size))
      clear hB
      by_cases hv : v < 0
      · have A9 := Lib.hid (show ∀ j d, j < k + 1 → zs[j]? = some d → cmp2 d ⟨t, n, l, r⟩ < 0 from fun j d hj hd => by
          by_cases c : j = k
          · subst c; rw [HZ.out] at hd; cases hd; rw [HV.out]; exact hv
          · exact AK.out j d (by omega) hd)
        have hd9 : decide (v < 0) = true := decide_eq_true hv
        go_wp2_with fail
        go_roundw
        case rel => first | exact ⟨k + 1, by omega, by go_num, A9, B1⟩ | ((repeat apply Exists.intro); exact ⟨⟨k + 1, by omega, by go_num, A9, B1⟩, rfl⟩)
        case measure => simp [intOf]; omega
      have HF := Lib.hid (show front zs ⟨t, n, l, r⟩ = k from front_is (by rw [HN.out]; omega) AK.out (fun d hd => by rw [HZ.out] at hd; cases hd; rw [HV.out]; exact hv))
      have hd9 : decide (v < 0) = false := decide_eq_false hv
      go_wp2_with fail
      generalize (World.drew _) = V at *
      refine wp_region_noPanic ?_
      refine wp_region_held_drew (S := (fun w' => w'.cell? ⟨b0, o0 + k * 4, none⟩ = some (.int .i64 t1) ∧ w'.cell? ⟨b0, o0 + k * 4 + 1, none⟩ = some (.string n1) ∧ w'.cell? ⟨b0, o0 + k * 4 + 2, none⟩ = some (.int .i64 l1) ∧ w'.cell? ⟨b0, o0 + k * 4 + 3, none⟩ = some (.int .i64 r1) ∧ w'.cell? ⟨w.heap.size, 0, none⟩ = some (.int .i64 t) ∧ w'.cell? ⟨w.heap.size, 1, none⟩ = some (.string n) ∧ w'.cell? ⟨w.heap.size, 2, none⟩ = some (.int .i64 l) ∧ w'.cell? ⟨w.heap.size, 3, none⟩ = some (.int .i64 r) ∧ Below V.heap.size V w')) (by kernel_rfl) ?_ (fun hH => ?_)
      · exact ⟨c0, c1, c2, c3, e0, e1, e2, e3, (Below.refl _ _).drew⟩
      refine wpAnyH_take (i := 0) (oi := { dst := some 23, op := _, type := _, pos := _, after := _, guard := _ }) (v := ?_) rfl (by kernel_rfl) (by kernel_rfl) (by kernel_rfl) (fun _ _ _ h => h) (Or.inl ⟨by rfl, ?_⟩) hH ?_
      rotate_left 1
      · intro W hSw
        (try dsimp only at hSw)
        go_simp
        (try with_reducible rfl)
      try simp only [Act.put, List.setIfInBounds_toArray, List.set_cons_zero, List.set_cons_succ]
      refine wpAnyH_take (i := 1) (oi := { dst := some 24, op := _, type := _, pos := _, after := _, guard := _ }) (v := ?_) rfl (by kernel_rfl) (by kernel_rfl) (by kernel_rfl) (fun _ _ _ h => h) (Or.inl ⟨by rfl, ?_⟩) hH ?_
      rotate_left 1
      · intro W hSw
        (try dsimp only at hSw)
        go_simp
        (try with_reducible rfl)
      try simp only [Act.put, List.setIfInBounds_toArray, List.set_cons_zero, List.set_cons_succ]
      refine wpAnyH_take (i := 2) (oi := { dst := some 25, op := _, type := _, pos := _, after := _, guard := _ }) (v := ?_) rfl (by kernel_rfl) (by kernel_rfl) (by kernel_rfl) (fun _ _ _ h => h) (Or.inl ⟨by rfl, ?_⟩) hH ?_
      rotate_left 1
      · intro W hSw
        (try dsimp only at hSw)
        go_simp
        (try with_reducible rfl)
      try simp only [Act.put, List.setIfInBounds_toArray, List.set_cons_zero, List.set_cons_succ]
      refine wpAnyH_take (i := 3) (oi := { dst := some 26, op := _, type := _, pos := _, after := _, guard := _ }) (v := ?_) rfl (by kernel_rfl) (by kernel_rfl) (by kernel_rfl) (fun _ _ _ h => h) (Or.inl ⟨by rfl, ?_⟩) hH ?_
      rotate_left 1
      · intro W hSw
        (try dsimp only at hSw)
        go_simp
        (try with_reducible rfl)
      try simp only [Act.put, List.setIfInBounds_toArray, List.set_cons_zero, List.set_cons_succ]
      refine wpAnyH_take (i := 4) (oi := { dst := some 27, op := _, type := _, pos := _, after := _, guard := _ }) (v := ?_) rfl (by kernel_rfl) (by kernel_rfl) (by kernel_rfl) (fun _ _ _ h => h) (Or.inl ⟨by rfl, ?_⟩) hH ?_
      rotate_left 1
      · intro W hSw
        (try dsimp only at hSw)
        go_simp
        (try with_reducible rfl)
      try simp only [Act.put, List.setIfInBounds_toArray, List.set_cons_zero, List.set_cons_succ]
      refine wpAnyH_take (i := 5) (oi := { dst := some 28, op := _, type := _, pos := _, after := _, guard := _ }) (v := ?_) rfl (by kernel_rfl) (by kernel_rfl) (by kernel_rfl) (fun _ _ _ h => h) (Or.inl ⟨by rfl, ?_⟩) hH ?_
      rotate_left 1
      · intro W hSw
        (try dsimp only at hSw)
        go_simp
        (try with_reducible rfl)
      try simp only [Act.put, List.setIfInBounds_toArray, List.set_cons_zero, List.set_cons_succ]
      refine wpAnyH_take (i := 6) (oi := { dst := some 29, op := _, type := _, pos := _, after := _, guard := _ }) (v := ?_) rfl (by kernel_rfl) (by kernel_rfl) (by kernel_rfl) (fun _ _ _ h => h) (Or.inl ⟨by rfl, ?_⟩) hH ?_
      rotate_left 1
      · intro W hSw
        (try dsimp only at hSw)
        go_simp
        (try with_reducible rfl)
      try simp only [Act.put, List.setIfInBounds_toArray, List.set_cons_zero, List.set_cons_succ]
      refine wpAnyH_take (i := 7) (oi := { dst := some 30, op := _, type := _, pos := _, after := _, guard := _ }) (v := ?_) rfl (by kernel_rfl) (by kernel_rfl) (by kernel_rfl) (fun _ _ _ h => h) (Or.inl ⟨by rfl, ?_⟩) hH ?_
      rotate_left 1
      · intro W hSw
        (try dsimp only at hSw)
        go_simp
        (try with_reducible rfl)
      try simp only [Act.put, List.setIfInBounds_toArray, List.set_cons_zero, List.set_cons_succ]
      refine wpAnyH_take (i := 8) (oi := { dst := some 31, op := _, type := _, pos := _, after := _, guard := _ }) (v := ?_) rfl (by kernel_rfl) (by kernel_rfl) (by kernel_rfl) (fun _ _ _ h => h) (Or.inl ⟨by rfl, ?_⟩) hH ?_
      rotate_left 1
      · intro W hSw
        (try dsimp only at hSw)
        go_simp
        (try with_reducible rfl)
      try simp only [Act.put, List.setIfInBounds_toArray, List.set_cons_zero, List.set_cons_succ]
      refine wpAnyH_take (i := 9) (oi := { dst := some 32, op := _, type := _, pos := _, after := _, guard := _ }) (v := ?_) rfl (by kernel_rfl) (by kernel_rfl) (by kernel_rfl) (fun _ _ _ h => h) (Or.inl ⟨by rfl, ?_⟩) hH ?_
      rotate_left 1
      · intro W hSw
        (try dsimp only at hSw)
        go_simp
        (try with_reducible rfl)
      try simp only [Act.put, List.setIfInBounds_toArray, List.set_cons_zero, List.set_cons_succ]
      refine wpAnyH_ready (rs := [10]) (by kernel_rfl) (by simp) (AllReadyH.cons rfl (fun K hK => ?_) AllReadyH.nil)
      go_simp
      go_at_call 116; ((with_reducible refine (CC.out _).mono ?_); rintro e r9 ⟨rfl, rfl⟩); go_wp2_with fail
      refine hK.out _ _ ?_ (fun hG => ?_)
      · exact ⟨cell_alloc (cell_alloc hH.1), cell_alloc (cell_alloc hH.2.1), cell_alloc (cell_alloc hH.2.2.1), cell_alloc (cell_alloc hH.2.2.2.1), cell_alloc (cell_alloc hH.2.2.2.2.1), cell_alloc (cell_alloc hH.2.2.2.2.2.1), cell_alloc (cell_alloc hH.2.2.2.2.2.2.1), cell_alloc (cell_alloc hH.2.2.2.2.2.2.2.1), (hH.2.2.2.2.2.2.2.2.alloc hH.2.2.2.2.2.2.2.2.size _).alloc (Nat.le_trans hH.2.2.2.2.2.2.2.2.size (by simp)) _⟩
      replace hH := hG
      clear hK K hG
      try simp only [Act.put, List.setIfInBounds_toArray, List.set_cons_zero, List.set_cons_succ]
      refine wpAnyH_take (i := 11) (oi := { dst := some 34, op := _, type := _, pos := _, after := _, guard := _ }) (v := ?_) rfl (by kernel_rfl) (by kernel_rfl) (by kernel_rfl) (fun _ _ _ h => h) (Or.inl ⟨by rfl, ?_⟩) hH ?_
      rotate_left 1
      · intro W hSw
        (try dsimp only at hSw)
        go_simp
        (try with_reducible rfl)
      try simp only [Act.put, List.setIfInBounds_toArray, List.set_cons_zero, List.set_cons_succ]
      refine wpAnyH_take (i := 12) (oi := { dst := some 35, op := _, type := _, pos := _, after := _, guard := _ }) (v := ?_) rfl (by kernel_rfl) (by kernel_rfl) (by kernel_rfl) (fun _ _ _ h => h) (Or.inl ⟨by rfl, ?_⟩) hH ?_
      rotate_left 1
      · intro W hSw
        (try dsimp only at hSw)
        go_simp
        (try with_reducible rfl)
      try simp only [Act.put, List.setIfInBounds_toArray, List.set_cons_zero, List.set_cons_succ]
      refine wpAnyH_done (by kernel_rfl) ?_ _
      refine NoPanic.normal ?_
      obtain ⟨c0, c1, c2, c3, e0, e1, e2, e3, hB⟩ := hH
      have B2 := Lib.hid (B1.out.trans (hB.mono B1.out.size))
      have BW2 := Lib.hid (B0.out.trans (B2.out.mono B0.out.size))
      clear hB
      cases hv0 : (v == 0)
      · have HFR := Lib.hid (show freeB zs ⟨t, n, l, r⟩ = true by rw [free_some (by rw [HF.out]; exact HZ.out), HV.out, hv0]; rfl)
        go_wp2_with fail
        generalize (World.drew _) = V2 at *
        have hxv : w.heap.size < V2.heap.size := World.block_lt_of_cell? _ _ e0
        have HPL := Lib.hid (putL_yes HFR.out)
        have HIN := Lib.hid (show insC zs ⟨t, n, l, r⟩ = zs.take k ++ ⟨t, n, l, r⟩ :: zs.drop k by unfold insC; rw [HF.out])
        have HTK : (zs.take k).length = k := by rw [List.length_take, HN.out]; omega
        have hCP := fun (W : World) (hW : Below w.heap.size w W) => (show Calls Tryz.prog 100 #[.slice (some ⟨b0, o0, none⟩) k c9] W (fun e w' => ∃ g c, e = .returned (.slice (some ⟨g, 0, none⟩) k c) ∧ w'.ownsRow W.heap.size 63 4 (.slice (some ⟨g, 0, none⟩) k c) k (dls (zs.take k)) ∧ Below W.heap.size W w') from by
          have := CP.out W hW k hk
          unfold RowC at this
          rw [HTK] at this
          exact this)
        obtain ⟨m, hm⟩ : ∃ m, n0 - k = m := ⟨_, rfl⟩
        obtain ⟨news, hnw⟩ : ∃ news, dls (zs.drop k) = news := ⟨_, rfl⟩
        have hlen : news.length = m * 4 := by rw [← hnw, dls_len, List.length_drop, HN.out, hm]
        have hne : ¬ c9 = k := by omega
        have HSRC := Lib.hid (show ∀ W, Below w.heap.size w W → ∀ j u, news[j]? = some u → W.cell? ((⟨b0, o0 + k * 4, none⟩ : Addr).add j) = some u from fun W hW j u hu => by
          have hl := (List.getElem?_eq_some_iff.1 hu).1
          rw [Addr.add_lit]
          obtain ⟨b', o', e', _, hc⟩ := (HR.out.below hW).get (k := k * 4 + j) (by rw [dls_len, HN.out]; omega)
          injection e' with e'
          injection e' with x1 x2 x3
          subst x1 x2
          rw [← hnw, (dls_part (zs := zs) (k := k) (by rw [HN.out]; omega)).2, List.getElem?_drop] at hu
          have := hc _ u hu
          rw [← Nat.add_assoc] at this
          exact this)
        have s1 := Lib.hid hlen
        have s2 := Lib.hid (show ∀ u ∈ news, u.oneCell' = true from fun u hu => by rw [← hnw] at hu; exact dls_cell hu)
        have HD := Lib.hid (show (dls (zs.take k) ++ dc ⟨t, n, l, r⟩) ++ news = dls (insC zs ⟨t, n, l, r⟩) by rw [HIN.out, dls_app, ← hnw, List.append_assoc]; rfl)
        have HM := Lib.hid (show (insC zs ⟨t, n, l, r⟩).length = k + 1 + m by rw [ins_len, HN.out]; omega)
        have hkm : k + m = n0 := by omega
        have HKM := Lib.hid hkm
        clear HTK hnw hlen hkm
        go_wp2_with fail
        refine wp_region_noPanic ?_
        refine wp_region_held_drew (S := (fun w' => w'.cell? ⟨w.heap.size, 0, none⟩ = some (.int .i64 t) ∧ w'.cell? ⟨w.heap.size, 1, none⟩ = some (.string n) ∧ w'.cell? ⟨w.heap.size, 2, none⟩ = some (.int .i64 l) ∧ w'.cell? ⟨w.heap.size, 3, none⟩ = some (.int .i64 r) ∧ Below V2.heap.size V2 w')) (by kernel_rfl) ?_ (fun hH => ?_)
        · exact ⟨e0, e1, e2, e3, (Below.refl _ _).drew⟩
        refine wpAnyH_take (i := 0) (oi := { dst := some 38, op := _, type := _, pos := _, after := _, guard := _ }) (v := ?_) rfl (by kernel_rfl) (by kernel_rfl) (by kernel_rfl) (fun _ _ _ h => h) (Or.inl ⟨by rfl, ?_⟩) hH ?_
        rotate_left 1
        · intro W hSw
          (try dsimp only at hSw)
          go_simp
          (try with_reducible rfl)
        try simp only [Act.put, List.setIfInBounds_toArray, List.set_cons_zero, List.set_cons_succ]
        refine wpAnyH_take (i := 1) (oi := { dst := some 39, op := _, type := _, pos := _, after := _, guard := _ }) (v := ?_) rfl (by kernel_rfl) (by kernel_rfl) (by kernel_rfl) (fun _ _ _ h => h) (Or.inl ⟨by rfl, ?_⟩) hH ?_
        rotate_left 1
        · intro W hSw
          (try dsimp only at hSw)
          go_simp
          (try with_reducible rfl)
        try simp only [Act.put, List.setIfInBounds_toArray, List.set_cons_zero, List.set_cons_succ]
        refine wpAnyH_take (i := 2) (oi := { dst := some 40, op := _, type := _, pos := _, after := _, guard := _ }) (v := ?_) rfl (by kernel_rfl) (by kernel_rfl) (by kernel_rfl) (fun _ _ _ h => h) (Or.inl ⟨by rfl, ?_⟩) hH ?_
        rotate_left 1
        · intro W hSw
          (try dsimp only at hSw)
          go_simp
          (try with_reducible rfl)
        try simp only [Act.put, List.setIfInBounds_toArray, List.set_cons_zero, List.set_cons_succ]
        refine wpAnyH_take (i := 4) (oi := { dst := some 42, op := _, type := _, pos := _, after := _, guard := _ }) (v := ?_) rfl (by kernel_rfl) (by kernel_rfl) (by kernel_rfl) (fun _ _ _ h => h) (Or.inl ⟨by rfl, ?_⟩) hH ?_
        rotate_left 1
        · intro W hSw
          (try dsimp only at hSw)
          go_simp
          (try with_reducible rfl)
        try simp only [Act.put, List.setIfInBounds_toArray, List.set_cons_zero, List.set_cons_succ]
        refine wpAnyH_ready (rs := [3, 5]) (by kernel_rfl) (by simp) (AllReadyH.cons rfl (fun K hK => ?_) (AllReadyH.cons rfl (fun K hK => ?_) AllReadyH.nil))
        · go_simp
          go_at_call 100; ((with_reducible refine (hCP _ (BW2.out.trans (hH.2.2.2.2.mono BW2.out.size))).mono ?_); rintro e r1 ⟨g, c, rfl, ho, hb1⟩); go_wp2_with fail
          refine hK.out _ _ ?_ (fun hG => ?_)
          · exact ⟨cell_below hb1 hH.1, cell_below hb1 hH.2.1, cell_below hb1 hH.2.2.1, cell_below hb1 hH.2.2.2.1, hH.2.2.2.2.trans (hb1.mono hH.2.2.2.2.size)⟩
          replace hH := hG
          clear hK K hG
          try simp only [Act.put, List.setIfInBounds_toArray, List.set_cons_zero, List.set_cons_succ]
          refine wpAnyH_ready (rs := [5]) (by kernel_rfl) (by simp) (AllReadyH.cons rfl (fun K hK => ?_) AllReadyH.nil)
          go_simp
          refine hK.out _ _ ?_ (fun hG => ?_)
          · exact ⟨cell_alloc hH.1, cell_alloc hH.2.1, cell_alloc hH.2.2.1, cell_alloc hH.2.2.2.1, hH.2.2.2.2.alloc hH.2.2.2.2.size _⟩
          replace hH := hG
          clear hK K hG
          try simp only [Act.put, List.setIfInBounds_toArray, List.set_cons_zero, List.set_cons_succ]
          refine wpAnyH_ready (rs := [6]) (by kernel_rfl) (by simp) (AllReadyH.cons rfl (fun K hK => ?_) AllReadyH.nil)
          (obtain ⟨g9, c10, u9, hrun, ho9, hg9⟩ := append_cue (r1.alloc (.cells #[.int .i64 t, .string n, .int .i64 l, .int .i64 r] 63)) w.heap.size g k c _ (owns_base ho (Nat.le_trans (Nat.le_trans BW2.out.size (Nat.le_refl _)) (ho.lt g rfl).1) |>.alloc _) ⟨r1.heap.size, 0, none⟩ 1 1 (dc ⟨t, n, l, r⟩) rfl (by intro j u hj; match j, hj with | 0, hj => (simp [dc] at hj; subst hj; simp [go_sem, Addr.add]) | 1, hj => (simp [dc] at hj; subst hj; simp [go_sem, Addr.add]) | 2, hj => (simp [dc] at hj; subst hj; simp [go_sem, Addr.add]) | 3, hj => (simp [dc] at hj; subst hj; simp [go_sem, Addr.add])) (by intro u hu9; simp [dc] at hu9; rcases hu9 with rfl | rfl | rfl | rfl <;> rfl) (by omega) (BW2.out.trans (hH.2.2.2.2.mono BW2.out.size)).size); refine step_append_run rfl (.tmp 41) (.tmp 43) rfl rfl _ _ _ (by simp [Act.eval, Act.put]) (by simp [Act.eval, Act.put]) hrun ?_; refine (show K (Act.put _ (some 44) _) _ from ?_)
          refine hK.out _ _ ?_ (fun hG => ?_)
          · exact ⟨hg9.cell hH.1 (fun e => by injection e with e; (have e9 : w.heap.size = g := e); (have e8 : V2.heap.size ≤ g := (ho.lt g rfl).1); have := hxv; omega), hg9.cell hH.2.1 (fun e => by injection e with e; (have e9 : w.heap.size = g := e); (have e8 : V2.heap.size ≤ g := (ho.lt g rfl).1); have := hxv; omega), hg9.cell hH.2.2.1 (fun e => by injection e with e; (have e9 : w.heap.size = g := e); (have e8 : V2.heap.size ≤ g := (ho.lt g rfl).1); have := hxv; omega), hg9.cell hH.2.2.2.1 (fun e => by injection e with e; (have e9 : w.heap.size = g := e); (have e8 : V2.heap.size ≤ g := (ho.lt g rfl).1); have := hxv; omega), Below.grown hH.2.2.2.2 hg9 hH.2.2.2.2.size (fun q hq => by cases hq; exact (ho.lt g rfl).1)⟩
          replace hH := hG
          clear hK K hG
          try simp only [Act.put, List.setIfInBounds_toArray, List.set_cons_zero, List.set_cons_succ]
          refine wpAnyH_take (i := 7) (oi := { dst := some 7, op := _, type := _, pos := _, after := _, guard := _ }) (v := ?_) rfl (by kernel_rfl) (by kernel_rfl) (by kernel_rfl) (fun _ _ _ h => h) (Or.inl ⟨by rfl, ?_⟩) hH ?_
          rotate_left 1
          · intro W hSw
            (try dsimp only at hSw)
            go_simp
            (try with_reducible rfl)
          try simp only [Act.put, List.setIfInBounds_toArray, List.set_cons_zero, List.set_cons_succ]
          refine wpAnyH_done (by kernel_rfl) ?_ _
          refine NoPanic.normal ?_
          obtain ⟨_, _, _, _, hB⟩ := hH
          have BW9 := Lib.hid (BW2.out.trans (hB.mono BW2.out.size))
          have RO := Lib.hid ho9
          clear hB hg9 hrun ho ho9 hb1 e0 e1 e2 e3
          (try clear d0 d1 d2 d3)
          obtain ⟨i0, hi, hz0, hz1, hz2⟩ := info_of infoD
          have hmb : k + 1 + m ≤ 1048577 := by have := HKM.out; omega
          go_wp2_with (at_builtin; refine wpList_append_own _ rfl _ _ 25 rfl w.heap.size 63 i0 (.agg #[.int .i64 0, .string ⟨#[]⟩, .int .i64 0, .int .i64 0]) 4 40 Tryz.underlying25 hi hz0 hz1 hz2 rfl (by decide) _ _ _ rfl RO.out ⟨b0, o0 + k * 4, none⟩ m (c9 - k) news rfl s1.out (HSRC.out _ BW9.out) s2.out (by unfold maxLen; omega) (by omega) BW9.out.size ?_; intro v' w5 hown' hgrow hnil)
          rw [HD.out] at hown'
          have hg : ∃ g c, v' = .slice (some ⟨g, 0, none⟩) (k + 1 + m) c := by
            rcases hown'.2 with ⟨x1, _⟩ | ⟨g, cap, cur, x1, _⟩
            · exact absurd (hnil.1 x1).1 (by intro h; cases h)
            · exact ⟨g, cap, x1⟩
          obtain ⟨g5, c5, rfl⟩ := hg
          have R6 := Lib.hid hown'
          have B6 := Lib.hid (BW9.out.grown hgrow BW9.out.size (fun j hj => by cases hj; exact (RO.out.lt _ rfl).1))
          clear hown' hgrow hnil
          go_wp2_with fail
          go_returns
          rw [HPL.out, HFR.out]
          exact ⟨g5, c5, by rw [HM.out]; first | done | rfl, by rw [HM.out]; exact R6.out, B6.out⟩
        · go_simp
          refine hK.out _ _ ?_ (fun hG => ?_)
          · exact ⟨cell_alloc hH.1, cell_alloc hH.2.1, cell_alloc hH.2.2.1, cell_alloc hH.2.2.2.1, hH.2.2.2.2.alloc hH.2.2.2.2.size _⟩
          replace hH := hG
          clear hK K hG
          try simp only [Act.put, List.setIfInBounds_toArray, List.set_cons_zero, List.set_cons_succ]
          refine wpAnyH_ready (rs := [3]) (by kernel_rfl) (by simp) (AllReadyH.cons rfl (fun K hK => ?_) AllReadyH.nil)
          go_simp
          go_at_call 100; ((with_reducible refine (hCP _ (BW2.out.trans (hH.2.2.2.2.mono BW2.out.size))).mono ?_); rintro e r1 ⟨g, c, rfl, ho, hb1⟩); have d0 := cell_below hb1 (cell_here (W := V2.drew) (c := #[.int .i64 t, .string n, .int .i64 l, .int .i64 r]) (t := 63) (i := 0) rfl); have d1 := cell_below hb1 (cell_here (W := V2.drew) (c := #[.int .i64 t, .string n, .int .i64 l, .int .i64 r]) (t := 63) (i := 1) rfl); have d2 := cell_below hb1 (cell_here (W := V2.drew) (c := #[.int .i64 t, .string n, .int .i64 l, .int .i64 r]) (t := 63) (i := 2) rfl); have d3 := cell_below hb1 (cell_here (W := V2.drew) (c := #[.int .i64 t, .string n, .int .i64 l, .int .i64 r]) (t := 63) (i := 3) rfl); go_wp2_with fail
          refine hK.out _ _ ?_ (fun hG => ?_)
          · exact ⟨cell_below hb1 hH.1, cell_below hb1 hH.2.1, cell_below hb1 hH.2.2.1, cell_below hb1 hH.2.2.2.1, hH.2.2.2.2.trans (hb1.mono hH.2.2.2.2.size)⟩
          replace hH := hG
          clear hK K hG
          try simp only [Act.put, List.setIfInBounds_toArray, List.set_cons_zero, List.set_cons_succ]
          refine wpAnyH_ready (rs := [6]) (by kernel_rfl) (by simp) (AllReadyH.cons rfl (fun K hK => ?_) AllReadyH.nil)
          (obtain ⟨g9, c10, u9, hrun, ho9, hg9⟩ := append_cue r1 w.heap.size g k c _ (owns_base ho (Nat.le_trans (Nat.le_trans BW2.out.size (show V2.heap.size ≤ _ from by simp)) (ho.lt g rfl).1)) ⟨V2.heap.size, 0, none⟩ 1 1 (dc ⟨t, n, l, r⟩) rfl (by intro j u hj; match j, hj with | 0, hj => (simp [dc] at hj; subst hj; simpa [Addr.add] using d0) | 1, hj => (simp [dc] at hj; subst hj; simpa [Addr.add] using d1) | 2, hj => (simp [dc] at hj; subst hj; simpa [Addr.add] using d2) | 3, hj => (simp [dc] at hj; subst hj; simpa [Addr.add] using d3)) (by intro u hu9; simp [dc] at hu9; rcases hu9 with rfl | rfl | rfl | rfl <;> rfl) (by omega) (BW2.out.trans (hH.2.2.2.2.mono BW2.out.size)).size); refine step_append_run rfl (.tmp 41) (.tmp 43) rfl rfl _ _ _ (by simp [Act.eval, Act.put]) (by simp [Act.eval, Act.put]) hrun ?_; refine (show K (Act.put _ (some 44) _) _ from ?_)
          refine hK.out _ _ ?_ (fun hG => ?_)
          · exact ⟨hg9.cell hH.1 (fun e => by injection e with e; (have e9 : w.heap.size = g := e); (have e8 : V2.heap.size ≤ g := Nat.le_trans (by simp) (ho.lt g rfl).1); have := hxv; omega), hg9.cell hH.2.1 (fun e => by injection e with e; (have e9 : w.heap.size = g := e); (have e8 : V2.heap.size ≤ g := Nat.le_trans (by simp) (ho.lt g rfl).1); have := hxv; omega), hg9.cell hH.2.2.1 (fun e => by injection e with e; (have e9 : w.heap.size = g := e); (have e8 : V2.heap.size ≤ g := Nat.le_trans (by simp) (ho.lt g rfl).1); have := hxv; omega), hg9.cell hH.2.2.2.1 (fun e => by injection e with e; (have e9 : w.heap.size = g := e); (have e8 : V2.heap.size ≤ g := Nat.le_trans (by simp) (ho.lt g rfl).1); have := hxv; omega), Below.grown hH.2.2.2.2 hg9 hH.2.2.2.2.size (fun q hq => by cases hq; (have e8 : V2.heap.size ≤ g := Nat.le_trans (by simp) (ho.lt g rfl).1); exact e8)⟩
          replace hH := hG
          clear hK K hG
          try simp only [Act.put, List.setIfInBounds_toArray, List.set_cons_zero, List.set_cons_succ]
          refine wpAnyH_take (i := 7) (oi := { dst := some 7, op := _, type := _, pos := _, after := _, guard := _ }) (v := ?_) rfl (by kernel_rfl) (by kernel_rfl) (by kernel_rfl) (fun _ _ _ h => h) (Or.inl ⟨by rfl, ?_⟩) hH ?_
          rotate_left 1
          · intro W hSw
            (try dsimp only at hSw)
            go_simp
            (try with_reducible rfl)
          try simp only [Act.put, List.setIfInBounds_toArray, List.set_cons_zero, List.set_cons_succ]
          refine wpAnyH_done (by kernel_rfl) ?_ _
          refine NoPanic.normal ?_
          obtain ⟨_, _, _, _, hB⟩ := hH
          have BW9 := Lib.hid (BW2.out.trans (hB.mono BW2.out.size))
          have RO := Lib.hid ho9
          clear hB hg9 hrun ho ho9 hb1 e0 e1 e2 e3
          (try clear d0 d1 d2 d3)
          obtain ⟨i0, hi, hz0, hz1, hz2⟩ := info_of infoD
          have hmb : k + 1 + m ≤ 1048577 := by have := HKM.out; omega
          go_wp2_with (at_builtin; refine wpList_append_own _ rfl _ _ 25 rfl w.heap.size 63 i0 (.agg #[.int .i64 0, .string ⟨#[]⟩, .int .i64 0, .int .i64 0]) 4 40 Tryz.underlying25 hi hz0 hz1 hz2 rfl (by decide) _ _ _ rfl RO.out ⟨b0, o0 + k * 4, none⟩ m (c9 - k) news rfl s1.out (HSRC.out _ BW9.out) s2.out (by unfold maxLen; omega) (by omega) BW9.out.size ?_; intro v' w5 hown' hgrow hnil)
          rw [HD.out] at hown'
          have hg : ∃ g c, v' = .slice (some ⟨g, 0, none⟩) (k + 1 + m) c := by
            rcases hown'.2 with ⟨x1, _⟩ | ⟨g, cap, cur, x1, _⟩
            · exact absurd (hnil.1 x1).1 (by intro h; cases h)
            · exact ⟨g, cap, x1⟩
          obtain ⟨g5, c5, rfl⟩ := hg
          have R6 := Lib.hid hown'
          have B6 := Lib.hid (BW9.out.grown hgrow BW9.out.size (fun j hj => by cases hj; exact (RO.out.lt _ rfl).1))
          clear hown' hgrow hnil
          go_wp2_with fail
          go_returns
          rw [HPL.out, HFR.out]
          exact ⟨g5, c5, by rw [HM.out]; first | done | rfl, by rw [HM.out]; exact R6.out, B6.out⟩
      · have HFR := Lib.hid (show freeB zs ⟨t, n, l, r⟩ = false by rw [free_some (by rw [HF.out]; exact HZ.out), HV.out, hv0]; rfl)
        have HPL := Lib.hid (putL_no HFR.out)
        have hCP := CP.out _ BW2.out n0 (Nat.le_refl _)
        rw [show zs.take n0 = zs by rw [← HN.out, List.take_length]] at hCP
        have hCP := Lib.hid hCP
        go_wp2_with fail
        with_reducible refine hCP.out.mono ?_
        rintro e w9 ⟨g, c, rfl, ho, hb9⟩
        have B9 := Lib.hid (BW2.out.trans (hb9.mono BW2.out.size))
        have RO := Lib.hid (owns_base ho (Nat.le_trans BW2.out.size (ho.lt g rfl).1))
        clear ho hb9
        go_wp2_with fail
        go_returns
        rw [HPL.out, HFR.out]
        exact ⟨g, c, rfl, RO.out, B9.out⟩
    · obtain rfl : k = n0 := by omega
      have gn : ¬ (k : Int) < (k : Int) := by omega
      have gk : ¬ k < k := by omega
      have HF := Lib.hid (show front zs ⟨t, n, l, r⟩ = k from front_is (by rw [HN.out]; omega) AK.out (fun d hd => by have := (List.getElem?_eq_some_iff.1 hd).1; rw [HN.out] at this; omega))
      have HFR := Lib.hid (show freeB zs ⟨t, n, l, r⟩ = true from free_none (by rw [HF.out]; exact List.getElem?_eq_none (by rw [HN.out]; omega)))
      go_wp2_with fail
      refine wp_region_noPanic ?_
      refine wp_region_held_drew (S := (fun w' => w'.cell? ⟨w.heap.size, 0, none⟩ = some (.int .i64 t) ∧ w'.cell? ⟨w.heap.size, 1, none⟩ = some (.string n) ∧ w'.cell? ⟨w.heap.size, 2, none⟩ = some (.int .i64 l) ∧ w'.cell? ⟨w.heap.size, 3, none⟩ = some (.int .i64 r) ∧ Below wr.heap.size wr w')) (by kernel_rfl) ?_ (fun hH => ?_)
      · exact ⟨e0, e1, e2, e3, (Below.refl _ _).drew⟩
      refine wpAnyH_take (i := 0) (oi := { dst := some 8, op := _, type := _, pos := _, after := _, guard := _ }) (v := ?_) rfl (by kernel_rfl) (by kernel_rfl) (by kernel_rfl) (fun _ _ _ h => h) (Or.inl ⟨by rfl, ?_⟩) hH ?_
      rotate_left 1
      · intro W hSw
        (try dsimp only at hSw)
        go_simp
        (try with_reducible rfl)
      try simp only [Act.put, List.setIfInBounds_toArray, List.set_cons_zero, List.set_cons_succ]
      refine wpAnyH_take (i := 1) (oi := { dst := some 9, op := _, type := _, pos := _, after := _, guard := _ }) (v := ?_) rfl (by kernel_rfl) (by kernel_rfl) (by kernel_rfl) (fun _ _ _ h => h) (Or.inl ⟨by rfl, ?_⟩) hH ?_
      rotate_left 1
      · intro W hSw
        (try dsimp only at hSw)
        go_simp
        (try with_reducible rfl)
      try simp only [Act.put, List.setIfInBounds_toArray, List.set_cons_zero, List.set_cons_succ]
      refine wpAnyH_take (i := 2) (oi := { dst := some 10, op := _, type := _, pos := _, after := _, guard := _ }) (v := ?_) rfl (by kernel_rfl) (by kernel_rfl) (by kernel_rfl) (fun _ _ _ h => h) (Or.inl ⟨by rfl, ?_⟩) hH ?_
      rotate_left 1
      · intro W hSw
        (try dsimp only at hSw)
        go_simp
        (try with_reducible rfl)
      try simp only [Act.put, List.setIfInBounds_toArray, List.set_cons_zero, List.set_cons_succ]
      refine wpAnyH_take (i := 3) (oi := { dst := some 11, op := _, type := _, pos := _, after := _, guard := _ }) (v := ?_) rfl (by kernel_rfl) (by kernel_rfl) (by kernel_rfl) (fun _ _ _ h => h) (Or.inl ⟨by rfl, ?_⟩) hH ?_
      rotate_left 1
      · intro W hSw
        (try dsimp only at hSw)
        go_simp
        (try with_reducible rfl)
      try simp only [Act.put, List.setIfInBounds_toArray, List.set_cons_zero, List.set_cons_succ]
      refine wpAnyH_take (i := 4) (oi := { dst := some 12, op := _, type := _, pos := _, after := _, guard := _ }) (v := ?_) rfl (by kernel_rfl) (by kernel_rfl) (by kernel_rfl) (fun _ _ _ h => h) (Or.inl ⟨by rfl, ?_⟩) hH ?_
      rotate_left 1
      · intro W hSw
        (try dsimp only at hSw)
        go_simp
        (try with_reducible rfl)
      try simp only [Act.put, List.setIfInBounds_toArray, List.set_cons_zero, List.set_cons_succ]
      refine wpAnyH_take (i := 5) (oi := { dst := some 13, op := _, type := _, pos := _, after := _, guard := _ }) (v := undef) rfl (by kernel_rfl) (by kernel_rfl) (by kernel_rfl) (fun _ _ _ h => h) (Or.inr ⟨by simp [Region.wanted, yielded, hu, gk], rfl⟩) hH ?_
      try simp only [Act.put, List.setIfInBounds_toArray, List.set_cons_zero, List.set_cons_succ]
      refine wpAnyH_take (i := 6) (oi := { dst := some 14, op := _, type := _, pos := _, after := _, guard := _ }) (v := undef) rfl (by kernel_rfl) (by kernel_rfl) (by kernel_rfl) (fun _ _ _ h => h) (Or.inr ⟨by simp [Region.wanted, yielded, hu, gk], rfl⟩) hH ?_
      try simp only [Act.put, List.setIfInBounds_toArray, List.set_cons_zero, List.set_cons_succ]
      refine wpAnyH_take (i := 7) (oi := { dst := some 15, op := _, type := _, pos := _, after := _, guard := _ }) (v := undef) rfl (by kernel_rfl) (by kernel_rfl) (by kernel_rfl) (fun _ _ _ h => h) (Or.inr ⟨by simp [Region.wanted, yielded, hu, gk], rfl⟩) hH ?_
      try simp only [Act.put, List.setIfInBounds_toArray, List.set_cons_zero, List.set_cons_succ]
      refine wpAnyH_take (i := 8) (oi := { dst := some 16, op := _, type := _, pos := _, after := _, guard := _ }) (v := undef) rfl (by kernel_rfl) (by kernel_rfl) (by kernel_rfl) (fun _ _ _ h => h) (Or.inr ⟨by simp [Region.wanted, yielded, hu, gk], rfl⟩) hH ?_
      try simp only [Act.put, List.setIfInBounds_toArray, List.set_cons_zero, List.set_cons_succ]
      refine wpAnyH_take (i := 9) (oi := { dst := some 17, op := _, type := _, pos := _, after := _, guard := _ }) (v := undef) rfl (by kernel_rfl) (by kernel_rfl) (by kernel_rfl) (fun _ _ _ h => h) (Or.inr ⟨by simp [Region.wanted, yielded, hu, gk], rfl⟩) hH ?_
      try simp only [Act.put, List.setIfInBounds_toArray, List.set_cons_zero, List.set_cons_succ]
      refine wpAnyH_take (i := 10) (oi := { dst := some 18, op := _, type := _, pos := _, after := _, guard := _ }) (v := undef) rfl (by kernel_rfl) (by kernel_rfl) (by kernel_rfl) (fun _ _ _ h => h) (Or.inr ⟨by simp [Region.wanted, yielded, hu, gk], rfl⟩) hH ?_
      try simp only [Act.put, List.setIfInBounds_toArray, List.set_cons_zero, List.set_cons_succ]
      refine wpAnyH_take (i := 11) (oi := { dst := some 19, op := _, type := _, pos := _, after := _, guard := _ }) (v := undef) rfl (by kernel_rfl) (by kernel_rfl) (by kernel_rfl) (fun _ _ _ h => h) (Or.inr ⟨by simp [Region.wanted, yielded, hu, gk], rfl⟩) hH ?_
      try simp only [Act.put, List.setIfInBounds_toArray, List.set_cons_zero, List.set_cons_succ]
      refine wpAnyH_take (i := 12) (oi := { dst := some 20, op := _, type := _, pos := _, after := _, guard := _ }) (v := ?_) rfl (by kernel_rfl) (by kernel_rfl) (by kernel_rfl) (fun _ _ _ h => h) (Or.inl ⟨by rfl, ?_⟩) hH ?_
      rotate_left 1
      · intro W hSw
        (try dsimp only at hSw)
        go_simp
        (try with_reducible rfl)
      try simp only [Act.put, List.setIfInBounds_toArray, List.set_cons_zero, List.set_cons_succ]
      refine wpAnyH_done (by kernel_rfl) ?_ _
      refine NoPanic.normal ?_
      obtain ⟨e0, e1, e2, e3, hB⟩ := hH
      have B1 := Lib.hid (BK.out.trans (hB.mono BK.out.size))
      have BW1 := Lib.hid (B0.out.trans (B1.out.mono B0.out.size))
      clear hB
      go_wp2_with fail
      generalize (World.drew _) = V at *
      refine wp_region_noPanic ?_
      refine wp_region_held_drew (S := (fun w' => w'.cell? ⟨w.heap.size, 0, none⟩ = some (.int .i64 t) ∧ w'.cell? ⟨w.heap.size, 1, none⟩ = some (.string n) ∧ w'.cell? ⟨w.heap.size, 2, none⟩ = some (.int .i64 l) ∧ w'.cell? ⟨w.heap.size, 3, none⟩ = some (.int .i64 r) ∧ Below V.heap.size V w')) (by kernel_rfl) ?_ (fun hH => ?_)
      · exact ⟨e0, e1, e2, e3, (Below.refl _ _).drew⟩
      refine wpAnyH_take (i := 0) (oi := { dst := some 23, op := _, type := _, pos := _, after := _, guard := _ }) (v := ?_) rfl (by kernel_rfl) (by kernel_rfl) (by kernel_rfl) (fun _ _ _ h => h) (Or.inl ⟨by rfl, ?_⟩) hH ?_
      rotate_left 1
      · intro W hSw
        (try dsimp only at hSw)
        go_simp
        (try with_reducible rfl)
      try simp only [Act.put, List.setIfInBounds_toArray, List.set_cons_zero, List.set_cons_succ]
      refine wpAnyH_take (i := 1) (oi := { dst := some 24, op := _, type := _, pos := _, after := _, guard := _ }) (v := ?_) rfl (by kernel_rfl) (by kernel_rfl) (by kernel_rfl) (fun _ _ _ h => h) (Or.inl ⟨by rfl, ?_⟩) hH ?_
      rotate_left 1
      · intro W hSw
        (try dsimp only at hSw)
        go_simp
        (try with_reducible rfl)
      try simp only [Act.put, List.setIfInBounds_toArray, List.set_cons_zero, List.set_cons_succ]
      refine wpAnyH_take (i := 2) (oi := { dst := some 25, op := _, type := _, pos := _, after := _, guard := _ }) (v := ?_) rfl (by kernel_rfl) (by kernel_rfl) (by kernel_rfl) (fun _ _ _ h => h) (Or.inl ⟨by rfl, ?_⟩) hH ?_
      rotate_left 1
      · intro W hSw
        (try dsimp only at hSw)
        go_simp
        (try with_reducible rfl)
      try simp only [Act.put, List.setIfInBounds_toArray, List.set_cons_zero, List.set_cons_succ]
      refine wpAnyH_take (i := 3) (oi := { dst := some 26, op := _, type := _, pos := _, after := _, guard := _ }) (v := ?_) rfl (by kernel_rfl) (by kernel_rfl) (by kernel_rfl) (fun _ _ _ h => h) (Or.inl ⟨by rfl, ?_⟩) hH ?_
      rotate_left 1
      · intro W hSw
        (try dsimp only at hSw)
        go_simp
        (try with_reducible rfl)
      try simp only [Act.put, List.setIfInBounds_toArray, List.set_cons_zero, List.set_cons_succ]
      refine wpAnyH_take (i := 4) (oi := { dst := some 27, op := _, type := _, pos := _, after := _, guard := _ }) (v := ?_) rfl (by kernel_rfl) (by kernel_rfl) (by kernel_rfl) (fun _ _ _ h => h) (Or.inl ⟨by rfl, ?_⟩) hH ?_
      rotate_left 1
      · intro W hSw
        (try dsimp only at hSw)
        go_simp
        (try with_reducible rfl)
      try simp only [Act.put, List.setIfInBounds_toArray, List.set_cons_zero, List.set_cons_succ]
      refine wpAnyH_take (i := 5) (oi := { dst := some 28, op := _, type := _, pos := _, after := _, guard := _ }) (v := undef) rfl (by kernel_rfl) (by kernel_rfl) (by kernel_rfl) (fun _ _ _ h => h) (Or.inr ⟨by simp [Region.wanted, yielded, hu, gk], rfl⟩) hH ?_
      try simp only [Act.put, List.setIfInBounds_toArray, List.set_cons_zero, List.set_cons_succ]
      refine wpAnyH_take (i := 6) (oi := { dst := some 29, op := _, type := _, pos := _, after := _, guard := _ }) (v := undef) rfl (by kernel_rfl) (by kernel_rfl) (by kernel_rfl) (fun _ _ _ h => h) (Or.inr ⟨by simp [Region.wanted, yielded, hu, gk], rfl⟩) hH ?_
      try simp only [Act.put, List.setIfInBounds_toArray, List.set_cons_zero, List.set_cons_succ]
      refine wpAnyH_take (i := 7) (oi := { dst := some 30, op := _, type := _, pos := _, after := _, guard := _ }) (v := undef) rfl (by kernel_rfl) (by kernel_rfl) (by kernel_rfl) (fun _ _ _ h => h) (Or.inr ⟨by simp [Region.wanted, yielded, hu, gk], rfl⟩) hH ?_
      try simp only [Act.put, List.setIfInBounds_toArray, List.set_cons_zero, List.set_cons_succ]
      refine wpAnyH_take (i := 8) (oi := { dst := some 31, op := _, type := _, pos := _, after := _, guard := _ }) (v := undef) rfl (by kernel_rfl) (by kernel_rfl) (by kernel_rfl) (fun _ _ _ h => h) (Or.inr ⟨by simp [Region.wanted, yielded, hu, gk], rfl⟩) hH ?_
      try simp only [Act.put, List.setIfInBounds_toArray, List.set_cons_zero, List.set_cons_succ]
      refine wpAnyH_take (i := 9) (oi := { dst := some 32, op := _, type := _, pos := _, after := _, guard := _ }) (v := undef) rfl (by kernel_rfl) (by kernel_rfl) (by kernel_rfl) (fun _ _ _ h => h) (Or.inr ⟨by simp [Region.wanted, yielded, hu, gk], rfl⟩) hH ?_
      try simp only [Act.put, List.setIfInBounds_toArray, List.set_cons_zero, List.set_cons_succ]
      refine wpAnyH_take (i := 10) (oi := { dst := some 33, op := _, type := _, pos := _, after := _, guard := _ }) (v := undef) rfl (by kernel_rfl) (by kernel_rfl) (by kernel_rfl) (fun _ _ _ h => h) (Or.inr ⟨by simp [Region.wanted, yielded, hu, gk], rfl⟩) hH ?_
      try simp only [Act.put, List.setIfInBounds_toArray, List.set_cons_zero, List.set_cons_succ]
      refine wpAnyH_take (i := 11) (oi := { dst := some 34, op := _, type := _, pos := _, after := _, guard := _ }) (v := undef) rfl (by kernel_rfl) (by kernel_rfl) (by kernel_rfl) (fun _ _ _ h => h) (Or.inr ⟨by simp [Region.wanted, yielded, hu, gk], rfl⟩) hH ?_
      try simp only [Act.put, List.setIfInBounds_toArray, List.set_cons_zero, List.set_cons_succ]
      refine wpAnyH_take (i := 12) (oi := { dst := some 35, op := _, type := _, pos := _, after := _, guard := _ }) (v := ?_) rfl (by kernel_rfl) (by kernel_rfl) (by kernel_rfl) (fun _ _ _ h => h) (Or.inl ⟨by rfl, ?_⟩) hH ?_
      rotate_left 1
      · intro W hSw
        (try dsimp only at hSw)
        go_simp
        (try with_reducible rfl)
      try simp only [Act.put, List.setIfInBounds_toArray, List.set_cons_zero, List.set_cons_succ]
      refine wpAnyH_done (by kernel_rfl) ?_ _
      refine NoPanic.normal ?_
      obtain ⟨e0, e1, e2, e3, hB⟩ := hH
      have B2 := Lib.hid (B1.out.trans (hB.mono B1.out.size))
      have BW2 := Lib.hid (B0.out.trans (B2.out.mono B0.out.size))
      clear hB
      go_wp2_with fail
      generalize (World.drew _) = V2 at *
      have hxv : w.heap.size < V2.heap.size := World.block_lt_of_cell? _ _ e0
      rcases Decidable.em (c9 = k) with hac | hac
      · have hac2 := hac.symm
        subst hac2
        have HPL := Lib.hid (putL_yes HFR.out)
        have HIN := Lib.hid (show insC zs ⟨t, n, l, r⟩ = zs.take k ++ ⟨t, n, l, r⟩ :: zs.drop k by unfold insC; rw [HF.out])
        have HTK : (zs.take k).length = k := by rw [List.length_take, HN.out]; omega
        have hCP := fun (W : World) (hW : Below w.heap.size w W) => (show Calls Tryz.prog 100 #[.slice (some ⟨b0, o0, none⟩) k k] W (fun e w' => ∃ g c, e = .returned (.slice (some ⟨g, 0, none⟩) k c) ∧ w'.ownsRow W.heap.size 63 4 (.slice (some ⟨g, 0, none⟩) k c) k (dls (zs.take k)) ∧ Below W.heap.size W w') from by
          have := CP.out W hW k hk
          unfold RowC at this
          rw [HTK] at this
          exact this)
        obtain ⟨m, hm⟩ : ∃ m, k - k = m := ⟨_, rfl⟩
        obtain ⟨news, hnw⟩ : ∃ news, dls (zs.drop k) = news := ⟨_, rfl⟩
        have hlen : news.length = m * 4 := by rw [← hnw, dls_len, List.length_drop, HN.out, hm]
        have HSRC := Lib.hid (show ∀ (ad : Addr) (W : World), ∀ j u, news[j]? = some u → W.cell? (ad.add j) = some u from fun ad W j u hu => by
          have hl := (List.getElem?_eq_some_iff.1 hu).1
          exfalso; omega)
        have s1 := Lib.hid hlen
        have s2 := Lib.hid (show ∀ u ∈ news, u.oneCell' = true from fun u hu => by rw [← hnw] at hu; exact dls_cell hu)
        have HD := Lib.hid (show (dls (zs.take k) ++ dc ⟨t, n, l, r⟩) ++ news = dls (insC zs ⟨t, n, l, r⟩) by rw [HIN.out, dls_app, ← hnw, List.append_assoc]; rfl)
        have HM := Lib.hid (show (insC zs ⟨t, n, l, r⟩).length = k + 1 + m by rw [ins_len, HN.out]; omega)
        have hkm : k + m = k := by omega
        have HKM := Lib.hid hkm
        clear HTK hnw hlen hkm
        go_wp2_with fail
        refine wp_region_noPanic ?_
        refine wp_region_held_drew (S := (fun w' => w'.cell? ⟨w.heap.size, 0, none⟩ = some (.int .i64 t) ∧ w'.cell? ⟨w.heap.size, 1, none⟩ = some (.string n) ∧ w'.cell? ⟨w.heap.size, 2, none⟩ = some (.int .i64 l) ∧ w'.cell? ⟨w.heap.size, 3, none⟩ = some (.int .i64 r) ∧ Below V2.heap.size V2 w')) (by kernel_rfl) ?_ (fun hH => ?_)
        · exact ⟨e0, e1, e2, e3, (Below.refl _ _).drew⟩
        refine wpAnyH_take (i := 0) (oi := { dst := some 38, op := _, type := _, pos := _, after := _, guard := _ }) (v := ?_) rfl (by kernel_rfl) (by kernel_rfl) (by kernel_rfl) (fun _ _ _ h => h) (Or.inl ⟨by rfl, ?_⟩) hH ?_
        rotate_left 1
        · intro W hSw
          (try dsimp only at hSw)
          go_simp
          (try with_reducible rfl)
        try simp only [Act.put, List.setIfInBounds_toArray, List.set_cons_zero, List.set_cons_succ]
        refine wpAnyH_take (i := 1) (oi := { dst := some 39, op := _, type := _, pos := _, after := _, guard := _ }) (v := ?_) rfl (by kernel_rfl) (by kernel_rfl) (by kernel_rfl) (fun _ _ _ h => h) (Or.inl ⟨by rfl, ?_⟩) hH ?_
        rotate_left 1
        · intro W hSw
          (try dsimp only at hSw)
          go_simp
          (try with_reducible rfl)
        try simp only [Act.put, List.setIfInBounds_toArray, List.set_cons_zero, List.set_cons_succ]
        refine wpAnyH_take (i := 2) (oi := { dst := some 40, op := _, type := _, pos := _, after := _, guard := _ }) (v := ?_) rfl (by kernel_rfl) (by kernel_rfl) (by kernel_rfl) (fun _ _ _ h => h) (Or.inl ⟨by rfl, ?_⟩) hH ?_
        rotate_left 1
        · intro W hSw
          (try dsimp only at hSw)
          go_simp
          (try with_reducible rfl)
        try simp only [Act.put, List.setIfInBounds_toArray, List.set_cons_zero, List.set_cons_succ]
        refine wpAnyH_take (i := 4) (oi := { dst := some 42, op := _, type := _, pos := _, after := _, guard := _ }) (v := ?_) rfl (by kernel_rfl) (by kernel_rfl) (by kernel_rfl) (fun _ _ _ h => h) (Or.inl ⟨by rfl, ?_⟩) hH ?_
        rotate_left 1
        · intro W hSw
          (try dsimp only at hSw)
          go_simp
          (try with_reducible rfl)
        try simp only [Act.put, List.setIfInBounds_toArray, List.set_cons_zero, List.set_cons_succ]
        refine wpAnyH_ready (rs := [3, 5]) (by kernel_rfl) (by simp) (AllReadyH.cons rfl (fun K hK => ?_) (AllReadyH.cons rfl (fun K hK => ?_) AllReadyH.nil))
        · go_simp
          go_at_call 100; ((with_reducible refine (hCP _ (BW2.out.trans (hH.2.2.2.2.mono BW2.out.size))).mono ?_); rintro e r1 ⟨g, c, rfl, ho, hb1⟩); go_wp2_with fail
          refine hK.out _ _ ?_ (fun hG => ?_)
          · exact ⟨cell_below hb1 hH.1, cell_below hb1 hH.2.1, cell_below hb1 hH.2.2.1, cell_below hb1 hH.2.2.2.1, hH.2.2.2.2.trans (hb1.mono hH.2.2.2.2.size)⟩
          replace hH := hG
          clear hK K hG
          try simp only [Act.put, List.setIfInBounds_toArray, List.set_cons_zero, List.set_cons_succ]
          refine wpAnyH_ready (rs := [5]) (by kernel_rfl) (by simp) (AllReadyH.cons rfl (fun K hK => ?_) AllReadyH.nil)
          go_simp
          refine hK.out _ _ ?_ (fun hG => ?_)
          · exact ⟨cell_alloc hH.1, cell_alloc hH.2.1, cell_alloc hH.2.2.1, cell_alloc hH.2.2.2.1, hH.2.2.2.2.alloc hH.2.2.2.2.size _⟩
          replace hH := hG
          clear hK K hG
          try simp only [Act.put, List.setIfInBounds_toArray, List.set_cons_zero, List.set_cons_succ]
          refine wpAnyH_ready (rs := [6]) (by kernel_rfl) (by simp) (AllReadyH.cons rfl (fun K hK => ?_) AllReadyH.nil)
          (obtain ⟨g9, c10, u9, hrun, ho9, hg9⟩ := append_cue (r1.alloc (.cells #[.int .i64 t, .string n, .int .i64 l, .int .i64 r] 63)) w.heap.size g k c _ (owns_base ho (Nat.le_trans (Nat.le_trans BW2.out.size (Nat.le_refl _)) (ho.lt g rfl).1) |>.alloc _) ⟨r1.heap.size, 0, none⟩ 1 1 (dc ⟨t, n, l, r⟩) rfl (by intro j u hj; match j, hj with | 0, hj => (simp [dc] at hj; subst hj; simp [go_sem, Addr.add]) | 1, hj => (simp [dc] at hj; subst hj; simp [go_sem, Addr.add]) | 2, hj => (simp [dc] at hj; subst hj; simp [go_sem, Addr.add]) | 3, hj => (simp [dc] at hj; subst hj; simp [go_sem, Addr.add])) (by intro u hu9; simp [dc] at hu9; rcases hu9 with rfl | rfl | rfl | rfl <;> rfl) (by omega) (BW2.out.trans (hH.2.2.2.2.mono BW2.out.size)).size); refine step_append_run rfl (.tmp 41) (.tmp 43) rfl rfl _ _ _ (by simp [Act.eval, Act.put]) (by simp [Act.eval, Act.put]) hrun ?_; refine (show K (Act.put _ (some 44) _) _ from ?_)
          refine hK.out _ _ ?_ (fun hG => ?_)
          · exact ⟨hg9.cell hH.1 (fun e => by injection e with e; (have e9 : w.heap.size = g := e); (have e8 : V2.heap.size ≤ g := (ho.lt g rfl).1); have := hxv; omega), hg9.cell hH.2.1 (fun e => by injection e with e; (have e9 : w.heap.size = g := e); (have e8 : V2.heap.size ≤ g := (ho.lt g rfl).1); have := hxv; omega), hg9.cell hH.2.2.1 (fun e => by injection e with e; (have e9 : w.heap.size = g := e); (have e8 : V2.heap.size ≤ g := (ho.lt g rfl).1); have := hxv; omega), hg9.cell hH.2.2.2.1 (fun e => by injection e with e; (have e9 : w.heap.size = g := e); (have e8 : V2.heap.size ≤ g := (ho.lt g rfl).1); have := hxv; omega), Below.grown hH.2.2.2.2 hg9 hH.2.2.2.2.size (fun q hq => by cases hq; exact (ho.lt g rfl).1)⟩
          replace hH := hG
          clear hK K hG
          try simp only [Act.put, List.setIfInBounds_toArray, List.set_cons_zero, List.set_cons_succ]
          refine wpAnyH_take (i := 7) (oi := { dst := some 7, op := _, type := _, pos := _, after := _, guard := _ }) (v := ?_) rfl (by kernel_rfl) (by kernel_rfl) (by kernel_rfl) (fun _ _ _ h => h) (Or.inl ⟨by rfl, ?_⟩) hH ?_
          rotate_left 1
          · intro W hSw
            (try dsimp only at hSw)
            go_simp
            (try with_reducible rfl)
          try simp only [Act.put, List.setIfInBounds_toArray, List.set_cons_zero, List.set_cons_succ]
          refine wpAnyH_done (by kernel_rfl) ?_ _
          refine NoPanic.normal ?_
          obtain ⟨_, _, _, _, hB⟩ := hH
          have BW9 := Lib.hid (BW2.out.trans (hB.mono BW2.out.size))
          have RO := Lib.hid ho9
          clear hB hg9 hrun ho ho9 hb1 e0 e1 e2 e3
          (try clear d0 d1 d2 d3)
          obtain ⟨i0, hi, hz0, hz1, hz2⟩ := info_of infoD
          have hmb : k + 1 + m ≤ 1048577 := by have := HKM.out; omega
          go_wp2_with (at_builtin; refine wpList_append_own _ rfl _ _ 25 rfl w.heap.size 63 i0 (.agg #[.int .i64 0, .string ⟨#[]⟩, .int .i64 0, .int .i64 0]) 4 40 Tryz.underlying25 hi hz0 hz1 hz2 rfl (by decide) _ _ _ rfl RO.out ⟨b0, o0, none⟩ m m news rfl s1.out (HSRC.out _ _) s2.out (by unfold maxLen; omega) (by omega) BW9.out.size ?_; intro v' w5 hown' hgrow hnil)
          rw [HD.out] at hown'
          have hg : ∃ g c, v' = .slice (some ⟨g, 0, none⟩) (k + 1 + m) c := by
            rcases hown'.2 with ⟨x1, _⟩ | ⟨g, cap, cur, x1, _⟩
            · exact absurd (hnil.1 x1).1 (by intro h; cases h)
            · exact ⟨g, cap, x1⟩
          obtain ⟨g5, c5, rfl⟩ := hg
          have R6 := Lib.hid hown'
          have B6 := Lib.hid (BW9.out.grown hgrow BW9.out.size (fun j hj => by cases hj; exact (RO.out.lt _ rfl).1))
          clear hown' hgrow hnil
          go_wp2_with fail
          go_returns
          rw [HPL.out, HFR.out]
          exact ⟨g5, c5, by rw [HM.out]; first | done | rfl, by rw [HM.out]; exact R6.out, B6.out⟩
        · go_simp
          refine hK.out _ _ ?_ (fun hG => ?_)
          · exact ⟨cell_alloc hH.1, cell_alloc hH.2.1, cell_alloc hH.2.2.1, cell_alloc hH.2.2.2.1, hH.2.2.2.2.alloc hH.2.2.2.2.size _⟩
          replace hH := hG
          clear hK K hG
          try simp only [Act.put, List.setIfInBounds_toArray, List.set_cons_zero, List.set_cons_succ]
          refine wpAnyH_ready (rs := [3]) (by kernel_rfl) (by simp) (AllReadyH.cons rfl (fun K hK => ?_) AllReadyH.nil)
          go_simp
          go_at_call 100; ((with_reducible refine (hCP _ (BW2.out.trans (hH.2.2.2.2.mono BW2.out.size))).mono ?_); rintro e r1 ⟨g, c, rfl, ho, hb1⟩); have d0 := cell_below hb1 (cell_here (W := V2.drew) (c := #[.int .i64 t, .string n, .int .i64 l, .int .i64 r]) (t := 63) (i := 0) rfl); have d1 := cell_below hb1 (cell_here (W := V2.drew) (c := #[.int .i64 t, .string n, .int .i64 l, .int .i64 r]) (t := 63) (i := 1) rfl); have d2 := cell_below hb1 (cell_here (W := V2.drew) (c := #[.int .i64 t, .string n, .int .i64 l, .int .i64 r]) (t := 63) (i := 2) rfl); have d3 := cell_below hb1 (cell_here (W := V2.drew) (c := #[.int .i64 t, .string n, .int .i64 l, .int .i64 r]) (t := 63) (i := 3) rfl); go_wp2_with fail
          refine hK.out _ _ ?_ (fun hG => ?_)
          · exact ⟨cell_below hb1 hH.1, cell_below hb1 hH.2.1, cell_below hb1 hH.2.2.1, cell_below hb1 hH.2.2.2.1, hH.2.2.2.2.trans (hb1.mono hH.2.2.2.2.size)⟩
          replace hH := hG
          clear hK K hG
          try simp only [Act.put, List.setIfInBounds_toArray, List.set_cons_zero, List.set_cons_succ]
          refine wpAnyH_ready (rs := [6]) (by kernel_rfl) (by simp) (AllReadyH.cons rfl (fun K hK => ?_) AllReadyH.nil)
          (obtain ⟨g9, c10, u9, hrun, ho9, hg9⟩ := append_cue r1 w.heap.size g k c _ (owns_base ho (Nat.le_trans (Nat.le_trans BW2.out.size (show V2.heap.size ≤ _ from by simp)) (ho.lt g rfl).1)) ⟨V2.heap.size, 0, none⟩ 1 1 (dc ⟨t, n, l, r⟩) rfl (by intro j u hj; match j, hj with | 0, hj => (simp [dc] at hj; subst hj; simpa [Addr.add] using d0) | 1, hj => (simp [dc] at hj; subst hj; simpa [Addr.add] using d1) | 2, hj => (simp [dc] at hj; subst hj; simpa [Addr.add] using d2) | 3, hj => (simp [dc] at hj; subst hj; simpa [Addr.add] using d3)) (by intro u hu9; simp [dc] at hu9; rcases hu9 with rfl | rfl | rfl | rfl <;> rfl) (by omega) (BW2.out.trans (hH.2.2.2.2.mono BW2.out.size)).size); refine step_append_run rfl (.tmp 41) (.tmp 43) rfl rfl _ _ _ (by simp [Act.eval, Act.put]) (by simp [Act.eval, Act.put]) hrun ?_; refine (show K (Act.put _ (some 44) _) _ from ?_)
          refine hK.out _ _ ?_ (fun hG => ?_)
          · exact ⟨hg9.cell hH.1 (fun e => by injection e with e; (have e9 : w.heap.size = g := e); (have e8 : V2.heap.size ≤ g := Nat.le_trans (by simp) (ho.lt g rfl).1); have := hxv; omega), hg9.cell hH.2.1 (fun e => by injection e with e; (have e9 : w.heap.size = g := e); (have e8 : V2.heap.size ≤ g := Nat.le_trans (by simp) (ho.lt g rfl).1); have := hxv; omega), hg9.cell hH.2.2.1 (fun e => by injection e with e; (have e9 : w.heap.size = g := e); (have e8 : V2.heap.size ≤ g := Nat.le_trans (by simp) (ho.lt g rfl).1); have := hxv; omega), hg9.cell hH.2.2.2.1 (fun e => by injection e with e; (have e9 : w.heap.size = g := e); (have e8 : V2.heap.size ≤ g := Nat.le_trans (by simp) (ho.lt g rfl).1); have := hxv; omega), Below.grown hH.2.2.2.2 hg9 hH.2.2.2.2.size (fun q hq => by cases hq; (have e8 : V2.heap.size ≤ g := Nat.le_trans (by simp) (ho.lt g rfl).1); exact e8)⟩
          replace hH := hG
          clear hK K hG
          try simp only [Act.put, List.setIfInBounds_toArray, List.set_cons_zero, List.set_cons_succ]
          refine wpAnyH_take (i := 7) (oi := { dst := some 7, op := _, type := _, pos := _, after := _, guard := _ }) (v := ?_) rfl (by kernel_rfl) (by kernel_rfl) (by kernel_rfl) (fun _ _ _ h => h) (Or.inl ⟨by rfl, ?_⟩) hH ?_
          rotate_left 1
          · intro W hSw
            (try dsimp only at hSw)
            go_simp
            (try with_reducible rfl)
          try simp only [Act.put, List.setIfInBounds_toArray, List.set_cons_zero, List.set_cons_succ]
          refine wpAnyH_done (by kernel_rfl) ?_ _
          refine NoPanic.normal ?_
          obtain ⟨_, _, _, _, hB⟩ := hH
          have BW9 := Lib.hid (BW2.out.trans (hB.mono BW2.out.size))
          have RO := Lib.hid ho9
          clear hB hg9 hrun ho ho9 hb1 e0 e1 e2 e3
          (try clear d0 d1 d2 d3)
          obtain ⟨i0, hi, hz0, hz1, hz2⟩ := info_of infoD
          have hmb : k + 1 + m ≤ 1048577 := by have := HKM.out; omega
          go_wp2_with (at_builtin; refine wpList_append_own _ rfl _ _ 25 rfl w.heap.size 63 i0 (.agg #[.int .i64 0, .string ⟨#[]⟩, .int .i64 0, .int .i64 0]) 4 40 Tryz.underlying25 hi hz0 hz1 hz2 rfl (by decide) _ _ _ rfl RO.out ⟨b0, o0, none⟩ m m news rfl s1.out (HSRC.out _ _) s2.out (by unfold maxLen; omega) (by omega) BW9.out.size ?_; intro v' w5 hown' hgrow hnil)
          rw [HD.out] at hown'
          have hg : ∃ g c, v' = .slice (some ⟨g, 0, none⟩) (k + 1 + m) c := by
            rcases hown'.2 with ⟨x1, _⟩ | ⟨g, cap, cur, x1, _⟩
            · exact absurd (hnil.1 x1).1 (by intro h; cases h)
            · exact ⟨g, cap, x1⟩
          obtain ⟨g5, c5, rfl⟩ := hg
          have R6 := Lib.hid hown'
          have B6 := Lib.hid (BW9.out.grown hgrow BW9.out.size (fun j hj => by cases hj; exact (RO.out.lt _ rfl).1))
          clear hown' hgrow hnil
          go_wp2_with fail
          go_returns
          rw [HPL.out, HFR.out]
          exact ⟨g5, c5, by rw [HM.out]; first | done | rfl, by rw [HM.out]; exact R6.out, B6.out⟩
      · have HPL := Lib.hid (putL_yes HFR.out)
        have HIN := Lib.hid (show insC zs ⟨t, n, l, r⟩ = zs.take k ++ ⟨t, n, l, r⟩ :: zs.drop k by unfold insC; rw [HF.out])
        have HTK : (zs.take k).length = k := by rw [List.length_take, HN.out]; omega
        have hCP := fun (W : World) (hW : Below w.heap.size w W) => (show Calls Tryz.prog 100 #[.slice (some ⟨b0, o0, none⟩) k c9] W (fun e w' => ∃ g c, e = .returned (.slice (some ⟨g, 0, none⟩) k c) ∧ w'.ownsRow W.heap.size 63 4 (.slice (some ⟨g, 0, none⟩) k c) k (dls (zs.take k)) ∧ Below W.heap.size W w') from by
          have := CP.out W hW k hk
          unfold RowC at this
          rw [HTK] at this
          exact this)
        obtain ⟨m, hm⟩ : ∃ m, k - k = m := ⟨_, rfl⟩
        obtain ⟨news, hnw⟩ : ∃ news, dls (zs.drop k) = news := ⟨_, rfl⟩
        have hlen : news.length = m * 4 := by rw [← hnw, dls_len, List.length_drop, HN.out, hm]
        have HSRC := Lib.hid (show ∀ (ad : Addr) (W : World), ∀ j u, news[j]? = some u → W.cell? (ad.add j) = some u from fun ad W j u hu => by
          have hl := (List.getElem?_eq_some_iff.1 hu).1
          exfalso; omega)
        have s1 := Lib.hid hlen
        have s2 := Lib.hid (show ∀ u ∈ news, u.oneCell' = true from fun u hu => by rw [← hnw] at hu; exact dls_cell hu)
        have HD := Lib.hid (show (dls (zs.take k) ++ dc ⟨t, n, l, r⟩) ++ news = dls (insC zs ⟨t, n, l, r⟩) by rw [HIN.out, dls_app, ← hnw, List.append_assoc]; rfl)
        have HM := Lib.hid (show (insC zs ⟨t, n, l, r⟩).length = k + 1 + m by rw [ins_len, HN.out]; omega)
        have hkm : k + m = k := by omega
        have HKM := Lib.hid hkm
        clear HTK hnw hlen hkm
        go_wp2_with fail
        refine wp_region_noPanic ?_
        refine wp_region_held_drew (S := (fun w' => w'.cell? ⟨w.heap.size, 0, none⟩ = some (.int .i64 t) ∧ w'.cell? ⟨w.heap.size, 1, none⟩ = some (.string n) ∧ w'.cell? ⟨w.heap.size, 2, none⟩ = some (.int .i64 l) ∧ w'.cell? ⟨w.heap.size, 3, none⟩ = some (.int .i64 r) ∧ Below V2.heap.size V2 w')) (by kernel_rfl) ?_ (fun hH => ?_)
        · exact ⟨e0, e1, e2, e3, (Below.refl _ _).drew⟩
        refine wpAnyH_take (i := 0) (oi := { dst := some 38, op := _, type := _, pos := _, after := _, guard := _ }) (v := ?_) rfl (by kernel_rfl) (by kernel_rfl) (by kernel_rfl) (fun _ _ _ h => h) (Or.inl ⟨by rfl, ?_⟩) hH ?_
        rotate_left 1
        · intro W hSw
          (try dsimp only at hSw)
          go_simp
          (try with_reducible rfl)
        try simp only [Act.put, List.setIfInBounds_toArray, List.set_cons_zero, List.set_cons_succ]
        refine wpAnyH_take (i := 1) (oi := { dst := some 39, op := _, type := _, pos := _, after := _, guard := _ }) (v := ?_) rfl (by kernel_rfl) (by kernel_rfl) (by kernel_rfl) (fun _ _ _ h => h) (Or.inl ⟨by rfl, ?_⟩) hH ?_
        rotate_left 1
        · intro W hSw
          (try dsimp only at hSw)
          go_simp
          (try with_reducible rfl)
        try simp only [Act.put, List.setIfInBounds_toArray, List.set_cons_zero, List.set_cons_succ]
        refine wpAnyH_take (i := 2) (oi := { dst := some 40, op := _, type := _, pos := _, after := _, guard := _ }) (v := ?_) rfl (by kernel_rfl) (by kernel_rfl) (by kernel_rfl) (fun _ _ _ h => h) (Or.inl ⟨by rfl, ?_⟩) hH ?_
        rotate_left 1
        · intro W hSw
          (try dsimp only at hSw)
          go_simp
          (try with_reducible rfl)
        try simp only [Act.put, List.setIfInBounds_toArray, List.set_cons_zero, List.set_cons_succ]
        refine wpAnyH_take (i := 4) (oi := { dst := some 42, op := _, type := _, pos := _, after := _, guard := _ }) (v := ?_) rfl (by kernel_rfl) (by kernel_rfl) (by kernel_rfl) (fun _ _ _ h => h) (Or.inl ⟨by rfl, ?_⟩) hH ?_
        rotate_left 1
        · intro W hSw
          (try dsimp only at hSw)
          go_simp
          (try with_reducible rfl)
        try simp only [Act.put, List.setIfInBounds_toArray, List.set_cons_zero, List.set_cons_succ]
        refine wpAnyH_ready (rs := [3, 5]) (by kernel_rfl) (by simp) (AllReadyH.cons rfl (fun K hK => ?_) (AllReadyH.cons rfl (fun K hK => ?_) AllReadyH.nil))
        · go_simp
          go_at_call 100; ((with_reducible refine (hCP _ (BW2.out.trans (hH.2.2.2.2.mono BW2.out.size))).mono ?_); rintro e r1 ⟨g, c, rfl, ho, hb1⟩); go_wp2_with fail
          refine hK.out _ _ ?_ (fun hG => ?_)
          · exact ⟨cell_below hb1 hH.1, cell_below hb1 hH.2.1, cell_below hb1 hH.2.2.1, cell_below hb1 hH.2.2.2.1, hH.2.2.2.2.trans (hb1.mono hH.2.2.2.2.size)⟩
          replace hH := hG
          clear hK K hG
          try simp only [Act.put, List.setIfInBounds_toArray, List.set_cons_zero, List.set_cons_succ]
          refine wpAnyH_ready (rs := [5]) (by kernel_rfl) (by simp) (AllReadyH.cons rfl (fun K hK => ?_) AllReadyH.nil)
          go_simp
          refine hK.out _ _ ?_ (fun hG => ?_)
          · exact ⟨cell_alloc hH.1, cell_alloc hH.2.1, cell_alloc hH.2.2.1, cell_alloc hH.2.2.2.1, hH.2.2.2.2.alloc hH.2.2.2.2.size _⟩
          replace hH := hG
          clear hK K hG
          try simp only [Act.put, List.setIfInBounds_toArray, List.set_cons_zero, List.set_cons_succ]
          refine wpAnyH_ready (rs := [6]) (by kernel_rfl) (by simp) (AllReadyH.cons rfl (fun K hK => ?_) AllReadyH.nil)
          (obtain ⟨g9, c10, u9, hrun, ho9, hg9⟩ := append_cue (r1.alloc (.cells #[.int .i64 t, .string n, .int .i64 l, .int .i64 r] 63)) w.heap.size g k c _ (owns_base ho (Nat.le_trans (Nat.le_trans BW2.out.size (Nat.le_refl _)) (ho.lt g rfl).1) |>.alloc _) ⟨r1.heap.size, 0, none⟩ 1 1 (dc ⟨t, n, l, r⟩) rfl (by intro j u hj; match j, hj with | 0, hj => (simp [dc] at hj; subst hj; simp [go_sem, Addr.add]) | 1, hj => (simp [dc] at hj; subst hj; simp [go_sem, Addr.add]) | 2, hj => (simp [dc] at hj; subst hj; simp [go_sem, Addr.add]) | 3, hj => (simp [dc] at hj; subst hj; simp [go_sem, Addr.add])) (by intro u hu9; simp [dc] at hu9; rcases hu9 with rfl | rfl | rfl | rfl <;> rfl) (by omega) (BW2.out.trans (hH.2.2.2.2.mono BW2.out.size)).size); refine step_append_run rfl (.tmp 41) (.tmp 43) rfl rfl _ _ _ (by simp [Act.eval, Act.put]) (by simp [Act.eval, Act.put]) hrun ?_; refine (show K (Act.put _ (some 44) _) _ from ?_)
          refine hK.out _ _ ?_ (fun hG => ?_)
          · exact ⟨hg9.cell hH.1 (fun e => by injection e with e; (have e9 : w.heap.size = g := e); (have e8 : V2.heap.size ≤ g := (ho.lt g rfl).1); have := hxv; omega), hg9.cell hH.2.1 (fun e => by injection e with e; (have e9 : w.heap.size = g := e); (have e8 : V2.heap.size ≤ g := (ho.lt g rfl).1); have := hxv; omega), hg9.cell hH.2.2.1 (fun e => by injection e with e; (have e9 : w.heap.size = g := e); (have e8 : V2.heap.size ≤ g := (ho.lt g rfl).1); have := hxv; omega), hg9.cell hH.2.2.2.1 (fun e => by injection e with e; (have e9 : w.heap.size = g := e); (have e8 : V2.heap.size ≤ g := (ho.lt g rfl).1); have := hxv; omega), Below.grown hH.2.2.2.2 hg9 hH.2.2.2.2.size (fun q hq => by cases hq; exact (ho.lt g rfl).1)⟩
          replace hH := hG
          clear hK K hG
          try simp only [Act.put, List.setIfInBounds_toArray, List.set_cons_zero, List.set_cons_succ]
          refine wpAnyH_take (i := 7) (oi := { dst := some 7, op := _, type := _, pos := _, after := _, guard := _ }) (v := ?_) rfl (by kernel_rfl) (by kernel_rfl) (by kernel_rfl) (fun _ _ _ h => h) (Or.inl ⟨by rfl, ?_⟩) hH ?_
          rotate_left 1
          · intro W hSw
            (try dsimp only at hSw)
            go_simp
            (try with_reducible rfl)
          try simp only [Act.put, List.setIfInBounds_toArray, List.set_cons_zero, List.set_cons_succ]
          refine wpAnyH_done (by kernel_rfl) ?_ _
          refine NoPanic.normal ?_
          obtain ⟨_, _, _, _, hB⟩ := hH
          have BW9 := Lib.hid (BW2.out.trans (hB.mono BW2.out.size))
          have RO := Lib.hid ho9
          clear hB hg9 hrun ho ho9 hb1 e0 e1 e2 e3
          (try clear d0 d1 d2 d3)
          obtain ⟨i0, hi, hz0, hz1, hz2⟩ := info_of infoD
          have hmb : k + 1 + m ≤ 1048577 := by have := HKM.out; omega
          go_wp2_with (at_builtin; refine wpList_append_own _ rfl _ _ 25 rfl w.heap.size 63 i0 (.agg #[.int .i64 0, .string ⟨#[]⟩, .int .i64 0, .int .i64 0]) 4 40 Tryz.underlying25 hi hz0 hz1 hz2 rfl (by decide) _ _ _ rfl RO.out ⟨b0, o0 + k * 4, none⟩ m (c9 - k) news rfl s1.out (HSRC.out _ _) s2.out (by unfold maxLen; omega) (by omega) BW9.out.size ?_; intro v' w5 hown' hgrow hnil)
          rw [HD.out] at hown'
          have hg : ∃ g c, v' = .slice (some ⟨g, 0, none⟩) (k + 1 + m) c := by
            rcases hown'.2 with ⟨x1, _⟩ | ⟨g, cap, cur, x1, _⟩
            · exact absurd (hnil.1 x1).1 (by intro h; cases h)
            · exact ⟨g, cap, x1⟩
          obtain ⟨g5, c5, rfl⟩ := hg
          have R6 := Lib.hid hown'
          have B6 := Lib.hid (BW9.out.grown hgrow BW9.out.size (fun j hj => by cases hj; exact (RO.out.lt _ rfl).1))
          clear hown' hgrow hnil
          go_wp2_with fail
          go_returns
          rw [HPL.out, HFR.out]
          exact ⟨g5, c5, by rw [HM.out]; first | done | rfl, by rw [HM.out]; exact R6.out, B6.out⟩
        · go_simp
          refine hK.out _ _ ?_ (fun hG => ?_)
          · exact ⟨cell_alloc hH.1, cell_alloc hH.2.1, cell_alloc hH.2.2.1, cell_alloc hH.2.2.2.1, hH.2.2.2.2.alloc hH.2.2.2.2.size _⟩
          replace hH := hG
          clear hK K hG
          try simp only [Act.put, List.setIfInBounds_toArray, List.set_cons_zero, List.set_cons_succ]
          refine wpAnyH_ready (rs := [3]) (by kernel_rfl) (by simp) (AllReadyH.cons rfl (fun K hK => ?_) AllReadyH.nil)
          go_simp
          go_at_call 100; ((with_reducible refine (hCP _ (BW2.out.trans (hH.2.2.2.2.mono BW2.out.size))).mono ?_); rintro e r1 ⟨g, c, rfl, ho, hb1⟩); have d0 := cell_below hb1 (cell_here (W := V2.drew) (c := #[.int .i64 t, .string n, .int .i64 l, .int .i64 r]) (t := 63) (i := 0) rfl); have d1 := cell_below hb1 (cell_here (W := V2.drew) (c := #[.int .i64 t, .string n, .int .i64 l, .int .i64 r]) (t := 63) (i := 1) rfl); have d2 := cell_below hb1 (cell_here (W := V2.drew) (c := #[.int .i64 t, .string n, .int .i64 l, .int .i64 r]) (t := 63) (i := 2) rfl); have d3 := cell_below hb1 (cell_here (W := V2.drew) (c := #[.int .i64 t, .string n, .int .i64 l, .int .i64 r]) (t := 63) (i := 3) rfl); go_wp2_with fail
          refine hK.out _ _ ?_ (fun hG => ?_)
          · exact ⟨cell_below hb1 hH.1, cell_below hb1 hH.2.1, cell_below hb1 hH.2.2.1, cell_below hb1 hH.2.2.2.1, hH.2.2.2.2.trans (hb1.mono hH.2.2.2.2.size)⟩
          replace hH := hG
          clear hK K hG
          try simp only [Act.put, List.setIfInBounds_toArray, List.set_cons_zero, List.set_cons_succ]
          refine wpAnyH_ready (rs := [6]) (by kernel_rfl) (by simp) (AllReadyH.cons rfl (fun K hK => ?_) AllReadyH.nil)
          (obtain ⟨g9, c10, u9, hrun, ho9, hg9⟩ := append_cue r1 w.heap.size g k c _ (owns_base ho (Nat.le_trans (Nat.le_trans BW2.out.size (show V2.heap.size ≤ _ from by simp)) (ho.lt g rfl).1)) ⟨V2.heap.size, 0, none⟩ 1 1 (dc ⟨t, n, l, r⟩) rfl (by intro j u hj; match j, hj with | 0, hj => (simp [dc] at hj; subst hj; simpa [Addr.add] using d0) | 1, hj => (simp [dc] at hj; subst hj; simpa [Addr.add] using d1) | 2, hj => (simp [dc] at hj; subst hj; simpa [Addr.add] using d2) | 3, hj => (simp [dc] at hj; subst hj; simpa [Addr.add] using d3)) (by intro u hu9; simp [dc] at hu9; rcases hu9 with rfl | rfl | rfl | rfl <;> rfl) (by omega) (BW2.out.trans (hH.2.2.2.2.mono BW2.out.size)).size); refine step_append_run rfl (.tmp 41) (.tmp 43) rfl rfl _ _ _ (by simp [Act.eval, Act.put]) (by simp [Act.eval, Act.put]) hrun ?_; refine (show K (Act.put _ (some 44) _) _ from ?_)
          refine hK.out _ _ ?_ (fun hG => ?_)
          · exact ⟨hg9.cell hH.1 (fun e => by injection e with e; (have e9 : w.heap.size = g := e); (have e8 : V2.heap.size ≤ g := Nat.le_trans (by simp) (ho.lt g rfl).1); have := hxv; omega), hg9.cell hH.2.1 (fun e => by injection e with e; (have e9 : w.heap.size = g := e); (have e8 : V2.heap.size ≤ g := Nat.le_trans (by simp) (ho.lt g rfl).1); have := hxv; omega), hg9.cell hH.2.2.1 (fun e => by injection e with e; (have e9 : w.heap.size = g := e); (have e8 : V2.heap.size ≤ g := Nat.le_trans (by simp) (ho.lt g rfl).1); have := hxv; omega), hg9.cell hH.2.2.2.1 (fun e => by injection e with e; (have e9 : w.heap.size = g := e); (have e8 : V2.heap.size ≤ g := Nat.le_trans (by simp) (ho.lt g rfl).1); have := hxv; omega), Below.grown hH.2.2.2.2 hg9 hH.2.2.2.2.size (fun q hq => by cases hq; (have e8 : V2.heap.size ≤ g := Nat.le_trans (by simp) (ho.lt g rfl).1); exact e8)⟩
          replace hH := hG
          clear hK K hG
          try simp only [Act.put, List.setIfInBounds_toArray, List.set_cons_zero, List.set_cons_succ]
          refine wpAnyH_take (i := 7) (oi := { dst := some 7, op := _, type := _, pos := _, after := _, guard := _ }) (v := ?_) rfl (by kernel_rfl) (by kernel_rfl) (by kernel_rfl) (fun _ _ _ h => h) (Or.inl ⟨by rfl, ?_⟩) hH ?_
          rotate_left 1
          · intro W hSw
            (try dsimp only at hSw)
            go_simp
            (try with_reducible rfl)
          try simp only [Act.put, List.setIfInBounds_toArray, List.set_cons_zero, List.set_cons_succ]
          refine wpAnyH_done (by kernel_rfl) ?_ _
          refine NoPanic.normal ?_
          obtain ⟨_, _, _, _, hB⟩ := hH
          have BW9 := Lib.hid (BW2.out.trans (hB.mono BW2.out.size))
          have RO := Lib.hid ho9
          clear hB hg9 hrun ho ho9 hb1 e0 e1 e2 e3
          (try clear d0 d1 d2 d3)
          obtain ⟨i0, hi, hz0, hz1, hz2⟩ := info_of infoD
          have hmb : k + 1 + m ≤ 1048577 := by have := HKM.out; omega
          go_wp2_with (at_builtin; refine wpList_append_own _ rfl _ _ 25 rfl w.heap.size 63 i0 (.agg #[.int .i64 0, .string ⟨#[]⟩, .int .i64 0, .int .i64 0]) 4 40 Tryz.underlying25 hi hz0 hz1 hz2 rfl (by decide) _ _ _ rfl RO.out ⟨b0, o0 + k * 4, none⟩ m (c9 - k) news rfl s1.out (HSRC.out _ _) s2.out (by unfold maxLen; omega) (by omega) BW9.out.size ?_; intro v' w5 hown' hgrow hnil)
          rw [HD.out] at hown'
          have hg : ∃ g c, v' = .slice (some ⟨g, 0, none⟩) (k + 1 + m) c := by
            rcases hown'.2 with ⟨x1, _⟩ | ⟨g, cap, cur, x1, _⟩
            · exact absurd (hnil.1 x1).1 (by intro h; cases h)
            · exact ⟨g, cap, x1⟩
          obtain ⟨g5, c5, rfl⟩ := hg
          have R6 := Lib.hid hown'
          have B6 := Lib.hid (BW9.out.grown hgrow BW9.out.size (fun j hj => by cases hj; exact (RO.out.lt _ rfl).1))
          clear hown' hgrow hnil
          go_wp2_with fail
          go_returns
          rw [HPL.out, HFR.out]
          exact ⟨g5, c5, by rw [HM.out]; first | done | rfl, by rw [HM.out]; exact R6.out, B6.out⟩
end Go.Proofs.YtokncfhpmjohdabGreat.Am7
