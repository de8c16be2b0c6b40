/- Whether a list is a wind, of the program and of the model. -/
import Derived.Test.YtdkihpnckkfneaaGreatM14
import Derived.BigQuiet
import Derived.Deep.QuietTactic
import Derived.Deep.RegionHeld3
import Derived.Test.YtdkihpnckkfneaaGreatM3
import Derived.Test.YtdkihpnckkfneaaGreatM1
import Derived.Laws.AppendOwn
import Derived.Test.YtdkihpnckkfneaaGreatM13
import Derived.Test.YtdkihpnckkfneaaGreatM5
namespace Go.Proofs.YtdkihpnckkfneaaGreat.Wi
open Go.RowKit Go.Proofs.YtdkihpnckkfneaaGreat.Mem Go.Proofs.YtdkihpnckkfneaaGreat.Rw Go.Proofs.YtdkihpnckkfneaaGreat.Jt Go.Proofs.YtdkihpnckkfneaaGreat.Pw Go.Proofs.YtdkihpnckkfneaaGreat.P2 Go.Proofs.YtdkihpnckkfneaaGreat.Gs Go.Proofs.YtdkihpnckkfneaaGreat.Wm
set_option linter.unusedVariables false
set_option linter.unusedSimpArgs false

theorem isDriftI {x y : Int} {r : Bool} (h : dk x y = r) (w : World) : Calls Tryz.prog 71 #[.agg #[.int .i64 x, .int .i64 y]] w fun e w' => e = .returned (.bool r) ∧ w' = w.alloc (.cells #[.int .i64 x, .int .i64 y] 34) := by
  subst h
  unfold dk
  have C := isWithin x (-8) 8
  have D := isWithin y (-8) 8
  generalize iw x (-8) 8 = p at *
  generalize iw y (-8) 8 = q at *
  have C := Lib.hid C
  have D := Lib.hid D
  cases p
  all_goals
    go_enter Tryz.func71, Tryz.ntmps71
    go_wp2_with (first
      | (go_at_call 40; ((with_reducible refine (C.out _).mono ?_); rintro e w' ⟨rfl, rfl⟩))
      | (go_at_call 40; ((with_reducible refine (D.out _).mono ?_); rintro e w' ⟨rfl, rfl⟩)))
    go_returns
    exact ⟨rfl, rfl⟩

theorem driftS {x y : Int} {r : Bool} (h : dk x y = r) (w : World) : Calls Tryz.prog 82 #[.agg #[.int .i64 x, .int .i64 y]] w fun e w' => e = .returned (.bool r) ∧ w' = w.alloc (.cells #[.int .i64 x, .int .i64 y] 34) := by
  subst h
  unfold dk
  have C := l1In x (-8) 8
  have D := l1In y (-8) 8
  generalize iw x (-8) 8 = p at *
  generalize iw y (-8) 8 = q at *
  have C := Lib.hid C
  have D := Lib.hid D
  cases p
  all_goals
    go_enter Tryz.func82, Tryz.ntmps82
    go_wp2_with (first
      | (go_at_call 51; ((with_reducible refine (C.out _).mono ?_); rintro e w' ⟨rfl, rfl⟩))
      | (go_at_call 51; ((with_reducible refine (D.out _).mono ?_); rintro e w' ⟨rfl, rfl⟩)))
    go_returns
    exact ⟨rfl, rfl⟩

set_option maxHeartbeats 2000000 in
theorem isWindI (A : Option Addr) (n c : Nat) (zs : List G) (H : Nat) (w : World) (hn : zs.length = n) (hb : n ≤ 1048576) (hH : H ≤ w.heap.size) (hr : Rd w H A (gls zs)) :
    Calls Tryz.prog 39 #[.slice A n c] w fun e w' => e = .returned (.bool (wd zs)) ∧ Below w.heap.size w w' := by
  have HR := Lib.hid (hr.more hH)
  have HN := Lib.hid hn
  clear hr hn hH
  by_cases h8 : 8 < n
  · rw [wd_long HN.out h8]
    go_enter Tryz.func39, Tryz.ntmps39
    go_wp2_with fail
    go_ret
    exact ⟨rfl, Below.refl _ _⟩
  · go_enter Tryz.func39, Tryz.ntmps39
    go_wp2_with fail
    go_loopw [10] (fun i wr => ∃ k : Nat, k ≤ n ∧ i = .int .i64 k ∧ Hid (okUp zs k = true) ∧ Hid (Below w.heap.size w wr)) (fun i _ => n - (intOf i).toNat)
    case atStart => exact ⟨0, Nat.zero_le _, rfl, Lib.hid (okUp_zero zs), Lib.hid (Below.refl _ _)⟩
    case round =>
      obtain ⟨k, hk, rfl, UK, BK⟩ := hrel
      by_cases hlt : k < n
      · have hkz : k < zs.length := by rw [HN.out]; exact hlt
        have hl : k * 3 < (gls zs).length := by rw [gls_len]; omega
        obtain ⟨z, hz⟩ : ∃ z, zs[k]? = some z := ⟨_, List.getElem?_eq_getElem hkz⟩
        obtain ⟨b, o, eA, hbl, hcell⟩ := (HR.out.below BK.out).get hl
        obtain ⟨z0, z1, z2⟩ := gls_get hz
        have hprev : ∀ p : G, zs[k - 1]? = some p → wr.cell? ⟨b, o + (k - 1) * 3, none⟩ = some (.int .i64 p.1) := fun p hp => hcell _ _ (gls_get hp).1
        have HP := Lib.hid hprev
        have HZ := Lib.hid hz
        obtain ⟨f, x, y⟩ := z
        have c1 : wr.cell? ⟨b, o + k * 3, none⟩ = some (.int .i64 f) := hcell _ _ z0
        have c2 : wr.cell? ⟨b, o + k * 3 + 1, none⟩ = some (.int .i64 x) := hcell _ _ z1
        have c3 : wr.cell? ⟨b, o + k * 3 + 2, none⟩ = some (.int .i64 y) := hcell _ _ z2
        have p1 : b < wr.heap.size := World.block_lt_of_cell? wr _ c1
        have p2 : ∀ j, b < wr.heap.size + j := fun j => by omega
        clear hcell hz hl hkz z0 z1 z2 hprev hbl
        subst eA
        cases hw : iw f 0 64
        · have W := Lib.hid (isWithin_of hw)
          have F := Lib.hid (wd_no HN.out hlt (ok_from HZ.out hw))
          clear hw
          go_wp2_with fail
          refine (W.out _).mono ?_
          rintro e w' ⟨rfl, rfl⟩
          go_wp2_with fail
          go_ret
          exact ⟨by rw [F.out]; rfl, BK.out.trans (Below.mono (by go_grown) BK.out.size)⟩
        have W := Lib.hid (isWithin_of hw)
        cases hd : dk x y
        · have D := Lib.hid (isDriftI hd)
          have F := Lib.hid (wd_no HN.out hlt (ok_drift HZ.out hd))
          clear hw hd
          go_wp2_with fail
          refine (W.out _).mono ?_
          rintro e w' ⟨rfl, rfl⟩
          go_wp2_with fail
          refine (D.out _).mono ?_
          rintro e w' ⟨rfl, rfl⟩
          go_wp2_with fail
          go_ret
          exact ⟨by rw [F.out]; rfl, BK.out.trans (Below.mono (by go_grown) BK.out.size)⟩
        have D := Lib.hid (isDriftI hd)
        by_cases hk0 : k = 0
        · have U := Lib.hid (show okUp zs (k + 1) = true by
            have hz := HZ.out
            subst hk0
            rw [okUp_succ, UK.out, ok_first hz hw hd]; rfl)
          have t0 : decide ((0 : Int) < (k : Int)) = false := decide_eq_false (by omega)
          have t1 : decide (0 < k) = false := decide_eq_false (by omega)
          clear hw hd hk0 UK
          go_wp2_with fail
          refine (W.out _).mono ?_
          rintro e w' ⟨rfl, rfl⟩
          go_wp2_with fail
          refine (D.out _).mono ?_
          rintro e w' ⟨rfl, rfl⟩
          go_wp2_with fail
          go_quiet (fail)
          go_wp2_with fail
          go_roundw
          case rel => exact ⟨k + 1, by omega, by go_num, U, Lib.hid (BK.out.trans (Below.mono (below_drewN (by go_grown) _) BK.out.size))⟩
          case measure => simp [intOf]; omega
        · obtain ⟨p, hp⟩ : ∃ p, zs[k - 1]? = some p := ⟨_, List.getElem?_eq_getElem (by rw [HN.out]; omega)⟩
          have c4 := HP.out p hp
          have E := Lib.hid (ok_next HZ.out hw hd hk0 hp)
          obtain ⟨pf, px, py⟩ := p
          simp only at c4
          have t0 : decide ((0 : Int) < (k : Int)) = true := decide_eq_true (by omega)
          have t9 : decide (0 < k) = true := decide_eq_true (by omega)
          have t1 : IntKind.i64.wrap ((k : Int) - 1) = (k : Int) - 1 := IntWalk.i64_in _ (by omega)
          have t2 : (0 : Int) ≤ (k : Int) - 1 := by omega
          have t3 : ((k : Int) - 1).toNat = k - 1 := by omega
          have t4 : (k : Int) - 1 < (n : Int) := by omega
          by_cases hpf : pf < f
          · have U := Lib.hid (show okUp zs (k + 1) = true by rw [okUp_succ, UK.out, E.out, decide_eq_true hpf]; rfl)
            have t5 : decide (f ≤ pf) = false := decide_eq_false (by omega)
            have t6 : ¬ f ≤ pf := by omega
            clear hw hd UK E hp hpf
            go_wp2_with fail
            refine (W.out _).mono ?_
            rintro e w' ⟨rfl, rfl⟩
            go_wp2_with fail
            refine (D.out _).mono ?_
            rintro e w' ⟨rfl, rfl⟩
            go_wp2_with fail
            go_quiet (fail)
            go_wp2_with fail
            go_roundw
            case rel => exact ⟨k + 1, by omega, by go_num, U, Lib.hid (BK.out.trans (Below.mono (below_drewN (by go_grown) _) BK.out.size))⟩
            case measure => simp [intOf]; omega
          · have F := Lib.hid (wd_no HN.out hlt (E.out.trans (decide_eq_false hpf)))
            have t5 : decide (f ≤ pf) = true := decide_eq_true (by omega)
            have t6 : f ≤ pf := by omega
            clear hw hd UK E hp hpf
            go_wp2_with fail
            refine (W.out _).mono ?_
            rintro e w' ⟨rfl, rfl⟩
            go_wp2_with fail
            refine (D.out _).mono ?_
            rintro e w' ⟨rfl, rfl⟩
            go_wp2_with fail
            go_quiet (fail)
            go_wp2_with fail
            go_ret
            exact ⟨by rw [F.out]; rfl, BK.out.trans (Below.mono (below_drewN (by go_grown) _) BK.out.size)⟩
      · obtain rfl : k = n := by omega
        have F := Lib.hid ((wd_fin HN.out UK.out).trans (decide_eq_true (by omega)))
        go_wp2_with fail
        go_ret
        exact ⟨by rw [F.out]; rfl, BK.out⟩


set_option maxHeartbeats 4000000 in
theorem isWindS (A : Option Addr) (n c : Nat) (zs : List G) (H : Nat) (w : World) (hn : zs.length = n) (hb : n ≤ 1048576) (hH : H ≤ w.heap.size) (hr : Rd w H A (gls zs)) :
    Calls Tryz.prog 50 #[.slice A n c] w fun e w' => e = .returned (.bool (wd zs)) ∧ Below w.heap.size w w' := by
  have HR := Lib.hid (hr.more hH)
  have HN := Lib.hid hn
  clear hr hn hH
  have hu : undef = Value.tuple #[] := rfl
  go_enter Tryz.func50, Tryz.ntmps50
  go_wp2_with fail
  go_loopw [7] (fun i wr => ∃ k : Nat, k ≤ n ∧ i = .int .i64 k ∧ Hid (okUp zs k = true) ∧ Hid (Below w.heap.size w wr)) (fun i _ => n - (intOf i).toNat)
  case atStart => exact ⟨0, Nat.zero_le _, rfl, Lib.hid (okUp_zero zs), Lib.hid (Below.refl _ _)⟩
  case round =>
    obtain ⟨k, hk, rfl, UK, BK⟩ := hrel
    by_cases hlt : k < n
    · have hkz : k < zs.length := by rw [HN.out]; exact hlt
      have hl : k * 3 < (gls zs).length := by rw [gls_len]; omega
      obtain ⟨z, hz⟩ : ∃ z, zs[k]? = some z := ⟨_, List.getElem?_eq_getElem hkz⟩
      obtain ⟨b, o, eA, hbl, hcell⟩ := (HR.out.below BK.out).get hl
      obtain ⟨z0, z1, z2⟩ := gls_get hz
      have hprev : ∀ p : G, zs[k - 1]? = some p → wr.cell? ⟨b, o + (k - 1) * 3, none⟩ = some (.int .i64 p.1) := fun p hp => hcell _ _ (gls_get hp).1
      have HP := Lib.hid hprev
      have HZ := Lib.hid hz
      obtain ⟨f, x, y⟩ := z
      have c1 : wr.cell? ⟨b, o + k * 3, none⟩ = some (.int .i64 f) := hcell _ _ z0
      have c2 : wr.cell? ⟨b, o + k * 3 + 1, none⟩ = some (.int .i64 x) := hcell _ _ z1
      have c3 : wr.cell? ⟨b, o + k * 3 + 2, none⟩ = some (.int .i64 y) := hcell _ _ z2
      have p1 : b < wr.heap.size := World.block_lt_of_cell? wr _ c1
      have p2 : ∀ j, b < wr.heap.size + j := fun j => by omega
      clear hcell hz hl hkz z0 z1 z2 hprev hbl
      subst eA
      cases hw : iw f 0 64
      · have W := Lib.hid (l1In_of hw)
        have F := Lib.hid (wd_no HN.out hlt (ok_from HZ.out hw))
        clear hw
        go_wp2_with fail
        go_quiet ((go_at_call 51; exact Calls.quiet_of_same ((W.out _).mono fun _ _ k => ⟨k.1, k.2.symm⟩)))
        all_goals go_wp2_with fail
        all_goals go_ret
        all_goals exact ⟨congrArg (fun b => Ending.returned (.bool b)) F.out.symm, BK.out.trans (Below.mono (by first | exact below_drewN (by go_grown) _ | go_grown) BK.out.size)⟩
      have W := Lib.hid (l1In_of hw)
      cases hd : dk x y
      · have D := Lib.hid (driftS hd)
        have F := Lib.hid (wd_no HN.out hlt (ok_drift HZ.out hd))
        clear hw hd
        go_wp2_with fail
        refine wp_region_noPanic ?_
        refine wp_region_held_drew (S := (fun w' => w'.cell? ⟨wr.heap.size, 0, none⟩ = some (.int .i64 f) ∧ w'.cell? ⟨wr.heap.size, 1, none⟩ = some (.int .i64 x) ∧ w'.cell? ⟨wr.heap.size, 2, none⟩ = some (.int .i64 y))) (by kernel_rfl) ?_ (fun hH => ?_)
        · simp [go_sem]
        refine wpAnyH_take (i := 0) (oi := { dst := some 12, op := _, type := _, pos := _, after := _, guard := _ }) (v := ?_) rfl (by kernel_rfl) (by kernel_rfl) (by kernel_rfl) (fun _ _ _ h => h) (Or.inl ⟨by rfl, ?_⟩) hH ?_
        rotate_left 1
        · intro W hSw
          (try dsimp only at hSw)
          go_simp
          (try with_reducible rfl)
        try simp only [Act.put, List.setIfInBounds_toArray, List.set_cons_zero, List.set_cons_succ]
        refine wpAnyH_take (i := 1) (oi := { dst := some 13, op := _, type := _, pos := _, after := _, guard := _ }) (v := ?_) rfl (by kernel_rfl) (by kernel_rfl) (by kernel_rfl) (fun _ _ _ h => h) (Or.inl ⟨by rfl, ?_⟩) hH ?_
        rotate_left 1
        · intro W hSw
          (try dsimp only at hSw)
          go_simp
          (try with_reducible rfl)
        try simp only [Act.put, List.setIfInBounds_toArray, List.set_cons_zero, List.set_cons_succ]
        refine wpAnyH_ready (rs := [2]) (by kernel_rfl) (by simp) (AllReadyH.cons rfl (fun K hK => ?_) AllReadyH.nil)
        go_simp
        go_at_call 51; ((with_reducible refine (W.out _).mono ?_); rintro e w' ⟨rfl, rfl⟩); go_wp2_with fail
        refine hK.out _ _ ?_ (fun hG => ?_)
        · exact hH
        replace hH := hG
        clear hK K hG
        try simp only [Act.put, List.setIfInBounds_toArray, List.set_cons_zero, List.set_cons_succ]
        refine wpAnyH_take (i := 3) (oi := { dst := some 15, op := _, type := _, pos := _, after := _, guard := _ }) (v := ?_) rfl (by kernel_rfl) (by kernel_rfl) (by kernel_rfl) (fun _ _ _ h => h) (Or.inl ⟨by rfl, ?_⟩) hH ?_
        rotate_left 1
        · intro W hSw
          (try dsimp only at hSw)
          go_simp
          (try with_reducible rfl)
        try simp only [Act.put, List.setIfInBounds_toArray, List.set_cons_zero, List.set_cons_succ]
        refine wpAnyH_take (i := 4) (oi := { dst := some 16, op := _, type := _, pos := _, after := _, guard := _ }) (v := ?_) rfl (by kernel_rfl) (by kernel_rfl) (by kernel_rfl) (fun _ _ _ h => h) (Or.inl ⟨by rfl, ?_⟩) hH ?_
        rotate_left 1
        · intro W hSw
          (try dsimp only at hSw)
          go_simp
          (try with_reducible rfl)
        try simp only [Act.put, List.setIfInBounds_toArray, List.set_cons_zero, List.set_cons_succ]
        refine wpAnyH_take (i := 5) (oi := { dst := some 17, op := _, type := _, pos := _, after := _, guard := _ }) (v := ?_) rfl (by kernel_rfl) (by kernel_rfl) (by kernel_rfl) (fun _ _ _ h => h) (Or.inl ⟨by rfl, ?_⟩) hH ?_
        rotate_left 1
        · intro W hSw
          (try dsimp only at hSw)
          go_simp
          (try with_reducible rfl)
        try simp only [Act.put, List.setIfInBounds_toArray, List.set_cons_zero, List.set_cons_succ]
        refine wpAnyH_take (i := 6) (oi := { dst := some 18, op := _, type := _, pos := _, after := _, guard := _ }) (v := ?_) rfl (by kernel_rfl) (by kernel_rfl) (by kernel_rfl) (fun _ _ _ h => h) (Or.inl ⟨by rfl, ?_⟩) hH ?_
        rotate_left 1
        · intro W hSw
          (try dsimp only at hSw)
          go_simp
          (try with_reducible rfl)
        try simp only [Act.put, List.setIfInBounds_toArray, List.set_cons_zero, List.set_cons_succ]
        refine wpAnyH_ready (rs := [7]) (by kernel_rfl) (by simp) (AllReadyH.cons rfl (fun K hK => ?_) AllReadyH.nil)
        go_simp
        go_at_call 82; ((with_reducible refine (D.out _).mono ?_); rintro e w' ⟨rfl, rfl⟩); go_wp2_with fail
        refine hK.out _ _ ?_ (fun hG => ?_)
        · exact ⟨cell_alloc hH.1, cell_alloc hH.2.1, cell_alloc hH.2.2⟩
        replace hH := hG
        clear hK K hG
        try simp only [Act.put, List.setIfInBounds_toArray, List.set_cons_zero, List.set_cons_succ]
        refine wpAnyH_take (i := 8) (oi := { dst := some 20, op := _, type := _, pos := _, after := _, guard := _ }) (v := ?_) rfl (by kernel_rfl) (by kernel_rfl) (by kernel_rfl) (fun _ _ _ h => h) (Or.inl ⟨by rfl, ?_⟩) hH ?_
        rotate_left 1
        · intro W hSw
          (try dsimp only at hSw)
          go_simp
          (try with_reducible rfl)
        try simp only [Act.put, List.setIfInBounds_toArray, List.set_cons_zero, List.set_cons_succ]
        refine wpAnyH_take (i := 9) (oi := { dst := some 21, op := _, type := _, pos := _, after := _, guard := _ }) (v := ?_) rfl (by kernel_rfl) (by kernel_rfl) (by kernel_rfl) (fun _ _ _ h => h) (Or.inl ⟨by rfl, ?_⟩) hH ?_
        rotate_left 1
        · intro W hSw
          (try dsimp only at hSw)
          go_simp
          (try with_reducible rfl)
        try simp only [Act.put, List.setIfInBounds_toArray, List.set_cons_zero, List.set_cons_succ]
        refine wpAnyH_take (i := 10) (oi := { dst := some 22, op := _, type := _, pos := _, after := _, guard := _ }) (v := ?_) rfl (by kernel_rfl) (by kernel_rfl) (by kernel_rfl) (fun _ _ _ h => h) (Or.inl ⟨by rfl, ?_⟩) hH ?_
        rotate_left 1
        · intro W hSw
          (try dsimp only at hSw)
          go_simp
          (try with_reducible rfl)
        try simp only [Act.put, List.setIfInBounds_toArray, List.set_cons_zero, List.set_cons_succ]
        refine wpAnyH_take (i := 11) (oi := { dst := some 23, op := _, type := _, pos := _, after := _, guard := _ }) (v := undef) rfl (by kernel_rfl) (by kernel_rfl) (by kernel_rfl) (fun _ _ _ h => h) (Or.inr ⟨by simp [Region.wanted, yielded, hu], rfl⟩) hH ?_
        try simp only [Act.put, List.setIfInBounds_toArray, List.set_cons_zero, List.set_cons_succ]
        refine wpAnyH_take (i := 12) (oi := { dst := some 24, op := _, type := _, pos := _, after := _, guard := _ }) (v := undef) rfl (by kernel_rfl) (by kernel_rfl) (by kernel_rfl) (fun _ _ _ h => h) (Or.inr ⟨by simp [Region.wanted, yielded, hu], rfl⟩) hH ?_
        try simp only [Act.put, List.setIfInBounds_toArray, List.set_cons_zero, List.set_cons_succ]
        refine wpAnyH_take (i := 13) (oi := { dst := some 25, op := _, type := _, pos := _, after := _, guard := _ }) (v := undef) rfl (by kernel_rfl) (by kernel_rfl) (by kernel_rfl) (fun _ _ _ h => h) (Or.inr ⟨by simp [Region.wanted, yielded, hu], rfl⟩) hH ?_
        try simp only [Act.put, List.setIfInBounds_toArray, List.set_cons_zero, List.set_cons_succ]
        refine wpAnyH_take (i := 14) (oi := { dst := some 26, op := _, type := _, pos := _, after := _, guard := _ }) (v := undef) rfl (by kernel_rfl) (by kernel_rfl) (by kernel_rfl) (fun _ _ _ h => h) (Or.inr ⟨by simp [Region.wanted, yielded, hu], rfl⟩) hH ?_
        try simp only [Act.put, List.setIfInBounds_toArray, List.set_cons_zero, List.set_cons_succ]
        refine wpAnyH_take (i := 15) (oi := { dst := some 27, op := _, type := _, pos := _, after := _, guard := _ }) (v := undef) rfl (by kernel_rfl) (by kernel_rfl) (by kernel_rfl) (fun _ _ _ h => h) (Or.inr ⟨by simp [Region.wanted, yielded, hu], rfl⟩) hH ?_
        try simp only [Act.put, List.setIfInBounds_toArray, List.set_cons_zero, List.set_cons_succ]
        refine wpAnyH_take (i := 16) (oi := { dst := some 28, op := _, type := _, pos := _, after := _, guard := _ }) (v := undef) rfl (by kernel_rfl) (by kernel_rfl) (by kernel_rfl) (fun _ _ _ h => h) (Or.inr ⟨by simp [Region.wanted, yielded, hu], rfl⟩) hH ?_
        try simp only [Act.put, List.setIfInBounds_toArray, List.set_cons_zero, List.set_cons_succ]
        refine wpAnyH_take (i := 17) (oi := { dst := some 29, op := _, type := _, pos := _, after := _, guard := _ }) (v := undef) rfl (by kernel_rfl) (by kernel_rfl) (by kernel_rfl) (fun _ _ _ h => h) (Or.inr ⟨by simp [Region.wanted, yielded, hu], rfl⟩) hH ?_
        try simp only [Act.put, List.setIfInBounds_toArray, List.set_cons_zero, List.set_cons_succ]
        refine wpAnyH_take (i := 18) (oi := { dst := some 30, op := _, type := _, pos := _, after := _, guard := _ }) (v := undef) rfl (by kernel_rfl) (by kernel_rfl) (by kernel_rfl) (fun _ _ _ h => h) (Or.inr ⟨by simp [Region.wanted, yielded, hu], rfl⟩) hH ?_
        try simp only [Act.put, List.setIfInBounds_toArray, List.set_cons_zero, List.set_cons_succ]
        refine wpAnyH_take (i := 19) (oi := { dst := some 31, op := _, type := _, pos := _, after := _, guard := _ }) (v := undef) rfl (by kernel_rfl) (by kernel_rfl) (by kernel_rfl) (fun _ _ _ h => h) (Or.inr ⟨by simp [Region.wanted, yielded, hu], rfl⟩) hH ?_
        try simp only [Act.put, List.setIfInBounds_toArray, List.set_cons_zero, List.set_cons_succ]
        refine wpAnyH_take (i := 20) (oi := { dst := some 32, op := _, type := _, pos := _, after := _, guard := _ }) (v := undef) rfl (by kernel_rfl) (by kernel_rfl) (by kernel_rfl) (fun _ _ _ h => h) (Or.inr ⟨by simp [Region.wanted, yielded, hu], rfl⟩) hH ?_
        try simp only [Act.put, List.setIfInBounds_toArray, List.set_cons_zero, List.set_cons_succ]
        refine wpAnyH_take (i := 21) (oi := { dst := some 33, op := _, type := _, pos := _, after := _, guard := _ }) (v := undef) rfl (by kernel_rfl) (by kernel_rfl) (by kernel_rfl) (fun _ _ _ h => h) (Or.inr ⟨by simp [Region.wanted, yielded, hu], rfl⟩) hH ?_
        try simp only [Act.put, List.setIfInBounds_toArray, List.set_cons_zero, List.set_cons_succ]
        refine wpAnyH_take (i := 22) (oi := { dst := some 34, op := _, type := _, pos := _, after := _, guard := _ }) (v := undef) rfl (by kernel_rfl) (by kernel_rfl) (by kernel_rfl) (fun _ _ _ h => h) (Or.inr ⟨by simp [Region.wanted, yielded, hu], rfl⟩) hH ?_
        try simp only [Act.put, List.setIfInBounds_toArray, List.set_cons_zero, List.set_cons_succ]
        refine wpAnyH_take (i := 23) (oi := { dst := some 35, op := _, type := _, pos := _, after := _, guard := _ }) (v := undef) rfl (by kernel_rfl) (by kernel_rfl) (by kernel_rfl) (fun _ _ _ h => h) (Or.inr ⟨by simp [Region.wanted, yielded, hu], rfl⟩) hH ?_
        try simp only [Act.put, List.setIfInBounds_toArray, List.set_cons_zero, List.set_cons_succ]
        refine wpAnyH_take (i := 24) (oi := { dst := some 36, op := _, type := _, pos := _, after := _, guard := _ }) (v := ?_) rfl (by kernel_rfl) (by kernel_rfl) (by kernel_rfl) (fun _ _ _ h => h) (Or.inl ⟨by rfl, ?_⟩) hH ?_
        rotate_left 1
        · intro W hSw
          (try dsimp only at hSw)
          go_simp
          (try with_reducible rfl)
        try simp only [Act.put, List.setIfInBounds_toArray, List.set_cons_zero, List.set_cons_succ]
        refine wpAnyH_done (by kernel_rfl) ?_ _
        refine NoPanic.normal ?_
        all_goals go_wp2_with fail
        all_goals go_ret
        all_goals exact ⟨congrArg (fun b => Ending.returned (.bool b)) F.out.symm, BK.out.trans (Below.mono (by first | exact below_drewN (by go_grown) _ | go_grown) BK.out.size)⟩
      have D := Lib.hid (driftS hd)
      by_cases hk0 : k = 0
      · have U := Lib.hid (show okUp zs (k + 1) = true by
          have hz := HZ.out
          subst hk0
          rw [okUp_succ, UK.out, ok_first hz hw hd]; rfl)
        have t0 : decide ((0 : Int) < (k : Int)) = false := decide_eq_false (by omega)
        have t1 : decide (0 < k) = false := decide_eq_false (by omega)
        clear hw hd hk0 UK
        go_wp2_with fail
        refine wp_region_noPanic ?_
        refine wp_region_held_drew (S := (fun w' => w'.cell? ⟨wr.heap.size, 0, none⟩ = some (.int .i64 f) ∧ w'.cell? ⟨wr.heap.size, 1, none⟩ = some (.int .i64 x) ∧ w'.cell? ⟨wr.heap.size, 2, none⟩ = some (.int .i64 y))) (by kernel_rfl) ?_ (fun hH => ?_)
        · simp [go_sem]
        refine wpAnyH_take (i := 0) (oi := { dst := some 12, op := _, type := _, pos := _, after := _, guard := _ }) (v := ?_) rfl (by kernel_rfl) (by kernel_rfl) (by kernel_rfl) (fun _ _ _ h => h) (Or.inl ⟨by rfl, ?_⟩) hH ?_
        rotate_left 1
        · intro W hSw
          (try dsimp only at hSw)
          go_simp
          (try with_reducible rfl)
        try simp only [Act.put, List.setIfInBounds_toArray, List.set_cons_zero, List.set_cons_succ]
        refine wpAnyH_take (i := 1) (oi := { dst := some 13, op := _, type := _, pos := _, after := _, guard := _ }) (v := ?_) rfl (by kernel_rfl) (by kernel_rfl) (by kernel_rfl) (fun _ _ _ h => h) (Or.inl ⟨by rfl, ?_⟩) hH ?_
        rotate_left 1
        · intro W hSw
          (try dsimp only at hSw)
          go_simp
          (try with_reducible rfl)
        try simp only [Act.put, List.setIfInBounds_toArray, List.set_cons_zero, List.set_cons_succ]
        refine wpAnyH_ready (rs := [2]) (by kernel_rfl) (by simp) (AllReadyH.cons rfl (fun K hK => ?_) AllReadyH.nil)
        go_simp
        go_at_call 51; ((with_reducible refine (W.out _).mono ?_); rintro e w' ⟨rfl, rfl⟩); go_wp2_with fail
        refine hK.out _ _ ?_ (fun hG => ?_)
        · exact hH
        replace hH := hG
        clear hK K hG
        try simp only [Act.put, List.setIfInBounds_toArray, List.set_cons_zero, List.set_cons_succ]
        refine wpAnyH_take (i := 3) (oi := { dst := some 15, op := _, type := _, pos := _, after := _, guard := _ }) (v := ?_) rfl (by kernel_rfl) (by kernel_rfl) (by kernel_rfl) (fun _ _ _ h => h) (Or.inl ⟨by rfl, ?_⟩) hH ?_
        rotate_left 1
        · intro W hSw
          (try dsimp only at hSw)
          go_simp
          (try with_reducible rfl)
        try simp only [Act.put, List.setIfInBounds_toArray, List.set_cons_zero, List.set_cons_succ]
        refine wpAnyH_take (i := 4) (oi := { dst := some 16, op := _, type := _, pos := _, after := _, guard := _ }) (v := ?_) rfl (by kernel_rfl) (by kernel_rfl) (by kernel_rfl) (fun _ _ _ h => h) (Or.inl ⟨by rfl, ?_⟩) hH ?_
        rotate_left 1
        · intro W hSw
          (try dsimp only at hSw)
          go_simp
          (try with_reducible rfl)
        try simp only [Act.put, List.setIfInBounds_toArray, List.set_cons_zero, List.set_cons_succ]
        refine wpAnyH_take (i := 5) (oi := { dst := some 17, op := _, type := _, pos := _, after := _, guard := _ }) (v := ?_) rfl (by kernel_rfl) (by kernel_rfl) (by kernel_rfl) (fun _ _ _ h => h) (Or.inl ⟨by rfl, ?_⟩) hH ?_
        rotate_left 1
        · intro W hSw
          (try dsimp only at hSw)
          go_simp
          (try with_reducible rfl)
        try simp only [Act.put, List.setIfInBounds_toArray, List.set_cons_zero, List.set_cons_succ]
        refine wpAnyH_take (i := 6) (oi := { dst := some 18, op := _, type := _, pos := _, after := _, guard := _ }) (v := ?_) rfl (by kernel_rfl) (by kernel_rfl) (by kernel_rfl) (fun _ _ _ h => h) (Or.inl ⟨by rfl, ?_⟩) hH ?_
        rotate_left 1
        · intro W hSw
          (try dsimp only at hSw)
          go_simp
          (try with_reducible rfl)
        try simp only [Act.put, List.setIfInBounds_toArray, List.set_cons_zero, List.set_cons_succ]
        refine wpAnyH_ready (rs := [7]) (by kernel_rfl) (by simp) (AllReadyH.cons rfl (fun K hK => ?_) AllReadyH.nil)
        go_simp
        go_at_call 82; ((with_reducible refine (D.out _).mono ?_); rintro e w' ⟨rfl, rfl⟩); go_wp2_with fail
        refine hK.out _ _ ?_ (fun hG => ?_)
        · exact ⟨cell_alloc hH.1, cell_alloc hH.2.1, cell_alloc hH.2.2⟩
        replace hH := hG
        clear hK K hG
        try simp only [Act.put, List.setIfInBounds_toArray, List.set_cons_zero, List.set_cons_succ]
        refine wpAnyH_take (i := 8) (oi := { dst := some 20, op := _, type := _, pos := _, after := _, guard := _ }) (v := ?_) rfl (by kernel_rfl) (by kernel_rfl) (by kernel_rfl) (fun _ _ _ h => h) (Or.inl ⟨by rfl, ?_⟩) hH ?_
        rotate_left 1
        · intro W hSw
          (try dsimp only at hSw)
          go_simp
          (try with_reducible rfl)
        try simp only [Act.put, List.setIfInBounds_toArray, List.set_cons_zero, List.set_cons_succ]
        refine wpAnyH_take (i := 9) (oi := { dst := some 21, op := _, type := _, pos := _, after := _, guard := _ }) (v := ?_) rfl (by kernel_rfl) (by kernel_rfl) (by kernel_rfl) (fun _ _ _ h => h) (Or.inl ⟨by rfl, ?_⟩) hH ?_
        rotate_left 1
        · intro W hSw
          (try dsimp only at hSw)
          go_simp
          (try with_reducible rfl)
        try simp only [Act.put, List.setIfInBounds_toArray, List.set_cons_zero, List.set_cons_succ]
        refine wpAnyH_take (i := 10) (oi := { dst := some 22, op := _, type := _, pos := _, after := _, guard := _ }) (v := ?_) rfl (by kernel_rfl) (by kernel_rfl) (by kernel_rfl) (fun _ _ _ h => h) (Or.inl ⟨by rfl, ?_⟩) hH ?_
        rotate_left 1
        · intro W hSw
          (try dsimp only at hSw)
          go_simp
          (try with_reducible rfl)
        try simp only [Act.put, List.setIfInBounds_toArray, List.set_cons_zero, List.set_cons_succ]
        refine wpAnyH_take (i := 11) (oi := { dst := some 23, op := _, type := _, pos := _, after := _, guard := _ }) (v := ?_) rfl (by kernel_rfl) (by kernel_rfl) (by kernel_rfl) (fun _ _ _ h => h) (Or.inl ⟨by rfl, ?_⟩) hH ?_
        rotate_left 1
        · intro W hSw
          (try dsimp only at hSw)
          go_simp
          (try with_reducible rfl)
        try simp only [Act.put, List.setIfInBounds_toArray, List.set_cons_zero, List.set_cons_succ]
        refine wpAnyH_take (i := 12) (oi := { dst := some 24, op := _, type := _, pos := _, after := _, guard := _ }) (v := ?_) rfl (by kernel_rfl) (by kernel_rfl) (by kernel_rfl) (fun _ _ _ h => h) (Or.inl ⟨by rfl, ?_⟩) hH ?_
        rotate_left 1
        · intro W hSw
          (try dsimp only at hSw)
          go_simp
          (try with_reducible rfl)
        try simp only [Act.put, List.setIfInBounds_toArray, List.set_cons_zero, List.set_cons_succ]
        refine wpAnyH_take (i := 13) (oi := { dst := some 25, op := _, type := _, pos := _, after := _, guard := _ }) (v := ?_) rfl (by kernel_rfl) (by kernel_rfl) (by kernel_rfl) (fun _ _ _ h => h) (Or.inl ⟨by rfl, ?_⟩) hH ?_
        rotate_left 1
        · intro W hSw
          (try dsimp only at hSw)
          go_simp
          (try with_reducible rfl)
        try simp only [Act.put, List.setIfInBounds_toArray, List.set_cons_zero, List.set_cons_succ]
        refine wpAnyH_take (i := 14) (oi := { dst := some 26, op := _, type := _, pos := _, after := _, guard := _ }) (v := undef) rfl (by kernel_rfl) (by kernel_rfl) (by kernel_rfl) (fun _ _ _ h => h) (Or.inr ⟨by simp [Region.wanted, yielded, hu, t0, t1], rfl⟩) hH ?_
        try simp only [Act.put, List.setIfInBounds_toArray, List.set_cons_zero, List.set_cons_succ]
        refine wpAnyH_take (i := 15) (oi := { dst := some 27, op := _, type := _, pos := _, after := _, guard := _ }) (v := undef) rfl (by kernel_rfl) (by kernel_rfl) (by kernel_rfl) (fun _ _ _ h => h) (Or.inr ⟨by simp [Region.wanted, yielded, hu, t0, t1], rfl⟩) hH ?_
        try simp only [Act.put, List.setIfInBounds_toArray, List.set_cons_zero, List.set_cons_succ]
        refine wpAnyH_take (i := 16) (oi := { dst := some 28, op := _, type := _, pos := _, after := _, guard := _ }) (v := undef) rfl (by kernel_rfl) (by kernel_rfl) (by kernel_rfl) (fun _ _ _ h => h) (Or.inr ⟨by simp [Region.wanted, yielded, hu, t0, t1], rfl⟩) hH ?_
        try simp only [Act.put, List.setIfInBounds_toArray, List.set_cons_zero, List.set_cons_succ]
        refine wpAnyH_take (i := 17) (oi := { dst := some 29, op := _, type := _, pos := _, after := _, guard := _ }) (v := undef) rfl (by kernel_rfl) (by kernel_rfl) (by kernel_rfl) (fun _ _ _ h => h) (Or.inr ⟨by simp [Region.wanted, yielded, hu, t0, t1], rfl⟩) hH ?_
        try simp only [Act.put, List.setIfInBounds_toArray, List.set_cons_zero, List.set_cons_succ]
        refine wpAnyH_take (i := 18) (oi := { dst := some 30, op := _, type := _, pos := _, after := _, guard := _ }) (v := undef) rfl (by kernel_rfl) (by kernel_rfl) (by kernel_rfl) (fun _ _ _ h => h) (Or.inr ⟨by simp [Region.wanted, yielded, hu, t0, t1], rfl⟩) hH ?_
        try simp only [Act.put, List.setIfInBounds_toArray, List.set_cons_zero, List.set_cons_succ]
        refine wpAnyH_take (i := 19) (oi := { dst := some 31, op := _, type := _, pos := _, after := _, guard := _ }) (v := undef) rfl (by kernel_rfl) (by kernel_rfl) (by kernel_rfl) (fun _ _ _ h => h) (Or.inr ⟨by simp [Region.wanted, yielded, hu, t0, t1], rfl⟩) hH ?_
        try simp only [Act.put, List.setIfInBounds_toArray, List.set_cons_zero, List.set_cons_succ]
        refine wpAnyH_take (i := 20) (oi := { dst := some 32, op := _, type := _, pos := _, after := _, guard := _ }) (v := undef) rfl (by kernel_rfl) (by kernel_rfl) (by kernel_rfl) (fun _ _ _ h => h) (Or.inr ⟨by simp [Region.wanted, yielded, hu, t0, t1], rfl⟩) hH ?_
        try simp only [Act.put, List.setIfInBounds_toArray, List.set_cons_zero, List.set_cons_succ]
        refine wpAnyH_take (i := 21) (oi := { dst := some 33, op := _, type := _, pos := _, after := _, guard := _ }) (v := undef) rfl (by kernel_rfl) (by kernel_rfl) (by kernel_rfl) (fun _ _ _ h => h) (Or.inr ⟨by simp [Region.wanted, yielded, hu, t0, t1], rfl⟩) hH ?_
        try simp only [Act.put, List.setIfInBounds_toArray, List.set_cons_zero, List.set_cons_succ]
        refine wpAnyH_take (i := 22) (oi := { dst := some 34, op := _, type := _, pos := _, after := _, guard := _ }) (v := undef) rfl (by kernel_rfl) (by kernel_rfl) (by kernel_rfl) (fun _ _ _ h => h) (Or.inr ⟨by simp [Region.wanted, yielded, hu, t0, t1], rfl⟩) hH ?_
        try simp only [Act.put, List.setIfInBounds_toArray, List.set_cons_zero, List.set_cons_succ]
        refine wpAnyH_take (i := 23) (oi := { dst := some 35, op := _, type := _, pos := _, after := _, guard := _ }) (v := ?_) rfl (by kernel_rfl) (by kernel_rfl) (by kernel_rfl) (fun _ _ _ h => h) (Or.inl ⟨by rfl, ?_⟩) hH ?_
        rotate_left 1
        · intro W hSw
          (try dsimp only at hSw)
          go_simp
          (try with_reducible rfl)
        try simp only [Act.put, List.setIfInBounds_toArray, List.set_cons_zero, List.set_cons_succ]
        refine wpAnyH_take (i := 24) (oi := { dst := some 36, op := _, type := _, pos := _, after := _, guard := _ }) (v := ?_) rfl (by kernel_rfl) (by kernel_rfl) (by kernel_rfl) (fun _ _ _ h => h) (Or.inl ⟨by rfl, ?_⟩) hH ?_
        rotate_left 1
        · intro W hSw
          (try dsimp only at hSw)
          go_simp
          (try with_reducible rfl)
        try simp only [Act.put, List.setIfInBounds_toArray, List.set_cons_zero, List.set_cons_succ]
        refine wpAnyH_done (by kernel_rfl) ?_ _
        refine NoPanic.normal ?_
        all_goals go_wp2_with fail
        all_goals
          go_roundw
          case rel => first | exact ⟨k + 1, by omega, by go_num, U, Lib.hid (BK.out.trans (Below.mono (by go_grown) BK.out.size))⟩ | ((repeat apply Exists.intro); exact ⟨⟨k + 1, by omega, by go_num, U, Lib.hid (BK.out.trans (Below.mono (by go_grown) BK.out.size))⟩, rfl⟩)
          case measure => simp [intOf]; omega
      · obtain ⟨p, hp⟩ : ∃ p, zs[k - 1]? = some p := ⟨_, List.getElem?_eq_getElem (by rw [HN.out]; omega)⟩
        have c4 := HP.out p hp
        have E := Lib.hid (ok_next HZ.out hw hd hk0 hp)
        obtain ⟨pf, px, py⟩ := p
        simp only at c4
        have t0 : decide ((0 : Int) < (k : Int)) = true := decide_eq_true (by omega)
        have t9 : decide (0 < k) = true := decide_eq_true (by omega)
        have t1 : IntKind.i64.wrap ((k : Int) - 1) = (k : Int) - 1 := IntWalk.i64_in _ (by omega)
        have t2 : (0 : Int) ≤ (k : Int) - 1 := by omega
        have t10 : (1 : Int) ≤ (k : Int) := by omega
        have t11 : 1 ≤ k := by omega
        have t12 : 0 < k := by omega
        have t3 : ((k : Int) - 1).toNat = k - 1 := by omega
        have t4 : (k : Int) - 1 < (n : Int) := by omega
        by_cases hpf : pf < f
        · have U := Lib.hid (show okUp zs (k + 1) = true by rw [okUp_succ, UK.out, E.out, decide_eq_true hpf]; rfl)
          have t5 : decide (f ≤ pf) = false := decide_eq_false (by omega)
          have t6 : ¬ f ≤ pf := by omega
          clear hw hd UK E hp hpf
          go_wp2_with fail
          go_region_held3 (fun w' => w'.cell? ⟨wr.heap.size, 0, none⟩ = some (.int .i64 f) ∧ w'.cell? ⟨wr.heap.size, 1, none⟩ = some (.int .i64 x) ∧ w'.cell? ⟨wr.heap.size, 2, none⟩ = some (.int .i64 y) ∧ w'.cell? ⟨b, o + (k - 1) * 3, none⟩ = some (.int .i64 pf)) (simp [go_sem, *])
            (first
              | (go_at_call 51; ((with_reducible refine (W.out _).mono ?_); rintro e w' ⟨rfl, rfl⟩))
              | (go_at_call 82; ((with_reducible refine (D.out _).mono ?_); rintro e w' ⟨rfl, rfl⟩)))
          all_goals go_wp2_with fail
          all_goals
            go_roundw
            case rel => first | exact ⟨k + 1, by omega, by go_num, U, Lib.hid (BK.out.trans (Below.mono (by go_grown) BK.out.size))⟩ | ((repeat apply Exists.intro); exact ⟨⟨k + 1, by omega, by go_num, U, Lib.hid (BK.out.trans (Below.mono (by go_grown) BK.out.size))⟩, rfl⟩)
            case measure => simp [intOf]; omega
        · have F := Lib.hid (wd_no HN.out hlt (E.out.trans (decide_eq_false hpf)))
          have t5 : decide (f ≤ pf) = true := decide_eq_true (by omega)
          have t6 : f ≤ pf := by omega
          clear hw hd UK E hp hpf
          go_wp2_with fail
          go_region_held3 (fun w' => w'.cell? ⟨wr.heap.size, 0, none⟩ = some (.int .i64 f) ∧ w'.cell? ⟨wr.heap.size, 1, none⟩ = some (.int .i64 x) ∧ w'.cell? ⟨wr.heap.size, 2, none⟩ = some (.int .i64 y) ∧ w'.cell? ⟨b, o + (k - 1) * 3, none⟩ = some (.int .i64 pf)) (simp [go_sem, *])
            (first
              | (go_at_call 51; ((with_reducible refine (W.out _).mono ?_); rintro e w' ⟨rfl, rfl⟩))
              | (go_at_call 82; ((with_reducible refine (D.out _).mono ?_); rintro e w' ⟨rfl, rfl⟩)))
          all_goals go_wp2_with fail
          all_goals go_ret
          all_goals exact ⟨congrArg (fun b => Ending.returned (.bool b)) F.out.symm, BK.out.trans (Below.mono (by first | exact below_drewN (by go_grown) _ | go_grown) BK.out.size)⟩
    · obtain rfl : k = n := by omega
      have F := Lib.hid (wd_fin HN.out UK.out)
      go_wp2_with fail
      go_ret
      exact ⟨by rw [F.out, show decide ((k : Int) ≤ 8) = decide (k ≤ 8) from decide_eq_decide.2 (by omega)]; rfl, BK.out⟩

end Go.Proofs.YtdkihpnckkfneaaGreat.Wi
namespace Go.Proofs.YtdkihpnckkfneaaGreat.Bk
open Go.RowKit Go.Proofs.YtdkihpnckkfneaaGreat.Mem Go.Proofs.YtdkihpnckkfneaaGreat.P2
set_option linter.unusedVariables false

/-- Block b holds these cells. -/
def Bk (w : World) (b : Nat) (c : Array Value) (T : TypeId) : Prop := w.heap[b]? = some (.cells c T (0, 0))
section
variable {w w' : World} {b b' i : Nat} {c : Array Value} {T : TypeId} {v : Value}
theorem Bk.cell (k : Bk w b c T) (h : c[i]? = some v) : w.cell? ⟨b, i, none⟩ = some v := by simp [World.cell?, show w.heap[b]? = _ from k, h]
theorem Bk.frozen (k : Bk w b c T) (i : Nat) : w.frozen? ⟨b, i, none⟩ = false := by simp [World.frozen?, show w.heap[b]? = _ from k]
theorem Bk.lt (k : Bk w b c T) : b < w.heap.size := (Array.getElem?_eq_some_iff.1 k).1
theorem Bk.drew (k : Bk w b c T) : Bk w.drew b c T := k
theorem Bk.drewN (k : Bk w b c T) : ∀ n, Bk (w.drewN n) b c T
  | 0 => k
  | n + 1 => Bk.drewN k n
theorem Bk.new (w : World) (c : Array Value) (T : TypeId) : Bk (w.alloc (.cells c T)) w.heap.size c T := heap_alloc_new w _
theorem Bk.below (k : Bk w b c T) (hb : Below w.heap.size w w') : Bk w' b c T := (hb.block b k.lt).trans k
theorem Bk.alloc {o : Obj} (k : Bk w b c T) : Bk (w.alloc o) b c T := k.below ((Below.refl _ _).alloc (Nat.le_refl _) _)
theorem Bk.grown {r : Option Nat} (k : Bk w b c T) (g : w.grownBy w' r) (hr : r ≠ some b) : Bk w' b c T := (g.block b k.lt (fun e => hr e.symm)).trans k
theorem Bk.set (k : Bk w b c T) : Bk (w.setCell ⟨b, i, none⟩ v) b (c.setIfInBounds i v) T := by
  obtain ⟨hlt, hk⟩ := Array.getElem?_eq_some_iff.1 k
  show (w.heap.modify b _)[b]? = _
  rw [Array.getElem?_eq_getElem (by rw [Array.size_modify]; exact hlt), Array.getElem_modify_self, hk]
  rfl
theorem Bk.far (e : b' ≠ b) (k : Bk w b c T) : Bk (w.setCell ⟨b', i, none⟩ v) b c T := by
  show (w.heap.modify b' _)[b]? = _
  rw [Array.getElem?_modify, if_neg e]; exact k
end

theorem Bk.setG (w : World) (b i : Nat) (v : Value) : w.grownBy (w.setCell ⟨b, i, none⟩ v) (some b) :=
  ⟨rfl, rfl, rfl, by simp [World.setCell], fun k _ hr => Below.heap_setCell _ _ _ _ (by show k ≠ b; exact fun e => hr (by rw [e]))⟩
theorem rd_drew {w : World} {B : Nat} {A : Option Addr} {xs : List Value} (h : Rd w B A xs) : Rd w.drew B A xs := h
theorem rd_alloc {w : World} {B : Nat} {A : Option Addr} {xs : List Value} {o : Obj} (h : Rd w B A xs) (hB : B ≤ w.heap.size) : Rd (w.alloc o) B A xs := h.below ((Below.refl _ _).alloc hB _)
/-- A call's own memory, left to the caller. -/
theorem below_in {w a b : World} (h : Below w.heap.size w a) (k : Below a.heap.size a b) : Below w.heap.size w b := h.trans (k.mono h.size)

/-- A row of one's own is no block of another type. -/
theorem own_ne {w : World} {base g n c : Nat} {e T : TypeId} {s : Nat} {xs : List Value} {b : Nat} {cs : Array Value} (h : w.ownsRow base e s (.slice (some ⟨g, 0, none⟩) n c) n xs) (k : Bk w b cs T) (hT : e ≠ T) : (Value.slice (some ⟨g, 0, none⟩) n c).ownBlock ≠ some b := by
  intro hb
  have hb : g = b := by injection hb
  subst hb
  rcases h.2 with ⟨e1, _⟩ | ⟨g', cap, cur, e1, _, e3, _⟩
  · cases e1
  · injection e1 with e1; injection e1 with e1; injection e1 with e1
    subst e1
    rw [show w.heap[g]? = some (.cells cs T (0, 0)) from k] at e3
    injection e3 with e3
    injection e3 with _ e3
    exact hT e3.symm
theorem own_slice {w : World} {base n : Nat} {e : TypeId} {s : Nat} {v : Value} {xs : List Value} (h : w.ownsRow base e s v (n + 1) xs) : ∃ g c, v = .slice (some ⟨g, 0, none⟩) (n + 1) c := by
  rcases h.2 with ⟨_, e⟩ | ⟨g, cap, cur, e, _⟩
  · omega
  · exact ⟨g, cap, e⟩

end Go.Proofs.YtdkihpnckkfneaaGreat.Bk
namespace Go.Proofs.YtdkihpnckkfneaaGreat.Wa
open Go.RowKit Go.Proofs.YtdkihpnckkfneaaGreat.Mem Go.Proofs.YtdkihpnckkfneaaGreat.Rw Go.Proofs.YtdkihpnckkfneaaGreat.Bk Go.Proofs.YtdkihpnckkfneaaGreat.Jt Go.Proofs.YtdkihpnckkfneaaGreat.Pw Go.Proofs.YtdkihpnckkfneaaGreat.P2 Go.Proofs.YtdkihpnckkfneaaGreat.Gs Go.Proofs.YtdkihpnckkfneaaGreat.Wm Go.Proofs.YtdkihpnckkfneaaGreat.Wi
set_option linter.unusedVariables false
set_option linter.unusedSimpArgs false

abbrev pq (p : Int × Int) : Value := .agg #[.int .i64 p.1, .int .i64 p.2]
abbrev pc (x y : Int) : Array Value := #[.int .i64 x, .int .i64 y]

theorem infoPlace : (Tryz.prog.info? 34).map (fun i => (i.zero, i.size, i.bytes)) = some (some (.agg #[.int .i64 0, .int .i64 0]), 2, 16) := by kernel_rfl
/-- The cells of a list of places. -/
def pcs (ps : List (Int × Int)) : List Value := ps.flatMap fun p => [.int .i64 p.1, .int .i64 p.2]
theorem pcs_len (ps : List (Int × Int)) : (pcs ps).length = ps.length * 2 := flat_len (cells := fun p : Int × Int => [Value.int .i64 p.1, .int .i64 p.2]) (fun _ => rfl) ps
theorem pcs_snoc (ps : List (Int × Int)) (p : Int × Int) : pcs ps ++ [.int .i64 p.1, .int .i64 p.2] = pcs (ps ++ [p]) := by unfold pcs; simp
theorem pcs_get {ps : List (Int × Int)} {k : Nat} {p : Int × Int} (h : ps[k]? = some p) : (pcs ps)[k * 2]? = some (.int .i64 p.1) ∧ (pcs ps)[k * 2 + 1]? = some (.int .i64 p.2) :=
  ⟨(flat_get (K := 2) (cells := fun p : Int × Int => [Value.int .i64 p.1, .int .i64 p.2]) (fun _ => rfl) h 0 (by omega)).trans rfl, (flat_get (K := 2) (cells := fun p : Int × Int => [Value.int .i64 p.1, .int .i64 p.2]) (fun _ => rfl) h 1 (by omega)).trans rfl⟩

/-- A row of one's own with these places; what was there is as it was. -/
def Row2 (w : World) (ps : List (Int × Int)) (e : Ending) (w' : World) : Prop :=
  ∃ g c, e = .returned (.slice (some ⟨g, 0, none⟩) ps.length c) ∧ w'.ownsRow w.heap.size 34 2 (.slice (some ⟨g, 0, none⟩) ps.length c) ps.length (pcs ps) ∧ Below w.heap.size w w'
/-- A row of one's own with these gusts; what was there is as it was. -/
def Row3 (w : World) (zs : List G) (e : Ending) (w' : World) : Prop :=
  ∃ g c, e = .returned (.slice (some ⟨g, 0, none⟩) zs.length c) ∧ w'.ownsRow w.heap.size 90 3 (.slice (some ⟨g, 0, none⟩) zs.length c) zs.length (gls zs) ∧ Below w.heap.size w w'
theorem own_base {w : World} {base n : Nat} {e : TypeId} {s : Nat} {v : Value} {xs : List Value} (h : w.ownsRow base e s v n xs) : ∀ k, v.ownBlock = some k → base ≤ k := fun k e => (h.lt k e).1

end Go.Proofs.YtdkihpnckkfneaaGreat.Wa
namespace Go.Proofs.YtdkihpnckkfneaaGreat.Dw
open Go.RowKit Go.Proofs.YtdkihpnckkfneaaGreat.Mem Go.Proofs.YtdkihpnckkfneaaGreat.Rw Go.Proofs.YtdkihpnckkfneaaGreat.Bk Go.Proofs.YtdkihpnckkfneaaGreat.Cx Go.Proofs.YtdkihpnckkfneaaGreat.Cm Go.Proofs.YtdkihpnckkfneaaGreat.Jt Go.Proofs.YtdkihpnckkfneaaGreat.Pl Go.Proofs.YtdkihpnckkfneaaGreat.Str Go.Proofs.YtdkihpnckkfneaaGreat.Pw Go.Proofs.YtdkihpnckkfneaaGreat.P2 Go.Proofs.YtdkihpnckkfneaaGreat.Gs Go.Proofs.YtdkihpnckkfneaaGreat.Wm Go.Proofs.YtdkihpnckkfneaaGreat.Wi Go.Proofs.YtdkihpnckkfneaaGreat.Wa
open Go.Proofs.YtdkihpnckkfneaaGreat.Draw (Cur Ready Got GotB u8s below once some_ pick cells_at new Fresh wf_of_small odds)
open Go.Proofs.YtdkihpnckkfneaaGreat.Dr2 (HB HB.c0 HB.c1 HB.f0 HB.f1 HB.grown HB.new HB.set0 HB.set1 cur_set grown_set wf)
set_option linter.unusedVariables false
set_option linter.unusedSimpArgs false

theorem okAt_left {zs : List G} {z : G} {i : Nat} (hi : i < zs.length) : okAt (zs ++ [z]) i = okAt zs i := by
  unfold okAt
  rw [List.getElem?_append_left hi]
  cases zs[i]? with
  | none => rfl
  | some y => simp only []; rw [List.getElem?_append_left (by omega)]
theorem okUp_left {zs : List G} {z : G} {k : Nat} (hk : k ≤ zs.length) : okUp (zs ++ [z]) k = okUp zs k := by
  induction k with
  | zero => rfl
  | succ k ih => rw [okUp_succ, okUp_succ, ih (by omega), okAt_left (by omega)]
/-- A later gust behind a wind. -/
theorem wd_snoc {zs : List G} {t x y : Int} (h : wd zs = true) (hl : ∀ z ∈ zs, z.1 < t) (ht : 0 ≤ t ∧ t ≤ 64) (hd : dk x y = true) (hn : zs.length < 8) : wd (zs ++ [(t, x, y)]) = true := by
  unfold wd at h ⊢
  rw [Bool.and_eq_true] at h
  rw [List.length_append, List.length_singleton, okUp_succ, okUp_left (Nat.le_refl _), h.1, decide_eq_true (by omega), Bool.and_true, Bool.true_and]
  have hz : (zs ++ [(t, x, y)])[zs.length]? = some (t, x, y) := by rw [List.getElem?_append_right (Nat.le_refl _), Nat.sub_self]; rfl
  by_cases h0 : zs.length = 0
  · rw [h0] at hz ⊢
    exact ok_first hz (iw_yes ht) hd
  · have hp : (zs ++ [(t, x, y)])[zs.length - 1]? = some (zs[zs.length - 1]'(by omega)) := by rw [List.getElem?_append_left (by omega)]; exact List.getElem?_eq_getElem _
    rw [ok_next hz (iw_yes ht) hd h0 hp]
    exact decide_eq_true (hl _ (List.getElem_mem _))

theorem rd_more {w : World} {A : Option Addr} {xs : List Value} {o : Obj} (h : Rd w w.heap.size A xs) : Rd (w.alloc o) (w.alloc o).heap.size A xs := (rd_alloc h (Nat.le_refl _)).more (by simp)
theorem grown_app {w a b : World} {r : Option Nat} {gr : Nat} (h : w.grownBy a r) (k : a.grownBy b (some gr)) (hg : w.heap.size ≤ gr) : w.grownBy b r :=
  ⟨k.os.trans h.os, k.tape.trans h.tape, k.output.trans h.output, Nat.le_trans h.size k.size, fun i hi hr => (k.block i (Nat.lt_of_lt_of_le hi h.size) (fun e => by have e := Option.some.inj e; omega)).trans (h.block i hi hr)⟩
theorem ready_app {a b : World} {g n c gr : Nat} {A : Option Addr} {bs : List UInt8} (h : Ready a g A n c bs) (k : a.grownBy b (some gr)) (hg : g < gr) : Ready b g A n c bs :=
  ⟨h.len, h.max, rd_grown h.rd k (Nat.le_of_lt h.cur.lt) (fun q hq => by cases hq; omega), h.cur.kept (k.block g h.cur.lt (fun e => by have e := Option.some.inj e; omega))⟩
theorem ready_alloc {a : World} {g n c : Nat} {A : Option Addr} {bs : List UInt8} (h : Ready a g A n c bs) (o : Obj) : Ready (a.alloc o) g A n c bs := h.alloc o
/-- A row is as it was where the cursor alone is written. -/
theorem row_next {a b : World} {base g gr q c : Nat} {e : TypeId} {s : Nat} {xs : List Value} (h : a.ownsRow base e s (.slice (some ⟨gr, 0, none⟩) q c) q xs) (k : a.grownBy b (some g)) (hg : g < base) : b.ownsRow base e s (.slice (some ⟨gr, 0, none⟩) q c) q xs :=
  owns_grown h k (fun i hi => by cases hi; intro e; have e : g = gr := Option.some.inj e; have h7 : base ≤ gr := (h.lt gr rfl).1; omega)

/-- What the draw of a drift leaves. -/
def GotN (w : World) (g : Nat) (A : Option Addr) (n c : Nat) (e : Ending) (w' : World) : Prop :=
  ∃ x y : Int, ((-3 ≤ x ∧ x ≤ 3) ∧ -3 ≤ y ∧ y ≤ 3) ∧ e = .returned (.agg #[.int .i64 x, .int .i64 y]) ∧ Cur w' g A n c ∧ w.grownBy w' (some g)

set_option maxHeartbeats 1000000 in
theorem driftDraw {w : World} {g n c : Nat} {A : Option Addr} {bs : List UInt8} (h : Ready w g A n c bs) :
    Calls Tryz.prog 61 #[.pointer (some ⟨g, 0, none⟩)] w (GotN w g A n c) := by
  have hlt := h.cur.lt
  have H1 := Lib.hid (h.alloc (.cells #[.int .i64 0, .int .i64 0] 34))
  have G0 := Lib.hid (World.grownBy_alloc w (.cells #[.int .i64 0, .int .i64 0] 34) (some g))
  have B0 := Lib.hid (HB.new w 0 0)
  have NE := Lib.hid (show w.heap.size ≠ g by omega)
  clear h hlt
  go_enter Tryz.func61, Tryz.ntmps61
  go_wp2_with fail
  refine (some_ H1.out (-3) 3 (by decide) (by decide) (by decide)).mono ?_
  rintro e w1 ⟨x, hx, rfl, k1, k2⟩
  have R1 := Lib.hid (H1.out.next k2 k1)
  have G1 := Lib.hid (Draw.grown_trans G0.out k2)
  have B1 := Lib.hid (B0.out.grown k2 (fun e => NE.out (Option.some.inj e)))
  have X := Lib.hid hx
  clear k1 k2 hx H1 G0 B0
  go_wp2_with fail
  refine (some_ R1.out (-3) 3 (by decide) (by decide) (by decide)).mono ?_
  rintro e w2 ⟨y, hy, rfl, k1, k2⟩
  have G2 := Lib.hid (Draw.grown_trans G1.out k2)
  have C2 := Lib.hid k1
  have b2 := B1.out.grown k2 (fun e => NE.out (Option.some.inj e))
  have Y := Lib.hid hy
  have B2 := Lib.hid b2
  have d0 := b2.c0
  have d1 := b2.c1
  have e0 := b2.f0
  have e1 := b2.f1
  clear k1 k2 hy R1 G1 B1 b2
  go_wp2_with fail
  have r := (B2.out.set0 x).set1 y
  have s0 := r.c0
  have s1 := r.c1
  clear r
  (try simp only [Exit.inBlock, Exit.then])
  refine bodyPost_ret (by simp [results, Tryz.results61, go_sem, s0, s1]; try rfl) rfl ?_
  exact ⟨x, y, ⟨X.out, Y.out⟩, rfl, cur_set (cur_set C2.out NE.out.symm _ _) NE.out.symm _ _, grown_set (grown_set G2.out (Nat.le_refl _) _ _) (Nat.le_refl _) _ _⟩

/-- What the draw of a wind leaves. -/
def GotW (w : World) (g : Nat) (A : Option Addr) (n c : Nat) (e : Ending) (w' : World) : Prop :=
  ∃ (zs : List G) (q gr cc : Nat), wd zs = true ∧ zs.length = q ∧ q ≤ 5 ∧ e = .returned (.slice (some ⟨gr, 0, none⟩) q cc) ∧ w'.ownsRow w.heap.size 90 3 (.slice (some ⟨gr, 0, none⟩) q cc) q (gls zs) ∧ Cur w' g A n c ∧ w.grownBy w' (some g)

def starts : List Int := [0, 0, 1, 5]
theorem starts_le {x : Int} (h : x ∈ starts) : 0 ≤ x ∧ x ≤ 5 := by
  unfold starts at h
  simp only [List.mem_cons, List.not_mem_nil, or_false] at h
  omega

set_option maxRecDepth 100000 in
set_option maxHeartbeats 2000000 in
theorem l4Draw {w : World} {g n c : Nat} {A : Option Addr} {bs : List UInt8} (h : Ready w g A n c bs) :
    Calls Tryz.prog 33 #[.pointer (some ⟨g, 0, none⟩)] w (GotW w g A n c) := by
  have hlt := h.cur.lt
  obtain ⟨i0, hi, hz0, hz1, hz2⟩ := info_of infoGust
  have R0 := Lib.hid (World.ownsRow_lit (base := w.heap.size) (e := 90) (size := 3) w #[] 0 (Nat.le_refl _) (Nat.zero_le _) rfl)
  have H1 := Lib.hid (h.alloc (.cells #[] 90))
  have G1 := Lib.hid (World.grownBy_alloc w (.cells #[] 90) (some g))
  have NE := Lib.hid hlt
  clear h hlt
  go_enter Tryz.func33, Tryz.ntmps33
  go_wp2_with fail
  have P := pick (H1.out.alloc (.cells (ints starts).toArray 3)) (w.alloc (.cells #[] 90)).heap.size 0 4 starts (by have := NE.out; simp; omega) (by decide) (by decide) (cells_at (w.alloc (.cells #[] 90)) starts 3)
  rw [show (w.alloc (.cells #[] 90)).heap.size = w.heap.size + 1 by simp] at P
  refine P.mono ?_
  rintro e w1 ⟨t, ht, rfl, k1, k2⟩
  have ht := starts_le ht
  have H2 := Lib.hid ((H1.out.alloc (.cells (ints starts).toArray 3)).next k2 k1)
  have G2 := Lib.hid (Draw.grown_trans (Draw.grown_trans G1.out (World.grownBy_alloc _ (.cells (ints starts).toArray 3) (some g))) k2)
  have R2 := Lib.hid (row_next (R0.out.alloc (.cells (ints starts).toArray 3)) k2 NE.out)
  clear k1 k2 P H1 G1 R0
  go_wp2_with fail
  refine (below H2.out 6 (by decide) (by decide)).mono ?_
  rintro e w2 ⟨m, hm, rfl, k1, k2⟩
  obtain ⟨m, rfl⟩ : ∃ k : Nat, m = (k : Int) := ⟨m.toNat, by omega⟩
  have H3 := Lib.hid (H2.out.next k2 k1)
  have G3 := Lib.hid (Draw.grown_trans G2.out k2)
  have R3 := Lib.hid (row_next R2.out k2 NE.out)
  have hm5 : m ≤ 5 := by omega
  clear k1 k2 H2 G2 R2 hm
  go_wp2_with fail
  go_loopw [3, 4, 5] (fun v tv mv wr => ∃ (zs : List G) (q m : Nat) (t : Int), q + m ≤ 5 ∧ mv = .int .i64 m ∧ tv = .int .i64 t ∧ 0 ≤ t ∧ t ≤ 5 + 9 * q ∧ (∃ gr cc : Nat, v = .slice (some ⟨gr, 0, none⟩) q cc) ∧ Hid (zs.length = q ∧ wd zs = true ∧ ∀ z ∈ zs, z.1 < t) ∧ Hid (wr.ownsRow w.heap.size 90 3 v q (gls zs)) ∧ Hid (Ready wr g A n c bs) ∧ Hid (w.grownBy wr (some g))) (fun _ _ mv _ => (intOf mv).toNat)
  case atStart => exact ⟨[], 0, m, t, by omega, rfl, rfl, ht.1, by omega, ⟨_, _, rfl⟩, Lib.hid ⟨rfl, rfl, fun z hz => by cases hz⟩, R3, H3, G3⟩
  case round =>
    obtain ⟨zs, q, m, t, hqm, rfl, rfl, ht0, ht5, ⟨gr, cc, rfl⟩, ZK, RK, HK, GK⟩ := hrel
    by_cases hm0 : 0 < m
    · have hm0' : (0 : Int) < (m : Int) := by omega
      have hgr := own_base RK.out gr rfl
      have hrl := (RK.out.lt gr rfl).2
      clear ht hm5 R3 H3 G3
      go_wp2_with fail
      refine (driftDraw HK.out).mono ?_
      rintro e w3 ⟨x, y, hxy, rfl, k1, k2⟩
      have H4 := Lib.hid (HK.out.next k2 k1)
      have G4 := Lib.hid (Draw.grown_trans GK.out k2)
      have R4 := row_next RK.out k2 NE.out
      have R5 := R4.alloc (.cells #[.int .i64 t, .int .i64 x, .int .i64 y] 90)
      have ZN := Lib.hid (wd_snoc ZK.out.2.1 ZK.out.2.2 (t := t) (x := x) (y := y) (by omega) (dk_iff.2 (by omega)) (by have := ZK.out.1; omega))
      have SN := Lib.hid (show gls zs ++ [.int .i64 t, .int .i64 x, .int .i64 y] = gls (zs ++ [(t, x, y)]) from gls_snoc zs (t, x, y))
      have hb3 : w.heap.size ≤ w3.heap.size := G4.out.size
      clear k1 k2 hxy HK GK RK R4
      go_wp2_with (
        at_builtin
        refine wpList_append_own _ rfl _ _ 26 rfl w.heap.size 90 i0 (.agg #[.int .i64 0, .int .i64 0, .int .i64 0]) 3 24 Tryz.underlying26 hi hz0 hz1 hz2 rfl (by decide) _ _ _ rfl R5 ⟨w3.heap.size, 0, none⟩ 1 1 [.int .i64 t, .int .i64 x, .int .i64 y] rfl rfl (by intro j z hj; match j, hj with | 0, hj => (simp at hj; subst hj; simp [Addr.add]) | 1, hj => (simp at hj; subst hj; simp [Addr.add]) | 2, hj => (simp at hj; subst hj; simp [Addr.add])) (by intro z hz; simp at hz; rcases hz with rfl | rfl | rfl <;> rfl) (by unfold maxLen; omega) (by omega) (by simp; omega) ?_
        intro v' w4 hown hgrow hnil
        rw [SN.out] at hown
        obtain ⟨g5, c5, rfl⟩ := own_slice hown
        have R6 := Lib.hid hown
        have H6 := Lib.hid (ready_app (H4.out.alloc (.cells #[.int .i64 t, .int .i64 x, .int .i64 y] 90)) hgrow (Nat.lt_of_lt_of_le NE.out hgr))
        have G6 := Lib.hid (grown_app (Draw.grown_trans G4.out (World.grownBy_alloc _ (.cells #[.int .i64 t, .int .i64 x, .int .i64 y] 90) (some g))) hgrow hgr)
        clear hown hgrow hnil R5 H4 G4)
      go_wp2_with fail
      refine (below H6.out 9 (by decide) (by decide)).mono ?_
      rintro e w5 ⟨d, hd, rfl, k1, k2⟩
      have H7 := Lib.hid (H6.out.next k2 k1)
      have G7 := Lib.hid (Draw.grown_trans G6.out k2)
      have R7 := Lib.hid (row_next R6.out k2 NE.out)
      have e1 : wrap64 (t + 1) = t + 1 := IntWalk.wrap64_in _ (by omega)
      have e2 : wrap64 (t + 1 + d) = t + 1 + d := IntWalk.wrap64_in _ (by omega)
      have e3 : wrap64 ((m : Int) - 1) = ((m - 1 : Nat) : Int) := by rw [IntWalk.wrap64_in _ (by omega)]; omega
      have e4 : (m : Int) - 1 = ((m - 1 : Nat) : Int) := by omega
      have E4 := Lib.hid e4
      have ZM := Lib.hid (show (zs ++ [(t, x, y)]).length = q + 1 ∧ wd (zs ++ [(t, x, y)]) = true ∧ ∀ z ∈ zs ++ [(t, x, y)], z.1 < t + 1 + d from ⟨by rw [List.length_append, ZK.out.1]; rfl, ZN.out, fun z hz => by
        rcases List.mem_append.1 hz with h | h
        · have := ZK.out.2.2 z h; omega
        · rw [List.mem_singleton] at h; subst h; show t < t + 1 + d; omega⟩)
      have hd0 : 0 ≤ t + 1 + d := by omega
      have hd5 : t + 1 + d ≤ 5 + 9 * ((q + 1 : Nat) : Int) := by omega
      clear k1 k2 H6 G6 R6 hd e4
      go_wp2_with fail
      go_roundw
      case rel => exact ⟨zs ++ [(t, x, y)], q + 1, m - 1, t + 1 + d, by omega, by first | rfl | (rw [E4.out]), rfl, hd0, hd5, ⟨_, _, rfl⟩, ZM, R7, H7, G7⟩
      case measure => simp [intOf]; omega
    · have hm0' : ¬ (0 : Int) < (m : Int) := by omega
      clear ht hm5 R3 H3 G3
      go_wp2_with fail
      go_ret
      exact ⟨zs, q, gr, cc, ZK.out.2.1, ZK.out.1, by omega, rfl, RK.out, HK.out.cur, GK.out⟩

/-- What the draw of a wind and two ticks leaves for a law. -/
def DrawnW (w : World) (e : Ending) (w' : World) : Prop :=
  ∃ (zs : List G) (q gr cc a d : Nat), wd zs = true ∧ zs.length = q ∧ q ≤ 5 ∧ a ≤ 39 ∧ d ≤ 39 ∧ e = .returned (.tuple #[.slice (some ⟨gr, 0, none⟩) q cc, .int .i64 (a : Int), .int .i64 ((a : Int) + (d : Int))]) ∧ Rd w' w'.heap.size (some ⟨gr, 0, none⟩) (gls zs) ∧ Below w.heap.size w w'

theorem below_of {w a b : World} {g : Nat} (h : Below w.heap.size w a) (hg : w.heap.size ≤ g) (k : a.grownBy b (some g)) : Below w.heap.size w b :=
  h.grown k h.size (fun q hq => by cases hq; exact hg)

end Go.Proofs.YtdkihpnckkfneaaGreat.Dw
namespace Go.Proofs.YtdkihpnckkfneaaGreat.Fe9
open Go.RowKit Go.ChangeShapes Go.WideShapes Go.WideElems Go.Deep Go.Proofs.YtdkihpnckkfneaaGreat.Mem Go.Proofs.YtdkihpnckkfneaaGreat.Rw Go.Proofs.YtdkihpnckkfneaaGreat.P2 Go.Proofs.YtdkihpnckkfneaaGreat.Cd Go.Proofs.YtdkihpnckkfneaaGreat.Cv Go.Proofs.YtdkihpnckkfneaaGreat.Cl Go.Proofs.YtdkihpnckkfneaaGreat.Cs
set_option linter.unusedVariables false
set_option linter.unusedSimpArgs false
open Go.Proofs.YtdkihpnckkfneaaGreat.Jt Go.Proofs.YtdkihpnckkfneaaGreat.IsName Go.Proofs.YtdkihpnckkfneaaGreat.Sd Go.Proofs.YtdkihpnckkfneaaGreat.Oc Go.Proofs.YtdkihpnckkfneaaGreat.Ld Go.Proofs.YtdkihpnckkfneaaGreat.RampAt Go.Proofs.YtdkihpnckkfneaaGreat.Tn

theorem quo_between (d i n : Int) (hi : 0 < i) (hin : i < n) : (0 ≤ d → 0 ≤ d * i / n ∧ d * i / n ≤ d) ∧ (d ≤ 0 → d ≤ d * i / n ∧ d * i / n ≤ 0) := by
  have hn : 0 < n := by omega
  constructor
  · intro hd
    refine ⟨Int.ediv_nonneg (Int.mul_nonneg hd (by omega)) (by omega), ?_⟩
    have : d * i ≤ d * n := Int.mul_le_mul_of_nonneg_left (by omega) hd
    calc d * i / n ≤ d * n / n := Int.ediv_le_ediv hn this
      _ = d := Int.mul_ediv_cancel _ (by omega)
  · intro hd
    constructor
    · have : d * n ≤ d * i := Int.mul_le_mul_of_nonpos_left hd (by omega)
      calc d = d * n / n := (Int.mul_ediv_cancel _ (by omega)).symm
        _ ≤ d * i / n := Int.ediv_le_ediv hn this
    · have : d * i ≤ 0 := Int.mul_nonpos_of_nonpos_of_nonneg hd (by omega)
      calc d * i / n ≤ 0 / n := Int.ediv_le_ediv hn this
        _ = 0 := Int.zero_ediv _
theorem level_between {a b : Int} (i n : Int) (ha1 : -4096 ≤ a) (ha2 : a ≤ 4096) (hb1 : -4096 ≤ b) (hb2 : b ≤ 4096) : (a ≤ level a b i n ∧ level a b i n ≤ b) ∨ (b ≤ level a b i n ∧ level a b i n ≤ a) := by
  rw [level_yes i n ha1 ha2 hb1 hb2]
  split
  · omega
  · split
    · omega
    · have := quo_between (b - a) i n (by omega) (by omega)
      generalize (b - a) * i / n = q at *
      by_cases h : a ≤ b
      · have := this.1 (by omega); omega
      · have := this.2 (by omega); omega
/-- Behind the ramp's ticks the level is the one it led to. -/
theorem level_rest {a b i n : Int} (ha1 : 0 ≤ a) (ha2 : a ≤ 32) (hb1 : 0 ≤ b) (hb2 : b ≤ 32) (h : n ≤ i) : level a b i n = b := by
  rw [level_yes i n (by omega) (by omega) (by omega) (by omega), if_pos h]
theorem level_in {a b : Int} (i n : Int) (ha1 : 0 ≤ a) (ha2 : a ≤ 32) (hb1 : 0 ≤ b) (hb2 : b ≤ 32) : 0 ≤ level a b i n ∧ level a b i n ≤ 32 := by
  have := level_between i n (show -4096 ≤ a by omega) (by omega) (show -4096 ≤ b by omega) (by omega)
  omega
/-- What is known where the cues led. -/
def Sane (u : Int × C) : Prop := (0 ≤ u.1 ∧ u.1 ≤ 32) ∧ (0 ≤ u.2.lv ∧ u.2.lv ≤ 32)
theorem sane_step {t : Int} {u : Int × C} (h : Sane u) {x : C} (hx : cB x = true) : Sane (stepC t u x) := by
  by_cases e : x.tk ≤ t
  · rw [step_yes u e]
    exact ⟨level_in _ _ h.1.1 h.1.2 h.2.1 h.2.2, (cB_in hx).2.1⟩
  · rw [step_no u e]; exact h
theorem reach_sane (t : Int) (ys : List C) (h : ∀ x ∈ ys, cB x = true) : Sane (reach t ys) := by
  have key : ∀ (ys : List C) (u : Int × C), Sane u → (∀ x ∈ ys, cB x = true) → Sane (ys.foldl (stepC t) u) := by
    intro ys
    induction ys with
    | nil => intro u hu _; exact hu
    | cons y r ih => intro u hu hr; exact ih _ (sane_step hu (hr y (List.mem_cons_self ..))) (fun x hx => hr x (List.mem_cons_of_mem _ hx))
  exact key ys _ ⟨⟨Int.le_refl _, by decide⟩, ⟨Int.le_refl _, by decide⟩⟩ h
theorem lev_in (t : Int) {ys : List C} (h : ∀ x ∈ ys, cB x = true) : 0 ≤ levP t ys ∧ levP t ys ≤ 32 := by
  have := reach_sane t ys h
  exact level_in _ _ this.1.1 this.1.2 this.2.1 this.2.2
theorem levV_in (zs : List C) (s : ByteArray) (t : Int) : 0 ≤ levV zs s t ∧ levV zs s t ≤ 32 := lev_in t (only_all zs [s])
end Go.Proofs.YtdkihpnckkfneaaGreat.Fe9
