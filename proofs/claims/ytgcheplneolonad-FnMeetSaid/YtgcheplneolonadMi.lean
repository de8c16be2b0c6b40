/- The ticks at which two drops meet, of the program. -/
import Derived.Test.YtgcheplneolonadMt
import Derived.Test.YtgcheplneolonadJb
import Derived.Test.YtgcheplneolonadBk
import Derived.Test.YtgcheplneolonadInts
import Derived.Laws.AppendOwn
import Derived.Deep.DeepCutAuto
import Derived.Deep.CutBlock
namespace Go.Proofs.Ytgcheplneolonad.Dp
open Go.RowKit Go.Proofs.Ytgcheplneolonad.Cx Go.Proofs.Ytgcheplneolonad.Cm Go.Proofs.Ytgcheplneolonad.Pl Go.Proofs.Ytgcheplneolonad.Str Go.Proofs.Ytgcheplneolonad.Pw Go.Proofs.Ytgcheplneolonad.P2 Go.Proofs.Ytgcheplneolonad.Hd Go.Proofs.Ytgcheplneolonad.Jt Go.Proofs.Ytgcheplneolonad.Dr4
open Go.Proofs.Ytgcheplneolonad.Mem (Rd ints ints_len below_drewN)
open Go.Proofs.Ytgcheplneolonad.Rw (owns_below owns_grown owns_base)
set_option linter.unusedVariables false
set_option linter.unusedSimpArgs false

theorem infoI : (Try.prog.info? 3).map (fun i => (i.zero, i.size, i.bytes)) = some (some (.int .i64 0), 1, 8) := by kernel_rfl
theorem ints_snoc (zs : List Int) (z : Int) : ints zs ++ [.int .i64 z] = ints (zs ++ [z]) := by simp [ints]
/-- A list of the call's own that holds these numbers. -/
def RowI (w : World) (zs : List Int) (e : Ending) (w' : World) : Prop :=
  ∃ g c, e = .returned (.slice (some ⟨g, 0, none⟩) zs.length c) ∧ w'.ownsRow w.heap.size 3 1 (.slice (some ⟨g, 0, none⟩) zs.length c) zs.length (ints zs) ∧ Below w.heap.size w w'
theorem own_mk {w : World} {base n : Nat} {v : Value} {xs : List Value} (h : w.ownsRow base 3 1 v (n + 1) xs) : ∃ g c, v = .slice (some ⟨g, 0, none⟩) (n + 1) c := by
  rcases h.2 with ⟨_, e⟩ | ⟨g, cap, cur, e, _⟩
  · omega
  · exact ⟨g, cap, e⟩
theorem own_base {w : World} {base n : Nat} {v : Value} {xs : List Value} (h : w.ownsRow base 3 1 v n xs) : ∀ k, v.ownBlock = some k → base ≤ k := fun k e => (h.lt k e).1
/-- A row is no drop. -/
theorem own_drop {w : World} {base n b : Nat} {v : Value} {xs : List Value} {X Y P Q H S : Int} (h : w.ownsRow base 3 1 v n xs) (k : Fly w b X Y P Q H S) : v.ownBlock ≠ some b := by
  obtain ⟨x, y, p, q, u, s, hD, _⟩ := k
  intro hb
  rcases h.2 with ⟨e1, _⟩ | ⟨g', cap, cur, e1, _, e3, _⟩
  · subst e1; cases hb
  · subst e1
    have hb : g' = b := Option.some.inj hb
    subst hb
    rw [show w.heap[g']? = _ from hD] at e3
    injection e3 with e3
    injection e3 with _ e3
    exact absurd e3 (by decide)

/-- The ticks at which two jets' drops meet. -/
def mv (x1 y1 h1 t1 l1 x2 y2 h2 t2 l2 : Int) : Nat → Bool := mb x1 y1 (tx h1.toNat t1 0) (ty h1.toNat t1 0) l1 x2 y2 (tx h2.toNat t2 0) (ty h2.toNat t2 0) l2
def mto (x1 y1 h1 t1 l1 x2 y2 h2 t2 l2 : Int) : List Int :=
  if jt x1 y1 h1 t1 l1 = true ∧ jt x2 y2 h2 t2 l2 = true then mts (mv x1 y1 h1 t1 l1 x2 y2 h2 t2 l2) ((min l1 l2).toNat + 2) else []

set_option maxHeartbeats 4000000 in
set_option maxRecDepth 100000 in
theorem meetI (x1 y1 h1 t1 l1 x2 y2 h2 t2 l2 : Int) (w : World) :
    Calls Try.prog 7 #[jv x1 y1 h1 t1 l1, jv x2 y2 h2 t2 l2] w (RowI w (mto x1 y1 h1 t1 l1 x2 y2 h2 t2 l2)) := by
  have hu : undef = Value.tuple #[] := rfl
  by_cases j1 : jt x1 y1 h1 t1 l1 = true
  · have C1 := Lib.hid (isJetI_of j1)
    by_cases j2 : jt x2 y2 h2 t2 l2 = true
    · have C2 := Lib.hid (isJetI_of j2)
      have D1 := Lib.hid (newDrop j1)
      have D2 := Lib.hid (newDrop j2)
      have K1 := Lib.hid (ok_of j1)
      have K2 := Lib.hid (ok_of j2)
      have hl1 := (jt_iff.1 j1).2.2.2.2
      have hl2 := (jt_iff.1 j2).2.2.2.2
      obtain ⟨N1, hN1⟩ : ∃ N : Nat, (N : Int) = l1 + 1 := ⟨(l1 + 1).toNat, by omega⟩
      obtain ⟨N2, hN2⟩ : ∃ N : Nat, (N : Int) = l2 + 1 := ⟨(l2 + 1).toNat, by omega⟩
      have F1 := flightI x1 y1 h1 t1 l1
      rw [fl_yes j1, ← hN1] at F1
      have F2 := flightI x2 y2 h2 t2 l2
      rw [fl_yes j2, ← hN2] at F2
      replace F1 := Lib.hid F1
      replace F2 := Lib.hid F2
      obtain ⟨T, hT⟩ : ∃ T : Nat, T = (min l1 l2).toNat + 1 := ⟨_, rfl⟩
      have M := Lib.hid (show mto x1 y1 h1 t1 l1 x2 y2 h2 t2 l2 = mts (mv x1 y1 h1 t1 l1 x2 y2 h2 t2 l2) (T + 1) by unfold mto; rw [if_pos ⟨j1, j2⟩, hT])
      have hTT : T ≤ 33 := by omega
      have hNT : (N2 < N1 ∧ T = N2) ∨ (N1 ≤ N2 ∧ T = N1) := by omega
      have hTl := Lib.hid (show (T : Int) ≤ l1 + 1 ∧ (T : Int) ≤ l2 + 1 by omega)
      clear hN1 hN2 hT hl1 hl2 j1 j2
      obtain ⟨i0, hi, hz0, hz1, hz2⟩ := info_parts infoI
      go_enter Try.func7, Try.ntmps7
      go_wp2_with fail
      refine (C1.out _).mono ?_
      rintro e w' ⟨rfl, rfl⟩
      go_wp2_with fail
      refine (C2.out _).mono ?_
      rintro e w' ⟨rfl, rfl⟩
      have BA := Lib.hid (show Below w.heap.size w (((((w.alloc (.cells (jc x1 y1 h1 t1 l1) 27)).alloc (.cells (jc x2 y2 h2 t2 l2) 27)).alloc (.cells #[] 3)).alloc (.cells (jc x1 y1 h1 t1 l1) 27)).alloc (.cells (jc x2 y2 h2 t2 l2) 27)) from by go_grown)
      have JA := Lib.hid ((((JB.new w x1 y1 h1 t1 l1).alloc (.cells (jc x2 y2 h2 t2 l2) 27)).alloc (.cells #[] 3)).alloc (.cells (jc x1 y1 h1 t1 l1) 27) |>.alloc (.cells (jc x2 y2 h2 t2 l2) 27))
      have JJ := Lib.hid ((((show JB ((w.alloc (.cells (jc x1 y1 h1 t1 l1) 27)).alloc (.cells (jc x2 y2 h2 t2 l2) 27)) (w.heap.size + 1) x2 y2 h2 t2 l2 from by simpa using JB.new (w.alloc (.cells (jc x1 y1 h1 t1 l1) 27)) x2 y2 h2 t2 l2).alloc (.cells #[] 3)).alloc (.cells (jc x1 y1 h1 t1 l1) 27)).alloc (.cells (jc x2 y2 h2 t2 l2) 27))
      have R0 := Lib.hid (((World.ownsRow_lit (base := w.heap.size) (e := 3) (size := 1) ((w.alloc (.cells (jc x1 y1 h1 t1 l1) 27)).alloc (.cells (jc x2 y2 h2 t2 l2) 27)) #[] 0 (by simp; omega) (Nat.zero_le _) rfl).alloc (.cells (jc x1 y1 h1 t1 l1) 27)).alloc (.cells (jc x2 y2 h2 t2 l2) 27))
      rw [show ((w.alloc (.cells (jc x1 y1 h1 t1 l1) 27)).alloc (.cells (jc x2 y2 h2 t2 l2) 27)).heap.size = w.heap.size + 1 + 1 by simp] at R0
      go_upto_region 4 with fail
      generalize (((((w.alloc (.cells (jc x1 y1 h1 t1 l1) 27)).alloc (.cells (jc x2 y2 h2 t2 l2) 27)).alloc (.cells #[] 3)).alloc (.cells (jc x1 y1 h1 t1 l1) 27)).alloc (.cells (jc x2 y2 h2 t2 l2) 27)) = W at *
      obtain ⟨a0, a1, a2, a3, a4⟩ := JA.out.c
      obtain ⟨b0, b1, b2, b3, b4⟩ := JJ.out.c
      refine wp_region_noPanic ?_
      refine wp_region_held_drew (S := (fun w' => w'.cell? ⟨w.heap.size, 0, none⟩ = some (.int .i64 x1) ∧ w'.cell? ⟨w.heap.size, 1, none⟩ = some (.int .i64 y1) ∧ w'.cell? ⟨w.heap.size, 2, none⟩ = some (.int .i64 h1) ∧ w'.cell? ⟨w.heap.size, 3, none⟩ = some (.int .i64 t1) ∧ w'.cell? ⟨w.heap.size, 4, none⟩ = some (.int .i64 l1) ∧ w'.cell? ⟨w.heap.size + 1, 0, none⟩ = some (.int .i64 x2) ∧ w'.cell? ⟨w.heap.size + 1, 1, none⟩ = some (.int .i64 y2) ∧ w'.cell? ⟨w.heap.size + 1, 2, none⟩ = some (.int .i64 h2) ∧ w'.cell? ⟨w.heap.size + 1, 3, none⟩ = some (.int .i64 t2) ∧ w'.cell? ⟨w.heap.size + 1, 4, none⟩ = some (.int .i64 l2) ∧ Below W.heap.size W w')) (by kernel_rfl) ?_ (fun hH => ?_)
      · exact ⟨a0, a1, a2, a3, a4, b0, b1, b2, b3, b4, (Below.refl _ _).drew⟩
      refine wpAnyH_take (i := 0) (oi := { dst := some 19, op := _, type := _, pos := _, after := _, guard := _ }) (v := ?_) rfl (by kernel_rfl) (by kernel_rfl) (by kernel_rfl) (fun _ _ _ h => h) (Or.inl ⟨by rfl, ?_⟩) hH ?_
      rotate_left 1
      · intro W hSw
        (try dsimp only at hSw)
        go_simp
        (try with_reducible rfl)
      try simp only [Act.put, List.setIfInBounds_toArray, List.set_cons_zero, List.set_cons_succ]
      refine wpAnyH_take (i := 2) (oi := { dst := some 21, op := _, type := _, pos := _, after := _, guard := _ }) (v := ?_) rfl (by kernel_rfl) (by kernel_rfl) (by kernel_rfl) (fun _ _ _ h => h) (Or.inl ⟨by rfl, ?_⟩) hH ?_
      rotate_left 1
      · intro W hSw
        (try dsimp only at hSw)
        go_simp
        (try with_reducible rfl)
      try simp only [Act.put, List.setIfInBounds_toArray, List.set_cons_zero, List.set_cons_succ]
      refine wpAnyH_ready (rs := [1]) (by kernel_rfl) (by simp) (AllReadyH.cons rfl (fun K hK => ?_) AllReadyH.nil)
      go_simp
      go_at_call 31; ((with_reducible refine (D1.out _).mono ?_); rintro e v1 ⟨d, rfl, hdb, hA, hb⟩); have HA1 := Lib.hid hA; have hd1 := Lib.hid hdb; have hlt1 := Lib.hid hA.lt; go_wp2_with fail
      refine hK.out _ _ ?_ (fun hG => ?_)
      · exact ⟨cell_below hb hH.1, cell_below hb hH.2.1, cell_below hb hH.2.2.1, cell_below hb hH.2.2.2.1, cell_below hb hH.2.2.2.2.1, cell_below hb hH.2.2.2.2.2.1, cell_below hb hH.2.2.2.2.2.2.1, cell_below hb hH.2.2.2.2.2.2.2.1, cell_below hb hH.2.2.2.2.2.2.2.2.1, cell_below hb hH.2.2.2.2.2.2.2.2.2.1, hH.2.2.2.2.2.2.2.2.2.2.trans (hb.mono hH.2.2.2.2.2.2.2.2.2.2.size)⟩
      replace hH := hG
      clear hK K hG
      try simp only [Act.put, List.setIfInBounds_toArray, List.set_cons_zero, List.set_cons_succ]
      refine wpAnyH_ready (rs := [3]) (by kernel_rfl) (by simp) (AllReadyH.cons rfl (fun K hK => ?_) AllReadyH.nil)
      go_simp
      go_at_call 31; ((with_reducible refine (D2.out _).mono ?_); rintro e v2 ⟨g, rfl, hgb, hA2, hb⟩); have HA2 := Lib.hid hA2; have HA1b := Lib.hid (Fly.below HA1.out hb); have hd2 := Lib.hid (show d < g from Nat.lt_of_lt_of_le hlt1.out hgb); go_wp2_with fail
      refine hK.out _ _ ?_ (fun hG => ?_)
      · exact ⟨cell_below hb hH.1, cell_below hb hH.2.1, cell_below hb hH.2.2.1, cell_below hb hH.2.2.2.1, cell_below hb hH.2.2.2.2.1, cell_below hb hH.2.2.2.2.2.1, cell_below hb hH.2.2.2.2.2.2.1, cell_below hb hH.2.2.2.2.2.2.2.1, cell_below hb hH.2.2.2.2.2.2.2.2.1, cell_below hb hH.2.2.2.2.2.2.2.2.2.1, hH.2.2.2.2.2.2.2.2.2.2.trans (hb.mono hH.2.2.2.2.2.2.2.2.2.2.size)⟩
      replace hH := hG
      clear hK K hG
      try simp only [Act.put, List.setIfInBounds_toArray, List.set_cons_zero, List.set_cons_succ]
      refine wpAnyH_take (i := 4) (oi := { dst := some 6, op := _, type := _, pos := _, after := _, guard := _ }) (v := ?_) rfl (by kernel_rfl) (by kernel_rfl) (by kernel_rfl) (fun _ _ _ h => h) (Or.inl ⟨by rfl, ?_⟩) hH ?_
      rotate_left 1
      · intro W hSw
        (try dsimp only at hSw)
        go_simp
        (try with_reducible rfl)
      try simp only [Act.put, List.setIfInBounds_toArray, List.set_cons_zero, List.set_cons_succ]
      refine wpAnyH_take (i := 5) (oi := { dst := some 7, op := _, type := _, pos := _, after := _, guard := _ }) (v := ?_) rfl (by kernel_rfl) (by kernel_rfl) (by kernel_rfl) (fun _ _ _ h => h) (Or.inl ⟨by rfl, ?_⟩) hH ?_
      rotate_left 1
      · intro W hSw
        (try dsimp only at hSw)
        go_simp
        (try with_reducible rfl)
      try simp only [Act.put, List.setIfInBounds_toArray, List.set_cons_zero, List.set_cons_succ]
      refine wpAnyH_done (by kernel_rfl) ?_ _
      refine NoPanic.normal ?_
      have BW := Lib.hid (BA.out.trans (hH.2.2.2.2.2.2.2.2.2.2.mono BA.out.size))
      have RW := Lib.hid (owns_below R0.out hH.2.2.2.2.2.2.2.2.2.2)
      have JA2 := Lib.hid (JA.out.below hH.2.2.2.2.2.2.2.2.2.2)
      have JJ2 := Lib.hid (JJ.out.below hH.2.2.2.2.2.2.2.2.2.2)
      have hdw := Lib.hid (show w.heap.size ≤ d from Nat.le_trans BA.out.size hd1.out)
      clear hH HA1 hb hgb hA hA2 hdb JA JJ R0 BA a0 a1 a2 a3 a4 b0 b1 b2 b3 b4 hd1 hlt1 D1 D2 C1 C2
      go_upto_region 5 with fail
      obtain ⟨a0, a1, a2, a3, a4⟩ := JA2.out.c
      obtain ⟨b0, b1, b2, b3, b4⟩ := JJ2.out.c
      have e5 : IntKind.i64.wrap ((T : Int) + 1) = (T : Int) + 1 := IntWalk.i64_in _ (by omega)
      go_cut [28, 29] (fun v u wx => v = .int .i64 ((T : Int) + 1) ∧ u = .int .i64 0 ∧ Hid (Below v2.heap.size v2 wx))
      case first =>
        rcases hNT with ⟨hN, rfl⟩ | ⟨hN, rfl⟩
        · have q1 : decide ((T : Int) < (N1 : Int)) = true := decide_eq_true (by omega)
          have q2 : (T : Int) < (N1 : Int) := by omega
          clear hN
          refine wp_region_noPanic ?_
          refine wp_region_held_drew (S := (fun w' => w'.cell? ⟨w.heap.size, 0, none⟩ = some (.int .i64 x1) ∧ w'.cell? ⟨w.heap.size, 1, none⟩ = some (.int .i64 y1) ∧ w'.cell? ⟨w.heap.size, 2, none⟩ = some (.int .i64 h1) ∧ w'.cell? ⟨w.heap.size, 3, none⟩ = some (.int .i64 t1) ∧ w'.cell? ⟨w.heap.size, 4, none⟩ = some (.int .i64 l1) ∧ w'.cell? ⟨w.heap.size + 1, 0, none⟩ = some (.int .i64 x2) ∧ w'.cell? ⟨w.heap.size + 1, 1, none⟩ = some (.int .i64 y2) ∧ w'.cell? ⟨w.heap.size + 1, 2, none⟩ = some (.int .i64 h2) ∧ w'.cell? ⟨w.heap.size + 1, 3, none⟩ = some (.int .i64 t2) ∧ w'.cell? ⟨w.heap.size + 1, 4, none⟩ = some (.int .i64 l2) ∧ Below v2.heap.size v2 w')) (by kernel_rfl) ?_ (fun hH => ?_)
          · exact ⟨a0, a1, a2, a3, a4, b0, b1, b2, b3, b4, (Below.refl _ _).drew⟩
          refine wpAnyH_take (i := 0) (oi := { dst := some 23, op := _, type := _, pos := _, after := _, guard := _ }) (v := ?_) rfl (by kernel_rfl) (by kernel_rfl) (by kernel_rfl) (fun _ _ _ h => h) (Or.inl ⟨by rfl, ?_⟩) hH ?_
          rotate_left 1
          · intro W hSw
            (try dsimp only at hSw)
            go_simp
            (try with_reducible rfl)
          try simp only [Act.put, List.setIfInBounds_toArray, List.set_cons_zero, List.set_cons_succ]
          refine wpAnyH_take (i := 2) (oi := { dst := some 25, op := _, type := _, pos := _, after := _, guard := _ }) (v := ?_) rfl (by kernel_rfl) (by kernel_rfl) (by kernel_rfl) (fun _ _ _ h => h) (Or.inl ⟨by rfl, ?_⟩) hH ?_
          rotate_left 1
          · intro W hSw
            (try dsimp only at hSw)
            go_simp
            (try with_reducible rfl)
          try simp only [Act.put, List.setIfInBounds_toArray, List.set_cons_zero, List.set_cons_succ]
          refine wpAnyH_take (i := 6) (oi := { dst := some 29, op := _, type := _, pos := _, after := _, guard := _ }) (v := ?_) rfl (by kernel_rfl) (by kernel_rfl) (by kernel_rfl) (fun _ _ _ h => h) (Or.inl ⟨by rfl, ?_⟩) hH ?_
          rotate_left 1
          · intro W hSw
            (try dsimp only at hSw)
            go_simp
            (try with_reducible rfl)
          try simp only [Act.put, List.setIfInBounds_toArray, List.set_cons_zero, List.set_cons_succ]
          refine wpAnyH_ready (rs := [1]) (by kernel_rfl) (by simp) (AllReadyH.cons rfl (fun K hK => ?_) AllReadyH.nil)
          go_simp
          go_at_call 13; ((with_reducible refine (F1.out _).mono ?_); rintro e v3 ⟨rfl, hb⟩); go_wp2_with fail
          refine hK.out _ _ ?_ (fun hG => ?_)
          · exact ⟨cell_below hb hH.1, cell_below hb hH.2.1, cell_below hb hH.2.2.1, cell_below hb hH.2.2.2.1, cell_below hb hH.2.2.2.2.1, cell_below hb hH.2.2.2.2.2.1, cell_below hb hH.2.2.2.2.2.2.1, cell_below hb hH.2.2.2.2.2.2.2.1, cell_below hb hH.2.2.2.2.2.2.2.2.1, cell_below hb hH.2.2.2.2.2.2.2.2.2.1, hH.2.2.2.2.2.2.2.2.2.2.trans (hb.mono hH.2.2.2.2.2.2.2.2.2.2.size)⟩
          replace hH := hG
          clear hK K hG
          try simp only [Act.put, List.setIfInBounds_toArray, List.set_cons_zero, List.set_cons_succ]
          refine wpAnyH_ready (rs := [3]) (by kernel_rfl) (by simp) (AllReadyH.cons rfl (fun K hK => ?_) AllReadyH.nil)
          go_simp
          go_at_call 13; ((with_reducible refine (F2.out _).mono ?_); rintro e v4 ⟨rfl, hb⟩); go_wp2_with fail
          refine hK.out _ _ ?_ (fun hG => ?_)
          · exact ⟨cell_below hb hH.1, cell_below hb hH.2.1, cell_below hb hH.2.2.1, cell_below hb hH.2.2.2.1, cell_below hb hH.2.2.2.2.1, cell_below hb hH.2.2.2.2.2.1, cell_below hb hH.2.2.2.2.2.2.1, cell_below hb hH.2.2.2.2.2.2.2.1, cell_below hb hH.2.2.2.2.2.2.2.2.1, cell_below hb hH.2.2.2.2.2.2.2.2.2.1, hH.2.2.2.2.2.2.2.2.2.2.trans (hb.mono hH.2.2.2.2.2.2.2.2.2.2.size)⟩
          replace hH := hG
          clear hK K hG
          try simp only [Act.put, List.setIfInBounds_toArray, List.set_cons_zero, List.set_cons_succ]
          refine wpAnyH_take (i := 4) (oi := { dst := some 27, op := _, type := _, pos := _, after := _, guard := _ }) (v := ?_) rfl (by kernel_rfl) (by kernel_rfl) (by kernel_rfl) (fun _ _ _ h => h) (Or.inl ⟨by rfl, ?_⟩) hH ?_
          rotate_left 1
          · intro W hSw
            (try dsimp only at hSw)
            go_simp
            (try with_reducible rfl)
          try simp only [Act.put, List.setIfInBounds_toArray, List.set_cons_zero, List.set_cons_succ]
          refine wpAnyH_take (i := 5) (oi := { dst := some 28, op := _, type := _, pos := _, after := _, guard := _ }) (v := ?_) rfl (by kernel_rfl) (by kernel_rfl) (by kernel_rfl) (fun _ _ _ h => h) (Or.inl ⟨by rfl, ?_⟩) hH ?_
          rotate_left 1
          · intro W hSw
            (try dsimp only at hSw)
            go_simp
            (try with_reducible rfl)
          try simp only [Act.put, List.setIfInBounds_toArray, List.set_cons_zero, List.set_cons_succ]
          refine wpAnyH_done (by kernel_rfl) ?_ _
          refine NoPanic.normal ?_
          have BF := Lib.hid hH.2.2.2.2.2.2.2.2.2.2
          clear hH
          go_wp2_with fail
          go_meet
          exact ⟨rfl, rfl, BF⟩
        · have q1 : decide ((N2 : Int) < (T : Int)) = false := decide_eq_false (by omega)
          have q2 : ¬ (N2 : Int) < (T : Int) := by omega
          clear hN
          refine wp_region_noPanic ?_
          refine wp_region_held_drew (S := (fun w' => w'.cell? ⟨w.heap.size, 0, none⟩ = some (.int .i64 x1) ∧ w'.cell? ⟨w.heap.size, 1, none⟩ = some (.int .i64 y1) ∧ w'.cell? ⟨w.heap.size, 2, none⟩ = some (.int .i64 h1) ∧ w'.cell? ⟨w.heap.size, 3, none⟩ = some (.int .i64 t1) ∧ w'.cell? ⟨w.heap.size, 4, none⟩ = some (.int .i64 l1) ∧ w'.cell? ⟨w.heap.size + 1, 0, none⟩ = some (.int .i64 x2) ∧ w'.cell? ⟨w.heap.size + 1, 1, none⟩ = some (.int .i64 y2) ∧ w'.cell? ⟨w.heap.size + 1, 2, none⟩ = some (.int .i64 h2) ∧ w'.cell? ⟨w.heap.size + 1, 3, none⟩ = some (.int .i64 t2) ∧ w'.cell? ⟨w.heap.size + 1, 4, none⟩ = some (.int .i64 l2) ∧ Below v2.heap.size v2 w')) (by kernel_rfl) ?_ (fun hH => ?_)
          · exact ⟨a0, a1, a2, a3, a4, b0, b1, b2, b3, b4, (Below.refl _ _).drew⟩
          refine wpAnyH_take (i := 0) (oi := { dst := some 23, op := _, type := _, pos := _, after := _, guard := _ }) (v := ?_) rfl (by kernel_rfl) (by kernel_rfl) (by kernel_rfl) (fun _ _ _ h => h) (Or.inl ⟨by rfl, ?_⟩) hH ?_
          rotate_left 1
          · intro W hSw
            (try dsimp only at hSw)
            go_simp
            (try with_reducible rfl)
          try simp only [Act.put, List.setIfInBounds_toArray, List.set_cons_zero, List.set_cons_succ]
          refine wpAnyH_take (i := 2) (oi := { dst := some 25, op := _, type := _, pos := _, after := _, guard := _ }) (v := ?_) rfl (by kernel_rfl) (by kernel_rfl) (by kernel_rfl) (fun _ _ _ h => h) (Or.inl ⟨by rfl, ?_⟩) hH ?_
          rotate_left 1
          · intro W hSw
            (try dsimp only at hSw)
            go_simp
            (try with_reducible rfl)
          try simp only [Act.put, List.setIfInBounds_toArray, List.set_cons_zero, List.set_cons_succ]
          refine wpAnyH_take (i := 6) (oi := { dst := some 29, op := _, type := _, pos := _, after := _, guard := _ }) (v := ?_) rfl (by kernel_rfl) (by kernel_rfl) (by kernel_rfl) (fun _ _ _ h => h) (Or.inl ⟨by rfl, ?_⟩) hH ?_
          rotate_left 1
          · intro W hSw
            (try dsimp only at hSw)
            go_simp
            (try with_reducible rfl)
          try simp only [Act.put, List.setIfInBounds_toArray, List.set_cons_zero, List.set_cons_succ]
          refine wpAnyH_ready (rs := [1]) (by kernel_rfl) (by simp) (AllReadyH.cons rfl (fun K hK => ?_) AllReadyH.nil)
          go_simp
          go_at_call 13; ((with_reducible refine (F1.out _).mono ?_); rintro e v3 ⟨rfl, hb⟩); go_wp2_with fail
          refine hK.out _ _ ?_ (fun hG => ?_)
          · exact ⟨cell_below hb hH.1, cell_below hb hH.2.1, cell_below hb hH.2.2.1, cell_below hb hH.2.2.2.1, cell_below hb hH.2.2.2.2.1, cell_below hb hH.2.2.2.2.2.1, cell_below hb hH.2.2.2.2.2.2.1, cell_below hb hH.2.2.2.2.2.2.2.1, cell_below hb hH.2.2.2.2.2.2.2.2.1, cell_below hb hH.2.2.2.2.2.2.2.2.2.1, hH.2.2.2.2.2.2.2.2.2.2.trans (hb.mono hH.2.2.2.2.2.2.2.2.2.2.size)⟩
          replace hH := hG
          clear hK K hG
          try simp only [Act.put, List.setIfInBounds_toArray, List.set_cons_zero, List.set_cons_succ]
          refine wpAnyH_ready (rs := [3]) (by kernel_rfl) (by simp) (AllReadyH.cons rfl (fun K hK => ?_) AllReadyH.nil)
          go_simp
          go_at_call 13; ((with_reducible refine (F2.out _).mono ?_); rintro e v4 ⟨rfl, hb⟩); go_wp2_with fail
          refine hK.out _ _ ?_ (fun hG => ?_)
          · exact ⟨cell_below hb hH.1, cell_below hb hH.2.1, cell_below hb hH.2.2.1, cell_below hb hH.2.2.2.1, cell_below hb hH.2.2.2.2.1, cell_below hb hH.2.2.2.2.2.1, cell_below hb hH.2.2.2.2.2.2.1, cell_below hb hH.2.2.2.2.2.2.2.1, cell_below hb hH.2.2.2.2.2.2.2.2.1, cell_below hb hH.2.2.2.2.2.2.2.2.2.1, hH.2.2.2.2.2.2.2.2.2.2.trans (hb.mono hH.2.2.2.2.2.2.2.2.2.2.size)⟩
          replace hH := hG
          clear hK K hG
          try simp only [Act.put, List.setIfInBounds_toArray, List.set_cons_zero, List.set_cons_succ]
          refine wpAnyH_take (i := 4) (oi := { dst := some 27, op := _, type := _, pos := _, after := _, guard := _ }) (v := ?_) rfl (by kernel_rfl) (by kernel_rfl) (by kernel_rfl) (fun _ _ _ h => h) (Or.inl ⟨by rfl, ?_⟩) hH ?_
          rotate_left 1
          · intro W hSw
            (try dsimp only at hSw)
            go_simp
            (try with_reducible rfl)
          try simp only [Act.put, List.setIfInBounds_toArray, List.set_cons_zero, List.set_cons_succ]
          refine wpAnyH_take (i := 5) (oi := { dst := some 28, op := _, type := _, pos := _, after := _, guard := _ }) (v := ?_) rfl (by kernel_rfl) (by kernel_rfl) (by kernel_rfl) (fun _ _ _ h => h) (Or.inl ⟨by rfl, ?_⟩) hH ?_
          rotate_left 1
          · intro W hSw
            (try dsimp only at hSw)
            go_simp
            (try with_reducible rfl)
          try simp only [Act.put, List.setIfInBounds_toArray, List.set_cons_zero, List.set_cons_succ]
          refine wpAnyH_done (by kernel_rfl) ?_ _
          refine NoPanic.normal ?_
          have BF := Lib.hid hH.2.2.2.2.2.2.2.2.2.2
          clear hH
          go_wp2_with fail
          go_meet
          exact ⟨rfl, rfl, BF⟩
      case rest =>
        obtain ⟨rfl, rfl, BC⟩ := hcut
        have RC := Lib.hid (owns_base (owns_below RW.out BC.out) (show w.heap.size ≤ w.heap.size + 1 + 1 by omega))
        have HA1 := Lib.hid (Fly.below HA1b.out BC.out)
        have HA3 := Lib.hid (Fly.below HA2.out BC.out)
        have BD := Lib.hid (BW.out.trans (BC.out.mono BW.out.size))
        have hgw := Lib.hid (show w.heap.size ≤ g by have := hd2.out; have := hdw.out; omega)
        clear e5 a0 a1 a2 a3 a4 b0 b1 b2 b3 b4 JA2 JJ2 RW HA1b HA2 BW BC F1 F2 hNT
        go_wp2_with fail
        obtain ⟨f, hf⟩ : ∃ f, mv x1 y1 h1 t1 l1 x2 y2 h2 t2 l2 = f := ⟨_, rfl⟩
        have FH := Lib.hid hf
        rw [hf] at M
        clear hf
        go_loopw [5, 29] (fun v i wr => ∃ k q : Nat, k ≤ T + 1 ∧ i = .int .i64 k ∧ (∃ b c, v = .slice (some ⟨b, 0, none⟩) q c) ∧ Hid ((mts f k).length = q) ∧ Hid (wr.ownsRow w.heap.size 3 1 v q (ints (mts f k))) ∧ Hid (At wr d x1 y1 (tx h1.toNat t1 0) (ty h1.toNat t1 0) l1 k) ∧ Hid (At wr g x2 y2 (tx h2.toNat t2 0) (ty h2.toNat t2 0) l2 k) ∧ Hid (Below w.heap.size w wr)) (fun _ i _ => T + 1 - (intOf i).toNat)
        case atStart => exact ⟨0, 0, by omega, rfl, ⟨_, _, rfl⟩, Lib.hid rfl, RC, HA1, HA3, BD⟩
        case round =>
          clear RC HA1 HA3 BD
          obtain ⟨k, q, hk, rfl, ⟨gr, cc, rfl⟩, QL, RK, HA, HB, BK⟩ := hrel
          by_cases hlt : k < T + 1
          · have hq : q ≤ 33 := by have := mts_len f k; have := QL.out; omega
            have hkk := hTl.out
            have u1 := wy_le (k := k) K1.out.x K1.out.p (by omega)
            have u2 := wy_le (k := k) K1.out.y K1.out.q (by omega)
            have u3 := wy_le (k := k) K2.out.x K2.out.p (by omega)
            have u4 := wy_le (k := k) K2.out.y K2.out.q (by omega)
            have u5 := hg_le (l := l1) (k := k) (by omega) K1.out.l.2
            have u6 := hg_le (l := l2) (k := k) (by omega) K2.out.l.2
            have u7 := hg_nonneg (l := l1) (k := k) (by omega)
            have u8 := hg_nonneg (l := l2) (k := k) (by omega)
            have ME := Lib.hid (show Calls Try.prog 32 #[.pointer (some ⟨d, 0, none⟩), .pointer (some ⟨g, 0, none⟩)] wr (Told (f k) wr) from by
              have := meets HA.out HB.out (by omega) (by omega) (by omega) (by omega) (by omega) (by omega)
              rw [← FH.out]; exact this)
            have TK1 := Lib.hid (fun (W : World) (h : At W d x1 y1 (tx h1.toNat t1 0) (ty h1.toNat t1 0) l1 k) => At.tick K1.out h (by omega))
            have TK2 := Lib.hid (fun (W : World) (h : At W g x2 y2 (tx h2.toNat t2 0) (ty h2.toNat t2 0) l2 k) => At.tick K2.out h (by omega))
            have kd : decide ((k : Int) < (T : Int) + 1) = true := decide_eq_true (by omega)
            clear u1 u2 u3 u4 u5 u6 u7 u8 hkk
            obtain ⟨b9, hb9⟩ : ∃ b, f k = b := ⟨_, rfl⟩
            rw [hb9] at ME
            have MS := Lib.hid hb9
            clear hb9
            go_wp2_with fail
            refine ME.out.mono ?_
            rintro e v5 ⟨rfl, m, hm⟩
            have hb := hm.symm ▸ below_drewN (Below.refl wr.heap.size wr) m
            have RK5 := Lib.hid (owns_below RK.out hb)
            have HA5 := Lib.hid (Fly.below HA.out hb)
            have HB5 := Lib.hid (Fly.below HB.out hb)
            have BK5 := Lib.hid (BK.out.trans (hb.mono BK.out.size))
            clear hm hb RK HA HB BK ME
            cases b9
            · have RK6 := Lib.hid (show v5.ownsRow w.heap.size 3 1 (.slice (some ⟨gr, 0, none⟩) q cc) q (ints (mts f (k + 1))) by rw [mts_no MS.out]; exact RK5.out)
              have QL6 := Lib.hid (show (mts f (k + 1)).length = q by rw [mts_no MS.out]; exact QL.out)
              clear RK5 QL
              go_wp2_with fail
              refine (TK1.out _ HA5.out).mono ?_
              rintro e v6 ⟨rfl, hA, hg⟩
              have HA7 := Lib.hid hA
              have HB7 := Lib.hid (Fly.grown HB5.out hg (by intro e; injection e with e; have := hd2.out; omega))
              have RK7 := Lib.hid (owns_grown RK6.out hg (fun i hi e => own_drop RK6.out HA5.out (hi.trans e.symm)))
              have BK7 := Lib.hid (BK5.out.grown hg BK5.out.size (fun i hi => by cases hi; exact hdw.out))
              clear hA hg HA5 HB5 RK6 BK5
              go_wp2_with fail
              refine (TK2.out _ HB7.out).mono ?_
              rintro e v8 ⟨rfl, hB, hg⟩
              have HB8 := Lib.hid hB
              have HA8 := Lib.hid (Fly.grown HA7.out hg (by intro e; injection e with e; have := hd2.out; omega))
              have RK8 := Lib.hid (owns_grown RK7.out hg (fun i hi e => own_drop RK7.out HB7.out (hi.trans e.symm)))
              have BK8 := Lib.hid (BK7.out.grown hg BK7.out.size (fun i hi => by cases hi; exact hgw.out))
              clear hB hg HA7 HB7 RK7 BK7
              go_wp2_with fail
              go_roundw
              case rel => exact ⟨k + 1, q, by omega, by go_num, ⟨_, _, rfl⟩, QL6, RK8, HA8, HB8, BK8⟩
              case measure => simp [intOf]; omega
            · have hown := RK5.out.alloc
              have HW := Lib.hid BK5.out.size
              go_wp2_with (at_builtin; refine wpList_append_own _ rfl _ _ 30 rfl w.heap.size 3 i0 (.int .i64 0) 1 8 Try.underlying30 hi hz0 hz1 hz2 rfl (by decide) _ _ _ rfl (hown _) ⟨v5.heap.size, 0, none⟩ 1 1 [.int .i64 (k : Int)] rfl rfl (by intro j u hj; match j, hj with | 0, hj => simp at hj; subst hj; simp [Addr.add]) (by intro u hu; simp at hu; subst hu; rfl) (by unfold maxLen; omega) (by omega) (by have := HW.out; simp; omega) ?_; intro v' w6 hown' hgrow hnil)
              have ZE := mts_yes MS.out
              rw [ints_snoc, ← ZE] at hown'
              obtain ⟨g5, c5, rfl⟩ := own_mk hown'
              have RK6 := Lib.hid hown'
              have QL6 := Lib.hid (show (mts f (k + 1)).length = q + 1 by rw [ZE, List.length_append, QL.out]; rfl)
              have HA6 := Lib.hid (Fly.grown (Fly.below HA5.out ((Below.refl _ _).alloc (Nat.le_refl _) (.cells #[.int .i64 (k : Int)] 3))) hgrow (fun e => own_drop RK5.out HA5.out e.symm))
              have HB6 := Lib.hid (Fly.grown (Fly.below HB5.out ((Below.refl _ _).alloc (Nat.le_refl _) (.cells #[.int .i64 (k : Int)] 3))) hgrow (fun e => own_drop RK5.out HB5.out e.symm))
              have BK6 := Lib.hid ((BK5.out.alloc BK5.out.size (.cells #[.int .i64 (k : Int)] 3)).grown hgrow (by have := HW.out; simp; omega) (fun j hj => own_base RK5.out j hj))
              clear hown' hgrow hnil hown RK5 HA5 HB5 BK5 HW QL ZE
              go_wp2_with fail
              refine (TK1.out _ HA6.out).mono ?_
              rintro e v7 ⟨rfl, hA, hg⟩
              have HA7 := Lib.hid hA
              have HB7 := Lib.hid (Fly.grown HB6.out hg (by intro e; injection e with e; have := hd2.out; omega))
              have RK7 := Lib.hid (owns_grown RK6.out hg (fun i hi e => own_drop RK6.out HA6.out (hi.trans e.symm)))
              have BK7 := Lib.hid (BK6.out.grown hg BK6.out.size (fun i hi => by cases hi; exact hdw.out))
              clear hA hg HA6 HB6 RK6 BK6
              go_wp2_with fail
              refine (TK2.out _ HB7.out).mono ?_
              rintro e v8 ⟨rfl, hB, hg⟩
              have HB8 := Lib.hid hB
              have HA8 := Lib.hid (Fly.grown HA7.out hg (by intro e; injection e with e; have := hd2.out; omega))
              have RK8 := Lib.hid (owns_grown RK7.out hg (fun i hi e => own_drop RK7.out HB7.out (hi.trans e.symm)))
              have BK8 := Lib.hid (BK7.out.grown hg BK7.out.size (fun i hi => by cases hi; exact hgw.out))
              clear hB hg HA7 HB7 RK7 BK7
              go_wp2_with fail
              go_roundw
              case rel => exact ⟨k + 1, q + 1, by omega, by go_num, ⟨_, _, rfl⟩, QL6, RK8, HA8, HB8, BK8⟩
              case measure => simp [intOf]; omega
          · obtain rfl : k = T + 1 := by omega
            have kd : decide (((T + 1 : Nat) : Int) < (T : Int) + 1) = false := decide_eq_false (by omega)
            go_wp2_with fail
            go_ret
            refine ⟨gr, cc, ?_, ?_, BK.out⟩
            · rw [M.out, QL.out]; rfl
            · rw [M.out, QL.out]; exact RK.out
    · have j2' : jt x2 y2 h2 t2 l2 = false := by simpa using j2
      have C2 := Lib.hid (isJetI_of j2')
      have M := Lib.hid (show mto x1 y1 h1 t1 l1 x2 y2 h2 t2 l2 = [] by unfold mto; rw [if_neg (fun c => j2 c.2)])
      clear j1 j2 j2'
      go_enter Try.func7, Try.ntmps7
      go_wp2_with fail
      refine (C1.out _).mono ?_
      rintro e w' ⟨rfl, rfl⟩
      go_wp2_with fail
      refine (C2.out _).mono ?_
      rintro e w' ⟨rfl, rfl⟩
      have BA := Lib.hid (show Below w.heap.size w (((((w.alloc (.cells (jc x1 y1 h1 t1 l1) 27)).alloc (.cells (jc x2 y2 h2 t2 l2) 27)).alloc (.cells #[] 3)).alloc (.cells (jc x1 y1 h1 t1 l1) 27)).alloc (.cells (jc x2 y2 h2 t2 l2) 27)) from by go_grown)
      have R0 := Lib.hid (((World.ownsRow_lit (base := w.heap.size) (e := 3) (size := 1) ((w.alloc (.cells (jc x1 y1 h1 t1 l1) 27)).alloc (.cells (jc x2 y2 h2 t2 l2) 27)) #[] 0 (by simp; omega) (Nat.zero_le _) rfl).alloc (.cells (jc x1 y1 h1 t1 l1) 27)).alloc (.cells (jc x2 y2 h2 t2 l2) 27))
      go_wp2_with fail
      go_ret
      rw [M.out]
      exact ⟨_, _, by simp, R0.out, BA.out⟩
  · have j1' : jt x1 y1 h1 t1 l1 = false := by simpa using j1
    have C1 := Lib.hid (isJetI_of j1')
    have M := Lib.hid (show mto x1 y1 h1 t1 l1 x2 y2 h2 t2 l2 = [] by unfold mto; rw [if_neg (fun c => j1 c.1)])
    clear j1 j1'
    go_enter Try.func7, Try.ntmps7
    go_wp2_with fail
    refine (C1.out _).mono ?_
    rintro e w' ⟨rfl, rfl⟩
    have BA := Lib.hid (show Below w.heap.size w ((((w.alloc (.cells (jc x1 y1 h1 t1 l1) 27)).alloc (.cells (jc x2 y2 h2 t2 l2) 27)).alloc (.cells #[] 3)).alloc (.cells (jc x1 y1 h1 t1 l1) 27)) from by go_grown)
    have R0 := Lib.hid ((World.ownsRow_lit (base := w.heap.size) (e := 3) (size := 1) ((w.alloc (.cells (jc x1 y1 h1 t1 l1) 27)).alloc (.cells (jc x2 y2 h2 t2 l2) 27)) #[] 0 (by simp; omega) (Nat.zero_le _) rfl).alloc (.cells (jc x1 y1 h1 t1 l1) 27))
    go_wp2_with fail
    go_ret
    rw [M.out]
    exact ⟨_, _, by simp, R0.out, BA.out⟩


end Go.Proofs.Ytgcheplneolonad.Dp
