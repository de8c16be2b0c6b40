/- The law FnDrifts holds at every input. The step from the walk to the row follows the guide's own template. -/
import Derived.Test.YtiblmcdfaoahfaaMem
import Derived.Test.YtiblmcdfaoahfaaWf
import Derived.Test.YtiblmcdfaoahfaaWg
import Derived.Test.YtiblmcdfaoahfaaDw
import Derived.Test.YtiblmcdfaoahfaaTakeC
namespace Go.Proofs.Ytiblmcdfaoahfaa.fnDrifts
open Go.ChangeShapes Go.WideShapes Go.ChangeAt Go.RowKit Go.WideMaps Go.WideElems Go.Proofs.Ytiblmcdfaoahfaa.Mem
open Go.ChangeMaps (open_string shut_string)
set_option linter.unusedVariables false
set_option linter.unusedSimpArgs false

theorem own : ownKnob Try.prog.godebug = none := by kernel_rfl
theorem laidOut : laidOutB Try.prog = true := by kernel_rfl

open Go.Proofs.Ytiblmcdfaoahfaa.Rw Go.Proofs.Ytiblmcdfaoahfaa.Bk Go.Proofs.Ytiblmcdfaoahfaa.Jt Go.Proofs.Ytiblmcdfaoahfaa.Str Go.Proofs.Ytiblmcdfaoahfaa.Pw Go.Proofs.Ytiblmcdfaoahfaa.P2 Go.Proofs.Ytiblmcdfaoahfaa.Gs Go.Proofs.Ytiblmcdfaoahfaa.Wm Go.Proofs.Ytiblmcdfaoahfaa.Wi Go.Proofs.Ytiblmcdfaoahfaa.Wa Go.Proofs.Ytiblmcdfaoahfaa.Wb Go.Proofs.Ytiblmcdfaoahfaa.Wc Go.Proofs.Ytiblmcdfaoahfaa.We Go.Proofs.Ytiblmcdfaoahfaa.Dw

theorem plusL (x y a b : Int) (hx : -100000 ≤ x ∧ x ≤ 100000) (hy : -100000 ≤ y ∧ y ≤ 100000) (ha : -100000 ≤ a ∧ a ≤ 100000) (hb : -100000 ≤ b ∧ b ≤ 100000) (w : World) :
    Calls Try.prog 18 #[.agg #[.int .i64 x, .int .i64 y], .agg #[.int .i64 a, .int .i64 b]] w fun e w' => e = .returned (.agg #[.int .i64 (x + a), .int .i64 (y + b)]) ∧ Below w.heap.size w w' := by
  have e1 : wrap64 (x + a) = x + a := IntWalk.wrap64_in _ (by omega)
  have e2 : wrap64 (y + b) = y + b := IntWalk.wrap64_in _ (by omega)
  clear hx hy ha hb
  go_enter Try.func18, Try.ntmps18
  go_wp2_with fail
  go_returns
  exact ⟨rfl, by go_grown⟩

theorem sum2_app (l m : List (Int × Int)) : sum2 (l ++ m) = plus (sum2 l) (sum2 m) := by
  have key : ∀ (m : List (Int × Int)) (p : Int × Int), m.foldl Wm.plus p = Wm.plus p (sum2 m) := by
    intro m
    induction m with
    | nil => intro p; simp [sum2, Wm.plus]
    | cons q m ih =>
      intro p
      unfold sum2
      rw [List.foldl_cons, List.foldl_cons, ih, ih (Wm.plus (0, 0) q)]
      simp [Wm.plus, Int.add_assoc]
  unfold sum2
  rw [List.foldl_append]
  exact key m _
theorem drs_app (zs : List G) (a m k : Nat) : drs zs a m ++ drs zs (a + m) k = drs zs a (m + k) := by
  induction k with
  | zero => simp [drs]
  | succ k ih => rw [← Nat.add_assoc, drs_snoc zs (a + m) k, drs_snoc zs a (m + k), ← List.append_assoc, ih, Nat.add_assoc]
theorem two_over {zs : List G} {a m k : Nat} : sum2 (drs zs a (m + k)) = ((sum2 (drs zs a m)).1 + (sum2 (drs zs (a + m) k)).1, (sum2 (drs zs a m)).2 + (sum2 (drs zs (a + m) k)).2) := by
  rw [← drs_app, sum2_app]; rfl
theorem one_over {zs : List G} {a : Nat} : sum2 (drs zs a 1) = dr zs (a : Int) := by simp [drs, sum2, Wm.plus]
theorem sum_all {zs : List G} (h : wd zs = true) (a m : Nat) (hm : m ≤ 128) : (-1024 ≤ (sum2 (drs zs a m)).1 ∧ (sum2 (drs zs a m)).1 ≤ 1024) ∧ (-1024 ≤ (sum2 (drs zs a m)).2 ∧ (sum2 (drs zs a m)).2 ≤ 1024) := by
  have := sum_near h a m m (Nat.le_refl _) hm
  rwa [drs_take (Nat.le_refl _)] at this

set_option maxHeartbeats 4000000 in
set_option maxRecDepth 100000 in
theorem walk (A : Option Addr) (n c : Nat) (bs : List UInt8) (hn : bs.length = n) (hm : n ≤ maxLen) (w : World) (hr : Rd w w.heap.size A (Draw.u8s bs)) :
    Calls Try.prog 3 #[.slice A n c] w fun e w' => e = .returned (.bool true) ∧ Below w.heap.size w w' := by
  have hu : undef = Value.tuple #[] := rfl
  by_cases hbig : (n : Int) ≤ 4096
  · have D := Lib.hid (drawWind w A n c bs hn (by omega) hr)
    clear hm
    go_enter Try.func3, Try.ntmps3
    go_wp2_with (go_at_call 15; go_enter Try.func15, Try.ntmps15)
    refine D.out.mono ?_
    rintro e u0 ⟨zs, q, gr, cc, a, d, hw, hl, hq, ha, hd, rfl, hR, hB⟩
    have BB := Lib.hid hB
    have RR := Lib.hid hR
    have CO := Lib.hid (fun (W : World) (a m : Nat) (hm : a + m ≤ 128) h1 => by have := driftOverI (some ⟨gr, 0, none⟩) q cc zs W.heap.size (a : Int) ((a : Int) + (m : Int)) W hl (by omega) (Nat.le_refl _) h1; rw [over_yes hw hm] at this; exact this)
    have CA := Lib.hid (fun (W : World) h1 => by have := driftAtI (some ⟨gr, 0, none⟩) q cc zs W.heap.size (a : Int) W hl (by omega) (Nat.le_refl _) h1; rw [dv_yes hw, ← one_over] at this; exact this)
    have SB := Lib.hid (fun (a m : Nat) (hm : m ≤ 128) => sum_all hw a m hm)
    clear D hbig hR hB hn hr hw hl
    go_wp2_with fail
    go_loopw [6] (fun i wr => ∃ k : Nat, k ≤ d + 1 ∧ i = .int .i64 ((a + k : Nat) : Int) ∧ Hid (Rd wr wr.heap.size (some ⟨gr, 0, none⟩) (gls zs)) ∧ Hid (Below w.heap.size w wr)) (fun i _ => (a + d + 1) - (intOf i).toNat)
    case atStart => exact ⟨0, by omega, rfl, RR, BB⟩
    case round =>
      obtain ⟨k, hk, rfl, RK, BK⟩ := hrel
      have hbs := BK.out.size
      obtain ⟨m, hm⟩ : ∃ m : Nat, m = a + k := ⟨_, rfl⟩
      rw [← hm]
      have HM := Lib.hid hm
      by_cases hlt : k ≤ d
      · have hmb : (m : Int) ≤ (a : Int) + (d : Int) := by omega
        have C1 := Lib.hid (fun W h1 => by have := CO.out W a k (by omega) h1; rw [show (a : Int) + (k : Int) = (m : Int) by omega] at this; exact this)
        have C2 := Lib.hid (fun W h1 => by have := CO.out W m (d - k) (by omega) h1; rw [show (m : Int) + ((d - k : Nat) : Int) = (a : Int) + (d : Int) by omega] at this; exact this)
        have C3 := Lib.hid (fun W h1 => by have := CO.out W a d (by omega) h1; rw [show d = k + (d - k) by omega, two_over, ← hm, show k + (d - k) = d by omega] at this; exact this)
        have b1 := SB.out a k (by omega)
        have b2 := SB.out m (d - k) (by omega)
        obtain ⟨⟨px, py⟩, hp⟩ : ∃ p, sum2 (drs zs a k) = p := ⟨_, rfl⟩
        obtain ⟨⟨qx, qy⟩, hq2⟩ : ∃ p, sum2 (drs zs m (d - k)) = p := ⟨_, rfl⟩
        rw [hp] at C1 C3 b1
        rw [hq2] at C2 C3 b2
        simp only at b1 b2
        have PL := Lib.hid (plusL px py qx qy (by omega) (by omega) (by omega) (by omega))
        clear hp hq2 b1 b2 hm RR BB
        go_wp2_with fail
        refine (C1.out _ RK.out).mono ?_
        rintro e u1 ⟨rfl, hb1⟩
        have B1 := Lib.hid (below_in BK.out hb1)
        have R1 := Lib.hid ((RK.out.below hb1).more hb1.size)
        clear hb1
        have Q1 := Bk.new u1 (pc px py) 28
        go_wp2_with fail
        refine (C2.out _ (rd_more R1.out)).mono ?_
        rintro e u2 ⟨rfl, hb2⟩
        have B2 := Lib.hid (below_in (B1.out.alloc B1.out.size _) hb2)
        have R2 := Lib.hid ((rd_more R1.out (o := (.cells (pc px py) 28))).below hb2 |>.more hb2.size)
        have P2 := Q1.below hb2
        have Q2 := Bk.new u2 (pc qx qy) 28
        clear hb2 Q1
        go_wp2_with fail
        refine (C3.out _ (rd_more R2.out)).mono ?_
        rintro e u3 ⟨rfl, hb3⟩
        have B3 := Lib.hid (below_in (B2.out.alloc B2.out.size _) hb3)
        have R3 := Lib.hid ((rd_more R2.out (o := (.cells (pc qx qy) 28))).below hb3 |>.more hb3.size)
        have P3 := (P2.alloc (o := .cells (pc qx qy) 28)).below hb3
        have Q3 := Q2.below hb3
        clear hb3 P2 Q2
        have z0 := P3.cell (i := 0) rfl
        have z1 := P3.cell (i := 1) rfl
        have z2 := Q3.cell (i := 0) rfl
        have z3 := Q3.cell (i := 1) rfl
        have l1 := P3.lt
        have l2 := Q3.lt
        have l3 : ∀ j, u1.heap.size < u3.heap.size + j := fun j => by omega
        have l4 : ∀ j, u2.heap.size < u3.heap.size + j := fun j => by omega
        go_wp2_with fail
        refine wp_region_noPanic ?_
        refine wp_region_held_drew (S := (fun w' => w'.cell? ⟨u1.heap.size, 0, none⟩ = some (.int .i64 px) ∧ w'.cell? ⟨u1.heap.size, 1, none⟩ = some (.int .i64 py) ∧ w'.cell? ⟨u2.heap.size, 0, none⟩ = some (.int .i64 qx) ∧ w'.cell? ⟨u2.heap.size, 1, none⟩ = some (.int .i64 qy) ∧ w'.cell? ⟨u3.heap.size, 0, none⟩ = some (.int .i64 (px + qx)) ∧ w'.cell? ⟨u3.heap.size, 1, none⟩ = some (.int .i64 (py + qy)))) (by kernel_rfl) ?_ (fun hH => ?_)
        · simp [go_sem, *]
        refine wpAnyH_take (i := 0) (oi := { dst := some 50, op := _, type := _, pos := _, after := _, guard := _ }) (v := ?_) rfl (by kernel_rfl) (by kernel_rfl) (by kernel_rfl) (fun _ _ _ h => h) (Or.inl ⟨by rfl, ?_⟩) hH ?_
        rotate_left 1
        · intro W hSw
          (try dsimp only at hSw)
          go_simp
          (try with_reducible rfl)
        try simp only [Act.put, List.setIfInBounds_toArray, List.set_cons_zero, List.set_cons_succ]
        refine wpAnyH_take (i := 1) (oi := { dst := some 51, op := _, type := _, pos := _, after := _, guard := _ }) (v := ?_) rfl (by kernel_rfl) (by kernel_rfl) (by kernel_rfl) (fun _ _ _ h => h) (Or.inl ⟨by rfl, ?_⟩) hH ?_
        rotate_left 1
        · intro W hSw
          (try dsimp only at hSw)
          go_simp
          (try with_reducible rfl)
        try simp only [Act.put, List.setIfInBounds_toArray, List.set_cons_zero, List.set_cons_succ]
        refine wpAnyH_take (i := 2) (oi := { dst := some 52, op := _, type := _, pos := _, after := _, guard := _ }) (v := ?_) rfl (by kernel_rfl) (by kernel_rfl) (by kernel_rfl) (fun _ _ _ h => h) (Or.inl ⟨by rfl, ?_⟩) hH ?_
        rotate_left 1
        · intro W hSw
          (try dsimp only at hSw)
          go_simp
          (try with_reducible rfl)
        try simp only [Act.put, List.setIfInBounds_toArray, List.set_cons_zero, List.set_cons_succ]
        refine wpAnyH_take (i := 3) (oi := { dst := some 53, op := _, type := _, pos := _, after := _, guard := _ }) (v := ?_) rfl (by kernel_rfl) (by kernel_rfl) (by kernel_rfl) (fun _ _ _ h => h) (Or.inl ⟨by rfl, ?_⟩) hH ?_
        rotate_left 1
        · intro W hSw
          (try dsimp only at hSw)
          go_simp
          (try with_reducible rfl)
        try simp only [Act.put, List.setIfInBounds_toArray, List.set_cons_zero, List.set_cons_succ]
        refine wpAnyH_take (i := 4) (oi := { dst := some 54, op := _, type := _, pos := _, after := _, guard := _ }) (v := ?_) rfl (by kernel_rfl) (by kernel_rfl) (by kernel_rfl) (fun _ _ _ h => h) (Or.inl ⟨by rfl, ?_⟩) hH ?_
        rotate_left 1
        · intro W hSw
          (try dsimp only at hSw)
          go_simp
          (try with_reducible rfl)
        try simp only [Act.put, List.setIfInBounds_toArray, List.set_cons_zero, List.set_cons_succ]
        refine wpAnyH_take (i := 5) (oi := { dst := some 55, op := _, type := _, pos := _, after := _, guard := _ }) (v := ?_) rfl (by kernel_rfl) (by kernel_rfl) (by kernel_rfl) (fun _ _ _ h => h) (Or.inl ⟨by rfl, ?_⟩) hH ?_
        rotate_left 1
        · intro W hSw
          (try dsimp only at hSw)
          go_simp
          (try with_reducible rfl)
        try simp only [Act.put, List.setIfInBounds_toArray, List.set_cons_zero, List.set_cons_succ]
        refine wpAnyH_take (i := 6) (oi := { dst := some 56, op := _, type := _, pos := _, after := _, guard := _ }) (v := ?_) rfl (by kernel_rfl) (by kernel_rfl) (by kernel_rfl) (fun _ _ _ h => h) (Or.inl ⟨by rfl, ?_⟩) hH ?_
        rotate_left 1
        · intro W hSw
          (try dsimp only at hSw)
          go_simp
          (try with_reducible rfl)
        try simp only [Act.put, List.setIfInBounds_toArray, List.set_cons_zero, List.set_cons_succ]
        refine wpAnyH_take (i := 7) (oi := { dst := some 57, op := _, type := _, pos := _, after := _, guard := _ }) (v := ?_) rfl (by kernel_rfl) (by kernel_rfl) (by kernel_rfl) (fun _ _ _ h => h) (Or.inl ⟨by rfl, ?_⟩) hH ?_
        rotate_left 1
        · intro W hSw
          (try dsimp only at hSw)
          go_simp
          (try with_reducible rfl)
        try simp only [Act.put, List.setIfInBounds_toArray, List.set_cons_zero, List.set_cons_succ]
        refine wpAnyH_take (i := 8) (oi := { dst := some 58, op := _, type := _, pos := _, after := _, guard := _ }) (v := ?_) rfl (by kernel_rfl) (by kernel_rfl) (by kernel_rfl) (fun _ _ _ h => h) (Or.inl ⟨by rfl, ?_⟩) hH ?_
        rotate_left 1
        · intro W hSw
          (try dsimp only at hSw)
          go_simp
          (try with_reducible rfl)
        try simp only [Act.put, List.setIfInBounds_toArray, List.set_cons_zero, List.set_cons_succ]
        refine wpAnyH_take (i := 9) (oi := { dst := some 59, op := _, type := _, pos := _, after := _, guard := _ }) (v := ?_) rfl (by kernel_rfl) (by kernel_rfl) (by kernel_rfl) (fun _ _ _ h => h) (Or.inl ⟨by rfl, ?_⟩) hH ?_
        rotate_left 1
        · intro W hSw
          (try dsimp only at hSw)
          go_simp
          (try with_reducible rfl)
        try simp only [Act.put, List.setIfInBounds_toArray, List.set_cons_zero, List.set_cons_succ]
        refine wpAnyH_take (i := 10) (oi := { dst := some 60, op := _, type := _, pos := _, after := _, guard := _ }) (v := ?_) rfl (by kernel_rfl) (by kernel_rfl) (by kernel_rfl) (fun _ _ _ h => h) (Or.inl ⟨by rfl, ?_⟩) hH ?_
        rotate_left 1
        · intro W hSw
          (try dsimp only at hSw)
          go_simp
          (try with_reducible rfl)
        try simp only [Act.put, List.setIfInBounds_toArray, List.set_cons_zero, List.set_cons_succ]
        refine wpAnyH_take (i := 11) (oi := { dst := some 61, op := _, type := _, pos := _, after := _, guard := _ }) (v := ?_) rfl (by kernel_rfl) (by kernel_rfl) (by kernel_rfl) (fun _ _ _ h => h) (Or.inl ⟨by rfl, ?_⟩) hH ?_
        rotate_left 1
        · intro W hSw
          (try dsimp only at hSw)
          go_simp
          (try with_reducible rfl)
        try simp only [Act.put, List.setIfInBounds_toArray, List.set_cons_zero, List.set_cons_succ]
        refine wpAnyH_take (i := 12) (oi := { dst := some 62, op := _, type := _, pos := _, after := _, guard := _ }) (v := ?_) rfl (by kernel_rfl) (by kernel_rfl) (by kernel_rfl) (fun _ _ _ h => h) (Or.inl ⟨by rfl, ?_⟩) hH ?_
        rotate_left 1
        · intro W hSw
          (try dsimp only at hSw)
          go_simp
          (try with_reducible rfl)
        try simp only [Act.put, List.setIfInBounds_toArray, List.set_cons_zero, List.set_cons_succ]
        refine wpAnyH_take (i := 14) (oi := { dst := some 64, op := _, type := _, pos := _, after := _, guard := _ }) (v := ?_) rfl (by kernel_rfl) (by kernel_rfl) (by kernel_rfl) (fun _ _ _ h => h) (Or.inl ⟨by rfl, ?_⟩) hH ?_
        rotate_left 1
        · intro W hSw
          (try dsimp only at hSw)
          go_simp
          (try with_reducible rfl)
        try simp only [Act.put, List.setIfInBounds_toArray, List.set_cons_zero, List.set_cons_succ]
        refine wpAnyH_ready (rs := [13]) (by kernel_rfl) (by simp) (AllReadyH.cons rfl (fun K hK => ?_) AllReadyH.nil)
        go_simp
        go_at_call 18; ((with_reducible refine (PL.out _).mono ?_); rintro e u4 ⟨rfl, hb4⟩); go_wp2_with fail
        refine hK.out _ _ ?_ (fun hG => ?_)
        · exact ⟨cell_below hb4 hH.1, cell_below hb4 hH.2.1, cell_below hb4 hH.2.2.1, cell_below hb4 hH.2.2.2.1, cell_below hb4 hH.2.2.2.2.1, cell_below hb4 hH.2.2.2.2.2⟩
        replace hH := hG
        clear hK K hG
        try simp only [Act.put, List.setIfInBounds_toArray, List.set_cons_zero, List.set_cons_succ]
        refine wpAnyH_take (i := 15) (oi := { dst := some 65, op := _, type := _, pos := _, after := _, guard := _ }) (v := ?_) rfl (by kernel_rfl) (by kernel_rfl) (by kernel_rfl) (fun _ _ _ h => h) (Or.inl ⟨by rfl, ?_⟩) hH ?_
        rotate_left 1
        · intro W hSw
          (try dsimp only at hSw)
          go_simp
          (try with_reducible rfl)
        try simp only [Act.put, List.setIfInBounds_toArray, List.set_cons_zero, List.set_cons_succ]
        refine wpAnyH_take (i := 16) (oi := { dst := some 66, op := _, type := _, pos := _, after := _, guard := _ }) (v := ?_) rfl (by kernel_rfl) (by kernel_rfl) (by kernel_rfl) (fun _ _ _ h => h) (Or.inl ⟨by rfl, ?_⟩) hH ?_
        rotate_left 1
        · intro W hSw
          (try dsimp only at hSw)
          go_simp
          (try with_reducible rfl)
        try simp only [Act.put, List.setIfInBounds_toArray, List.set_cons_zero, List.set_cons_succ]
        refine wpAnyH_done (by kernel_rfl) ?_ _
        refine NoPanic.normal ?_
        have HB : Below (u3.alloc (.cells (pc (px + qx) (py + qy)) 28)).heap.size (u3.alloc (.cells (pc (px + qx) (py + qy)) 28)) u4 := Below.trans (by first | exact Below.refl _ _ | exact below_drewN (by go_grown) _ | go_grown) (hb4.mono (by first | (simp; done) | (simp; omega)))
        have B4 := Lib.hid (below_in (B3.out.alloc B3.out.size _) HB)
        have R4 := Lib.hid ((rd_more R3.out (o := (.cells (pc (px + qx) (py + qy)) 28))).below HB |>.more HB.size)
        clear HB hb4 hH z0 z1 z2 z3 l1 l2 l3 l4 P3 Q3 R1 R2 R3 B1 B2 B3 C1 C2 C3 PL RK BK
        go_wp2_with fail
        go_roundw
        case rel => first | exact ⟨k + 1, by omega, by rw [show a + (k + 1) = m + 1 by have := HM.out; omega]; go_num, R4, B4⟩ | ((repeat apply Exists.intro); exact ⟨⟨k + 1, by omega, by rw [show a + (k + 1) = m + 1 by have := HM.out; omega]; go_num, R4, B4⟩, rfl⟩)
        case measure => simp [intOf]; omega
      · have hmb : ¬ (m : Int) ≤ (a : Int) + (d : Int) := by omega
        have e1 : wrap64 ((a : Int) + 1) = (a : Int) + ((1 : Nat) : Int) := by rw [IntWalk.wrap64_in _ (by omega)]; rfl
        have C1 := Lib.hid (fun W h1 => CO.out W a 1 (by omega) h1)
        obtain ⟨⟨px, py⟩, hp⟩ : ∃ p, sum2 (drs zs a 1) = p := ⟨_, rfl⟩
        rw [hp] at C1 CA
        clear hp RR BB hm
        go_wp2_with fail
        refine (C1.out _ RK.out).mono ?_
        rintro e u1 ⟨rfl, hb1⟩
        have B1 := Lib.hid (below_in BK.out hb1)
        have R1 := Lib.hid ((RK.out.below hb1).more hb1.size)
        clear hb1
        go_wp2_with fail
        refine wp_region_noPanic ?_
        refine wp_region_held_drew (S := (fun w' => w'.cell? ⟨u1.heap.size, 0, none⟩ = some (.int .i64 px) ∧ w'.cell? ⟨u1.heap.size, 1, none⟩ = some (.int .i64 py))) (by kernel_rfl) ?_ (fun hH => ?_)
        · simp [go_sem, *]
        refine wpAnyH_take (i := 0) (oi := { dst := some 75, op := _, type := _, pos := _, after := _, guard := _ }) (v := ?_) rfl (by kernel_rfl) (by kernel_rfl) (by kernel_rfl) (fun _ _ _ h => h) (Or.inl ⟨by rfl, ?_⟩) hH ?_
        rotate_left 1
        · intro W hSw
          (try dsimp only at hSw)
          go_simp
          (try with_reducible rfl)
        try simp only [Act.put, List.setIfInBounds_toArray, List.set_cons_zero, List.set_cons_succ]
        refine wpAnyH_take (i := 1) (oi := { dst := some 76, op := _, type := _, pos := _, after := _, guard := _ }) (v := ?_) rfl (by kernel_rfl) (by kernel_rfl) (by kernel_rfl) (fun _ _ _ h => h) (Or.inl ⟨by rfl, ?_⟩) hH ?_
        rotate_left 1
        · intro W hSw
          (try dsimp only at hSw)
          go_simp
          (try with_reducible rfl)
        try simp only [Act.put, List.setIfInBounds_toArray, List.set_cons_zero, List.set_cons_succ]
        refine wpAnyH_take (i := 2) (oi := { dst := some 77, op := _, type := _, pos := _, after := _, guard := _ }) (v := ?_) rfl (by kernel_rfl) (by kernel_rfl) (by kernel_rfl) (fun _ _ _ h => h) (Or.inl ⟨by rfl, ?_⟩) hH ?_
        rotate_left 1
        · intro W hSw
          (try dsimp only at hSw)
          go_simp
          (try with_reducible rfl)
        try simp only [Act.put, List.setIfInBounds_toArray, List.set_cons_zero, List.set_cons_succ]
        refine wpAnyH_ready (rs := [3]) (by kernel_rfl) (by simp) (AllReadyH.cons rfl (fun K hK => ?_) AllReadyH.nil)
        go_simp
        go_at_call 19; ((with_reducible refine (CA.out _ (rd_drew (rd_more R1.out))).mono ?_); rintro e u4 ⟨rfl, hb4⟩); go_wp2_with fail
        refine hK.out _ _ ?_ (fun hG => ?_)
        · exact ⟨cell_below hb4 hH.1, cell_below hb4 hH.2⟩
        replace hH := hG
        clear hK K hG
        try simp only [Act.put, List.setIfInBounds_toArray, List.set_cons_zero, List.set_cons_succ]
        refine wpAnyH_take (i := 4) (oi := { dst := some 79, op := _, type := _, pos := _, after := _, guard := _ }) (v := ?_) rfl (by kernel_rfl) (by kernel_rfl) (by kernel_rfl) (fun _ _ _ h => h) (Or.inl ⟨by rfl, ?_⟩) hH ?_
        rotate_left 1
        · intro W hSw
          (try dsimp only at hSw)
          go_simp
          (try with_reducible rfl)
        try simp only [Act.put, List.setIfInBounds_toArray, List.set_cons_zero, List.set_cons_succ]
        refine wpAnyH_take (i := 5) (oi := { dst := some 2, op := _, type := _, pos := _, after := _, guard := _ }) (v := ?_) rfl (by kernel_rfl) (by kernel_rfl) (by kernel_rfl) (fun _ _ _ h => h) (Or.inl ⟨by rfl, ?_⟩) hH ?_
        rotate_left 1
        · intro W hSw
          (try dsimp only at hSw)
          go_simp
          (try with_reducible rfl)
        try simp only [Act.put, List.setIfInBounds_toArray, List.set_cons_zero, List.set_cons_succ]
        refine wpAnyH_done (by kernel_rfl) ?_ _
        refine NoPanic.normal ?_
        have HB : Below (u1.alloc (.cells (pc px py) 28)).heap.size (u1.alloc (.cells (pc px py) 28)) u4 := Below.trans (by first | exact Below.refl _ _ | exact below_drewN (by go_grown) _ | go_grown) (hb4.mono (by first | (simp; done) | (simp; omega)))
        have B4 := Lib.hid (below_in (B1.out.alloc B1.out.size _) HB)
        clear HB hb4 hH
        go_wp2_with fail
        go_ret
        exact ⟨rfl, B4.out⟩
  · have hd : decide (4096 < n) = true := decide_eq_true (by omega)
    clear hn hm hr
    go_enter Try.func3, Try.ntmps3
    go_wp2_with (go_at_call 15; go_enter Try.func15, Try.ntmps15)
    go_returns
    exact ⟨rfl, Below.refl _ _⟩

set_option maxRecDepth 100000 in
theorem lifted (os : Os) (started : os.Started) (H : Type) (enc : TypeId × Value → H) :
    ReturnsInHanded {} Try.checked os 3 .any (Rows.fnDriftsSpec.pre6 enc Try.prog Try.f3 Rows.fnDriftsRow.domain false) (Rows.fnDriftsSpec.post enc Try.prog Try.f3 false true false false) := by
  refine returnsInHanded_of_change (C := Try.checked) own started (by kernel_rfl) Try.func3
    (ChangeSpec.witness6 (enc := enc) (C := Try.checked) false ⟨#[], #[.slice none 0 0], []⟩ 8 (by kernel_rfl) (by kernel_rfl) (by kernel_rfl) (by kernel_rfl)) ?_
  intro W base args ds gs before hval0 hW hcnd hsz
  have hval : ∀ (j : Nat) t v, Try.f3.params[j]? = some t → args[j]? = some v → Value.okWide Try.prog W .any base t v := hval0
  have hW' := hW
  obtain ⟨p, q, hA0, hV, rfl, hfz, hnd⟩ := hW
  have hA1 := hA0
  have hA : DataW.TrodAll enc Try.prog W 0 (fun _ => true) true Try.f3.params.toList args.toList ds p := hA0
  rw [Try.params3] at hA hval
  obtain ⟨v0, vs0, d0, ds0, p0, q0, hargs, rfl, rfl, h0, r0⟩ := trodAll_cons hA
  obtain ⟨rfl, rfl, rfl⟩ := trodAll_nil r0
  obtain rfl : args = #[v0] := by cases args; simp_all
  obtain ⟨rfl, rfl⟩ := trodVars_none hV
  obtain ⟨A0, n0, c0, a0, rfl, l0, m0, g0⟩ := RampFn.take_bytes Try.underlying22 Try.underlying5 (by kernel_rfl) (hval 0 22 v0 rfl rfl) h0
  clear hA0 hval0
  rw [List.append_nil] at hW'
  refine (walk A0 n0 c0 a0 l0 m0 W g0).mono fun e W' ⟨he, hb⟩ => ?_
  subst he
  exact ⟨_, rfl, post_law rfl hW' hA1 laidOut (by rw [Try.params3]; exact of_decide_eq_true (by kernel_rfl)) 4 (by kernel_rfl) Try.underlying4 rfl hb⟩

theorem over : Rows.fnDriftsRow.holds Try.pinned (OpenSpec.ofChange Rows.fnDriftsSpec) :=
  OpenClaim.holds_of_wide 3 Try.f3 rfl rfl rfl rfl rfl rfl rfl ⟨rfl, rfl, rfl, rfl, rfl⟩ rfl rfl rfl rfl rfl (by kernel_rfl) Try.func3 (by kernel_rfl)
    (of_decide_eq_true (by kernel_rfl)) (by unfold Func.isWrapper; first | (rw [if_pos (by decide +kernel)]; kernel_rfl) | (rw [if_neg (by decide +kernel)]; exact ⟨rfl, rfl⟩))
    (fun os started H enc _ => lifted os started H enc)

/-- The statement. -/
theorem proved : Rows.FnDriftsSaid :=
  over
#print axioms proved
end Go.Proofs.Ytiblmcdfaoahfaa.fnDrifts
