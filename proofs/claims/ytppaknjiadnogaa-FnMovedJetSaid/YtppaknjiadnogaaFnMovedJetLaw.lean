/- The law FnMovedJet holds at every input. The step from the walk to the row follows the guide's own template. -/
import Derived.Test.YtppaknjiadnogaaMem
import Derived.Test.YtppaknjiadnogaaDt
import Derived.Test.YtppaknjiadnogaaMv
import Derived.Test.YtppaknjiadnogaaFf
import Derived.Test.YtppaknjiadnogaaTp
import Derived.Test.YtppaknjiadnogaaTakeC
import Derived.Deep.RegionHeld3
import Derived.Deep.DeepCutAuto
import Derived.BigRegion
namespace Go.Proofs.Ytppaknjiadnogaa.fnMovedJet
open Go.ChangeShapes Go.WideShapes Go.ChangeAt Go.RowKit Go.WideMaps Go.WideElems Go.Proofs.Ytppaknjiadnogaa.Mem
open Go.ChangeMaps (open_string shut_string)
set_option linter.unusedVariables false
set_option linter.unusedSimpArgs false

theorem own : ownKnob Try.prog.godebug = none := by kernel_rfl
theorem laidOut : laidOutB Try.prog = true := by kernel_rfl

open Go.Proofs.Ytppaknjiadnogaa.Cm Go.Proofs.Ytppaknjiadnogaa.Pl Go.Proofs.Ytppaknjiadnogaa.Str Go.Proofs.Ytppaknjiadnogaa.Pw Go.Proofs.Ytppaknjiadnogaa.P2 Go.Proofs.Ytppaknjiadnogaa.Hd Go.Proofs.Ytppaknjiadnogaa.Dr4 Go.Proofs.Ytppaknjiadnogaa.Jt Go.Proofs.Ytppaknjiadnogaa.Dp Go.Proofs.Ytppaknjiadnogaa.Dt Go.Proofs.Ytppaknjiadnogaa.Mv
open Go.Proofs.Ytppaknjiadnogaa.Dr2 (HB HB.c0 HB.c1 HB.lt HB.new HB.alloc wf)

theorem HBb {w w' : World} {b : Nat} {x y : Int} (h : HB w b x y) (hb : Below w.heap.size w w') : HB w' b x y := (hb.block b h.lt).trans h
theorem plusL (x y a b : Int) (hx : -100000 ≤ x ∧ x ≤ 100000) (hy : -100000 ≤ y ∧ y ≤ 100000) (ha : -100000 ≤ a ∧ a ≤ 100000) (hb : -100000 ≤ b ∧ b ≤ 100000) (w : World) :
    Calls Try.prog 25 #[.agg #[.int .i64 x, .int .i64 y], .agg #[.int .i64 a, .int .i64 b]] w fun e w' => e = .returned (.agg #[.int .i64 (x + a), .int .i64 (y + b)]) ∧ Below w.heap.size w w' := by
  have e1 : wrap64 (x + a) = x + a := IntWalk.wrap64_in _ (by omega)
  have e2 : wrap64 (y + b) = y + b := IntWalk.wrap64_in _ (by omega)
  clear hx hy ha hb
  go_enter Try.func25, Try.ntmps25
  go_wp2_with fail
  go_returns
  exact ⟨rfl, by go_grown⟩
theorem ha_at {x y h t l : Int} {k : Nat} (hj : jt x y h t l = true) (hk : (k : Int) ≤ l + 1) : ha x y h t l k = hg l k := by
  unfold ha
  rw [inF_iff.2 ⟨hj, by omega, hk⟩]
  simp
theorem HB.drew {w : World} {b : Nat} {x y : Int} (h : HB w b x y) : HB w.drew b x y := h

set_option maxHeartbeats 4000000 in
set_option maxRecDepth 100000 in
theorem walk (A : Option Addr) (n c : Nat) (bs : List UInt8) (hn : bs.length = n) (hm : n ≤ maxLen) (w : World) (hr : Rd w w.heap.size A (Draw.u8s bs)) :
    Calls Try.prog 3 #[.slice A n c] w fun e w' => e = .returned (.bool true) ∧ Below w.heap.size w w' := by
  have hu : undef = Value.tuple #[] := rfl
  by_cases hbig : (n : Int) ≤ 4096
  · have D := Lib.hid (drawTurnJet w A n c bs hn (by omega) hr)
    have D2 := Lib.hid (fun (W : World) (h : Rd W W.heap.size A (Draw.u8s bs)) => drawShiftJet W A n c bs hn (by omega) h)
    have RA := Lib.hid hr
    clear hm hr
    go_enter Try.func3, Try.ntmps3
    go_wp2_with (go_at_call 14; go_enter Try.func14, Try.ntmps14)
    refine D.out.mono ?_
    rintro e u0 ⟨x, y, h, t, l, k, hk, rfl, hB⟩
    have BB := Lib.hid hB
    have R0 := Lib.hid (show Rd (u0.alloc (.cells (jc x y h t l) 27)) (u0.alloc (.cells (jc x y h t l) 27)).heap.size A (Draw.u8s bs) from (((RA.out.below hB).more hB.size).below ((Below.refl u0.heap.size u0).alloc (Nat.le_refl _) (.cells (jc x y h t l) 27))).more (by go_size))
    clear D hbig hB hn RA
    go_wp2_with fail
    refine (D2.out _ R0.out).mono ?_
    rintro e u1 ⟨x2, y2, h2, t2, l2, a, b, hA, hB2, rfl, hb⟩
    have Hj := Lib.hid (JB.below (JB.new u0 x y h t l) hb)
    have BB1 := Lib.hid (Below.trans (BB.out.alloc BB.out.size (.cells (jc x y h t l) 27)) (hb.mono (BB.out.alloc BB.out.size (.cells (jc x y h t l) 27)).size))
    clear hb BB R0 D2
    have HP := Lib.hid (show HB ((u1.alloc (.cells (jc x2 y2 h2 t2 l2) 27)).alloc (.cells #[.int .i64 a, .int .i64 b] 25)) (u1.heap.size + 1) a b from by simpa using HB.new (u1.alloc (.cells (jc x2 y2 h2 t2 l2) 27)) a b)
    have HJ := Lib.hid (JB.alloc (JB.alloc Hj.out (.cells (jc x2 y2 h2 t2 l2) 27)) (.cells #[.int .i64 a, .int .i64 b] 25))
    have BV := Lib.hid ((BB1.out.alloc BB1.out.size (.cells (jc x2 y2 h2 t2 l2) 27)).alloc (BB1.out.alloc BB1.out.size (.cells (jc x2 y2 h2 t2 l2) 27)).size (.cells #[.int .i64 a, .int .i64 b] 25))
    clear BB1 Hj
    go_upto_region 5 with fail
    generalize (u1.alloc (.cells (jc x2 y2 h2 t2 l2) 27)).alloc (.cells #[.int .i64 a, .int .i64 b] 25) = V at *
    obtain ⟨bj, hbj⟩ : ∃ b, b = u0.heap.size := ⟨_, rfl⟩
    obtain ⟨bp, hbp⟩ : ∃ b, b = u1.heap.size + 1 := ⟨_, rfl⟩
    rw [← hbj] at HJ ⊢
    rw [← hbp] at HP ⊢
    clear hbj hbp
    cases hj : jt x y h t l
    · have I1 := Lib.hid (fun W : World => (isJetI_of hj W).mono fun e w9 q => (⟨q.1, by rw [q.2]; go_grown⟩ : _ ∧ Below W.heap.size W w9))
      have I2 := Lib.hid (fun W : World => (isJetS_of hj W).mono fun e w9 q => (⟨q.1, by rw [q.2]; go_grown⟩ : _ ∧ Below W.heap.size W w9))
      obtain ⟨cj0, cj1, cj2, cj3, cj4⟩ := (HJ.out).c
      have lj := (HJ.out).lt
      have mj : ∀ j, bj < V.heap.size + j := fun j => Nat.lt_of_lt_of_le lj (Nat.le_add_right _ j)
      have cp0 := (HP.out).c0
      have cp1 := (HP.out).c1
      have lp := (HP.out).lt
      have mp : ∀ j, bp < V.heap.size + j := fun j => Nat.lt_of_lt_of_le lp (Nat.le_add_right _ j)
      have hJ0 := (JB.drew HJ.out).c
      have kB0 := Lib.hid (show Below w.heap.size w V.drew from Below.trans BV.out (Below.refl _ _).drew)
      have kP0 := Lib.hid (HB.drew HP.out)
      go_region_held3 (fun w' => w'.cell? ⟨bj, 0, none⟩ = some (.int .i64 x) ∧ w'.cell? ⟨bj, 1, none⟩ = some (.int .i64 y) ∧ w'.cell? ⟨bj, 2, none⟩ = some (.int .i64 h) ∧ w'.cell? ⟨bj, 3, none⟩ = some (.int .i64 t) ∧ w'.cell? ⟨bj, 4, none⟩ = some (.int .i64 l)) ((first | (with_reducible exact hJ1) | (with_reducible exact hJ2) | exact hJ0))
        (first
          | (go_at_call 17; ((with_reducible refine (I1.out _).mono ?_); rintro e r1 ⟨rfl, hb⟩; have kJ1 := JB.below (JB.drew HJ.out) hb; have hJ1 := kJ1.c; have kB1 := Lib.hid (Below.trans kB0.out (hb.mono kB0.out.size)); have kP1 := Lib.hid (HBb kP0.out hb); clear hb))
          | (go_at_call 18; ((with_reducible refine (I2.out _).mono ?_); rintro e V2 ⟨rfl, hb⟩; have kJ2 := Lib.hid (JB.below kJ1 hb); have hJ2 := kJ2.out.c; have kB2 := Lib.hid (Below.trans kB1.out (hb.mono kB1.out.size)); have kP2 := Lib.hid (HBb kP1.out hb); clear hb)))
      clear hJ0 hJ1 hJ2 kJ1 kB0 kB1 kP0 kP1 HJ HP BV cj0 cj1 cj2 cj3 cj4 lj mj cp0 cp1 lp mp
      obtain ⟨cj0, cj1, cj2, cj3, cj4⟩ := (kJ2.out).c
      have lj := (kJ2.out).lt
      have mj : ∀ j, bj < V2.heap.size + j := fun j => Nat.lt_of_lt_of_le lj (Nat.le_add_right _ j)
      have cp0 := (kP2.out).c0
      have cp1 := (kP2.out).c1
      have lp := (kP2.out).lt
      have mp : ∀ j, bp < V2.heap.size + j := fun j => Nat.lt_of_lt_of_le lp (Nat.le_add_right _ j)
      have I1b := Lib.hid (turnJetI x y h t l k)
      rw [turnV_no hj] at I1b
      clear I2 hu hj
      go_wp2_with fail
      refine (I1.out _).mono ?_
      rintro e V3 ⟨rfl, hb⟩
      clear cj0 cj1 cj2 cj3 cj4 lj mj cp0 cp1 lp mp
      have j_V31 := Lib.hid (JB.below kJ2.out hb)
      have p_V31 := Lib.hid (HBb kP2.out hb)
      have B_V31 := Lib.hid (Below.trans kB2.out (hb.mono (kB2.out).size))
      clear hb kJ2 kP2 kB2
      obtain ⟨cj0, cj1, cj2, cj3, cj4⟩ := (j_V31.out).c
      have lj := (j_V31.out).lt
      have mj : ∀ j, bj < V3.heap.size + j := fun j => Nat.lt_of_lt_of_le lj (Nat.le_add_right _ j)
      have cp0 := (p_V31.out).c0
      have cp1 := (p_V31.out).c1
      have lp := (p_V31.out).lt
      have mp : ∀ j, bp < V3.heap.size + j := fun j => Nat.lt_of_lt_of_le lp (Nat.le_add_right _ j)
      go_wp2_with fail
      refine (I1b.out _).mono ?_
      rintro e V4 ⟨rfl, hb⟩
      clear cj0 cj1 cj2 cj3 cj4 lj mj cp0 cp1 lp mp
      have j_V42 := Lib.hid (JB.below j_V31.out hb)
      have p_V42 := Lib.hid (HBb p_V31.out hb)
      have B_V42 := Lib.hid (Below.trans B_V31.out (hb.mono (B_V31.out).size))
      clear hb j_V31 p_V31 B_V31
      go_wp2_with fail
      go_ret
      exact ⟨rfl, B_V42.out⟩
    · have I1 := Lib.hid (fun W : World => (isJetI_of hj W).mono fun e w9 q => (⟨q.1, by rw [q.2]; go_grown⟩ : _ ∧ Below W.heap.size W w9))
      have I2 := Lib.hid (fun W : World => (isJetS_of hj W).mono fun e w9 q => (⟨q.1, by rw [q.2]; go_grown⟩ : _ ∧ Below W.heap.size W w9))
      obtain ⟨cj0, cj1, cj2, cj3, cj4⟩ := (HJ.out).c
      have lj := (HJ.out).lt
      have mj : ∀ j, bj < V.heap.size + j := fun j => Nat.lt_of_lt_of_le lj (Nat.le_add_right _ j)
      have cp0 := (HP.out).c0
      have cp1 := (HP.out).c1
      have lp := (HP.out).lt
      have mp : ∀ j, bp < V.heap.size + j := fun j => Nat.lt_of_lt_of_le lp (Nat.le_add_right _ j)
      have hJ0 := (JB.drew HJ.out).c
      have kB0 := Lib.hid (show Below w.heap.size w V.drew from Below.trans BV.out (Below.refl _ _).drew)
      have kP0 := Lib.hid (HB.drew HP.out)
      go_region_held3 (fun w' => w'.cell? ⟨bj, 0, none⟩ = some (.int .i64 x) ∧ w'.cell? ⟨bj, 1, none⟩ = some (.int .i64 y) ∧ w'.cell? ⟨bj, 2, none⟩ = some (.int .i64 h) ∧ w'.cell? ⟨bj, 3, none⟩ = some (.int .i64 t) ∧ w'.cell? ⟨bj, 4, none⟩ = some (.int .i64 l)) ((first | (with_reducible exact hJ1) | (with_reducible exact hJ2) | exact hJ0))
        (first
          | (go_at_call 17; ((with_reducible refine (I1.out _).mono ?_); rintro e r1 ⟨rfl, hb⟩; have kJ1 := JB.below (JB.drew HJ.out) hb; have hJ1 := kJ1.c; have kB1 := Lib.hid (Below.trans kB0.out (hb.mono kB0.out.size)); have kP1 := Lib.hid (HBb kP0.out hb); clear hb))
          | (go_at_call 18; ((with_reducible refine (I2.out _).mono ?_); rintro e V2 ⟨rfl, hb⟩; have kJ2 := Lib.hid (JB.below kJ1 hb); have hJ2 := kJ2.out.c; have kB2 := Lib.hid (Below.trans kB1.out (hb.mono kB1.out.size)); have kP2 := Lib.hid (HBb kP1.out hb); clear hb)))
      clear hJ0 hJ1 hJ2 kJ1 kB0 kB1 kP0 kP1 HJ HP BV cj0 cj1 cj2 cj3 cj4 lj mj cp0 cp1 lp mp
      obtain ⟨hx, hy, hh, ht, hl⟩ := jt_iff.1 hj
      obtain ⟨N, hN⟩ : ∃ N : Nat, (N : Int) = l + 1 := ⟨(l + 1).toNat, by omega⟩
      have hN33 : N ≤ 33 := by omega
      have FL := Lib.hid (flightI x y h t l)
      rw [fl_yes hj, ← hN] at FL
      obtain ⟨X, hX⟩ : ∃ v, v = tx (k % 4).toNat x y := ⟨_, rfl⟩
      obtain ⟨Y, hY⟩ : ∃ v, v = ty (k % 4).toNat x y := ⟨_, rfl⟩
      obtain ⟨H, hH⟩ : ∃ v, v = th h k := ⟨_, rfl⟩
      have TJ := Lib.hid (turnJetI x y h t l k)
      rw [turnV_yes hj, ← hX, ← hY, ← hH] at TJ
      have jk := jt_turned k hj
      rw [← hX, ← hY, ← hH] at jk
      have JK := Lib.hid (fun W : World => (isJetI_of jk W).mono fun e w9 q => (⟨q.1, by rw [q.2]; go_grown⟩ : _ ∧ Below W.heap.size W w9))
      cases hs : shB x y h t l a b
      · have SJ := Lib.hid (shiftJetI x y h t l a b)
        rw [shV_no hs] at SJ
        have RND := Lib.hid (show ∀ i : Nat, i ≤ N → ∃ px py qx qy rx ry g : Int, (∀ W : World, Calls Try.prog 22 #[jv x y h t l, .int .i64 (i : Int)] W (fun e w9 => e = .returned (.tuple #[.agg #[.int .i64 px, .int .i64 py], .bool true]) ∧ Below W.heap.size W w9)) ∧ (∀ W : World, Calls Try.prog 22 #[jv X Y H t l, .int .i64 (i : Int)] W (fun e w9 => e = .returned (.tuple #[.agg #[.int .i64 qx, .int .i64 qy], .bool true]) ∧ Below W.heap.size W w9)) ∧ (∀ W : World, Calls Try.prog 22 #[jv 0 0 0 0 0, .int .i64 (i : Int)] W (fun e w9 => e = .returned (.tuple #[.agg #[.int .i64 rx, .int .i64 ry], .bool false]) ∧ Below W.heap.size W w9)) ∧ (∀ W : World, Calls Try.prog 23 #[.agg #[.int .i64 px, .int .i64 py], .int .i64 k] W (fun e w9 => e = .returned (.agg #[.int .i64 qx, .int .i64 qy]) ∧ Below W.heap.size W w9)) ∧ (∀ W : World, Calls Try.prog 24 #[jv x y h t l, .int .i64 (i : Int)] W (fun e w9 => e = .returned (.int .i64 g) ∧ Below W.heap.size W w9)) ∧ (∀ W : World, Calls Try.prog 24 #[jv X Y H t l, .int .i64 (i : Int)] W (fun e w9 => e = .returned (.int .i64 g) ∧ Below W.heap.size W w9)) ∧ True from fun i hi => by
          have hi2 : (i : Int) ≤ l + 1 := by omega
          have o := ok_of hj
          have b1 := wy_le (k := i) o.x o.p (by omega)
          have b2 := wy_le (k := i) o.y o.q (by omega)
          have P1 := placeI x y h t l i
          rw [told2_yes (inF_iff.2 ⟨hj, by omega, hi2⟩), Int.toNat_natCast] at P1
          have P2 := placeI X Y H t l i
          rw [told2_yes (inF_iff.2 ⟨jk, by omega, hi2⟩), Int.toNat_natCast] at P2
          have wt := wy_turned k hj i
          rw [← hX, ← hY, ← hH] at wt
          rw [wt.1, wt.2] at P2
          have T1 := fun W => Tp.turnI (x := wy x (tx h.toNat t 0) i) (y := wy y (ty h.toNat t 0) i) k (pl_mk (by omega) (by omega)) W
          have G1 := heightI x y h t l i
          rw [ha_at hj hi2] at G1
          have G2 := heightI X Y H t l i
          rw [ha_at jk hi2] at G2
          have P3 := placeI 0 0 0 0 0 i
          rw [told2_no (by rfl)] at P3
          exact ⟨_, _, _, _, 0, 0, _, P1, P2, P3, T1, G1, G2, trivial⟩)
        clear hs jk hX hY hH hx hy hh ht hl hj hN hA hB2 hk I2
        obtain ⟨cj0, cj1, cj2, cj3, cj4⟩ := (kJ2.out).c
        have lj := (kJ2.out).lt
        have mj : ∀ j, bj < V2.heap.size + j := fun j => Nat.lt_of_lt_of_le lj (Nat.le_add_right _ j)
        have cp0 := (kP2.out).c0
        have cp1 := (kP2.out).c1
        have lp := (kP2.out).lt
        have mp : ∀ j, bp < V2.heap.size + j := fun j => Nat.lt_of_lt_of_le lp (Nat.le_add_right _ j)
        go_wp2_with fail
        refine (I1.out _).mono ?_
        rintro e V3 ⟨rfl, hb⟩
        clear cj0 cj1 cj2 cj3 cj4 lj mj cp0 cp1 lp mp
        have j_V31 := Lib.hid (JB.below kJ2.out hb)
        have p_V31 := Lib.hid (HBb kP2.out hb)
        have B_V31 := Lib.hid (Below.trans kB2.out (hb.mono (kB2.out).size))
        clear hb kJ2 kP2 kB2
        obtain ⟨cj0, cj1, cj2, cj3, cj4⟩ := (j_V31.out).c
        have lj := (j_V31.out).lt
        have mj : ∀ j, bj < V3.heap.size + j := fun j => Nat.lt_of_lt_of_le lj (Nat.le_add_right _ j)
        have cp0 := (p_V31.out).c0
        have cp1 := (p_V31.out).c1
        have lp := (p_V31.out).lt
        have mp : ∀ j, bp < V3.heap.size + j := fun j => Nat.lt_of_lt_of_le lp (Nat.le_add_right _ j)
        go_wp2_with fail
        refine (TJ.out _).mono ?_
        rintro e V4 ⟨rfl, hb⟩
        clear cj0 cj1 cj2 cj3 cj4 lj mj cp0 cp1 lp mp
        have j_V42 := Lib.hid (JB.below j_V31.out hb)
        have p_V42 := Lib.hid (HBb p_V31.out hb)
        have B_V42 := Lib.hid (Below.trans B_V31.out (hb.mono (B_V31.out).size))
        clear hb j_V31 p_V31 B_V31
        obtain ⟨cj0, cj1, cj2, cj3, cj4⟩ := (j_V42.out).c
        have lj := (j_V42.out).lt
        have mj : ∀ j, bj < V4.heap.size + j := fun j => Nat.lt_of_lt_of_le lj (Nat.le_add_right _ j)
        have cp0 := (p_V42.out).c0
        have cp1 := (p_V42.out).c1
        have lp := (p_V42.out).lt
        have mp : ∀ j, bp < V4.heap.size + j := fun j => Nat.lt_of_lt_of_le lp (Nat.le_add_right _ j)
        have Hk := Lib.hid (JB.new V4 X Y H t l)
        go_wp2_with fail
        refine (SJ.out _).mono ?_
        rintro e V5 ⟨rfl, hb⟩
        clear cj0 cj1 cj2 cj3 cj4 lj mj cp0 cp1 lp mp
        have j_V53 := Lib.hid (JB.below (JB.alloc j_V42.out (.cells (jc X Y H t l) 27)) hb)
        have p_V53 := Lib.hid (HBb (HB.alloc p_V42.out (.cells (jc X Y H t l) 27)) hb)
        have B_V53 := Lib.hid (Below.trans ((B_V42.out).alloc (B_V42.out).size (.cells (jc X Y H t l) 27)) (hb.mono (((B_V42.out).alloc (B_V42.out).size (.cells (jc X Y H t l) 27))).size))
        have k_V53 := Lib.hid (JB.below Hk.out hb)
        clear hb j_V42 p_V42 B_V42
        clear Hk
        have Fj := Lib.hid (JB.alloc j_V53.out (.cells (jc 0 0 0 0 0) 27))
        have Fk := Lib.hid (JB.alloc k_V53.out (.cells (jc 0 0 0 0 0) 27))
        have Fp := Lib.hid (HB.alloc p_V53.out (.cells (jc 0 0 0 0 0) 27))
        have FB := Lib.hid ((B_V53.out).alloc (B_V53.out).size (.cells (jc 0 0 0 0 0) 27))
        have Fm := Lib.hid (JB.new V5 0 0 0 0 0)
        clear TJ SJ j_V53 k_V53 p_V53 B_V53
        go_wp2_with fail
        go_loopw [10] (fun iv wr => ∃ i : Nat, i ≤ N + 1 ∧ iv = .int .i64 (i : Int) ∧ Hid (JB wr bj x y h t l) ∧ Hid (JB wr V4.heap.size X Y H t l) ∧ Hid (JB wr V5.heap.size 0 0 0 0 0) ∧ Hid (HB wr bp a b) ∧ Hid (Below w.heap.size w wr)) (fun iv _ => N + 1 - (intOf iv).toNat)
        case atStart => exact ⟨0, by omega, rfl, Fj, Fk, Fm, Fp, FB⟩
        case round =>
          clear Fj Fk Fm Fp FB
          obtain ⟨i, hi, rfl, Kj, Kk, Km, Kp, KB⟩ := hrel
          obtain ⟨cj0, cj1, cj2, cj3, cj4⟩ := (Kj.out).c
          have lj := (Kj.out).lt
          have mj : ∀ j, bj < wr.heap.size + j := fun j => Nat.lt_of_lt_of_le lj (Nat.le_add_right _ j)
          obtain ⟨ck0, ck1, ck2, ck3, ck4⟩ := (Kk.out).c
          have lk := (Kk.out).lt
          have mk : ∀ j, V4.heap.size < wr.heap.size + j := fun j => Nat.lt_of_lt_of_le lk (Nat.le_add_right _ j)
          obtain ⟨cm0, cm1, cm2, cm3, cm4⟩ := (Km.out).c
          have lm := (Km.out).lt
          have mm : ∀ j, V5.heap.size < wr.heap.size + j := fun j => Nat.lt_of_lt_of_le lm (Nat.le_add_right _ j)
          have cp0 := (Kp.out).c0
          have cp1 := (Kp.out).c1
          have lp := (Kp.out).lt
          have mp : ∀ j, bp < wr.heap.size + j := fun j => Nat.lt_of_lt_of_le lp (Nat.le_add_right _ j)
          go_wp2_with fail
          refine (FL.out _).mono ?_
          rintro e U0 ⟨rfl, hb⟩
          clear cj0 cj1 cj2 cj3 cj4 lj mj ck0 ck1 ck2 ck3 ck4 lk mk cm0 cm1 cm2 cm3 cm4 lm mm cp0 cp1 lp mp
          have j_U04 := Lib.hid (JB.below Kj.out hb)
          have k_U04 := Lib.hid (JB.below Kk.out hb)
          have m_U04 := Lib.hid (JB.below Km.out hb)
          have p_U04 := Lib.hid (HBb Kp.out hb)
          have B_U04 := Lib.hid (Below.trans KB.out (hb.mono (KB.out).size))
          clear hb Kj Kk Km Kp KB
          by_cases hlt : i ≤ N
          · have kd : decide ((i : Int) ≤ (N : Int)) = true := decide_eq_true (by omega)
            have ki : (i : Int) ≤ (N : Int) := by omega
            obtain ⟨px, py, qx, qy, rx, ry, g, p1, p2, p3, t1, g1, g2, pp⟩ := RND.out i hlt
            have P1 := Lib.hid p1
            have P2 := Lib.hid p2
            have P3 := Lib.hid p3
            have T1 := Lib.hid t1
            have G1 := Lib.hid g1
            have G2 := Lib.hid g2
            have PP := Lib.hid pp
            clear p1 p2 p3 t1 g1 g2 pp
            obtain ⟨cj0, cj1, cj2, cj3, cj4⟩ := (j_U04.out).c
            have lj := (j_U04.out).lt
            have mj : ∀ j, bj < U0.heap.size + j := fun j => Nat.lt_of_lt_of_le lj (Nat.le_add_right _ j)
            obtain ⟨ck0, ck1, ck2, ck3, ck4⟩ := (k_U04.out).c
            have lk := (k_U04.out).lt
            have mk : ∀ j, V4.heap.size < U0.heap.size + j := fun j => Nat.lt_of_lt_of_le lk (Nat.le_add_right _ j)
            obtain ⟨cm0, cm1, cm2, cm3, cm4⟩ := (m_U04.out).c
            have lm := (m_U04.out).lt
            have mm : ∀ j, V5.heap.size < U0.heap.size + j := fun j => Nat.lt_of_lt_of_le lm (Nat.le_add_right _ j)
            have cp0 := (p_U04.out).c0
            have cp1 := (p_U04.out).c1
            have lp := (p_U04.out).lt
            have mp : ∀ j, bp < U0.heap.size + j := fun j => Nat.lt_of_lt_of_le lp (Nat.le_add_right _ j)
            go_wp2_with fail
            refine (P1.out _).mono ?_
            rintro e U1 ⟨rfl, hb⟩
            clear cj0 cj1 cj2 cj3 cj4 lj mj ck0 ck1 ck2 ck3 ck4 lk mk cm0 cm1 cm2 cm3 cm4 lm mm cp0 cp1 lp mp
            have j_U15 := Lib.hid (JB.below j_U04.out hb)
            have k_U15 := Lib.hid (JB.below k_U04.out hb)
            have m_U15 := Lib.hid (JB.below m_U04.out hb)
            have p_U15 := Lib.hid (HBb p_U04.out hb)
            have B_U15 := Lib.hid (Below.trans B_U04.out (hb.mono (B_U04.out).size))
            clear hb j_U04 k_U04 m_U04 p_U04 B_U04
            obtain ⟨cj0, cj1, cj2, cj3, cj4⟩ := (j_U15.out).c
            have lj := (j_U15.out).lt
            have mj : ∀ j, bj < U1.heap.size + j := fun j => Nat.lt_of_lt_of_le lj (Nat.le_add_right _ j)
            obtain ⟨ck0, ck1, ck2, ck3, ck4⟩ := (k_U15.out).c
            have lk := (k_U15.out).lt
            have mk : ∀ j, V4.heap.size < U1.heap.size + j := fun j => Nat.lt_of_lt_of_le lk (Nat.le_add_right _ j)
            obtain ⟨cm0, cm1, cm2, cm3, cm4⟩ := (m_U15.out).c
            have lm := (m_U15.out).lt
            have mm : ∀ j, V5.heap.size < U1.heap.size + j := fun j => Nat.lt_of_lt_of_le lm (Nat.le_add_right _ j)
            have cp0 := (p_U15.out).c0
            have cp1 := (p_U15.out).c1
            have lp := (p_U15.out).lt
            have mp : ∀ j, bp < U1.heap.size + j := fun j => Nat.lt_of_lt_of_le lp (Nat.le_add_right _ j)
            have N1 := Lib.hid (HB.new U1 px py)
            go_wp2_with fail
            refine (P2.out _).mono ?_
            rintro e U2 ⟨rfl, hb⟩
            clear cj0 cj1 cj2 cj3 cj4 lj mj ck0 ck1 ck2 ck3 ck4 lk mk cm0 cm1 cm2 cm3 cm4 lm mm cp0 cp1 lp mp
            have j_U26 := Lib.hid (JB.below (JB.alloc j_U15.out (.cells #[.int .i64 px, .int .i64 py] 25)) hb)
            have k_U26 := Lib.hid (JB.below (JB.alloc k_U15.out (.cells #[.int .i64 px, .int .i64 py] 25)) hb)
            have m_U26 := Lib.hid (JB.below (JB.alloc m_U15.out (.cells #[.int .i64 px, .int .i64 py] 25)) hb)
            have p_U26 := Lib.hid (HBb (HB.alloc p_U15.out (.cells #[.int .i64 px, .int .i64 py] 25)) hb)
            have B_U26 := Lib.hid (Below.trans ((B_U15.out).alloc (B_U15.out).size (.cells #[.int .i64 px, .int .i64 py] 25)) (hb.mono (((B_U15.out).alloc (B_U15.out).size (.cells #[.int .i64 px, .int .i64 py] 25))).size))
            have s_U26 := Lib.hid (HBb N1.out hb)
            clear hb j_U15 k_U15 m_U15 p_U15 B_U15
            clear N1
            obtain ⟨cj0, cj1, cj2, cj3, cj4⟩ := (j_U26.out).c
            have lj := (j_U26.out).lt
            have mj : ∀ j, bj < U2.heap.size + j := fun j => Nat.lt_of_lt_of_le lj (Nat.le_add_right _ j)
            obtain ⟨ck0, ck1, ck2, ck3, ck4⟩ := (k_U26.out).c
            have lk := (k_U26.out).lt
            have mk : ∀ j, V4.heap.size < U2.heap.size + j := fun j => Nat.lt_of_lt_of_le lk (Nat.le_add_right _ j)
            obtain ⟨cm0, cm1, cm2, cm3, cm4⟩ := (m_U26.out).c
            have lm := (m_U26.out).lt
            have mm : ∀ j, V5.heap.size < U2.heap.size + j := fun j => Nat.lt_of_lt_of_le lm (Nat.le_add_right _ j)
            have cp0 := (p_U26.out).c0
            have cp1 := (p_U26.out).c1
            have lp := (p_U26.out).lt
            have mp : ∀ j, bp < U2.heap.size + j := fun j => Nat.lt_of_lt_of_le lp (Nat.le_add_right _ j)
            have cs0 := (s_U26.out).c0
            have cs1 := (s_U26.out).c1
            have ls := (s_U26.out).lt
            have ms : ∀ j, U1.heap.size < U2.heap.size + j := fun j => Nat.lt_of_lt_of_le ls (Nat.le_add_right _ j)
            have N1 := Lib.hid (HB.new U2 qx qy)
            go_wp2_with fail
            refine (P3.out _).mono ?_
            rintro e U3 ⟨rfl, hb⟩
            clear cj0 cj1 cj2 cj3 cj4 lj mj ck0 ck1 ck2 ck3 ck4 lk mk cm0 cm1 cm2 cm3 cm4 lm mm cp0 cp1 lp mp cs0 cs1 ls ms
            have j_U37 := Lib.hid (JB.below (JB.alloc j_U26.out (.cells #[.int .i64 qx, .int .i64 qy] 25)) hb)
            have k_U37 := Lib.hid (JB.below (JB.alloc k_U26.out (.cells #[.int .i64 qx, .int .i64 qy] 25)) hb)
            have m_U37 := Lib.hid (JB.below (JB.alloc m_U26.out (.cells #[.int .i64 qx, .int .i64 qy] 25)) hb)
            have p_U37 := Lib.hid (HBb (HB.alloc p_U26.out (.cells #[.int .i64 qx, .int .i64 qy] 25)) hb)
            have B_U37 := Lib.hid (Below.trans ((B_U26.out).alloc (B_U26.out).size (.cells #[.int .i64 qx, .int .i64 qy] 25)) (hb.mono (((B_U26.out).alloc (B_U26.out).size (.cells #[.int .i64 qx, .int .i64 qy] 25))).size))
            have s_U37 := Lib.hid (HBb (HB.alloc s_U26.out (.cells #[.int .i64 qx, .int .i64 qy] 25)) hb)
            have q_U37 := Lib.hid (HBb N1.out hb)
            clear hb j_U26 k_U26 m_U26 p_U26 B_U26 s_U26
            clear N1
            obtain ⟨cj0, cj1, cj2, cj3, cj4⟩ := (j_U37.out).c
            have lj := (j_U37.out).lt
            have mj : ∀ j, bj < U3.heap.size + j := fun j => Nat.lt_of_lt_of_le lj (Nat.le_add_right _ j)
            obtain ⟨ck0, ck1, ck2, ck3, ck4⟩ := (k_U37.out).c
            have lk := (k_U37.out).lt
            have mk : ∀ j, V4.heap.size < U3.heap.size + j := fun j => Nat.lt_of_lt_of_le lk (Nat.le_add_right _ j)
            obtain ⟨cm0, cm1, cm2, cm3, cm4⟩ := (m_U37.out).c
            have lm := (m_U37.out).lt
            have mm : ∀ j, V5.heap.size < U3.heap.size + j := fun j => Nat.lt_of_lt_of_le lm (Nat.le_add_right _ j)
            have cp0 := (p_U37.out).c0
            have cp1 := (p_U37.out).c1
            have lp := (p_U37.out).lt
            have mp : ∀ j, bp < U3.heap.size + j := fun j => Nat.lt_of_lt_of_le lp (Nat.le_add_right _ j)
            have cs0 := (s_U37.out).c0
            have cs1 := (s_U37.out).c1
            have ls := (s_U37.out).lt
            have ms : ∀ j, U1.heap.size < U3.heap.size + j := fun j => Nat.lt_of_lt_of_le ls (Nat.le_add_right _ j)
            have cq0 := (q_U37.out).c0
            have cq1 := (q_U37.out).c1
            have lq := (q_U37.out).lt
            have mq : ∀ j, U2.heap.size < U3.heap.size + j := fun j => Nat.lt_of_lt_of_le lq (Nat.le_add_right _ j)
            have N1 := Lib.hid (HB.new U3 rx ry)
            go_upto_region 17 with fail
            clear cj0 cj1 cj2 cj3 cj4 lj mj ck0 ck1 ck2 ck3 ck4 lk mk cm0 cm1 cm2 cm3 cm4 lm mm cp0 cp1 lp mp cs0 cs1 ls ms cq0 cq1 lq mq
            have Fj := Lib.hid (JB.alloc j_U37.out (.cells #[.int .i64 rx, .int .i64 ry] 25))
            have Fk := Lib.hid (JB.alloc k_U37.out (.cells #[.int .i64 rx, .int .i64 ry] 25))
            have Fm := Lib.hid (JB.alloc m_U37.out (.cells #[.int .i64 rx, .int .i64 ry] 25))
            have Fp := Lib.hid (HB.alloc p_U37.out (.cells #[.int .i64 rx, .int .i64 ry] 25))
            have Fs := Lib.hid (HB.alloc s_U37.out (.cells #[.int .i64 rx, .int .i64 ry] 25))
            have Fq := Lib.hid (HB.alloc q_U37.out (.cells #[.int .i64 rx, .int .i64 ry] 25))
            have FB := Lib.hid ((B_U37.out).alloc (B_U37.out).size (.cells #[.int .i64 rx, .int .i64 ry] 25))
            clear j_U37 k_U37 m_U37 p_U37 s_U37 q_U37 B_U37
            generalize U3.alloc (.cells #[.int .i64 rx, .int .i64 ry] 25) = V9 at *
            refine wp_region_noPanic ?_
            refine wp_region_held_drew (S := (fun w' => w'.cell? ⟨U2.heap.size, 0, none⟩ = some (.int .i64 qx) ∧ w'.cell? ⟨U2.heap.size, 1, none⟩ = some (.int .i64 qy) ∧ w'.cell? ⟨U1.heap.size, 0, none⟩ = some (.int .i64 px) ∧ w'.cell? ⟨U1.heap.size, 1, none⟩ = some (.int .i64 py) ∧ w'.cell? ⟨bj, 0, none⟩ = some (.int .i64 x) ∧ w'.cell? ⟨bj, 1, none⟩ = some (.int .i64 y) ∧ w'.cell? ⟨bj, 2, none⟩ = some (.int .i64 h) ∧ w'.cell? ⟨bj, 3, none⟩ = some (.int .i64 t) ∧ w'.cell? ⟨bj, 4, none⟩ = some (.int .i64 l) ∧ w'.cell? ⟨V4.heap.size, 0, none⟩ = some (.int .i64 X) ∧ w'.cell? ⟨V4.heap.size, 1, none⟩ = some (.int .i64 Y) ∧ w'.cell? ⟨V4.heap.size, 2, none⟩ = some (.int .i64 H) ∧ w'.cell? ⟨V4.heap.size, 3, none⟩ = some (.int .i64 t) ∧ w'.cell? ⟨V4.heap.size, 4, none⟩ = some (.int .i64 l) ∧ w'.cell? ⟨U3.heap.size, 0, none⟩ = some (.int .i64 rx) ∧ w'.cell? ⟨U3.heap.size, 1, none⟩ = some (.int .i64 ry) ∧ w'.cell? ⟨bp, 0, none⟩ = some (.int .i64 a) ∧ w'.cell? ⟨bp, 1, none⟩ = some (.int .i64 b) ∧ Below V9.heap.size V9 w')) (by kernel_rfl) ?_ (fun hH => ?_)
            · exact ⟨Fq.out.c0, Fq.out.c1, Fs.out.c0, Fs.out.c1, Fj.out.c.1, Fj.out.c.2.1, Fj.out.c.2.2.1, Fj.out.c.2.2.2.1, Fj.out.c.2.2.2.2, Fk.out.c.1, Fk.out.c.2.1, Fk.out.c.2.2.1, Fk.out.c.2.2.2.1, Fk.out.c.2.2.2.2, N1.out.c0, N1.out.c1, Fp.out.c0, Fp.out.c1, (Below.refl _ _).drew⟩
            refine wpAnyH_take (i := 0) (oi := { dst := some 75, op := _, type := _, pos := _, after := _, guard := _ }) (v := ?_) rfl (by kernel_rfl) (by kernel_rfl) (by kernel_rfl) (fun _ _ _ h => h) (Or.inl ⟨by rfl, ?_⟩) hH ?_
            rotate_left 1
            · intro W hSw
              (try dsimp only at hSw)
              go_simp
              (try with_reducible rfl)
            try simp only [Act.put, List.setIfInBounds_toArray, List.set_cons_zero, List.set_cons_succ]
            refine wpAnyH_take (i := 1) (oi := { dst := some 76, op := _, type := _, pos := _, after := _, guard := _ }) (v := ?_) rfl (by kernel_rfl) (by kernel_rfl) (by kernel_rfl) (fun _ _ _ h => h) (Or.inl ⟨by rfl, ?_⟩) hH ?_
            rotate_left 1
            · intro W hSw
              (try dsimp only at hSw)
              go_simp
              (try with_reducible rfl)
            try simp only [Act.put, List.setIfInBounds_toArray, List.set_cons_zero, List.set_cons_succ]
            refine wpAnyH_take (i := 2) (oi := { dst := some 77, op := _, type := _, pos := _, after := _, guard := _ }) (v := ?_) rfl (by kernel_rfl) (by kernel_rfl) (by kernel_rfl) (fun _ _ _ h => h) (Or.inl ⟨by rfl, ?_⟩) hH ?_
            rotate_left 1
            · intro W hSw
              (try dsimp only at hSw)
              go_simp
              (try with_reducible rfl)
            try simp only [Act.put, List.setIfInBounds_toArray, List.set_cons_zero, List.set_cons_succ]
            refine wpAnyH_ready (rs := [3]) (by kernel_rfl) (by simp) (AllReadyH.cons rfl (fun K hK => ?_) AllReadyH.nil)
            go_simp
            go_at_call 23; ((with_reducible refine (T1.out _).mono ?_); rintro e r1 ⟨rfl, hb⟩); go_wp2_with fail
            refine hK.out _ _ ?_ (fun hG => ?_)
            · exact ⟨cell_below hb hH.1, cell_below hb hH.2.1, cell_below hb hH.2.2.1, cell_below hb hH.2.2.2.1, cell_below hb hH.2.2.2.2.1, cell_below hb hH.2.2.2.2.2.1, cell_below hb hH.2.2.2.2.2.2.1, cell_below hb hH.2.2.2.2.2.2.2.1, cell_below hb hH.2.2.2.2.2.2.2.2.1, cell_below hb hH.2.2.2.2.2.2.2.2.2.1, cell_below hb hH.2.2.2.2.2.2.2.2.2.2.1, cell_below hb hH.2.2.2.2.2.2.2.2.2.2.2.1, cell_below hb hH.2.2.2.2.2.2.2.2.2.2.2.2.1, cell_below hb hH.2.2.2.2.2.2.2.2.2.2.2.2.2.1, cell_below hb hH.2.2.2.2.2.2.2.2.2.2.2.2.2.2.1, cell_below hb hH.2.2.2.2.2.2.2.2.2.2.2.2.2.2.2.1, cell_below hb hH.2.2.2.2.2.2.2.2.2.2.2.2.2.2.2.2.1, cell_below hb hH.2.2.2.2.2.2.2.2.2.2.2.2.2.2.2.2.2.1, Below.trans hH.2.2.2.2.2.2.2.2.2.2.2.2.2.2.2.2.2.2 (hb.mono hH.2.2.2.2.2.2.2.2.2.2.2.2.2.2.2.2.2.2.size)⟩
            replace hH := hG
            clear hK K hG
            try simp only [Act.put, List.setIfInBounds_toArray, List.set_cons_zero, List.set_cons_succ]
            refine wpAnyH_take (i := 4) (oi := { dst := some 79, op := _, type := _, pos := _, after := _, guard := _ }) (v := ?_) rfl (by kernel_rfl) (by kernel_rfl) (by kernel_rfl) (fun _ _ _ h => h) (Or.inl ⟨by rfl, ?_⟩) hH ?_
            rotate_left 1
            · intro W hSw
              (try dsimp only at hSw)
              go_simp
              (try with_reducible rfl)
            try simp only [Act.put, List.setIfInBounds_toArray, List.set_cons_zero, List.set_cons_succ]
            refine wpAnyH_take (i := 5) (oi := { dst := some 80, op := _, type := _, pos := _, after := _, guard := _ }) (v := ?_) rfl (by kernel_rfl) (by kernel_rfl) (by kernel_rfl) (fun _ _ _ h => h) (Or.inl ⟨by rfl, ?_⟩) hH ?_
            rotate_left 1
            · intro W hSw
              (try dsimp only at hSw)
              go_simp
              (try with_reducible rfl)
            try simp only [Act.put, List.setIfInBounds_toArray, List.set_cons_zero, List.set_cons_succ]
            refine wpAnyH_take (i := 6) (oi := { dst := some 81, op := _, type := _, pos := _, after := _, guard := _ }) (v := ?_) rfl (by kernel_rfl) (by kernel_rfl) (by kernel_rfl) (fun _ _ _ h => h) (Or.inl ⟨by rfl, ?_⟩) hH ?_
            rotate_left 1
            · intro W hSw
              (try dsimp only at hSw)
              go_simp
              (try with_reducible rfl)
            try simp only [Act.put, List.setIfInBounds_toArray, List.set_cons_zero, List.set_cons_succ]
            refine wpAnyH_take (i := 7) (oi := { dst := some 82, op := _, type := _, pos := _, after := _, guard := _ }) (v := ?_) rfl (by kernel_rfl) (by kernel_rfl) (by kernel_rfl) (fun _ _ _ h => h) (Or.inl ⟨by rfl, ?_⟩) hH ?_
            rotate_left 1
            · intro W hSw
              (try dsimp only at hSw)
              go_simp
              (try with_reducible rfl)
            try simp only [Act.put, List.setIfInBounds_toArray, List.set_cons_zero, List.set_cons_succ]
            refine wpAnyH_take (i := 9) (oi := { dst := some 84, op := _, type := _, pos := _, after := _, guard := _ }) (v := ?_) rfl (by kernel_rfl) (by kernel_rfl) (by kernel_rfl) (fun _ _ _ h => h) (Or.inl ⟨by rfl, ?_⟩) hH ?_
            rotate_left 1
            · intro W hSw
              (try dsimp only at hSw)
              go_simp
              (try with_reducible rfl)
            try simp only [Act.put, List.setIfInBounds_toArray, List.set_cons_zero, List.set_cons_succ]
            refine wpAnyH_take (i := 10) (oi := { dst := some 85, op := _, type := _, pos := _, after := _, guard := _ }) (v := ?_) rfl (by kernel_rfl) (by kernel_rfl) (by kernel_rfl) (fun _ _ _ h => h) (Or.inl ⟨by rfl, ?_⟩) hH ?_
            rotate_left 1
            · intro W hSw
              (try dsimp only at hSw)
              go_simp
              (try with_reducible rfl)
            try simp only [Act.put, List.setIfInBounds_toArray, List.set_cons_zero, List.set_cons_succ]
            refine wpAnyH_ready (rs := [8]) (by kernel_rfl) (by simp) (AllReadyH.cons rfl (fun K hK => ?_) AllReadyH.nil)
            go_simp
            go_at_call 24; ((with_reducible refine (G1.out _).mono ?_); rintro e r2 ⟨rfl, hb⟩); go_wp2_with fail
            refine hK.out _ _ ?_ (fun hG => ?_)
            · exact ⟨cell_below hb hH.1, cell_below hb hH.2.1, cell_below hb hH.2.2.1, cell_below hb hH.2.2.2.1, cell_below hb hH.2.2.2.2.1, cell_below hb hH.2.2.2.2.2.1, cell_below hb hH.2.2.2.2.2.2.1, cell_below hb hH.2.2.2.2.2.2.2.1, cell_below hb hH.2.2.2.2.2.2.2.2.1, cell_below hb hH.2.2.2.2.2.2.2.2.2.1, cell_below hb hH.2.2.2.2.2.2.2.2.2.2.1, cell_below hb hH.2.2.2.2.2.2.2.2.2.2.2.1, cell_below hb hH.2.2.2.2.2.2.2.2.2.2.2.2.1, cell_below hb hH.2.2.2.2.2.2.2.2.2.2.2.2.2.1, cell_below hb hH.2.2.2.2.2.2.2.2.2.2.2.2.2.2.1, cell_below hb hH.2.2.2.2.2.2.2.2.2.2.2.2.2.2.2.1, cell_below hb hH.2.2.2.2.2.2.2.2.2.2.2.2.2.2.2.2.1, cell_below hb hH.2.2.2.2.2.2.2.2.2.2.2.2.2.2.2.2.2.1, Below.trans hH.2.2.2.2.2.2.2.2.2.2.2.2.2.2.2.2.2.2 (hb.mono hH.2.2.2.2.2.2.2.2.2.2.2.2.2.2.2.2.2.2.size)⟩
            replace hH := hG
            clear hK K hG
            try simp only [Act.put, List.setIfInBounds_toArray, List.set_cons_zero, List.set_cons_succ]
            refine wpAnyH_ready (rs := [11]) (by kernel_rfl) (by simp) (AllReadyH.cons rfl (fun K hK => ?_) AllReadyH.nil)
            go_simp
            go_at_call 24; ((with_reducible refine (G2.out _).mono ?_); rintro e r3 ⟨rfl, hb⟩); go_wp2_with fail
            refine hK.out _ _ ?_ (fun hG => ?_)
            · exact ⟨cell_below hb hH.1, cell_below hb hH.2.1, cell_below hb hH.2.2.1, cell_below hb hH.2.2.2.1, cell_below hb hH.2.2.2.2.1, cell_below hb hH.2.2.2.2.2.1, cell_below hb hH.2.2.2.2.2.2.1, cell_below hb hH.2.2.2.2.2.2.2.1, cell_below hb hH.2.2.2.2.2.2.2.2.1, cell_below hb hH.2.2.2.2.2.2.2.2.2.1, cell_below hb hH.2.2.2.2.2.2.2.2.2.2.1, cell_below hb hH.2.2.2.2.2.2.2.2.2.2.2.1, cell_below hb hH.2.2.2.2.2.2.2.2.2.2.2.2.1, cell_below hb hH.2.2.2.2.2.2.2.2.2.2.2.2.2.1, cell_below hb hH.2.2.2.2.2.2.2.2.2.2.2.2.2.2.1, cell_below hb hH.2.2.2.2.2.2.2.2.2.2.2.2.2.2.2.1, cell_below hb hH.2.2.2.2.2.2.2.2.2.2.2.2.2.2.2.2.1, cell_below hb hH.2.2.2.2.2.2.2.2.2.2.2.2.2.2.2.2.2.1, Below.trans hH.2.2.2.2.2.2.2.2.2.2.2.2.2.2.2.2.2.2 (hb.mono hH.2.2.2.2.2.2.2.2.2.2.2.2.2.2.2.2.2.2.size)⟩
            replace hH := hG
            clear hK K hG
            try simp only [Act.put, List.setIfInBounds_toArray, List.set_cons_zero, List.set_cons_succ]
            refine wpAnyH_take (i := 12) (oi := { dst := some 87, op := _, type := _, pos := _, after := _, guard := _ }) (v := ?_) rfl (by kernel_rfl) (by kernel_rfl) (by kernel_rfl) (fun _ _ _ h => h) (Or.inl ⟨by rfl, ?_⟩) hH ?_
            rotate_left 1
            · intro W hSw
              (try dsimp only at hSw)
              go_simp
              (try with_reducible rfl)
            try simp only [Act.put, List.setIfInBounds_toArray, List.set_cons_zero, List.set_cons_succ]
            refine wpAnyH_take (i := 13) (oi := { dst := some 88, op := _, type := _, pos := _, after := _, guard := _ }) (v := ?_) rfl (by kernel_rfl) (by kernel_rfl) (by kernel_rfl) (fun _ _ _ h => h) (Or.inl ⟨by rfl, ?_⟩) hH ?_
            rotate_left 1
            · intro W hSw
              (try dsimp only at hSw)
              go_simp
              (try with_reducible rfl)
            try simp only [Act.put, List.setIfInBounds_toArray, List.set_cons_zero, List.set_cons_succ]
            refine wpAnyH_take (i := 14) (oi := { dst := some 89, op := _, type := _, pos := _, after := _, guard := _ }) (v := ?_) rfl (by kernel_rfl) (by kernel_rfl) (by kernel_rfl) (fun _ _ _ h => h) (Or.inl ⟨by rfl, ?_⟩) hH ?_
            rotate_left 1
            · intro W hSw
              (try dsimp only at hSw)
              go_simp
              (try with_reducible rfl)
            try simp only [Act.put, List.setIfInBounds_toArray, List.set_cons_zero, List.set_cons_succ]
            refine wpAnyH_take (i := 15) (oi := { dst := some 90, op := _, type := _, pos := _, after := _, guard := _ }) (v := ?_) rfl (by kernel_rfl) (by kernel_rfl) (by kernel_rfl) (fun _ _ _ h => h) (Or.inl ⟨by rfl, ?_⟩) hH ?_
            rotate_left 1
            · intro W hSw
              (try dsimp only at hSw)
              go_simp
              (try with_reducible rfl)
            try simp only [Act.put, List.setIfInBounds_toArray, List.set_cons_zero, List.set_cons_succ]
            refine wpAnyH_take (i := 16) (oi := { dst := some 91, op := _, type := _, pos := _, after := _, guard := _ }) (v := ?_) rfl (by kernel_rfl) (by kernel_rfl) (by kernel_rfl) (fun _ _ _ h => h) (Or.inl ⟨by rfl, ?_⟩) hH ?_
            rotate_left 1
            · intro W hSw
              (try dsimp only at hSw)
              go_simp
              (try with_reducible rfl)
            try simp only [Act.put, List.setIfInBounds_toArray, List.set_cons_zero, List.set_cons_succ]
            refine wpAnyH_take (i := 17) (oi := { dst := some 92, op := _, type := _, pos := _, after := _, guard := _ }) (v := undef) rfl (by kernel_rfl) (by kernel_rfl) (by kernel_rfl) (fun _ _ _ h => h) (Or.inr ⟨by simp [Region.wanted, yielded, hu], rfl⟩) hH ?_
            try simp only [Act.put, List.setIfInBounds_toArray, List.set_cons_zero, List.set_cons_succ]
            refine wpAnyH_take (i := 18) (oi := { dst := some 93, op := _, type := _, pos := _, after := _, guard := _ }) (v := undef) rfl (by kernel_rfl) (by kernel_rfl) (by kernel_rfl) (fun _ _ _ h => h) (Or.inr ⟨by simp [Region.wanted, yielded, hu], rfl⟩) hH ?_
            try simp only [Act.put, List.setIfInBounds_toArray, List.set_cons_zero, List.set_cons_succ]
            refine wpAnyH_take (i := 19) (oi := { dst := some 94, op := _, type := _, pos := _, after := _, guard := _ }) (v := undef) rfl (by kernel_rfl) (by kernel_rfl) (by kernel_rfl) (fun _ _ _ h => h) (Or.inr ⟨by simp [Region.wanted, yielded, hu], rfl⟩) hH ?_
            try simp only [Act.put, List.setIfInBounds_toArray, List.set_cons_zero, List.set_cons_succ]
            refine wpAnyH_take (i := 20) (oi := { dst := some 95, op := _, type := _, pos := _, after := _, guard := _ }) (v := undef) rfl (by kernel_rfl) (by kernel_rfl) (by kernel_rfl) (fun _ _ _ h => h) (Or.inr ⟨by simp [Region.wanted, yielded, hu], rfl⟩) hH ?_
            try simp only [Act.put, List.setIfInBounds_toArray, List.set_cons_zero, List.set_cons_succ]
            refine wpAnyH_take (i := 21) (oi := { dst := some 96, op := _, type := _, pos := _, after := _, guard := _ }) (v := undef) rfl (by kernel_rfl) (by kernel_rfl) (by kernel_rfl) (fun _ _ _ h => h) (Or.inr ⟨by simp [Region.wanted, yielded, hu], rfl⟩) hH ?_
            try simp only [Act.put, List.setIfInBounds_toArray, List.set_cons_zero, List.set_cons_succ]
            refine wpAnyH_take (i := 22) (oi := { dst := some 97, op := _, type := _, pos := _, after := _, guard := _ }) (v := undef) rfl (by kernel_rfl) (by kernel_rfl) (by kernel_rfl) (fun _ _ _ h => h) (Or.inr ⟨by simp [Region.wanted, yielded, hu], rfl⟩) hH ?_
            try simp only [Act.put, List.setIfInBounds_toArray, List.set_cons_zero, List.set_cons_succ]
            refine wpAnyH_take (i := 23) (oi := { dst := some 98, op := _, type := _, pos := _, after := _, guard := _ }) (v := undef) rfl (by kernel_rfl) (by kernel_rfl) (by kernel_rfl) (fun _ _ _ h => h) (Or.inr ⟨by simp [Region.wanted, yielded, hu], rfl⟩) hH ?_
            try simp only [Act.put, List.setIfInBounds_toArray, List.set_cons_zero, List.set_cons_succ]
            refine wpAnyH_take (i := 24) (oi := { dst := some 99, op := _, type := _, pos := _, after := _, guard := _ }) (v := undef) rfl (by kernel_rfl) (by kernel_rfl) (by kernel_rfl) (fun _ _ _ h => h) (Or.inr ⟨by simp [Region.wanted, yielded, hu], rfl⟩) hH ?_
            try simp only [Act.put, List.setIfInBounds_toArray, List.set_cons_zero, List.set_cons_succ]
            refine wpAnyH_take (i := 25) (oi := { dst := some 100, op := _, type := _, pos := _, after := _, guard := _ }) (v := undef) rfl (by kernel_rfl) (by kernel_rfl) (by kernel_rfl) (fun _ _ _ h => h) (Or.inr ⟨by simp [Region.wanted, yielded, hu], rfl⟩) hH ?_
            try simp only [Act.put, List.setIfInBounds_toArray, List.set_cons_zero, List.set_cons_succ]
            refine wpAnyH_take (i := 26) (oi := { dst := some 101, op := _, type := _, pos := _, after := _, guard := _ }) (v := ?_) rfl (by kernel_rfl) (by kernel_rfl) (by kernel_rfl) (fun _ _ _ h => h) (Or.inl ⟨by rfl, ?_⟩) hH ?_
            rotate_left 1
            · intro W hSw
              (try dsimp only at hSw)
              go_simp
              (try with_reducible rfl)
            try simp only [Act.put, List.setIfInBounds_toArray, List.set_cons_zero, List.set_cons_succ]
            refine wpAnyH_take (i := 27) (oi := { dst := some 102, op := _, type := _, pos := _, after := _, guard := _ }) (v := ?_) rfl (by kernel_rfl) (by kernel_rfl) (by kernel_rfl) (fun _ _ _ h => h) (Or.inl ⟨by rfl, ?_⟩) hH ?_
            rotate_left 1
            · intro W hSw
              (try dsimp only at hSw)
              go_simp
              (try with_reducible rfl)
            try simp only [Act.put, List.setIfInBounds_toArray, List.set_cons_zero, List.set_cons_succ]
            refine wpAnyH_done (by kernel_rfl) ?_ _
            refine NoPanic.normal ?_
            have hf := hH.2.2.2.2.2.2.2.2.2.2.2.2.2.2.2.2.2.2
            have Lj := Lib.hid (JB.below Fj.out hf)
            have Lk := Lib.hid (JB.below Fk.out hf)
            have Lm := Lib.hid (JB.below Fm.out hf)
            have Lp := Lib.hid (HBb Fp.out hf)
            have LB := Lib.hid (Below.trans FB.out (hf.mono FB.out.size))
            clear hf hH Fj Fk Fm Fp Fs Fq FB N1 P1 P2 P3 T1 G1 G2 PP
            go_wp2_with fail
            go_roundw
            case rel => exact ⟨i + 1, by omega, by go_num, Lj, Lk, Lm, Lp, LB⟩
            case measure => simp [intOf]; omega
          · have kd : decide ((i : Int) ≤ (N : Int)) = false := decide_eq_false (by omega)
            have ki : ¬ (i : Int) ≤ (N : Int) := by omega
            obtain ⟨cj0, cj1, cj2, cj3, cj4⟩ := (j_U04.out).c
            have lj := (j_U04.out).lt
            have mj : ∀ j, bj < U0.heap.size + j := fun j => Nat.lt_of_lt_of_le lj (Nat.le_add_right _ j)
            obtain ⟨ck0, ck1, ck2, ck3, ck4⟩ := (k_U04.out).c
            have lk := (k_U04.out).lt
            have mk : ∀ j, V4.heap.size < U0.heap.size + j := fun j => Nat.lt_of_lt_of_le lk (Nat.le_add_right _ j)
            obtain ⟨cm0, cm1, cm2, cm3, cm4⟩ := (m_U04.out).c
            have lm := (m_U04.out).lt
            have mm : ∀ j, V5.heap.size < U0.heap.size + j := fun j => Nat.lt_of_lt_of_le lm (Nat.le_add_right _ j)
            have cp0 := (p_U04.out).c0
            have cp1 := (p_U04.out).c1
            have lp := (p_U04.out).lt
            have mp : ∀ j, bp < U0.heap.size + j := fun j => Nat.lt_of_lt_of_le lp (Nat.le_add_right _ j)
            go_wp2_with fail
            refine (JK.out _).mono ?_
            rintro e U1 ⟨rfl, hb⟩
            clear cj0 cj1 cj2 cj3 cj4 lj mj ck0 ck1 ck2 ck3 ck4 lk mk cm0 cm1 cm2 cm3 cm4 lm mm cp0 cp1 lp mp
            have j_U15 := Lib.hid (JB.below j_U04.out hb)
            have k_U15 := Lib.hid (JB.below k_U04.out hb)
            have m_U15 := Lib.hid (JB.below m_U04.out hb)
            have p_U15 := Lib.hid (HBb p_U04.out hb)
            have B_U15 := Lib.hid (Below.trans B_U04.out (hb.mono (B_U04.out).size))
            clear hb j_U04 k_U04 m_U04 p_U04 B_U04
            go_wp2_with fail
            go_ret
            exact ⟨rfl, B_U15.out⟩
      · have SJ := Lib.hid (shiftJetI x y h t l a b)
        rw [shV_yes hs] at SJ
        have RND := Lib.hid (show ∀ i : Nat, i ≤ N → ∃ px py qx qy rx ry g : Int, (∀ W : World, Calls Try.prog 22 #[jv x y h t l, .int .i64 (i : Int)] W (fun e w9 => e = .returned (.tuple #[.agg #[.int .i64 px, .int .i64 py], .bool true]) ∧ Below W.heap.size W w9)) ∧ (∀ W : World, Calls Try.prog 22 #[jv X Y H t l, .int .i64 (i : Int)] W (fun e w9 => e = .returned (.tuple #[.agg #[.int .i64 qx, .int .i64 qy], .bool true]) ∧ Below W.heap.size W w9)) ∧ (∀ W : World, Calls Try.prog 22 #[jv (x + a) (y + b) h t l, .int .i64 (i : Int)] W (fun e w9 => e = .returned (.tuple #[.agg #[.int .i64 rx, .int .i64 ry], .bool true]) ∧ Below W.heap.size W w9)) ∧ (∀ W : World, Calls Try.prog 23 #[.agg #[.int .i64 px, .int .i64 py], .int .i64 k] W (fun e w9 => e = .returned (.agg #[.int .i64 qx, .int .i64 qy]) ∧ Below W.heap.size W w9)) ∧ (∀ W : World, Calls Try.prog 24 #[jv x y h t l, .int .i64 (i : Int)] W (fun e w9 => e = .returned (.int .i64 g) ∧ Below W.heap.size W w9)) ∧ (∀ W : World, Calls Try.prog 24 #[jv X Y H t l, .int .i64 (i : Int)] W (fun e w9 => e = .returned (.int .i64 g) ∧ Below W.heap.size W w9)) ∧ (∀ W : World, Calls Try.prog 25 #[.agg #[.int .i64 px, .int .i64 py], .agg #[.int .i64 a, .int .i64 b]] W (fun e w9 => e = .returned (.agg #[.int .i64 rx, .int .i64 ry]) ∧ Below W.heap.size W w9)) from fun i hi => by
          have hi2 : (i : Int) ≤ l + 1 := by omega
          have o := ok_of hj
          have b1 := wy_le (k := i) o.x o.p (by omega)
          have b2 := wy_le (k := i) o.y o.q (by omega)
          have P1 := placeI x y h t l i
          rw [told2_yes (inF_iff.2 ⟨hj, by omega, hi2⟩), Int.toNat_natCast] at P1
          have P2 := placeI X Y H t l i
          rw [told2_yes (inF_iff.2 ⟨jk, by omega, hi2⟩), Int.toNat_natCast] at P2
          have wt := wy_turned k hj i
          rw [← hX, ← hY, ← hH] at wt
          rw [wt.1, wt.2] at P2
          have T1 := fun W => Tp.turnI (x := wy x (tx h.toNat t 0) i) (y := wy y (ty h.toNat t 0) i) k (pl_mk (by omega) (by omega)) W
          have G1 := heightI x y h t l i
          rw [ha_at hj hi2] at G1
          have G2 := heightI X Y H t l i
          rw [ha_at jk hi2] at G2
          have hs2 := hs
          unfold shB at hs2
          rw [Bool.and_eq_true, Bool.and_eq_true] at hs2
          have jm := hs2.2
          have ab := pl_yes hs2.1.2
          have P3 := placeI (x + a) (y + b) h t l i
          rw [told2_yes (inF_iff.2 ⟨jm, by omega, hi2⟩), Int.toNat_natCast, wy_moved, wy_moved] at P3
          exact ⟨_, _, _, _, _, _, _, P1, P2, P3, T1, G1, G2, plusL _ _ _ _ (by omega) (by omega) (by omega) (by omega)⟩)
        have jm : jt (x + a) (y + b) h t l = true := by unfold shB at hs; rw [Bool.and_eq_true] at hs; exact hs.2
        have JM := Lib.hid (fun W : World => (isJetI_of jm W).mono fun e w9 q => (⟨q.1, by rw [q.2]; go_grown⟩ : _ ∧ Below W.heap.size W w9))
        clear jm
        clear hs jk hX hY hH hx hy hh ht hl hj hN hA hB2 hk I2
        obtain ⟨cj0, cj1, cj2, cj3, cj4⟩ := (kJ2.out).c
        have lj := (kJ2.out).lt
        have mj : ∀ j, bj < V2.heap.size + j := fun j => Nat.lt_of_lt_of_le lj (Nat.le_add_right _ j)
        have cp0 := (kP2.out).c0
        have cp1 := (kP2.out).c1
        have lp := (kP2.out).lt
        have mp : ∀ j, bp < V2.heap.size + j := fun j => Nat.lt_of_lt_of_le lp (Nat.le_add_right _ j)
        go_wp2_with fail
        refine (I1.out _).mono ?_
        rintro e V3 ⟨rfl, hb⟩
        clear cj0 cj1 cj2 cj3 cj4 lj mj cp0 cp1 lp mp
        have j_V31 := Lib.hid (JB.below kJ2.out hb)
        have p_V31 := Lib.hid (HBb kP2.out hb)
        have B_V31 := Lib.hid (Below.trans kB2.out (hb.mono (kB2.out).size))
        clear hb kJ2 kP2 kB2
        obtain ⟨cj0, cj1, cj2, cj3, cj4⟩ := (j_V31.out).c
        have lj := (j_V31.out).lt
        have mj : ∀ j, bj < V3.heap.size + j := fun j => Nat.lt_of_lt_of_le lj (Nat.le_add_right _ j)
        have cp0 := (p_V31.out).c0
        have cp1 := (p_V31.out).c1
        have lp := (p_V31.out).lt
        have mp : ∀ j, bp < V3.heap.size + j := fun j => Nat.lt_of_lt_of_le lp (Nat.le_add_right _ j)
        go_wp2_with fail
        refine (TJ.out _).mono ?_
        rintro e V4 ⟨rfl, hb⟩
        clear cj0 cj1 cj2 cj3 cj4 lj mj cp0 cp1 lp mp
        have j_V42 := Lib.hid (JB.below j_V31.out hb)
        have p_V42 := Lib.hid (HBb p_V31.out hb)
        have B_V42 := Lib.hid (Below.trans B_V31.out (hb.mono (B_V31.out).size))
        clear hb j_V31 p_V31 B_V31
        obtain ⟨cj0, cj1, cj2, cj3, cj4⟩ := (j_V42.out).c
        have lj := (j_V42.out).lt
        have mj : ∀ j, bj < V4.heap.size + j := fun j => Nat.lt_of_lt_of_le lj (Nat.le_add_right _ j)
        have cp0 := (p_V42.out).c0
        have cp1 := (p_V42.out).c1
        have lp := (p_V42.out).lt
        have mp : ∀ j, bp < V4.heap.size + j := fun j => Nat.lt_of_lt_of_le lp (Nat.le_add_right _ j)
        have Hk := Lib.hid (JB.new V4 X Y H t l)
        go_wp2_with fail
        refine (SJ.out _).mono ?_
        rintro e V5 ⟨rfl, hb⟩
        clear cj0 cj1 cj2 cj3 cj4 lj mj cp0 cp1 lp mp
        have j_V53 := Lib.hid (JB.below (JB.alloc j_V42.out (.cells (jc X Y H t l) 27)) hb)
        have p_V53 := Lib.hid (HBb (HB.alloc p_V42.out (.cells (jc X Y H t l) 27)) hb)
        have B_V53 := Lib.hid (Below.trans ((B_V42.out).alloc (B_V42.out).size (.cells (jc X Y H t l) 27)) (hb.mono (((B_V42.out).alloc (B_V42.out).size (.cells (jc X Y H t l) 27))).size))
        have k_V53 := Lib.hid (JB.below Hk.out hb)
        clear hb j_V42 p_V42 B_V42
        clear Hk
        have Fj := Lib.hid (JB.alloc j_V53.out (.cells (jc (x + a) (y + b) h t l) 27))
        have Fk := Lib.hid (JB.alloc k_V53.out (.cells (jc (x + a) (y + b) h t l) 27))
        have Fp := Lib.hid (HB.alloc p_V53.out (.cells (jc (x + a) (y + b) h t l) 27))
        have FB := Lib.hid ((B_V53.out).alloc (B_V53.out).size (.cells (jc (x + a) (y + b) h t l) 27))
        have Fm := Lib.hid (JB.new V5 (x + a) (y + b) h t l)
        clear TJ SJ j_V53 k_V53 p_V53 B_V53
        go_wp2_with fail
        go_loopw [10] (fun iv wr => ∃ i : Nat, i ≤ N + 1 ∧ iv = .int .i64 (i : Int) ∧ Hid (JB wr bj x y h t l) ∧ Hid (JB wr V4.heap.size X Y H t l) ∧ Hid (JB wr V5.heap.size (x + a) (y + b) h t l) ∧ Hid (HB wr bp a b) ∧ Hid (Below w.heap.size w wr)) (fun iv _ => N + 1 - (intOf iv).toNat)
        case atStart => exact ⟨0, by omega, rfl, Fj, Fk, Fm, Fp, FB⟩
        case round =>
          clear Fj Fk Fm Fp FB
          obtain ⟨i, hi, rfl, Kj, Kk, Km, Kp, KB⟩ := hrel
          obtain ⟨cj0, cj1, cj2, cj3, cj4⟩ := (Kj.out).c
          have lj := (Kj.out).lt
          have mj : ∀ j, bj < wr.heap.size + j := fun j => Nat.lt_of_lt_of_le lj (Nat.le_add_right _ j)
          obtain ⟨ck0, ck1, ck2, ck3, ck4⟩ := (Kk.out).c
          have lk := (Kk.out).lt
          have mk : ∀ j, V4.heap.size < wr.heap.size + j := fun j => Nat.lt_of_lt_of_le lk (Nat.le_add_right _ j)
          obtain ⟨cm0, cm1, cm2, cm3, cm4⟩ := (Km.out).c
          have lm := (Km.out).lt
          have mm : ∀ j, V5.heap.size < wr.heap.size + j := fun j => Nat.lt_of_lt_of_le lm (Nat.le_add_right _ j)
          have cp0 := (Kp.out).c0
          have cp1 := (Kp.out).c1
          have lp := (Kp.out).lt
          have mp : ∀ j, bp < wr.heap.size + j := fun j => Nat.lt_of_lt_of_le lp (Nat.le_add_right _ j)
          go_wp2_with fail
          refine (FL.out _).mono ?_
          rintro e U0 ⟨rfl, hb⟩
          clear cj0 cj1 cj2 cj3 cj4 lj mj ck0 ck1 ck2 ck3 ck4 lk mk cm0 cm1 cm2 cm3 cm4 lm mm cp0 cp1 lp mp
          have j_U04 := Lib.hid (JB.below Kj.out hb)
          have k_U04 := Lib.hid (JB.below Kk.out hb)
          have m_U04 := Lib.hid (JB.below Km.out hb)
          have p_U04 := Lib.hid (HBb Kp.out hb)
          have B_U04 := Lib.hid (Below.trans KB.out (hb.mono (KB.out).size))
          clear hb Kj Kk Km Kp KB
          by_cases hlt : i ≤ N
          · have kd : decide ((i : Int) ≤ (N : Int)) = true := decide_eq_true (by omega)
            have ki : (i : Int) ≤ (N : Int) := by omega
            obtain ⟨px, py, qx, qy, rx, ry, g, p1, p2, p3, t1, g1, g2, pp⟩ := RND.out i hlt
            have P1 := Lib.hid p1
            have P2 := Lib.hid p2
            have P3 := Lib.hid p3
            have T1 := Lib.hid t1
            have G1 := Lib.hid g1
            have G2 := Lib.hid g2
            have PP := Lib.hid pp
            clear p1 p2 p3 t1 g1 g2 pp
            obtain ⟨cj0, cj1, cj2, cj3, cj4⟩ := (j_U04.out).c
            have lj := (j_U04.out).lt
            have mj : ∀ j, bj < U0.heap.size + j := fun j => Nat.lt_of_lt_of_le lj (Nat.le_add_right _ j)
            obtain ⟨ck0, ck1, ck2, ck3, ck4⟩ := (k_U04.out).c
            have lk := (k_U04.out).lt
            have mk : ∀ j, V4.heap.size < U0.heap.size + j := fun j => Nat.lt_of_lt_of_le lk (Nat.le_add_right _ j)
            obtain ⟨cm0, cm1, cm2, cm3, cm4⟩ := (m_U04.out).c
            have lm := (m_U04.out).lt
            have mm : ∀ j, V5.heap.size < U0.heap.size + j := fun j => Nat.lt_of_lt_of_le lm (Nat.le_add_right _ j)
            have cp0 := (p_U04.out).c0
            have cp1 := (p_U04.out).c1
            have lp := (p_U04.out).lt
            have mp : ∀ j, bp < U0.heap.size + j := fun j => Nat.lt_of_lt_of_le lp (Nat.le_add_right _ j)
            go_wp2_with fail
            refine (P1.out _).mono ?_
            rintro e U1 ⟨rfl, hb⟩
            clear cj0 cj1 cj2 cj3 cj4 lj mj ck0 ck1 ck2 ck3 ck4 lk mk cm0 cm1 cm2 cm3 cm4 lm mm cp0 cp1 lp mp
            have j_U15 := Lib.hid (JB.below j_U04.out hb)
            have k_U15 := Lib.hid (JB.below k_U04.out hb)
            have m_U15 := Lib.hid (JB.below m_U04.out hb)
            have p_U15 := Lib.hid (HBb p_U04.out hb)
            have B_U15 := Lib.hid (Below.trans B_U04.out (hb.mono (B_U04.out).size))
            clear hb j_U04 k_U04 m_U04 p_U04 B_U04
            obtain ⟨cj0, cj1, cj2, cj3, cj4⟩ := (j_U15.out).c
            have lj := (j_U15.out).lt
            have mj : ∀ j, bj < U1.heap.size + j := fun j => Nat.lt_of_lt_of_le lj (Nat.le_add_right _ j)
            obtain ⟨ck0, ck1, ck2, ck3, ck4⟩ := (k_U15.out).c
            have lk := (k_U15.out).lt
            have mk : ∀ j, V4.heap.size < U1.heap.size + j := fun j => Nat.lt_of_lt_of_le lk (Nat.le_add_right _ j)
            obtain ⟨cm0, cm1, cm2, cm3, cm4⟩ := (m_U15.out).c
            have lm := (m_U15.out).lt
            have mm : ∀ j, V5.heap.size < U1.heap.size + j := fun j => Nat.lt_of_lt_of_le lm (Nat.le_add_right _ j)
            have cp0 := (p_U15.out).c0
            have cp1 := (p_U15.out).c1
            have lp := (p_U15.out).lt
            have mp : ∀ j, bp < U1.heap.size + j := fun j => Nat.lt_of_lt_of_le lp (Nat.le_add_right _ j)
            have N1 := Lib.hid (HB.new U1 px py)
            go_wp2_with fail
            refine (P2.out _).mono ?_
            rintro e U2 ⟨rfl, hb⟩
            clear cj0 cj1 cj2 cj3 cj4 lj mj ck0 ck1 ck2 ck3 ck4 lk mk cm0 cm1 cm2 cm3 cm4 lm mm cp0 cp1 lp mp
            have j_U26 := Lib.hid (JB.below (JB.alloc j_U15.out (.cells #[.int .i64 px, .int .i64 py] 25)) hb)
            have k_U26 := Lib.hid (JB.below (JB.alloc k_U15.out (.cells #[.int .i64 px, .int .i64 py] 25)) hb)
            have m_U26 := Lib.hid (JB.below (JB.alloc m_U15.out (.cells #[.int .i64 px, .int .i64 py] 25)) hb)
            have p_U26 := Lib.hid (HBb (HB.alloc p_U15.out (.cells #[.int .i64 px, .int .i64 py] 25)) hb)
            have B_U26 := Lib.hid (Below.trans ((B_U15.out).alloc (B_U15.out).size (.cells #[.int .i64 px, .int .i64 py] 25)) (hb.mono (((B_U15.out).alloc (B_U15.out).size (.cells #[.int .i64 px, .int .i64 py] 25))).size))
            have s_U26 := Lib.hid (HBb N1.out hb)
            clear hb j_U15 k_U15 m_U15 p_U15 B_U15
            clear N1
            obtain ⟨cj0, cj1, cj2, cj3, cj4⟩ := (j_U26.out).c
            have lj := (j_U26.out).lt
            have mj : ∀ j, bj < U2.heap.size + j := fun j => Nat.lt_of_lt_of_le lj (Nat.le_add_right _ j)
            obtain ⟨ck0, ck1, ck2, ck3, ck4⟩ := (k_U26.out).c
            have lk := (k_U26.out).lt
            have mk : ∀ j, V4.heap.size < U2.heap.size + j := fun j => Nat.lt_of_lt_of_le lk (Nat.le_add_right _ j)
            obtain ⟨cm0, cm1, cm2, cm3, cm4⟩ := (m_U26.out).c
            have lm := (m_U26.out).lt
            have mm : ∀ j, V5.heap.size < U2.heap.size + j := fun j => Nat.lt_of_lt_of_le lm (Nat.le_add_right _ j)
            have cp0 := (p_U26.out).c0
            have cp1 := (p_U26.out).c1
            have lp := (p_U26.out).lt
            have mp : ∀ j, bp < U2.heap.size + j := fun j => Nat.lt_of_lt_of_le lp (Nat.le_add_right _ j)
            have cs0 := (s_U26.out).c0
            have cs1 := (s_U26.out).c1
            have ls := (s_U26.out).lt
            have ms : ∀ j, U1.heap.size < U2.heap.size + j := fun j => Nat.lt_of_lt_of_le ls (Nat.le_add_right _ j)
            have N1 := Lib.hid (HB.new U2 qx qy)
            go_wp2_with fail
            refine (P3.out _).mono ?_
            rintro e U3 ⟨rfl, hb⟩
            clear cj0 cj1 cj2 cj3 cj4 lj mj ck0 ck1 ck2 ck3 ck4 lk mk cm0 cm1 cm2 cm3 cm4 lm mm cp0 cp1 lp mp cs0 cs1 ls ms
            have j_U37 := Lib.hid (JB.below (JB.alloc j_U26.out (.cells #[.int .i64 qx, .int .i64 qy] 25)) hb)
            have k_U37 := Lib.hid (JB.below (JB.alloc k_U26.out (.cells #[.int .i64 qx, .int .i64 qy] 25)) hb)
            have m_U37 := Lib.hid (JB.below (JB.alloc m_U26.out (.cells #[.int .i64 qx, .int .i64 qy] 25)) hb)
            have p_U37 := Lib.hid (HBb (HB.alloc p_U26.out (.cells #[.int .i64 qx, .int .i64 qy] 25)) hb)
            have B_U37 := Lib.hid (Below.trans ((B_U26.out).alloc (B_U26.out).size (.cells #[.int .i64 qx, .int .i64 qy] 25)) (hb.mono (((B_U26.out).alloc (B_U26.out).size (.cells #[.int .i64 qx, .int .i64 qy] 25))).size))
            have s_U37 := Lib.hid (HBb (HB.alloc s_U26.out (.cells #[.int .i64 qx, .int .i64 qy] 25)) hb)
            have q_U37 := Lib.hid (HBb N1.out hb)
            clear hb j_U26 k_U26 m_U26 p_U26 B_U26 s_U26
            clear N1
            obtain ⟨cj0, cj1, cj2, cj3, cj4⟩ := (j_U37.out).c
            have lj := (j_U37.out).lt
            have mj : ∀ j, bj < U3.heap.size + j := fun j => Nat.lt_of_lt_of_le lj (Nat.le_add_right _ j)
            obtain ⟨ck0, ck1, ck2, ck3, ck4⟩ := (k_U37.out).c
            have lk := (k_U37.out).lt
            have mk : ∀ j, V4.heap.size < U3.heap.size + j := fun j => Nat.lt_of_lt_of_le lk (Nat.le_add_right _ j)
            obtain ⟨cm0, cm1, cm2, cm3, cm4⟩ := (m_U37.out).c
            have lm := (m_U37.out).lt
            have mm : ∀ j, V5.heap.size < U3.heap.size + j := fun j => Nat.lt_of_lt_of_le lm (Nat.le_add_right _ j)
            have cp0 := (p_U37.out).c0
            have cp1 := (p_U37.out).c1
            have lp := (p_U37.out).lt
            have mp : ∀ j, bp < U3.heap.size + j := fun j => Nat.lt_of_lt_of_le lp (Nat.le_add_right _ j)
            have cs0 := (s_U37.out).c0
            have cs1 := (s_U37.out).c1
            have ls := (s_U37.out).lt
            have ms : ∀ j, U1.heap.size < U3.heap.size + j := fun j => Nat.lt_of_lt_of_le ls (Nat.le_add_right _ j)
            have cq0 := (q_U37.out).c0
            have cq1 := (q_U37.out).c1
            have lq := (q_U37.out).lt
            have mq : ∀ j, U2.heap.size < U3.heap.size + j := fun j => Nat.lt_of_lt_of_le lq (Nat.le_add_right _ j)
            have N1 := Lib.hid (HB.new U3 rx ry)
            go_upto_region 17 with fail
            clear cj0 cj1 cj2 cj3 cj4 lj mj ck0 ck1 ck2 ck3 ck4 lk mk cm0 cm1 cm2 cm3 cm4 lm mm cp0 cp1 lp mp cs0 cs1 ls ms cq0 cq1 lq mq
            have Fj := Lib.hid (JB.alloc j_U37.out (.cells #[.int .i64 rx, .int .i64 ry] 25))
            have Fk := Lib.hid (JB.alloc k_U37.out (.cells #[.int .i64 rx, .int .i64 ry] 25))
            have Fm := Lib.hid (JB.alloc m_U37.out (.cells #[.int .i64 rx, .int .i64 ry] 25))
            have Fp := Lib.hid (HB.alloc p_U37.out (.cells #[.int .i64 rx, .int .i64 ry] 25))
            have Fs := Lib.hid (HB.alloc s_U37.out (.cells #[.int .i64 rx, .int .i64 ry] 25))
            have Fq := Lib.hid (HB.alloc q_U37.out (.cells #[.int .i64 rx, .int .i64 ry] 25))
            have FB := Lib.hid ((B_U37.out).alloc (B_U37.out).size (.cells #[.int .i64 rx, .int .i64 ry] 25))
            clear j_U37 k_U37 m_U37 p_U37 s_U37 q_U37 B_U37
            generalize U3.alloc (.cells #[.int .i64 rx, .int .i64 ry] 25) = V9 at *
            refine wp_region_noPanic ?_
            refine wp_region_held_drew (S := (fun w' => w'.cell? ⟨U2.heap.size, 0, none⟩ = some (.int .i64 qx) ∧ w'.cell? ⟨U2.heap.size, 1, none⟩ = some (.int .i64 qy) ∧ w'.cell? ⟨U1.heap.size, 0, none⟩ = some (.int .i64 px) ∧ w'.cell? ⟨U1.heap.size, 1, none⟩ = some (.int .i64 py) ∧ w'.cell? ⟨bj, 0, none⟩ = some (.int .i64 x) ∧ w'.cell? ⟨bj, 1, none⟩ = some (.int .i64 y) ∧ w'.cell? ⟨bj, 2, none⟩ = some (.int .i64 h) ∧ w'.cell? ⟨bj, 3, none⟩ = some (.int .i64 t) ∧ w'.cell? ⟨bj, 4, none⟩ = some (.int .i64 l) ∧ w'.cell? ⟨V4.heap.size, 0, none⟩ = some (.int .i64 X) ∧ w'.cell? ⟨V4.heap.size, 1, none⟩ = some (.int .i64 Y) ∧ w'.cell? ⟨V4.heap.size, 2, none⟩ = some (.int .i64 H) ∧ w'.cell? ⟨V4.heap.size, 3, none⟩ = some (.int .i64 t) ∧ w'.cell? ⟨V4.heap.size, 4, none⟩ = some (.int .i64 l) ∧ w'.cell? ⟨U3.heap.size, 0, none⟩ = some (.int .i64 rx) ∧ w'.cell? ⟨U3.heap.size, 1, none⟩ = some (.int .i64 ry) ∧ w'.cell? ⟨bp, 0, none⟩ = some (.int .i64 a) ∧ w'.cell? ⟨bp, 1, none⟩ = some (.int .i64 b) ∧ Below V9.heap.size V9 w')) (by kernel_rfl) ?_ (fun hH => ?_)
            · exact ⟨Fq.out.c0, Fq.out.c1, Fs.out.c0, Fs.out.c1, Fj.out.c.1, Fj.out.c.2.1, Fj.out.c.2.2.1, Fj.out.c.2.2.2.1, Fj.out.c.2.2.2.2, Fk.out.c.1, Fk.out.c.2.1, Fk.out.c.2.2.1, Fk.out.c.2.2.2.1, Fk.out.c.2.2.2.2, N1.out.c0, N1.out.c1, Fp.out.c0, Fp.out.c1, (Below.refl _ _).drew⟩
            refine wpAnyH_take (i := 0) (oi := { dst := some 75, op := _, type := _, pos := _, after := _, guard := _ }) (v := ?_) rfl (by kernel_rfl) (by kernel_rfl) (by kernel_rfl) (fun _ _ _ h => h) (Or.inl ⟨by rfl, ?_⟩) hH ?_
            rotate_left 1
            · intro W hSw
              (try dsimp only at hSw)
              go_simp
              (try with_reducible rfl)
            try simp only [Act.put, List.setIfInBounds_toArray, List.set_cons_zero, List.set_cons_succ]
            refine wpAnyH_take (i := 1) (oi := { dst := some 76, op := _, type := _, pos := _, after := _, guard := _ }) (v := ?_) rfl (by kernel_rfl) (by kernel_rfl) (by kernel_rfl) (fun _ _ _ h => h) (Or.inl ⟨by rfl, ?_⟩) hH ?_
            rotate_left 1
            · intro W hSw
              (try dsimp only at hSw)
              go_simp
              (try with_reducible rfl)
            try simp only [Act.put, List.setIfInBounds_toArray, List.set_cons_zero, List.set_cons_succ]
            refine wpAnyH_take (i := 2) (oi := { dst := some 77, op := _, type := _, pos := _, after := _, guard := _ }) (v := ?_) rfl (by kernel_rfl) (by kernel_rfl) (by kernel_rfl) (fun _ _ _ h => h) (Or.inl ⟨by rfl, ?_⟩) hH ?_
            rotate_left 1
            · intro W hSw
              (try dsimp only at hSw)
              go_simp
              (try with_reducible rfl)
            try simp only [Act.put, List.setIfInBounds_toArray, List.set_cons_zero, List.set_cons_succ]
            refine wpAnyH_ready (rs := [3]) (by kernel_rfl) (by simp) (AllReadyH.cons rfl (fun K hK => ?_) AllReadyH.nil)
            go_simp
            go_at_call 23; ((with_reducible refine (T1.out _).mono ?_); rintro e r1 ⟨rfl, hb⟩); go_wp2_with fail
            refine hK.out _ _ ?_ (fun hG => ?_)
            · exact ⟨cell_below hb hH.1, cell_below hb hH.2.1, cell_below hb hH.2.2.1, cell_below hb hH.2.2.2.1, cell_below hb hH.2.2.2.2.1, cell_below hb hH.2.2.2.2.2.1, cell_below hb hH.2.2.2.2.2.2.1, cell_below hb hH.2.2.2.2.2.2.2.1, cell_below hb hH.2.2.2.2.2.2.2.2.1, cell_below hb hH.2.2.2.2.2.2.2.2.2.1, cell_below hb hH.2.2.2.2.2.2.2.2.2.2.1, cell_below hb hH.2.2.2.2.2.2.2.2.2.2.2.1, cell_below hb hH.2.2.2.2.2.2.2.2.2.2.2.2.1, cell_below hb hH.2.2.2.2.2.2.2.2.2.2.2.2.2.1, cell_below hb hH.2.2.2.2.2.2.2.2.2.2.2.2.2.2.1, cell_below hb hH.2.2.2.2.2.2.2.2.2.2.2.2.2.2.2.1, cell_below hb hH.2.2.2.2.2.2.2.2.2.2.2.2.2.2.2.2.1, cell_below hb hH.2.2.2.2.2.2.2.2.2.2.2.2.2.2.2.2.2.1, Below.trans hH.2.2.2.2.2.2.2.2.2.2.2.2.2.2.2.2.2.2 (hb.mono hH.2.2.2.2.2.2.2.2.2.2.2.2.2.2.2.2.2.2.size)⟩
            replace hH := hG
            clear hK K hG
            try simp only [Act.put, List.setIfInBounds_toArray, List.set_cons_zero, List.set_cons_succ]
            refine wpAnyH_take (i := 4) (oi := { dst := some 79, op := _, type := _, pos := _, after := _, guard := _ }) (v := ?_) rfl (by kernel_rfl) (by kernel_rfl) (by kernel_rfl) (fun _ _ _ h => h) (Or.inl ⟨by rfl, ?_⟩) hH ?_
            rotate_left 1
            · intro W hSw
              (try dsimp only at hSw)
              go_simp
              (try with_reducible rfl)
            try simp only [Act.put, List.setIfInBounds_toArray, List.set_cons_zero, List.set_cons_succ]
            refine wpAnyH_take (i := 5) (oi := { dst := some 80, op := _, type := _, pos := _, after := _, guard := _ }) (v := ?_) rfl (by kernel_rfl) (by kernel_rfl) (by kernel_rfl) (fun _ _ _ h => h) (Or.inl ⟨by rfl, ?_⟩) hH ?_
            rotate_left 1
            · intro W hSw
              (try dsimp only at hSw)
              go_simp
              (try with_reducible rfl)
            try simp only [Act.put, List.setIfInBounds_toArray, List.set_cons_zero, List.set_cons_succ]
            refine wpAnyH_take (i := 6) (oi := { dst := some 81, op := _, type := _, pos := _, after := _, guard := _ }) (v := ?_) rfl (by kernel_rfl) (by kernel_rfl) (by kernel_rfl) (fun _ _ _ h => h) (Or.inl ⟨by rfl, ?_⟩) hH ?_
            rotate_left 1
            · intro W hSw
              (try dsimp only at hSw)
              go_simp
              (try with_reducible rfl)
            try simp only [Act.put, List.setIfInBounds_toArray, List.set_cons_zero, List.set_cons_succ]
            refine wpAnyH_take (i := 7) (oi := { dst := some 82, op := _, type := _, pos := _, after := _, guard := _ }) (v := ?_) rfl (by kernel_rfl) (by kernel_rfl) (by kernel_rfl) (fun _ _ _ h => h) (Or.inl ⟨by rfl, ?_⟩) hH ?_
            rotate_left 1
            · intro W hSw
              (try dsimp only at hSw)
              go_simp
              (try with_reducible rfl)
            try simp only [Act.put, List.setIfInBounds_toArray, List.set_cons_zero, List.set_cons_succ]
            refine wpAnyH_take (i := 9) (oi := { dst := some 84, op := _, type := _, pos := _, after := _, guard := _ }) (v := ?_) rfl (by kernel_rfl) (by kernel_rfl) (by kernel_rfl) (fun _ _ _ h => h) (Or.inl ⟨by rfl, ?_⟩) hH ?_
            rotate_left 1
            · intro W hSw
              (try dsimp only at hSw)
              go_simp
              (try with_reducible rfl)
            try simp only [Act.put, List.setIfInBounds_toArray, List.set_cons_zero, List.set_cons_succ]
            refine wpAnyH_take (i := 10) (oi := { dst := some 85, op := _, type := _, pos := _, after := _, guard := _ }) (v := ?_) rfl (by kernel_rfl) (by kernel_rfl) (by kernel_rfl) (fun _ _ _ h => h) (Or.inl ⟨by rfl, ?_⟩) hH ?_
            rotate_left 1
            · intro W hSw
              (try dsimp only at hSw)
              go_simp
              (try with_reducible rfl)
            try simp only [Act.put, List.setIfInBounds_toArray, List.set_cons_zero, List.set_cons_succ]
            refine wpAnyH_ready (rs := [8]) (by kernel_rfl) (by simp) (AllReadyH.cons rfl (fun K hK => ?_) AllReadyH.nil)
            go_simp
            go_at_call 24; ((with_reducible refine (G1.out _).mono ?_); rintro e r2 ⟨rfl, hb⟩); go_wp2_with fail
            refine hK.out _ _ ?_ (fun hG => ?_)
            · exact ⟨cell_below hb hH.1, cell_below hb hH.2.1, cell_below hb hH.2.2.1, cell_below hb hH.2.2.2.1, cell_below hb hH.2.2.2.2.1, cell_below hb hH.2.2.2.2.2.1, cell_below hb hH.2.2.2.2.2.2.1, cell_below hb hH.2.2.2.2.2.2.2.1, cell_below hb hH.2.2.2.2.2.2.2.2.1, cell_below hb hH.2.2.2.2.2.2.2.2.2.1, cell_below hb hH.2.2.2.2.2.2.2.2.2.2.1, cell_below hb hH.2.2.2.2.2.2.2.2.2.2.2.1, cell_below hb hH.2.2.2.2.2.2.2.2.2.2.2.2.1, cell_below hb hH.2.2.2.2.2.2.2.2.2.2.2.2.2.1, cell_below hb hH.2.2.2.2.2.2.2.2.2.2.2.2.2.2.1, cell_below hb hH.2.2.2.2.2.2.2.2.2.2.2.2.2.2.2.1, cell_below hb hH.2.2.2.2.2.2.2.2.2.2.2.2.2.2.2.2.1, cell_below hb hH.2.2.2.2.2.2.2.2.2.2.2.2.2.2.2.2.2.1, Below.trans hH.2.2.2.2.2.2.2.2.2.2.2.2.2.2.2.2.2.2 (hb.mono hH.2.2.2.2.2.2.2.2.2.2.2.2.2.2.2.2.2.2.size)⟩
            replace hH := hG
            clear hK K hG
            try simp only [Act.put, List.setIfInBounds_toArray, List.set_cons_zero, List.set_cons_succ]
            refine wpAnyH_ready (rs := [11]) (by kernel_rfl) (by simp) (AllReadyH.cons rfl (fun K hK => ?_) AllReadyH.nil)
            go_simp
            go_at_call 24; ((with_reducible refine (G2.out _).mono ?_); rintro e r3 ⟨rfl, hb⟩); go_wp2_with fail
            refine hK.out _ _ ?_ (fun hG => ?_)
            · exact ⟨cell_below hb hH.1, cell_below hb hH.2.1, cell_below hb hH.2.2.1, cell_below hb hH.2.2.2.1, cell_below hb hH.2.2.2.2.1, cell_below hb hH.2.2.2.2.2.1, cell_below hb hH.2.2.2.2.2.2.1, cell_below hb hH.2.2.2.2.2.2.2.1, cell_below hb hH.2.2.2.2.2.2.2.2.1, cell_below hb hH.2.2.2.2.2.2.2.2.2.1, cell_below hb hH.2.2.2.2.2.2.2.2.2.2.1, cell_below hb hH.2.2.2.2.2.2.2.2.2.2.2.1, cell_below hb hH.2.2.2.2.2.2.2.2.2.2.2.2.1, cell_below hb hH.2.2.2.2.2.2.2.2.2.2.2.2.2.1, cell_below hb hH.2.2.2.2.2.2.2.2.2.2.2.2.2.2.1, cell_below hb hH.2.2.2.2.2.2.2.2.2.2.2.2.2.2.2.1, cell_below hb hH.2.2.2.2.2.2.2.2.2.2.2.2.2.2.2.2.1, cell_below hb hH.2.2.2.2.2.2.2.2.2.2.2.2.2.2.2.2.2.1, Below.trans hH.2.2.2.2.2.2.2.2.2.2.2.2.2.2.2.2.2.2 (hb.mono hH.2.2.2.2.2.2.2.2.2.2.2.2.2.2.2.2.2.2.size)⟩
            replace hH := hG
            clear hK K hG
            try simp only [Act.put, List.setIfInBounds_toArray, List.set_cons_zero, List.set_cons_succ]
            refine wpAnyH_take (i := 12) (oi := { dst := some 87, op := _, type := _, pos := _, after := _, guard := _ }) (v := ?_) rfl (by kernel_rfl) (by kernel_rfl) (by kernel_rfl) (fun _ _ _ h => h) (Or.inl ⟨by rfl, ?_⟩) hH ?_
            rotate_left 1
            · intro W hSw
              (try dsimp only at hSw)
              go_simp
              (try with_reducible rfl)
            try simp only [Act.put, List.setIfInBounds_toArray, List.set_cons_zero, List.set_cons_succ]
            refine wpAnyH_take (i := 13) (oi := { dst := some 88, op := _, type := _, pos := _, after := _, guard := _ }) (v := ?_) rfl (by kernel_rfl) (by kernel_rfl) (by kernel_rfl) (fun _ _ _ h => h) (Or.inl ⟨by rfl, ?_⟩) hH ?_
            rotate_left 1
            · intro W hSw
              (try dsimp only at hSw)
              go_simp
              (try with_reducible rfl)
            try simp only [Act.put, List.setIfInBounds_toArray, List.set_cons_zero, List.set_cons_succ]
            refine wpAnyH_take (i := 14) (oi := { dst := some 89, op := _, type := _, pos := _, after := _, guard := _ }) (v := ?_) rfl (by kernel_rfl) (by kernel_rfl) (by kernel_rfl) (fun _ _ _ h => h) (Or.inl ⟨by rfl, ?_⟩) hH ?_
            rotate_left 1
            · intro W hSw
              (try dsimp only at hSw)
              go_simp
              (try with_reducible rfl)
            try simp only [Act.put, List.setIfInBounds_toArray, List.set_cons_zero, List.set_cons_succ]
            refine wpAnyH_take (i := 15) (oi := { dst := some 90, op := _, type := _, pos := _, after := _, guard := _ }) (v := ?_) rfl (by kernel_rfl) (by kernel_rfl) (by kernel_rfl) (fun _ _ _ h => h) (Or.inl ⟨by rfl, ?_⟩) hH ?_
            rotate_left 1
            · intro W hSw
              (try dsimp only at hSw)
              go_simp
              (try with_reducible rfl)
            try simp only [Act.put, List.setIfInBounds_toArray, List.set_cons_zero, List.set_cons_succ]
            refine wpAnyH_take (i := 16) (oi := { dst := some 91, op := _, type := _, pos := _, after := _, guard := _ }) (v := ?_) rfl (by kernel_rfl) (by kernel_rfl) (by kernel_rfl) (fun _ _ _ h => h) (Or.inl ⟨by rfl, ?_⟩) hH ?_
            rotate_left 1
            · intro W hSw
              (try dsimp only at hSw)
              go_simp
              (try with_reducible rfl)
            try simp only [Act.put, List.setIfInBounds_toArray, List.set_cons_zero, List.set_cons_succ]
            refine wpAnyH_take (i := 17) (oi := { dst := some 92, op := _, type := _, pos := _, after := _, guard := _ }) (v := ?_) rfl (by kernel_rfl) (by kernel_rfl) (by kernel_rfl) (fun _ _ _ h => h) (Or.inl ⟨by rfl, ?_⟩) hH ?_
            rotate_left 1
            · intro W hSw
              (try dsimp only at hSw)
              go_simp
              (try with_reducible rfl)
            try simp only [Act.put, List.setIfInBounds_toArray, List.set_cons_zero, List.set_cons_succ]
            refine wpAnyH_take (i := 18) (oi := { dst := some 93, op := _, type := _, pos := _, after := _, guard := _ }) (v := ?_) rfl (by kernel_rfl) (by kernel_rfl) (by kernel_rfl) (fun _ _ _ h => h) (Or.inl ⟨by rfl, ?_⟩) hH ?_
            rotate_left 1
            · intro W hSw
              (try dsimp only at hSw)
              go_simp
              (try with_reducible rfl)
            try simp only [Act.put, List.setIfInBounds_toArray, List.set_cons_zero, List.set_cons_succ]
            refine wpAnyH_take (i := 19) (oi := { dst := some 94, op := _, type := _, pos := _, after := _, guard := _ }) (v := ?_) rfl (by kernel_rfl) (by kernel_rfl) (by kernel_rfl) (fun _ _ _ h => h) (Or.inl ⟨by rfl, ?_⟩) hH ?_
            rotate_left 1
            · intro W hSw
              (try dsimp only at hSw)
              go_simp
              (try with_reducible rfl)
            try simp only [Act.put, List.setIfInBounds_toArray, List.set_cons_zero, List.set_cons_succ]
            refine wpAnyH_take (i := 20) (oi := { dst := some 95, op := _, type := _, pos := _, after := _, guard := _ }) (v := ?_) rfl (by kernel_rfl) (by kernel_rfl) (by kernel_rfl) (fun _ _ _ h => h) (Or.inl ⟨by rfl, ?_⟩) hH ?_
            rotate_left 1
            · intro W hSw
              (try dsimp only at hSw)
              go_simp
              (try with_reducible rfl)
            try simp only [Act.put, List.setIfInBounds_toArray, List.set_cons_zero, List.set_cons_succ]
            refine wpAnyH_take (i := 21) (oi := { dst := some 96, op := _, type := _, pos := _, after := _, guard := _ }) (v := ?_) rfl (by kernel_rfl) (by kernel_rfl) (by kernel_rfl) (fun _ _ _ h => h) (Or.inl ⟨by rfl, ?_⟩) hH ?_
            rotate_left 1
            · intro W hSw
              (try dsimp only at hSw)
              go_simp
              (try with_reducible rfl)
            try simp only [Act.put, List.setIfInBounds_toArray, List.set_cons_zero, List.set_cons_succ]
            refine wpAnyH_take (i := 22) (oi := { dst := some 97, op := _, type := _, pos := _, after := _, guard := _ }) (v := ?_) rfl (by kernel_rfl) (by kernel_rfl) (by kernel_rfl) (fun _ _ _ h => h) (Or.inl ⟨by rfl, ?_⟩) hH ?_
            rotate_left 1
            · intro W hSw
              (try dsimp only at hSw)
              go_simp
              (try with_reducible rfl)
            try simp only [Act.put, List.setIfInBounds_toArray, List.set_cons_zero, List.set_cons_succ]
            refine wpAnyH_ready (rs := [23]) (by kernel_rfl) (by simp) (AllReadyH.cons rfl (fun K hK => ?_) AllReadyH.nil)
            go_simp
            go_at_call 25; ((with_reducible refine (PP.out _).mono ?_); rintro e r4 ⟨rfl, hb⟩); go_wp2_with fail
            refine hK.out _ _ ?_ (fun hG => ?_)
            · exact ⟨cell_below hb hH.1, cell_below hb hH.2.1, cell_below hb hH.2.2.1, cell_below hb hH.2.2.2.1, cell_below hb hH.2.2.2.2.1, cell_below hb hH.2.2.2.2.2.1, cell_below hb hH.2.2.2.2.2.2.1, cell_below hb hH.2.2.2.2.2.2.2.1, cell_below hb hH.2.2.2.2.2.2.2.2.1, cell_below hb hH.2.2.2.2.2.2.2.2.2.1, cell_below hb hH.2.2.2.2.2.2.2.2.2.2.1, cell_below hb hH.2.2.2.2.2.2.2.2.2.2.2.1, cell_below hb hH.2.2.2.2.2.2.2.2.2.2.2.2.1, cell_below hb hH.2.2.2.2.2.2.2.2.2.2.2.2.2.1, cell_below hb hH.2.2.2.2.2.2.2.2.2.2.2.2.2.2.1, cell_below hb hH.2.2.2.2.2.2.2.2.2.2.2.2.2.2.2.1, cell_below hb hH.2.2.2.2.2.2.2.2.2.2.2.2.2.2.2.2.1, cell_below hb hH.2.2.2.2.2.2.2.2.2.2.2.2.2.2.2.2.2.1, Below.trans hH.2.2.2.2.2.2.2.2.2.2.2.2.2.2.2.2.2.2 (hb.mono hH.2.2.2.2.2.2.2.2.2.2.2.2.2.2.2.2.2.2.size)⟩
            replace hH := hG
            clear hK K hG
            try simp only [Act.put, List.setIfInBounds_toArray, List.set_cons_zero, List.set_cons_succ]
            refine wpAnyH_take (i := 24) (oi := { dst := some 99, op := _, type := _, pos := _, after := _, guard := _ }) (v := ?_) rfl (by kernel_rfl) (by kernel_rfl) (by kernel_rfl) (fun _ _ _ h => h) (Or.inl ⟨by rfl, ?_⟩) hH ?_
            rotate_left 1
            · intro W hSw
              (try dsimp only at hSw)
              go_simp
              (try with_reducible rfl)
            try simp only [Act.put, List.setIfInBounds_toArray, List.set_cons_zero, List.set_cons_succ]
            refine wpAnyH_take (i := 25) (oi := { dst := some 100, op := _, type := _, pos := _, after := _, guard := _ }) (v := ?_) rfl (by kernel_rfl) (by kernel_rfl) (by kernel_rfl) (fun _ _ _ h => h) (Or.inl ⟨by rfl, ?_⟩) hH ?_
            rotate_left 1
            · intro W hSw
              (try dsimp only at hSw)
              go_simp
              (try with_reducible rfl)
            try simp only [Act.put, List.setIfInBounds_toArray, List.set_cons_zero, List.set_cons_succ]
            refine wpAnyH_take (i := 26) (oi := { dst := some 101, op := _, type := _, pos := _, after := _, guard := _ }) (v := ?_) rfl (by kernel_rfl) (by kernel_rfl) (by kernel_rfl) (fun _ _ _ h => h) (Or.inl ⟨by rfl, ?_⟩) hH ?_
            rotate_left 1
            · intro W hSw
              (try dsimp only at hSw)
              go_simp
              (try with_reducible rfl)
            try simp only [Act.put, List.setIfInBounds_toArray, List.set_cons_zero, List.set_cons_succ]
            refine wpAnyH_take (i := 27) (oi := { dst := some 102, op := _, type := _, pos := _, after := _, guard := _ }) (v := ?_) rfl (by kernel_rfl) (by kernel_rfl) (by kernel_rfl) (fun _ _ _ h => h) (Or.inl ⟨by rfl, ?_⟩) hH ?_
            rotate_left 1
            · intro W hSw
              (try dsimp only at hSw)
              go_simp
              (try with_reducible rfl)
            try simp only [Act.put, List.setIfInBounds_toArray, List.set_cons_zero, List.set_cons_succ]
            refine wpAnyH_done (by kernel_rfl) ?_ _
            refine NoPanic.normal ?_
            have hf := hH.2.2.2.2.2.2.2.2.2.2.2.2.2.2.2.2.2.2
            have Lj := Lib.hid (JB.below Fj.out hf)
            have Lk := Lib.hid (JB.below Fk.out hf)
            have Lm := Lib.hid (JB.below Fm.out hf)
            have Lp := Lib.hid (HBb Fp.out hf)
            have LB := Lib.hid (Below.trans FB.out (hf.mono FB.out.size))
            clear hf hH Fj Fk Fm Fp Fs Fq FB N1 P1 P2 P3 T1 G1 G2 PP
            go_wp2_with fail
            go_roundw
            case rel => exact ⟨i + 1, by omega, by go_num, Lj, Lk, Lm, Lp, LB⟩
            case measure => simp [intOf]; omega
          · have kd : decide ((i : Int) ≤ (N : Int)) = false := decide_eq_false (by omega)
            have ki : ¬ (i : Int) ≤ (N : Int) := by omega
            obtain ⟨cj0, cj1, cj2, cj3, cj4⟩ := (j_U04.out).c
            have lj := (j_U04.out).lt
            have mj : ∀ j, bj < U0.heap.size + j := fun j => Nat.lt_of_lt_of_le lj (Nat.le_add_right _ j)
            obtain ⟨ck0, ck1, ck2, ck3, ck4⟩ := (k_U04.out).c
            have lk := (k_U04.out).lt
            have mk : ∀ j, V4.heap.size < U0.heap.size + j := fun j => Nat.lt_of_lt_of_le lk (Nat.le_add_right _ j)
            obtain ⟨cm0, cm1, cm2, cm3, cm4⟩ := (m_U04.out).c
            have lm := (m_U04.out).lt
            have mm : ∀ j, V5.heap.size < U0.heap.size + j := fun j => Nat.lt_of_lt_of_le lm (Nat.le_add_right _ j)
            have cp0 := (p_U04.out).c0
            have cp1 := (p_U04.out).c1
            have lp := (p_U04.out).lt
            have mp : ∀ j, bp < U0.heap.size + j := fun j => Nat.lt_of_lt_of_le lp (Nat.le_add_right _ j)
            go_wp2_with fail
            refine (JK.out _).mono ?_
            rintro e U1 ⟨rfl, hb⟩
            clear cj0 cj1 cj2 cj3 cj4 lj mj ck0 ck1 ck2 ck3 ck4 lk mk cm0 cm1 cm2 cm3 cm4 lm mm cp0 cp1 lp mp
            have j_U15 := Lib.hid (JB.below j_U04.out hb)
            have k_U15 := Lib.hid (JB.below k_U04.out hb)
            have m_U15 := Lib.hid (JB.below m_U04.out hb)
            have p_U15 := Lib.hid (HBb p_U04.out hb)
            have B_U15 := Lib.hid (Below.trans B_U04.out (hb.mono (B_U04.out).size))
            clear hb j_U04 k_U04 m_U04 p_U04 B_U04
            obtain ⟨cj0, cj1, cj2, cj3, cj4⟩ := (j_U15.out).c
            have lj := (j_U15.out).lt
            have mj : ∀ j, bj < U1.heap.size + j := fun j => Nat.lt_of_lt_of_le lj (Nat.le_add_right _ j)
            obtain ⟨ck0, ck1, ck2, ck3, ck4⟩ := (k_U15.out).c
            have lk := (k_U15.out).lt
            have mk : ∀ j, V4.heap.size < U1.heap.size + j := fun j => Nat.lt_of_lt_of_le lk (Nat.le_add_right _ j)
            obtain ⟨cm0, cm1, cm2, cm3, cm4⟩ := (m_U15.out).c
            have lm := (m_U15.out).lt
            have mm : ∀ j, V5.heap.size < U1.heap.size + j := fun j => Nat.lt_of_lt_of_le lm (Nat.le_add_right _ j)
            have cp0 := (p_U15.out).c0
            have cp1 := (p_U15.out).c1
            have lp := (p_U15.out).lt
            have mp : ∀ j, bp < U1.heap.size + j := fun j => Nat.lt_of_lt_of_le lp (Nat.le_add_right _ j)
            go_wp2_with fail
            refine (JM.out _).mono ?_
            rintro e U2 ⟨rfl, hb⟩
            clear cj0 cj1 cj2 cj3 cj4 lj mj ck0 ck1 ck2 ck3 ck4 lk mk cm0 cm1 cm2 cm3 cm4 lm mm cp0 cp1 lp mp
            have j_U26 := Lib.hid (JB.below j_U15.out hb)
            have k_U26 := Lib.hid (JB.below k_U15.out hb)
            have m_U26 := Lib.hid (JB.below m_U15.out hb)
            have p_U26 := Lib.hid (HBb p_U15.out hb)
            have B_U26 := Lib.hid (Below.trans B_U15.out (hb.mono (B_U15.out).size))
            clear hb j_U15 k_U15 m_U15 p_U15 B_U15
            go_wp2_with fail
            go_ret
            exact ⟨rfl, B_U26.out⟩
  · have hd : decide (4096 < n) = true := decide_eq_true (by omega)
    clear hn hm hr
    go_enter Try.func3, Try.ntmps3
    go_wp2_with (go_at_call 14; go_enter Try.func14, Try.ntmps14)
    go_returns
    exact ⟨rfl, Below.refl _ _⟩

set_option maxRecDepth 100000 in
theorem lifted (os : Os) (started : os.Started) (H : Type) (enc : TypeId × Value → H) :
    ReturnsInHanded {} Try.checked os 3 .any (Rows.fnMovedJetSpec.pre6 enc Try.prog Try.f3 Rows.fnMovedJetRow.domain false) (Rows.fnMovedJetSpec.post enc Try.prog Try.f3 false true false false) := by
  refine returnsInHanded_of_change (C := Try.checked) own started (by kernel_rfl) Try.func3
    (ChangeSpec.witness6 (enc := enc) (C := Try.checked) false ⟨#[], #[.slice none 0 0], []⟩ 8 (by kernel_rfl) (by kernel_rfl) (by kernel_rfl) (by kernel_rfl)) ?_
  intro W base args ds gs before hval0 hW hcnd hsz
  have hval : ∀ (j : Nat) t v, Try.f3.params[j]? = some t → args[j]? = some v → Value.okWide Try.prog W .any base t v := hval0
  have hW' := hW
  obtain ⟨p, q, hA0, hV, rfl, hfz, hnd⟩ := hW
  have hA1 := hA0
  have hA : DataW.TrodAll enc Try.prog W 0 (fun _ => true) true Try.f3.params.toList args.toList ds p := hA0
  rw [Try.params3] at hA hval
  obtain ⟨v0, vs0, d0, ds0, p0, q0, hargs, rfl, rfl, h0, r0⟩ := trodAll_cons hA
  obtain ⟨rfl, rfl, rfl⟩ := trodAll_nil r0
  obtain rfl : args = #[v0] := by cases args; simp_all
  obtain ⟨rfl, rfl⟩ := trodVars_none hV
  obtain ⟨A0, n0, c0, a0, rfl, l0, m0, g0⟩ := RampFn.take_bytes Try.underlying22 Try.underlying5 (by kernel_rfl) (hval 0 22 v0 rfl rfl) h0
  clear hA0 hval0
  rw [List.append_nil] at hW'
  refine (walk A0 n0 c0 a0 l0 m0 W g0).mono fun e W' ⟨he, hb⟩ => ?_
  subst he
  exact ⟨_, rfl, post_law rfl hW' hA1 laidOut (by rw [Try.params3]; exact of_decide_eq_true (by kernel_rfl)) 4 (by kernel_rfl) Try.underlying4 rfl hb⟩

theorem over : Rows.fnMovedJetRow.holds Try.pinned (OpenSpec.ofChange Rows.fnMovedJetSpec) :=
  OpenClaim.holds_of_wide 3 Try.f3 rfl rfl rfl rfl rfl rfl rfl ⟨rfl, rfl, rfl, rfl, rfl⟩ rfl rfl rfl rfl rfl (by kernel_rfl) Try.func3 (by kernel_rfl)
    (of_decide_eq_true (by kernel_rfl)) (by unfold Func.isWrapper; first | (rw [if_pos (by decide +kernel)]; kernel_rfl) | (rw [if_neg (by decide +kernel)]; exact ⟨rfl, rfl⟩))
    (fun os started H enc _ => lifted os started H enc)

/-- The statement. -/
theorem proved : Rows.FnMovedJetSaid :=
  over
#print axioms proved
end Go.Proofs.Ytppaknjiadnogaa.fnMovedJet
