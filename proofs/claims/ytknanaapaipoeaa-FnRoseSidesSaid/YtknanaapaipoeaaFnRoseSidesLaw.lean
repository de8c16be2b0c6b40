/- The law FnRoseSides holds at every input. The step from the walk to the row follows the guide's own template. -/
import Derived.Test.YtknanaapaipoeaaMem
import Derived.Test.YtknanaapaipoeaaRp
import Derived.Test.YtknanaapaipoeaaWf
import Derived.Test.YtknanaapaipoeaaTakeC
namespace Go.Proofs.Ytknanaapaipoeaa.fnRoseSides
open Go.ChangeShapes Go.WideShapes Go.ChangeAt Go.RowKit Go.WideMaps Go.WideElems Go.Proofs.Ytknanaapaipoeaa.Mem
open Go.ChangeMaps (open_string shut_string)
set_option linter.unusedVariables false
set_option linter.unusedSimpArgs false

theorem own : ownKnob Try.prog.godebug = none := by kernel_rfl
theorem laidOut : laidOutB Try.prog = true := by kernel_rfl

open Go.Proofs.Ytknanaapaipoeaa.Rw Go.Proofs.Ytknanaapaipoeaa.Bk Go.Proofs.Ytknanaapaipoeaa.Jt Go.Proofs.Ytknanaapaipoeaa.Str Go.Proofs.Ytknanaapaipoeaa.Pw Go.Proofs.Ytknanaapaipoeaa.P2 Go.Proofs.Ytknanaapaipoeaa.Gs Go.Proofs.Ytknanaapaipoeaa.Wm Go.Proofs.Ytknanaapaipoeaa.Wi Go.Proofs.Ytknanaapaipoeaa.Wa Go.Proofs.Ytknanaapaipoeaa.Dw Go.Proofs.Ytknanaapaipoeaa.Rs Go.Proofs.Ytknanaapaipoeaa.Rn Go.Proofs.Ytknanaapaipoeaa.Rp Go.Proofs.Ytknanaapaipoeaa.Pls

set_option maxHeartbeats 4000000 in
set_option maxRecDepth 100000 in
theorem walk (A : Option Addr) (n c : Nat) (bs : List UInt8) (hn : bs.length = n) (hm : n ≤ maxLen) (w : World) (hr : Rd w w.heap.size A (Draw.u8s bs)) :
    Calls Try.prog 9 #[.slice A n c] w fun e w' => e = .returned (.bool true) ∧ Below w.heap.size w w' := by
  have hu : undef = Value.tuple #[] := rfl
  by_cases hbig : (n : Int) ≤ 4096
  · have D := Lib.hid (drawFitting w A n c bs hn (by omega) hr)
    clear hm
    go_enter Try.func9, Try.ntmps9
    go_wp2_with (go_at_call 15; go_enter Try.func15, Try.ntmps15)
    refine D.out.mono ?_
    rintro e u0 ⟨ps, zs, p0, d0, gr, cc, hq, hf, h6, rfl, hP, hZ, hB⟩
    have BB := Lib.hid hB
    have PP := Lib.hid hP
    have hp4 := hq.2.1
    obtain ⟨np, hnp⟩ : ∃ k, k = ps.length := ⟨_, rfl⟩
    obtain ⟨nz, hnz⟩ : ∃ k, k = zs.length := ⟨_, rfl⟩
    rw [← hnp, ← hnz]
    obtain ⟨m, hmm⟩ : ∃ k, k = n % 33 := ⟨_, rfl⟩
    have hm32 : m ≤ 32 := by omega
    have hmi : (0 : Int) ≤ (m : Int) ∧ (m : Int) ≤ 128 := by omega
    have er : Int.tmod (n : Int) 33 = (m : Int) := by rw [hmm]; rw [Int.tmod_eq_emod_of_nonneg (by omega)]; omega
    obtain ⟨⟨q1, q2, q3, q4⟩, hbx⟩ : ∃ p, Wy.sq (m : Int) (Bo.boxA ps) = p := ⟨_, rfl⟩
    have s1 : q3 = (m : Int) * (Wz.wor 0 ps).1 := by rw [← (sides hq.1).1]; exact (congrArg (fun q : Bo.Q4 => q.2.2.1) hbx).symm
    have s2 : q4 = (m : Int) * (Wz.wor 1 ps).2 := by rw [← (sides hq.1).2.1]; exact (congrArg (fun q : Bo.Q4 => q.2.2.2) hbx).symm
    have s3 : q1 = (m : Int) * (Wz.wor 2 ps).1 := by rw [← (sides hq.1).2.2.1]; exact (congrArg (fun q : Bo.Q4 => q.1) hbx).symm
    have s4 : q2 = (m : Int) * (Wz.wor 3 ps).2 := by rw [← (sides hq.1).2.2.2]; exact (congrArg (fun q : Bo.Q4 => q.2.1) hbx).symm
    have S := Lib.hid (And.intro s1 (And.intro s2 (And.intro s3 s4)))
    have CB := Lib.hid (fun (W : World) (h1 : Rd W W.heap.size (some ⟨p0, 0, none⟩) (pls ps)) => (show Calls Try.prog 37 #[.slice (some ⟨p0, 0, none⟩) np d0, .int .i64 (m : Int)] W (fun e w' => e = .returned (.tuple #[.agg #[.int .i64 q1, .int .i64 q2, .int .i64 q3, .int .i64 q4], .bool true]) ∧ Below W.heap.size W w') by
      have := Wy.roseBoxI (some ⟨p0, 0, none⟩) np d0 ps (m : Int) W hnp.symm (by omega) h1
      rw [(Wy.r_yes (rosy_rs hq) hmi).1, (Wy.r_yes (rosy_rs hq) hmi).2, hbx] at this
      exact this))
    have CW := Lib.hid (fun (h x y : Int) (hh : Hd.hd h = true) (e : Wz.wor h ps = (x, y)) (W : World) (h1 : Rd W W.heap.size (some ⟨p0, 0, none⟩) (pls ps)) => (show Calls Try.prog 39 #[.slice (some ⟨p0, 0, none⟩) np d0, .int .i64 h] W (fun e w' => e = .returned (.agg #[.int .i64 x, .int .i64 y]) ∧ Below W.heap.size W w') by
      have := Wz.worstI (some ⟨p0, 0, none⟩) np d0 ps h W hnp.symm (by omega) h1
      rw [Wz.w_yes (rosy_rs hq) hh, e] at this
      exact this))
    have CO := Lib.hid (fun (h x y : Int) (e : Wz.wor h ps = (x, y)) (gb : Nat) (W : World) (h1 : Rd W W.heap.size (some ⟨gb, 0, none⟩) (gls [(0, x, y)])) => (show Calls Try.prog 17 #[.slice (some ⟨gb, 0, none⟩) 1 1, .int .i64 0, .int .i64 (m : Int)] W (fun e w' => e = .returned (.tuple #[.agg #[.int .i64 ((m : Int) * x), .int .i64 ((m : Int) * y)], .bool true]) ∧ Below W.heap.size W w') by
      have hin : (x, y) ∈ ps := e ▸ wor_in hq.1
      have := We.driftOverI (some ⟨gb, 0, none⟩) 1 1 [(0, x, y)] W.heap.size ((0 : Nat) : Int) (((0 : Nat) : Int) + (m : Int)) W rfl (by omega) (Nat.le_refl _) h1
      rw [We.over_yes (one_fits hq hin).1 (by omega), one_sum, show ((0 : Nat) : Int) = 0 from rfl, Int.zero_add] at this
      exact this))
    have CF := Lib.hid (fun (h x y : Int) (e : Wz.wor h ps = (x, y)) (gb : Nat) (W : World) (h1 : Rd W W.heap.size (some ⟨gb, 0, none⟩) (gls [(0, x, y)])) (h2 : Rd W W.heap.size (some ⟨p0, 0, none⟩) (pls ps)) => (show Calls Try.prog 36 #[.slice (some ⟨gb, 0, none⟩) 1 1, .slice (some ⟨p0, 0, none⟩) np d0, .int .i64 (m : Int)] W (fun e w' => e = .returned (.bool true) ∧ Below W.heap.size W w') by
      have hin : (x, y) ∈ ps := e ▸ wor_in hq.1
      have := Wx.fitsI (some ⟨gb, 0, none⟩) (some ⟨p0, 0, none⟩) 1 1 np d0 [(0, x, y)] ps W.heap.size (m : Int) W rfl hnp.symm (by omega) (by omega) (Nat.le_refl _) h1 h2
      rw [fits_at hq (one_fits hq hin) (by omega)] at this
      exact this))
    clear D hbig hP hZ hB hn hr hq hf hp4 h6 hnp hnz hmm hm32 hmi hbx s1 s2 s3 s4
    go_wp2_with fail
    refine (CB.out _ PP.out).mono ?_
    rintro e u1 ⟨rfl, hb⟩
    have B1 := Lib.hid (below_in BB.out hb)
    have P1 := Lib.hid ((PP.out.below hb).more hb.size)
    have Q1 := Lib.hid (Bk.new u1 #[.int .i64 q1, .int .i64 q2, .int .i64 q3, .int .i64 q4] 51)
    have B2 := Lib.hid (B1.out.alloc B1.out.size (.cells #[.int .i64 q1, .int .i64 q2, .int .i64 q3, .int .i64 q4] 51))
    have P2 := Lib.hid (rd_more P1.out (o := .cells #[.int .i64 q1, .int .i64 q2, .int .i64 q3, .int .i64 q4] 51))
    clear hb BB PP CB B1 P1 er
    go_wp2_with fail
    go_loopw [8] (fun i wr => ∃ k : Int, 0 ≤ k ∧ k ≤ 4 ∧ i = .int .i64 k ∧ Hid (Bk wr u1.heap.size #[.int .i64 q1, .int .i64 q2, .int .i64 q3, .int .i64 q4] 51) ∧ Hid (Rd wr wr.heap.size (some ⟨p0, 0, none⟩) (pls ps)) ∧ Hid (Below w.heap.size w wr)) (fun i _ => 4 - (intOf i).toNat)
    case atStart => exact ⟨0, by omega, by omega, rfl, Q1, P2, B2⟩
    case round =>
      clear Q1 P2 B2
      obtain ⟨k, hk0, hk4, rfl, QK, PK, BK⟩ := hrel
      obtain rfl | rfl | rfl | rfl | rfl : k = 0 ∨ k = 1 ∨ k = 2 ∨ k = 3 ∨ k = 4 := by omega
      · clear hk0 hk4
        obtain ⟨⟨x, y⟩, hw⟩ : ∃ p, Wz.wor 0 ps = p := ⟨_, rfl⟩
        have C1 := Lib.hid (CW.out 0 x y (by decide) hw)
        have C2 := Lib.hid (CO.out 0 x y hw)
        have C3 := Lib.hid (CF.out 0 x y hw)
        have sd := S.out.1
        rw [hw] at sd
        simp only at sd
        obtain ⟨o, ho⟩ : ∃ v, v = (m : Int) * y := ⟨_, rfl⟩
        rw [← sd, ← ho] at C2
        clear hw ho sd S CW CO CF
        go_wp2_with fail
        refine (C1.out _ PK.out).mono ?_
        rintro e u2 ⟨rfl, hb⟩
        have B3 := Lib.hid (below_in BK.out hb)
        have P3 := Lib.hid ((PK.out.below hb).more hb.size)
        have Q3 := Lib.hid (QK.out.below hb)
        clear hb BK PK QK C1
        have B4 := Lib.hid ((B3.out.alloc B3.out.size (.cells (pc x y) 28)).alloc (B3.out.alloc B3.out.size (.cells (pc x y) 28)).size (.cells #[.int .i64 0, .int .i64 x, .int .i64 y] 57))
        have P4 := Lib.hid (rd_more (rd_more P3.out (o := .cells (pc x y) 28)) (o := .cells #[.int .i64 0, .int .i64 x, .int .i64 y] 57))
        have Q4 := Lib.hid ((Q3.out.alloc (o := .cells (pc x y) 28)).alloc (o := .cells #[.int .i64 0, .int .i64 x, .int .i64 y] 57))
        have w4 := Rd.own (World.ownsRow_lit (base := (u2.alloc (.cells (pc x y) 28)).heap.size) (e := 57) (size := 3) (u2.alloc (.cells (pc x y) 28)) #[.int .i64 0, .int .i64 x, .int .i64 y] 1 (Nat.le_refl _) (by decide) rfl)
        rw [show (u2.alloc (.cells (pc x y) 28)).heap.size = u2.heap.size + 1 by simp] at w4
        have W4 := Lib.hid w4
        clear w4
        clear B3 P3 Q3
        go_wp2_with fail
        refine (C2.out _ _ W4.out).mono ?_
        rintro e u3 ⟨rfl, hb⟩
        have B5 := Lib.hid (below_in B4.out hb)
        have P5 := Lib.hid ((P4.out.below hb).more hb.size)
        have Q5 := Lib.hid (Q4.out.below hb)
        have W5 := Lib.hid ((W4.out.below hb).more hb.size)
        clear hb B4 P4 Q4 W4 C2
        have z0 := Q5.out.cell (i := 0) rfl
        have z1 := Q5.out.cell (i := 1) rfl
        have z2 := Q5.out.cell (i := 2) rfl
        have z3 := Q5.out.cell (i := 3) rfl
        have l1 := Q5.out.lt
        have l3 : ∀ j, u1.heap.size < u3.heap.size + j := fun j => by omega
        go_wp2_with fail
        have P6 := rd_more (rd_more (rd_more P5.out (o := .cells (pc q3 o) 28)) (o := .cells #[.int .i64 q3, .int .i64 q4, .int .i64 q1, .int .i64 q2] 3)) (o := .cells #[.int .i64 q3, .int .i64 o, .int .i64 q3, .int .i64 o] 3)
        have W6 := rd_more (rd_more (rd_more W5.out (o := .cells (pc q3 o) 28)) (o := .cells #[.int .i64 q3, .int .i64 q4, .int .i64 q1, .int .i64 q2] 3)) (o := .cells #[.int .i64 q3, .int .i64 o, .int .i64 q3, .int .i64 o] 3)
        refine (C3.out _ _ W6 P6).mono ?_
        rintro e u4 ⟨rfl, hb⟩
        have B7 := Lib.hid (B5.out.alloc B5.out.size (.cells (pc q3 o) 28))
        have B8 := Lib.hid (B7.out.alloc B7.out.size (.cells #[.int .i64 q3, .int .i64 q4, .int .i64 q1, .int .i64 q2] 3))
        have B9 := Lib.hid (B8.out.alloc B8.out.size (.cells #[.int .i64 q3, .int .i64 o, .int .i64 q3, .int .i64 o] 3))
        have BA := Lib.hid (below_in B9.out hb)
        have PA := Lib.hid ((P6.below hb).more hb.size)
        have QA := Lib.hid ((((Q5.out.alloc (o := .cells (pc q3 o) 28)).alloc (o := .cells #[.int .i64 q3, .int .i64 q4, .int .i64 q1, .int .i64 q2] 3)).alloc (o := .cells #[.int .i64 q3, .int .i64 o, .int .i64 q3, .int .i64 o] 3)).below hb)
        clear hb P6 W6 B5 P5 Q5 W5 B7 B8 B9 C3 z0 z1 z2 z3 l1 l3
        go_wp2_with fail
        go_roundw
        case rel => exact ⟨1, by omega, by omega, by first | rfl | go_num, QA, PA, BA⟩
        case measure => simp [intOf]
      · clear hk0 hk4
        obtain ⟨⟨x, y⟩, hw⟩ : ∃ p, Wz.wor 1 ps = p := ⟨_, rfl⟩
        have C1 := Lib.hid (CW.out 1 x y (by decide) hw)
        have C2 := Lib.hid (CO.out 1 x y hw)
        have C3 := Lib.hid (CF.out 1 x y hw)
        have sd := S.out.2.1
        rw [hw] at sd
        simp only at sd
        obtain ⟨o, ho⟩ : ∃ v, v = (m : Int) * x := ⟨_, rfl⟩
        rw [← sd, ← ho] at C2
        clear hw ho sd S CW CO CF
        go_wp2_with fail
        refine (C1.out _ PK.out).mono ?_
        rintro e u2 ⟨rfl, hb⟩
        have B3 := Lib.hid (below_in BK.out hb)
        have P3 := Lib.hid ((PK.out.below hb).more hb.size)
        have Q3 := Lib.hid (QK.out.below hb)
        clear hb BK PK QK C1
        have B4 := Lib.hid ((B3.out.alloc B3.out.size (.cells (pc x y) 28)).alloc (B3.out.alloc B3.out.size (.cells (pc x y) 28)).size (.cells #[.int .i64 0, .int .i64 x, .int .i64 y] 57))
        have P4 := Lib.hid (rd_more (rd_more P3.out (o := .cells (pc x y) 28)) (o := .cells #[.int .i64 0, .int .i64 x, .int .i64 y] 57))
        have Q4 := Lib.hid ((Q3.out.alloc (o := .cells (pc x y) 28)).alloc (o := .cells #[.int .i64 0, .int .i64 x, .int .i64 y] 57))
        have w4 := Rd.own (World.ownsRow_lit (base := (u2.alloc (.cells (pc x y) 28)).heap.size) (e := 57) (size := 3) (u2.alloc (.cells (pc x y) 28)) #[.int .i64 0, .int .i64 x, .int .i64 y] 1 (Nat.le_refl _) (by decide) rfl)
        rw [show (u2.alloc (.cells (pc x y) 28)).heap.size = u2.heap.size + 1 by simp] at w4
        have W4 := Lib.hid w4
        clear w4
        clear B3 P3 Q3
        go_wp2_with fail
        refine (C2.out _ _ W4.out).mono ?_
        rintro e u3 ⟨rfl, hb⟩
        have B5 := Lib.hid (below_in B4.out hb)
        have P5 := Lib.hid ((P4.out.below hb).more hb.size)
        have Q5 := Lib.hid (Q4.out.below hb)
        have W5 := Lib.hid ((W4.out.below hb).more hb.size)
        clear hb B4 P4 Q4 W4 C2
        have z0 := Q5.out.cell (i := 0) rfl
        have z1 := Q5.out.cell (i := 1) rfl
        have z2 := Q5.out.cell (i := 2) rfl
        have z3 := Q5.out.cell (i := 3) rfl
        have l1 := Q5.out.lt
        have l3 : ∀ j, u1.heap.size < u3.heap.size + j := fun j => by omega
        go_wp2_with fail
        have P6 := rd_more (rd_more (rd_more P5.out (o := .cells (pc o q4) 28)) (o := .cells #[.int .i64 q3, .int .i64 q4, .int .i64 q1, .int .i64 q2] 3)) (o := .cells #[.int .i64 o, .int .i64 q4, .int .i64 o, .int .i64 q4] 3)
        have W6 := rd_more (rd_more (rd_more W5.out (o := .cells (pc o q4) 28)) (o := .cells #[.int .i64 q3, .int .i64 q4, .int .i64 q1, .int .i64 q2] 3)) (o := .cells #[.int .i64 o, .int .i64 q4, .int .i64 o, .int .i64 q4] 3)
        refine (C3.out _ _ W6 P6).mono ?_
        rintro e u4 ⟨rfl, hb⟩
        have B7 := Lib.hid (B5.out.alloc B5.out.size (.cells (pc o q4) 28))
        have B8 := Lib.hid (B7.out.alloc B7.out.size (.cells #[.int .i64 q3, .int .i64 q4, .int .i64 q1, .int .i64 q2] 3))
        have B9 := Lib.hid (B8.out.alloc B8.out.size (.cells #[.int .i64 o, .int .i64 q4, .int .i64 o, .int .i64 q4] 3))
        have BA := Lib.hid (below_in B9.out hb)
        have PA := Lib.hid ((P6.below hb).more hb.size)
        have QA := Lib.hid ((((Q5.out.alloc (o := .cells (pc o q4) 28)).alloc (o := .cells #[.int .i64 q3, .int .i64 q4, .int .i64 q1, .int .i64 q2] 3)).alloc (o := .cells #[.int .i64 o, .int .i64 q4, .int .i64 o, .int .i64 q4] 3)).below hb)
        clear hb P6 W6 B5 P5 Q5 W5 B7 B8 B9 C3 z0 z1 z2 z3 l1 l3
        go_wp2_with fail
        go_roundw
        case rel => exact ⟨2, by omega, by omega, by first | rfl | go_num, QA, PA, BA⟩
        case measure => simp [intOf]
      · clear hk0 hk4
        obtain ⟨⟨x, y⟩, hw⟩ : ∃ p, Wz.wor 2 ps = p := ⟨_, rfl⟩
        have C1 := Lib.hid (CW.out 2 x y (by decide) hw)
        have C2 := Lib.hid (CO.out 2 x y hw)
        have C3 := Lib.hid (CF.out 2 x y hw)
        have sd := S.out.2.2.1
        rw [hw] at sd
        simp only at sd
        obtain ⟨o, ho⟩ : ∃ v, v = (m : Int) * y := ⟨_, rfl⟩
        rw [← sd, ← ho] at C2
        clear hw ho sd S CW CO CF
        go_wp2_with fail
        refine (C1.out _ PK.out).mono ?_
        rintro e u2 ⟨rfl, hb⟩
        have B3 := Lib.hid (below_in BK.out hb)
        have P3 := Lib.hid ((PK.out.below hb).more hb.size)
        have Q3 := Lib.hid (QK.out.below hb)
        clear hb BK PK QK C1
        have B4 := Lib.hid ((B3.out.alloc B3.out.size (.cells (pc x y) 28)).alloc (B3.out.alloc B3.out.size (.cells (pc x y) 28)).size (.cells #[.int .i64 0, .int .i64 x, .int .i64 y] 57))
        have P4 := Lib.hid (rd_more (rd_more P3.out (o := .cells (pc x y) 28)) (o := .cells #[.int .i64 0, .int .i64 x, .int .i64 y] 57))
        have Q4 := Lib.hid ((Q3.out.alloc (o := .cells (pc x y) 28)).alloc (o := .cells #[.int .i64 0, .int .i64 x, .int .i64 y] 57))
        have w4 := Rd.own (World.ownsRow_lit (base := (u2.alloc (.cells (pc x y) 28)).heap.size) (e := 57) (size := 3) (u2.alloc (.cells (pc x y) 28)) #[.int .i64 0, .int .i64 x, .int .i64 y] 1 (Nat.le_refl _) (by decide) rfl)
        rw [show (u2.alloc (.cells (pc x y) 28)).heap.size = u2.heap.size + 1 by simp] at w4
        have W4 := Lib.hid w4
        clear w4
        clear B3 P3 Q3
        go_wp2_with fail
        refine (C2.out _ _ W4.out).mono ?_
        rintro e u3 ⟨rfl, hb⟩
        have B5 := Lib.hid (below_in B4.out hb)
        have P5 := Lib.hid ((P4.out.below hb).more hb.size)
        have Q5 := Lib.hid (Q4.out.below hb)
        have W5 := Lib.hid ((W4.out.below hb).more hb.size)
        clear hb B4 P4 Q4 W4 C2
        have z0 := Q5.out.cell (i := 0) rfl
        have z1 := Q5.out.cell (i := 1) rfl
        have z2 := Q5.out.cell (i := 2) rfl
        have z3 := Q5.out.cell (i := 3) rfl
        have l1 := Q5.out.lt
        have l3 : ∀ j, u1.heap.size < u3.heap.size + j := fun j => by omega
        go_wp2_with fail
        have P6 := rd_more (rd_more (rd_more P5.out (o := .cells (pc q1 o) 28)) (o := .cells #[.int .i64 q3, .int .i64 q4, .int .i64 q1, .int .i64 q2] 3)) (o := .cells #[.int .i64 q1, .int .i64 o, .int .i64 q1, .int .i64 o] 3)
        have W6 := rd_more (rd_more (rd_more W5.out (o := .cells (pc q1 o) 28)) (o := .cells #[.int .i64 q3, .int .i64 q4, .int .i64 q1, .int .i64 q2] 3)) (o := .cells #[.int .i64 q1, .int .i64 o, .int .i64 q1, .int .i64 o] 3)
        refine (C3.out _ _ W6 P6).mono ?_
        rintro e u4 ⟨rfl, hb⟩
        have B7 := Lib.hid (B5.out.alloc B5.out.size (.cells (pc q1 o) 28))
        have B8 := Lib.hid (B7.out.alloc B7.out.size (.cells #[.int .i64 q3, .int .i64 q4, .int .i64 q1, .int .i64 q2] 3))
        have B9 := Lib.hid (B8.out.alloc B8.out.size (.cells #[.int .i64 q1, .int .i64 o, .int .i64 q1, .int .i64 o] 3))
        have BA := Lib.hid (below_in B9.out hb)
        have PA := Lib.hid ((P6.below hb).more hb.size)
        have QA := Lib.hid ((((Q5.out.alloc (o := .cells (pc q1 o) 28)).alloc (o := .cells #[.int .i64 q3, .int .i64 q4, .int .i64 q1, .int .i64 q2] 3)).alloc (o := .cells #[.int .i64 q1, .int .i64 o, .int .i64 q1, .int .i64 o] 3)).below hb)
        clear hb P6 W6 B5 P5 Q5 W5 B7 B8 B9 C3 z0 z1 z2 z3 l1 l3
        go_wp2_with fail
        go_roundw
        case rel => exact ⟨3, by omega, by omega, by first | rfl | go_num, QA, PA, BA⟩
        case measure => simp [intOf]
      · clear hk0 hk4
        obtain ⟨⟨x, y⟩, hw⟩ : ∃ p, Wz.wor 3 ps = p := ⟨_, rfl⟩
        have C1 := Lib.hid (CW.out 3 x y (by decide) hw)
        have C2 := Lib.hid (CO.out 3 x y hw)
        have C3 := Lib.hid (CF.out 3 x y hw)
        have sd := S.out.2.2.2
        rw [hw] at sd
        simp only at sd
        obtain ⟨o, ho⟩ : ∃ v, v = (m : Int) * x := ⟨_, rfl⟩
        rw [← sd, ← ho] at C2
        clear hw ho sd S CW CO CF
        go_wp2_with fail
        refine (C1.out _ PK.out).mono ?_
        rintro e u2 ⟨rfl, hb⟩
        have B3 := Lib.hid (below_in BK.out hb)
        have P3 := Lib.hid ((PK.out.below hb).more hb.size)
        have Q3 := Lib.hid (QK.out.below hb)
        clear hb BK PK QK C1
        have B4 := Lib.hid ((B3.out.alloc B3.out.size (.cells (pc x y) 28)).alloc (B3.out.alloc B3.out.size (.cells (pc x y) 28)).size (.cells #[.int .i64 0, .int .i64 x, .int .i64 y] 57))
        have P4 := Lib.hid (rd_more (rd_more P3.out (o := .cells (pc x y) 28)) (o := .cells #[.int .i64 0, .int .i64 x, .int .i64 y] 57))
        have Q4 := Lib.hid ((Q3.out.alloc (o := .cells (pc x y) 28)).alloc (o := .cells #[.int .i64 0, .int .i64 x, .int .i64 y] 57))
        have w4 := Rd.own (World.ownsRow_lit (base := (u2.alloc (.cells (pc x y) 28)).heap.size) (e := 57) (size := 3) (u2.alloc (.cells (pc x y) 28)) #[.int .i64 0, .int .i64 x, .int .i64 y] 1 (Nat.le_refl _) (by decide) rfl)
        rw [show (u2.alloc (.cells (pc x y) 28)).heap.size = u2.heap.size + 1 by simp] at w4
        have W4 := Lib.hid w4
        clear w4
        clear B3 P3 Q3
        go_wp2_with fail
        refine (C2.out _ _ W4.out).mono ?_
        rintro e u3 ⟨rfl, hb⟩
        have B5 := Lib.hid (below_in B4.out hb)
        have P5 := Lib.hid ((P4.out.below hb).more hb.size)
        have Q5 := Lib.hid (Q4.out.below hb)
        have W5 := Lib.hid ((W4.out.below hb).more hb.size)
        clear hb B4 P4 Q4 W4 C2
        have z0 := Q5.out.cell (i := 0) rfl
        have z1 := Q5.out.cell (i := 1) rfl
        have z2 := Q5.out.cell (i := 2) rfl
        have z3 := Q5.out.cell (i := 3) rfl
        have l1 := Q5.out.lt
        have l3 : ∀ j, u1.heap.size < u3.heap.size + j := fun j => by omega
        go_wp2_with fail
        have P6 := rd_more (rd_more (rd_more P5.out (o := .cells (pc o q2) 28)) (o := .cells #[.int .i64 q3, .int .i64 q4, .int .i64 q1, .int .i64 q2] 3)) (o := .cells #[.int .i64 o, .int .i64 q2, .int .i64 o, .int .i64 q2] 3)
        have W6 := rd_more (rd_more (rd_more W5.out (o := .cells (pc o q2) 28)) (o := .cells #[.int .i64 q3, .int .i64 q4, .int .i64 q1, .int .i64 q2] 3)) (o := .cells #[.int .i64 o, .int .i64 q2, .int .i64 o, .int .i64 q2] 3)
        refine (C3.out _ _ W6 P6).mono ?_
        rintro e u4 ⟨rfl, hb⟩
        have B7 := Lib.hid (B5.out.alloc B5.out.size (.cells (pc o q2) 28))
        have B8 := Lib.hid (B7.out.alloc B7.out.size (.cells #[.int .i64 q3, .int .i64 q4, .int .i64 q1, .int .i64 q2] 3))
        have B9 := Lib.hid (B8.out.alloc B8.out.size (.cells #[.int .i64 o, .int .i64 q2, .int .i64 o, .int .i64 q2] 3))
        have BA := Lib.hid (below_in B9.out hb)
        have PA := Lib.hid ((P6.below hb).more hb.size)
        have QA := Lib.hid ((((Q5.out.alloc (o := .cells (pc o q2) 28)).alloc (o := .cells #[.int .i64 q3, .int .i64 q4, .int .i64 q1, .int .i64 q2] 3)).alloc (o := .cells #[.int .i64 o, .int .i64 q2, .int .i64 o, .int .i64 q2] 3)).below hb)
        clear hb P6 W6 B5 P5 Q5 W5 B7 B8 B9 C3 z0 z1 z2 z3 l1 l3
        go_wp2_with fail
        go_roundw
        case rel => exact ⟨4, by omega, by omega, by first | rfl | go_num, QA, PA, BA⟩
        case measure => simp [intOf]
      · clear hk0 hk4
        go_wp2_with fail
        go_ret
        exact ⟨rfl, BK.out⟩
  · have hd : decide (4096 < n) = true := decide_eq_true (by omega)
    clear hn hm hr
    go_enter Try.func9, Try.ntmps9
    go_wp2_with (go_at_call 15; go_enter Try.func15, Try.ntmps15)
    go_returns
    exact ⟨rfl, Below.refl _ _⟩

set_option maxRecDepth 100000 in
theorem lifted (os : Os) (started : os.Started) (H : Type) (enc : TypeId × Value → H) :
    ReturnsInHanded {} Try.checked os 9 .any (Rows.fnRoseSidesSpec.pre6 enc Try.prog Try.f9 Rows.fnRoseSidesRow.domain false) (Rows.fnRoseSidesSpec.post enc Try.prog Try.f9 false true false false) := by
  refine returnsInHanded_of_change (C := Try.checked) own started (by kernel_rfl) Try.func9
    (ChangeSpec.witness6 (enc := enc) (C := Try.checked) false ⟨#[], #[.slice none 0 0], []⟩ 8 (by kernel_rfl) (by kernel_rfl) (by kernel_rfl) (by kernel_rfl)) ?_
  intro W base args ds gs before hval0 hW hcnd hsz
  have hval : ∀ (j : Nat) t v, Try.f9.params[j]? = some t → args[j]? = some v → Value.okWide Try.prog W .any base t v := hval0
  have hW' := hW
  obtain ⟨p, q, hA0, hV, rfl, hfz, hnd⟩ := hW
  have hA1 := hA0
  have hA : DataW.TrodAll enc Try.prog W 0 (fun _ => true) true Try.f9.params.toList args.toList ds p := hA0
  rw [Try.params9] at hA hval
  obtain ⟨v0, vs0, d0, ds0, p0, q0, hargs, rfl, rfl, h0, r0⟩ := trodAll_cons hA
  obtain ⟨rfl, rfl, rfl⟩ := trodAll_nil r0
  obtain rfl : args = #[v0] := by cases args; simp_all
  obtain ⟨rfl, rfl⟩ := trodVars_none hV
  obtain ⟨A0, n0, c0, a0, rfl, l0, m0, g0⟩ := RampFn.take_bytes Try.underlying22 Try.underlying5 (by kernel_rfl) (hval 0 22 v0 rfl rfl) h0
  clear hA0 hval0
  rw [List.append_nil] at hW'
  refine (walk A0 n0 c0 a0 l0 m0 W g0).mono fun e W' ⟨he, hb⟩ => ?_
  subst he
  exact ⟨_, rfl, post_law rfl hW' hA1 laidOut (by rw [Try.params9]; exact of_decide_eq_true (by kernel_rfl)) 4 (by kernel_rfl) Try.underlying4 rfl hb⟩

theorem over : Rows.fnRoseSidesRow.holds Try.pinned (OpenSpec.ofChange Rows.fnRoseSidesSpec) :=
  OpenClaim.holds_of_wide 9 Try.f9 rfl rfl rfl rfl rfl rfl rfl ⟨rfl, rfl, rfl, rfl, rfl⟩ rfl rfl rfl rfl rfl (by kernel_rfl) Try.func9 (by kernel_rfl)
    (of_decide_eq_true (by kernel_rfl)) (by unfold Func.isWrapper; first | (rw [if_pos (by decide +kernel)]; kernel_rfl) | (rw [if_neg (by decide +kernel)]; exact ⟨rfl, rfl⟩))
    (fun os started H enc _ => lifted os started H enc)

/-- The statement. -/
theorem proved : Rows.FnRoseSidesSaid :=
  over
#print axioms proved
end Go.Proofs.Ytknanaapaipoeaa.fnRoseSides
