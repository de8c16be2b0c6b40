/- What the model's draws for the laws on turns and steps answer: some places and numbers; old memory is as it was. -/
import Derived.Test.YtoifcnphmdldhaaDr2
import Derived.Handy
namespace Go.Proofs.Ytoifcnphmdldhaa.Dr3
open Go.RowKit Go.Proofs.Ytoifcnphmdldhaa.Mem Go.Proofs.Ytoifcnphmdldhaa.Draw Go.Proofs.Ytoifcnphmdldhaa.P2 Go.Proofs.Ytoifcnphmdldhaa.Dr2
set_option linter.unusedVariables false

theorem HB.below {w w' : World} {b : Nat} {x y : Int} (h : HB w b x y) (hb : Below w.heap.size w w') : HB w' b x y := (hb.block b h.lt).trans h

def DrawnTurnPlace (w : World) (e : Ending) (w' : World) : Prop :=
  ∃ x0 y0 z0 : Int, wf x0 ∧ wf y0 ∧ wf z0 ∧ e = .returned (.tuple #[.agg #[.int .i64 x0, .int .i64 y0], .int .i64 z0]) ∧ Below w.heap.size w w'

set_option maxHeartbeats 4000000 in
theorem drawTurnPlace (w : World) (A : Option Addr) (n c : Nat) (bs : List UInt8) (hn : bs.length = n) (hb : n ≤ 4096) (hr : Rd w w.heap.size A (u8s bs)) :
    Calls Try.prog 16 #[.slice A n c] w (DrawnTurnPlace w) := by
  have f0 : Below w.heap.size w (w.alloc (.cells #[.int .i64 0, .int .i64 0] 25)) := by go_grown
  have N0 := Lib.hid (new (w.alloc (.cells #[.int .i64 0, .int .i64 0] 25)) A n c bs hn hb ((hr.below f0).more (by go_size)))
  have H0 := Lib.hid (show HB (w.alloc (.cells #[.int .i64 0, .int .i64 0] 25)) (w.heap.size) 0 0 from HB.new w 0 0)
  have F0 := Lib.hid f0
  clear hn hb hr f0
  go_enter Try.func16, Try.ntmps16
  go_wp2_with fail
  refine N0.out.mono ?_
  rintro e w1 ⟨g, rfl, hg, r1, b1⟩
  have G := Lib.hid (show w.heap.size + 1 ≤ g by simp at hg; omega)
  have R1 := Lib.hid r1
  have B1 := Lib.hid (F0.out.trans (b1.mono (by go_size)))
  replace H0 := Lib.hid (HB.below H0.out b1)
  have NE0 := Lib.hid (show w.heap.size ≠ g by have := G.out; omega)
  clear hg r1 b1 N0 F0
  go_wp2_with fail
  refine (l2Any R1.out).mono ?_
  rintro e w2 ⟨x0, y0, hx0, hy0, rfl, k1, k2⟩
  have R2 := Lib.hid (R1.out.next k2 k1)
  have B2 := Lib.hid (B1.out.grown k2 B1.out.size (fun k hk => by cases hk; have := G.out; omega))
  replace hx0 := Lib.hid hx0
  replace hy0 := Lib.hid hy0
  replace H0 := Lib.hid (H0.out.grown k2 (fun e => NE0.out (Option.some.inj e)))
  clear k1 k2 R1 B1
  go_wp2_with fail
  refine (l2Turns R2.out).mono ?_
  rintro e w3 ⟨z0, hz0, rfl, k1, k2⟩
  have R3 := Lib.hid (R2.out.next k2 k1)
  have B3 := Lib.hid (B2.out.grown k2 B2.out.size (fun k hk => by cases hk; have := G.out; omega))
  replace hz0 := Lib.hid hz0
  replace H0 := Lib.hid (H0.out.grown k2 (fun e => NE0.out (Option.some.inj e)))
  clear k1 k2 R2 B2
  have h0 := H0.out
  have d00 := h0.c0
  have d01 := h0.c1
  have e00 := h0.f0
  have e01 := h0.f1
  clear h0
  go_wp2_with fail
  have r0 : HB (((w3).setCell ⟨w.heap.size, 0, none⟩ (.int .i64 x0)).setCell ⟨w.heap.size, 1, none⟩ (.int .i64 y0)) (w.heap.size) x0 y0 := ((H0.out).set0 x0).set1 y0
  have s00 := r0.c0
  have s01 := r0.c1
  clear r0
  (try simp only [Exit.inBlock, Exit.then])
  refine bodyPost_ret (by simp [results, Try.results16, go_sem, s00, s01]; try rfl) rfl ?_
  exact ⟨x0, y0, z0, hx0.out, hy0.out, hz0.out, rfl, ((B3.out).setCell (by show w.heap.size ≤ w.heap.size; omega) _).setCell (by show w.heap.size ≤ w.heap.size; omega) _⟩

def DrawnTurnAbout (w : World) (e : Ending) (w' : World) : Prop :=
  ∃ x0 y0 x1 y1 z0 : Int, wf x0 ∧ wf y0 ∧ wf x1 ∧ wf y1 ∧ wf z0 ∧ e = .returned (.tuple #[.agg #[.int .i64 x0, .int .i64 y0], .agg #[.int .i64 x1, .int .i64 y1], .int .i64 z0]) ∧ Below w.heap.size w w'

set_option maxHeartbeats 4000000 in
theorem drawTurnAbout (w : World) (A : Option Addr) (n c : Nat) (bs : List UInt8) (hn : bs.length = n) (hb : n ≤ 4096) (hr : Rd w w.heap.size A (u8s bs)) :
    Calls Try.prog 23 #[.slice A n c] w (DrawnTurnAbout w) := by
  have f0 : Below w.heap.size w ((w.alloc (.cells #[.int .i64 0, .int .i64 0] 25)).alloc (.cells #[.int .i64 0, .int .i64 0] 25)) := by go_grown
  have N0 := Lib.hid (new ((w.alloc (.cells #[.int .i64 0, .int .i64 0] 25)).alloc (.cells #[.int .i64 0, .int .i64 0] 25)) A n c bs hn hb ((hr.below f0).more (by go_size)))
  have H0 := Lib.hid (show HB ((w.alloc (.cells #[.int .i64 0, .int .i64 0] 25)).alloc (.cells #[.int .i64 0, .int .i64 0] 25)) (w.heap.size) 0 0 from (HB.new w 0 0).alloc (.cells #[.int .i64 0, .int .i64 0] 25))
  have H1 := Lib.hid (show HB ((w.alloc (.cells #[.int .i64 0, .int .i64 0] 25)).alloc (.cells #[.int .i64 0, .int .i64 0] 25)) (w.heap.size + 1) 0 0 from by simpa using HB.new (w.alloc (.cells #[.int .i64 0, .int .i64 0] 25)) 0 0)
  have F0 := Lib.hid f0
  clear hn hb hr f0
  go_enter Try.func23, Try.ntmps23
  go_wp2_with fail
  refine N0.out.mono ?_
  rintro e w1 ⟨g, rfl, hg, r1, b1⟩
  have G := Lib.hid (show w.heap.size + 2 ≤ g by simp at hg; omega)
  have R1 := Lib.hid r1
  have B1 := Lib.hid (F0.out.trans (b1.mono (by go_size)))
  replace H0 := Lib.hid (HB.below H0.out b1)
  have NE0 := Lib.hid (show w.heap.size ≠ g by have := G.out; omega)
  replace H1 := Lib.hid (HB.below H1.out b1)
  have NE1 := Lib.hid (show w.heap.size + 1 ≠ g by have := G.out; omega)
  clear hg r1 b1 N0 F0
  go_wp2_with fail
  refine (l2Any R1.out).mono ?_
  rintro e w2 ⟨x0, y0, hx0, hy0, rfl, k1, k2⟩
  have R2 := Lib.hid (R1.out.next k2 k1)
  have B2 := Lib.hid (B1.out.grown k2 B1.out.size (fun k hk => by cases hk; have := G.out; omega))
  replace hx0 := Lib.hid hx0
  replace hy0 := Lib.hid hy0
  replace H0 := Lib.hid (H0.out.grown k2 (fun e => NE0.out (Option.some.inj e)))
  replace H1 := Lib.hid (H1.out.grown k2 (fun e => NE1.out (Option.some.inj e)))
  clear k1 k2 R1 B1
  go_wp2_with fail
  refine (l2Any R2.out).mono ?_
  rintro e w3 ⟨x1, y1, hx1, hy1, rfl, k1, k2⟩
  have R3 := Lib.hid (R2.out.next k2 k1)
  have B3 := Lib.hid (B2.out.grown k2 B2.out.size (fun k hk => by cases hk; have := G.out; omega))
  replace hx1 := Lib.hid hx1
  replace hy1 := Lib.hid hy1
  replace H0 := Lib.hid (H0.out.grown k2 (fun e => NE0.out (Option.some.inj e)))
  replace H1 := Lib.hid (H1.out.grown k2 (fun e => NE1.out (Option.some.inj e)))
  clear k1 k2 R2 B2
  go_wp2_with fail
  refine (l2Turns R3.out).mono ?_
  rintro e w4 ⟨z0, hz0, rfl, k1, k2⟩
  have R4 := Lib.hid (R3.out.next k2 k1)
  have B4 := Lib.hid (B3.out.grown k2 B3.out.size (fun k hk => by cases hk; have := G.out; omega))
  replace hz0 := Lib.hid hz0
  replace H0 := Lib.hid (H0.out.grown k2 (fun e => NE0.out (Option.some.inj e)))
  replace H1 := Lib.hid (H1.out.grown k2 (fun e => NE1.out (Option.some.inj e)))
  clear k1 k2 R3 B3
  have h0 := H0.out
  have d00 := h0.c0
  have d01 := h0.c1
  have e00 := h0.f0
  have e01 := h0.f1
  clear h0
  have h1 := H1.out
  have d10 := h1.c0
  have d11 := h1.c1
  have e10 := h1.f0
  have e11 := h1.f1
  clear h1
  go_wp2_with fail
  have r0 : HB ((((((w4).setCell ⟨w.heap.size, 0, none⟩ (.int .i64 x0)).setCell ⟨w.heap.size, 1, none⟩ (.int .i64 y0))).setCell ⟨w.heap.size + 1, 0, none⟩ (.int .i64 x1)).setCell ⟨w.heap.size + 1, 1, none⟩ (.int .i64 y1)) (w.heap.size) x0 y0 := ((((H0.out).set0 x0).set1 y0).other 0 (.int .i64 x1) (by omega)).other 1 (.int .i64 y1) (by omega)
  have s00 := r0.c0
  have s01 := r0.c1
  clear r0
  have r1 : HB ((((((w4).setCell ⟨w.heap.size, 0, none⟩ (.int .i64 x0)).setCell ⟨w.heap.size, 1, none⟩ (.int .i64 y0))).setCell ⟨w.heap.size + 1, 0, none⟩ (.int .i64 x1)).setCell ⟨w.heap.size + 1, 1, none⟩ (.int .i64 y1)) (w.heap.size + 1) x1 y1 := ((((H1.out).other 0 (.int .i64 x0) (by omega)).other 1 (.int .i64 y0) (by omega)).set0 x1).set1 y1
  have s10 := r1.c0
  have s11 := r1.c1
  clear r1
  (try simp only [Exit.inBlock, Exit.then])
  refine bodyPost_ret (by simp [results, Try.results23, go_sem, s00, s01, s10, s11]; try rfl) rfl ?_
  exact ⟨x0, y0, x1, y1, z0, hx0.out, hy0.out, hx1.out, hy1.out, hz0.out, rfl, ((((B4.out).setCell (by show w.heap.size ≤ w.heap.size; omega) _).setCell (by show w.heap.size ≤ w.heap.size; omega) _).setCell (by show w.heap.size ≤ w.heap.size + 1; omega) _).setCell (by show w.heap.size ≤ w.heap.size + 1; omega) _⟩

def DrawnStepFrom (w : World) (e : Ending) (w' : World) : Prop :=
  ∃ x0 y0 z0 z1 : Int, wf x0 ∧ wf y0 ∧ wf z0 ∧ wf z1 ∧ e = .returned (.tuple #[.agg #[.int .i64 x0, .int .i64 y0], .int .i64 z0, .int .i64 z1]) ∧ Below w.heap.size w w'

set_option maxHeartbeats 4000000 in
theorem drawStepFrom (w : World) (A : Option Addr) (n c : Nat) (bs : List UInt8) (hn : bs.length = n) (hb : n ≤ 4096) (hr : Rd w w.heap.size A (u8s bs)) :
    Calls Try.prog 26 #[.slice A n c] w (DrawnStepFrom w) := by
  have f0 : Below w.heap.size w (w.alloc (.cells #[.int .i64 0, .int .i64 0] 25)) := by go_grown
  have N0 := Lib.hid (new (w.alloc (.cells #[.int .i64 0, .int .i64 0] 25)) A n c bs hn hb ((hr.below f0).more (by go_size)))
  have H0 := Lib.hid (show HB (w.alloc (.cells #[.int .i64 0, .int .i64 0] 25)) (w.heap.size) 0 0 from HB.new w 0 0)
  have F0 := Lib.hid f0
  clear hn hb hr f0
  go_enter Try.func26, Try.ntmps26
  go_wp2_with fail
  refine N0.out.mono ?_
  rintro e w1 ⟨g, rfl, hg, r1, b1⟩
  have G := Lib.hid (show w.heap.size + 1 ≤ g by simp at hg; omega)
  have R1 := Lib.hid r1
  have B1 := Lib.hid (F0.out.trans (b1.mono (by go_size)))
  replace H0 := Lib.hid (HB.below H0.out b1)
  have NE0 := Lib.hid (show w.heap.size ≠ g by have := G.out; omega)
  clear hg r1 b1 N0 F0
  go_wp2_with fail
  refine (l2Any R1.out).mono ?_
  rintro e w2 ⟨x0, y0, hx0, hy0, rfl, k1, k2⟩
  have R2 := Lib.hid (R1.out.next k2 k1)
  have B2 := Lib.hid (B1.out.grown k2 B1.out.size (fun k hk => by cases hk; have := G.out; omega))
  replace hx0 := Lib.hid hx0
  replace hy0 := Lib.hid hy0
  replace H0 := Lib.hid (H0.out.grown k2 (fun e => NE0.out (Option.some.inj e)))
  clear k1 k2 R1 B1
  go_wp2_with fail
  refine (l2Heading R2.out).mono ?_
  rintro e w3 ⟨z0, hz0, rfl, k1, k2⟩
  have R3 := Lib.hid (R2.out.next k2 k1)
  have B3 := Lib.hid (B2.out.grown k2 B2.out.size (fun k hk => by cases hk; have := G.out; omega))
  replace hz0 := Lib.hid hz0
  replace H0 := Lib.hid (H0.out.grown k2 (fun e => NE0.out (Option.some.inj e)))
  clear k1 k2 R2 B2
  go_wp2_with fail
  refine (bent R3.out).mono ?_
  rintro e w4 ⟨z1, hz1, rfl, k1, k2⟩
  have R4 := Lib.hid (R3.out.next k2 k1)
  have B4 := Lib.hid (B3.out.grown k2 B3.out.size (fun k hk => by cases hk; have := G.out; omega))
  replace hz1 := Lib.hid hz1
  replace H0 := Lib.hid (H0.out.grown k2 (fun e => NE0.out (Option.some.inj e)))
  clear k1 k2 R3 B3
  have h0 := H0.out
  have d00 := h0.c0
  have d01 := h0.c1
  have e00 := h0.f0
  have e01 := h0.f1
  clear h0
  go_wp2_with fail
  have r0 : HB (((w4).setCell ⟨w.heap.size, 0, none⟩ (.int .i64 x0)).setCell ⟨w.heap.size, 1, none⟩ (.int .i64 y0)) (w.heap.size) x0 y0 := ((H0.out).set0 x0).set1 y0
  have s00 := r0.c0
  have s01 := r0.c1
  clear r0
  (try simp only [Exit.inBlock, Exit.then])
  refine bodyPost_ret (by simp [results, Try.results26, go_sem, s00, s01]; try rfl) rfl ?_
  exact ⟨x0, y0, z0, z1, hx0.out, hy0.out, hz0.out, hz1.out, rfl, ((B4.out).setCell (by show w.heap.size ≤ w.heap.size; omega) _).setCell (by show w.heap.size ≤ w.heap.size; omega) _⟩

def DrawnTurnHeading (w : World) (e : Ending) (w' : World) : Prop :=
  ∃ z0 z1 : Int, wf z0 ∧ wf z1 ∧ e = .returned (.tuple #[.int .i64 z0, .int .i64 z1]) ∧ Below w.heap.size w w'

set_option maxHeartbeats 4000000 in
theorem drawTurnHeading (w : World) (A : Option Addr) (n c : Nat) (bs : List UInt8) (hn : bs.length = n) (hb : n ≤ 4096) (hr : Rd w w.heap.size A (u8s bs)) :
    Calls Try.prog 17 #[.slice A n c] w (DrawnTurnHeading w) := by
  have N0 := Lib.hid (new w A n c bs hn hb hr)
  clear hn hb hr
  go_enter Try.func17, Try.ntmps17
  go_wp2_with fail
  refine N0.out.mono ?_
  rintro e w1 ⟨g, rfl, hg, r1, b1⟩
  have G := Lib.hid hg
  have R1 := Lib.hid r1
  have B1 := Lib.hid b1
  clear hg r1 b1 N0
  go_wp2_with fail
  refine (l2Heading R1.out).mono ?_
  rintro e w2 ⟨z0, hz0, rfl, k1, k2⟩
  have R2 := Lib.hid (R1.out.next k2 k1)
  have B2 := Lib.hid (B1.out.grown k2 B1.out.size (fun k hk => by cases hk; exact G.out))
  replace hz0 := Lib.hid hz0
  clear k1 k2 R1 B1
  go_wp2_with fail
  refine (l2Turns R2.out).mono ?_
  rintro e w3 ⟨z1, hz1, rfl, k1, k2⟩
  have B3 := Lib.hid (B2.out.grown k2 B2.out.size (fun k hk => by cases hk; exact G.out))
  replace hz1 := Lib.hid hz1
  clear k1 k2 R2 B2
  go_wp2_with fail
  go_returns
  exact ⟨_, _, hz0.out, hz1.out, rfl, B3.out⟩

end Go.Proofs.Ytoifcnphmdldhaa.Dr3
