/- The draws of a jet and a turn, and of a jet and a place. -/
import Derived.Test.YtppaknjiadnogaaDr5
namespace Go.Proofs.Ytppaknjiadnogaa.Dt
open Go.RowKit Go.Proofs.Ytppaknjiadnogaa.Mem Go.Proofs.Ytppaknjiadnogaa.P2 Go.Proofs.Ytppaknjiadnogaa.Jt Go.Proofs.Ytppaknjiadnogaa.Dp Go.Proofs.Ytppaknjiadnogaa.Dr4
open Go.Proofs.Ytppaknjiadnogaa.Draw (Cur Ready Got u8s below once some_ odd pick new)
open Go.Proofs.Ytppaknjiadnogaa.Dr2 (HB HB.c0 HB.c1 HB.f0 HB.f1 HB.lt HB.new HB.set0 HB.set1 HB.grown GotP l2Turns l2Any wf)
set_option linter.unusedVariables false
set_option linter.unusedSimpArgs false

def DrawnT (w : World) (e : Ending) (w' : World) : Prop :=
  ∃ x y h t l k : Int, wf k ∧ e = .returned (.tuple #[jv x y h t l, .int .i64 k]) ∧ Below w.heap.size w w'
def DrawnS (w : World) (e : Ending) (w' : World) : Prop :=
  ∃ x y h t l a b : Int, wf a ∧ wf b ∧ e = .returned (.tuple #[jv x y h t l, .agg #[.int .i64 a, .int .i64 b]]) ∧ Below w.heap.size w w'

set_option maxHeartbeats 4000000 in
set_option maxRecDepth 100000 in
theorem drawTurnJet (w : World) (A : Option Addr) (n c : Nat) (bs : List UInt8) (hn : bs.length = n) (hb : n ≤ 4096) (hr : Rd w w.heap.size A (u8s bs)) :
    Calls Try.prog 15 #[.slice A n c] w (DrawnT w) := by
  have f0 : Below w.heap.size w (w.alloc (.cells (jc 0 0 0 0 0) 27)) := by go_grown
  have N0 := Lib.hid (new (w.alloc (.cells (jc 0 0 0 0 0) 27)) A n c bs hn hb ((hr.below f0).more (by go_size)))
  have B0 := Lib.hid (JB.new w 0 0 0 0 0)
  have F0 := Lib.hid f0
  clear hn hb hr f0
  go_enter Try.func15, Try.ntmps15
  go_wp2_with fail
  refine N0.out.mono ?_
  rintro e w1 ⟨g, rfl, hg, hR, hB⟩
  have R1 := Lib.hid hR
  have F1 := Lib.hid (F0.out.trans (hB.mono (by go_size)))
  have B1 := Lib.hid (B0.out.below hB)
  have hne : w.heap.size ≠ g := by have : (w.alloc (.cells (jc 0 0 0 0 0) 27)).heap.size ≤ g := hg; simp only [World.size_alloc] at this; omega
  have hgw : w.heap.size ≤ g := by have : (w.alloc (.cells (jc 0 0 0 0 0) 27)).heap.size ≤ g := hg; simp only [World.size_alloc] at this; omega
  clear hg hR hB F0 B0 N0
  go_wp2_with fail
  refine (l3Any R1.out).mono ?_
  rintro e w2 ⟨x, y, h, t, l, rfl, k1, k2⟩
  have R2 := Lib.hid (R1.out.next k2 k1)
  have F2 := Lib.hid (F1.out.grown k2 F1.out.size (fun k e => by injection e with e; omega))
  have B2 := Lib.hid (B1.out.grown k2 (fun e => hne (Option.some.inj e)))
  clear k1 k2 B1 F1 R1
  go_wp2_with fail
  refine (l2Turns R2.out).mono ?_
  rintro e w3 ⟨k, hk, rfl, k1, k2⟩
  have F3 := Lib.hid (F2.out.grown k2 F2.out.size (fun k e => by injection e with e; omega))
  have b3 := B2.out.grown k2 (fun e => hne (Option.some.inj e))
  have K := Lib.hid hk
  have B3 := Lib.hid b3
  obtain ⟨d0, d1, d2, d3, d4⟩ := b3.c
  have e0 := b3.f 0
  have e1 := b3.f 1
  have e2 := b3.f 2
  have e3 := b3.f 3
  have e4 := b3.f 4
  have hsz := F3.out.size
  clear k1 k2 hk b3 B2 F2 R2
  go_wp2_with fail
  obtain ⟨s0, s1, s2, s3, s4⟩ := (B3.out.set x y h t l).c
  (try simp only [Exit.inBlock, Exit.then])
  refine bodyPost_ret (by simp [results, Try.results15, go_sem, s0, s1, s2, s3, s4]; try rfl) rfl ?_
  exact ⟨x, y, h, t, l, k, K.out, rfl, F3.out.trans (by go_grown)⟩

set_option maxHeartbeats 4000000 in
set_option maxRecDepth 100000 in
theorem drawShiftJet (w : World) (A : Option Addr) (n c : Nat) (bs : List UInt8) (hn : bs.length = n) (hb : n ≤ 4096) (hr : Rd w w.heap.size A (u8s bs)) :
    Calls Try.prog 16 #[.slice A n c] w (DrawnS w) := by
  have f0 : Below w.heap.size w ((w.alloc (.cells (jc 0 0 0 0 0) 27)).alloc (.cells #[.int .i64 0, .int .i64 0] 25)) := by go_grown
  have N0 := Lib.hid (new ((w.alloc (.cells (jc 0 0 0 0 0) 27)).alloc (.cells #[.int .i64 0, .int .i64 0] 25)) A n c bs hn hb ((hr.below f0).more (by go_size)))
  have B0 := Lib.hid ((JB.new w 0 0 0 0 0).alloc (.cells #[.int .i64 0, .int .i64 0] 25))
  have p0 := HB.new (w.alloc (.cells (jc 0 0 0 0 0) 27)) 0 0
  rw [show (w.alloc (.cells (jc 0 0 0 0 0) 27)).heap.size = w.heap.size + 1 by simp] at p0
  have P0 := Lib.hid p0
  have F0 := Lib.hid f0
  clear hn hb hr f0 p0
  go_enter Try.func16, Try.ntmps16
  go_wp2_with fail
  refine N0.out.mono ?_
  rintro e w1 ⟨g, rfl, hg, hR, hB⟩
  have R1 := Lib.hid hR
  have F1 := Lib.hid (F0.out.trans (hB.mono (by go_size)))
  have B1 := Lib.hid (B0.out.below hB)
  have P1 := Lib.hid (show HB w1 (w.heap.size + 1) 0 0 from (hB.block _ P0.out.lt).trans P0.out)
  have hg2 : w.heap.size + 1 < g := by have : ((w.alloc (.cells (jc 0 0 0 0 0) 27)).alloc (.cells #[.int .i64 0, .int .i64 0] 25)).heap.size ≤ g := hg; simp only [World.size_alloc] at this; omega
  clear hg hR hB F0 B0 P0 N0
  go_wp2_with fail
  refine (l3Any R1.out).mono ?_
  rintro e w2 ⟨x, y, h, t, l, rfl, k1, k2⟩
  have R2 := Lib.hid (R1.out.next k2 k1)
  have F2 := Lib.hid (F1.out.grown k2 F1.out.size (fun k e => by injection e with e; omega))
  have B2 := Lib.hid (B1.out.grown k2 (fun e => by have := Option.some.inj e; omega))
  have P2 := Lib.hid (P1.out.grown k2 (fun e => by have := Option.some.inj e; omega))
  clear k1 k2 B1 F1 R1 P1
  go_wp2_with fail
  refine (l2Any R2.out).mono ?_
  rintro e w3 ⟨a, b, ha, hb, rfl, k1, k2⟩
  have F3 := Lib.hid (F2.out.grown k2 F2.out.size (fun k e => by injection e with e; omega))
  have b3 := B2.out.grown k2 (fun e => by have := Option.some.inj e; omega)
  have p3 := P2.out.grown k2 (fun e => by have := Option.some.inj e; omega)
  have K := Lib.hid (And.intro ha hb)
  have B3 := Lib.hid b3
  have P3 := Lib.hid p3
  obtain ⟨d0, d1, d2, d3, d4⟩ := b3.c
  have e0 := b3.f 0
  have e1 := b3.f 1
  have e2 := b3.f 2
  have e3 := b3.f 3
  have e4 := b3.f 4
  have q0 := p3.c0
  have q1 := p3.c1
  have r0 := p3.f0
  have r1 := p3.f1
  have hsz := F3.out.size
  clear k1 k2 ha hb b3 p3 B2 F2 R2 P2
  go_wp2_with fail
  have nb : w.heap.size ≠ w.heap.size + 1 := by omega
  have nc : w.heap.size + 1 ≠ w.heap.size := by omega
  obtain ⟨s0, s1, s2, s3, s4⟩ := (((B3.out.set x y h t l).other 0 (.int .i64 a) nb).other 1 (.int .i64 b) nb).c
  have jp := ((((((P3.out.other 0 (.int .i64 x) nc).other 1 (.int .i64 y) nc).other 2 (.int .i64 h) nc).other 3 (.int .i64 t) nc).other 4 (.int .i64 l) nc).set0 a).set1 b
  have s5 := jp.c0
  have s6 := jp.c1
  (try simp only [Exit.inBlock, Exit.then])
  refine bodyPost_ret (by simp [results, Try.results16, go_sem, s0, s1, s2, s3, s4, s5, s6]; try rfl) rfl ?_
  exact ⟨x, y, h, t, l, a, b, K.out.1, K.out.2, rfl, F3.out.trans (by go_grown)⟩

end Go.Proofs.Ytppaknjiadnogaa.Dt
