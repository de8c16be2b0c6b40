/- What the model's draws of places, turns and headings answer: some place, some number; the cursor alone is written. -/
import Derived.Test.YtgcheplneolonadP2
import Derived.Test.YtgcheplneolonadDraw
namespace Go.Proofs.Ytgcheplneolonad.Dr2
open Go.RowKit Go.Proofs.Ytgcheplneolonad.Mem Go.Proofs.Ytgcheplneolonad.Draw Go.Proofs.Ytgcheplneolonad.P2
set_option linter.unusedVariables false

def wf (x : Int) : Prop := (Lit.int .i64 x).wf = true

/-- Block b holds the place x, y. -/
def HB (w : World) (b : Nat) (x y : Int) : Prop := w.heap[b]? = some (.cells #[.int .i64 x, .int .i64 y] 25 (0, 0))

theorem HB.c0 {w : World} {b : Nat} {x y : Int} (h : HB w b x y) : w.cell? ⟨b, 0, none⟩ = some (.int .i64 x) := by simp [World.cell?, show w.heap[b]? = _ from h]
theorem HB.c1 {w : World} {b : Nat} {x y : Int} (h : HB w b x y) : w.cell? ⟨b, 1, none⟩ = some (.int .i64 y) := by simp [World.cell?, show w.heap[b]? = _ from h]
theorem HB.f0 {w : World} {b : Nat} {x y : Int} (h : HB w b x y) : w.frozen? ⟨b, 0, none⟩ = false := by simp [World.frozen?, show w.heap[b]? = _ from h]
theorem HB.f1 {w : World} {b : Nat} {x y : Int} (h : HB w b x y) : w.frozen? ⟨b, 1, none⟩ = false := by simp [World.frozen?, show w.heap[b]? = _ from h]
theorem HB.lt {w : World} {b : Nat} {x y : Int} (h : HB w b x y) : b < w.heap.size := (Array.getElem?_eq_some_iff.1 h).1
theorem HB.grown {w w' : World} {b : Nat} {x y : Int} {r : Option Nat} (h : HB w b x y) (k : w.grownBy w' r) (hr : some b ≠ r) : HB w' b x y := (k.block b h.lt hr).trans h
theorem HB.new (w : World) (x y : Int) : HB (w.alloc (.cells #[.int .i64 x, .int .i64 y] 25)) w.heap.size x y := heap_alloc_new w _
theorem HB.alloc {w : World} {b : Nat} {x y : Int} (h : HB w b x y) (o : Obj) : HB (w.alloc o) b x y := (Below.heap_alloc _ _ _ h.lt).trans h
theorem HB.set0 {w : World} {b : Nat} {x y : Int} (u : Int) (h : HB w b x y) : HB (w.setCell ⟨b, 0, none⟩ (.int .i64 u)) b u y := by
  obtain ⟨hlt, hk⟩ := Array.getElem?_eq_some_iff.1 h
  show (w.heap.modify b _)[b]? = _
  rw [Array.getElem?_eq_getElem (by rw [Array.size_modify]; exact hlt), Array.getElem_modify_self, hk]
  rfl
theorem HB.set1 {w : World} {b : Nat} {x y : Int} (u : Int) (h : HB w b x y) : HB (w.setCell ⟨b, 1, none⟩ (.int .i64 u)) b x u := by
  obtain ⟨hlt, hk⟩ := Array.getElem?_eq_some_iff.1 h
  show (w.heap.modify b _)[b]? = _
  rw [Array.getElem?_eq_getElem (by rw [Array.size_modify]; exact hlt), Array.getElem_modify_self, hk]
  rfl
theorem HB.other {w : World} {b b' : Nat} {x y : Int} (h : HB w b x y) (j : Nat) (v : Value) (hne : b ≠ b') : HB (w.setCell ⟨b', j, none⟩ v) b x y := (Below.heap_setCell _ _ _ _ hne).trans h

theorem cur_set {w : World} {g n c : Nat} {A : Option Addr} (h : Cur w g A n c) {b : Nat} (hne : g ≠ b) (j : Nat) (v : Value) : Cur (w.setCell ⟨b, j, none⟩ v) g A n c := h.kept (Below.heap_setCell _ _ _ _ hne)
theorem grown_set {w w' : World} {r : Option Nat} (h : w.grownBy w' r) {b : Nat} (hb : w.heap.size ≤ b) (j : Nat) (v : Value) : w.grownBy (w'.setCell ⟨b, j, none⟩ v) r :=
  ⟨h.os, h.tape, h.output, by simp [World.setCell]; exact h.size, fun k hk hr => (Below.heap_setCell _ _ _ _ (by show k ≠ b; omega)).trans (h.block k hk hr)⟩
theorem grown_alloc {w w' : World} {r : Option Nat} (h : w.grownBy w' r) (o : Obj) : w.grownBy (w'.alloc o) r := grown_trans h (World.grownBy_alloc w' o r)

theorem rd_set {w : World} {g b : Nat} {A : Option Addr} {xs : List Value} (h : Rd w g A xs) (hb : g < b) (j : Nat) (v : Value) : Rd (w.setCell ⟨b, j, none⟩ v) g A xs :=
  h.keep fun p hp => World.cell?_of_block (Below.heap_setCell _ _ _ _ (by show p.block ≠ b; omega))

/-- What the draw of a place leaves. -/
def GotP (w : World) (g : Nat) (A : Option Addr) (n c : Nat) (e : Ending) (w' : World) : Prop :=
  ∃ x y, wf x ∧ wf y ∧ e = .returned (.agg #[.int .i64 x, .int .i64 y]) ∧ Cur w' g A n c ∧ w.grownBy w' (some g)

set_option maxHeartbeats 1000000 in
theorem l2Draw {w : World} {g n c : Nat} {A : Option Addr} {bs : List UInt8} (h : Ready w g A n c bs) :
    Calls Try.prog 66 #[.pointer (some ⟨g, 0, none⟩)] w (GotP w g A n c) := by
  have hlt := h.cur.lt
  have H1 := Lib.hid (h.alloc (.cells #[.int .i64 0, .int .i64 0] 25))
  have G0 := Lib.hid (World.grownBy_alloc w (.cells #[.int .i64 0, .int .i64 0] 25) (some g))
  have B0 := Lib.hid (HB.new w 0 0)
  have NE := Lib.hid (show w.heap.size ≠ g by omega)
  clear h hlt
  go_enter Try.func66, Try.ntmps66
  go_wp2_with fail
  refine (some_ H1.out (-64) 64 (by decide) (by decide) (by decide)).mono ?_
  rintro e w1 ⟨x, ⟨x1, x2⟩, rfl, k1, k2⟩
  have R1 := Lib.hid (H1.out.next k2 k1)
  have G1 := Lib.hid (grown_trans G0.out k2)
  have B1 := Lib.hid (B0.out.grown k2 (fun e => NE.out (Option.some.inj e)))
  have X := Lib.hid (show wf x from wf_of_small (by omega) (by omega))
  clear k1 k2 x1 x2 H1 G0 B0
  go_wp2_with fail
  refine (some_ R1.out (-64) 64 (by decide) (by decide) (by decide)).mono ?_
  rintro e w2 ⟨y, ⟨y1, y2⟩, rfl, k1, k2⟩
  have G2 := Lib.hid (grown_trans G1.out k2)
  have C2 := Lib.hid k1
  have b2 := B1.out.grown k2 (fun e => NE.out (Option.some.inj e))
  have Y := Lib.hid (show wf y from wf_of_small (by omega) (by omega))
  have B2 := Lib.hid b2
  have d0 := b2.c0
  have d1 := b2.c1
  have e0 := b2.f0
  have e1 := b2.f1
  clear k1 k2 y1 y2 R1 G1 B1 b2
  go_wp2_with fail
  have r := (B2.out.set0 x).set1 y
  have s0 := r.c0
  have s1 := r.c1
  clear r
  (try simp only [Exit.inBlock, Exit.then])
  refine bodyPost_ret (by simp [results, Try.results66, go_sem, s0, s1]; try rfl) rfl ?_
  exact ⟨x, y, X.out, Y.out, rfl, cur_set (cur_set C2.out NE.out.symm _ _) NE.out.symm _ _, grown_set (grown_set G2.out (Nat.le_refl _) _ _) (Nat.le_refl _) _ _⟩

set_option maxHeartbeats 1000000 in
theorem l2Turns {w : World} {g n c : Nat} {A : Option Addr} {bs : List UInt8} (h : Ready w g A n c bs) :
    Calls Try.prog 50 #[.pointer (some ⟨g, 0, none⟩)] w (Got wf w g A n c) := by
  have H1 := Lib.hid h
  clear h
  go_enter Try.func50, Try.ntmps50
  go_wp2_with fail
  refine (once H1.out 6 (by decide) (by decide)).mono ?_
  rintro e w1 ⟨q, rfl, k1, k2⟩
  have R1 := Lib.hid (H1.out.next k2 k1)
  have G1 := Lib.hid k2
  clear k1 k2 H1
  cases q
  · go_wp2_with fail
    refine (below R1.out 12 (by decide) (by decide)).mono ?_
    rintro e w2 ⟨y, ⟨y1, y2⟩, rfl, k1, k2⟩
    have G2 := Lib.hid (And.intro k1 (grown_trans G1.out k2))
    have Y := Lib.hid (show wf (y - 5) from wf_of_small (by omega) (by omega))
    have s : wrap64 (y - 5) = y - 5 := IntWalk.wrap64_in _ (by omega)
    clear k1 k2 y1 y2 R1 G1
    go_wp2_with fail
    go_returns
    refine ⟨_, Y.out, ?_, G2.out.1, G2.out.2⟩
    show Ending.returned (.int .i64 (wrap64 (y - 5))) = _
    rw [s]
  · go_wp2_with fail
    refine (odd R1.out).mono ?_
    rintro e w2 ⟨y, hy, rfl, k1, k2⟩
    have G2 := Lib.hid (And.intro k1 (grown_trans G1.out k2))
    have Y := Lib.hid hy
    clear k1 k2 hy R1 G1
    go_wp2_with fail
    go_returns
    exact ⟨_, Y.out, rfl, G2.out.1, G2.out.2⟩

def edges : List Int := [4096, -4096, 4097, -4097, 4090]
theorem edges_wf {x : Int} (h : x ∈ edges) : wf x := by
  unfold edges at h
  simp only [List.mem_cons, List.not_mem_nil, or_false] at h
  rcases h with h | h | h | h | h <;> subst h <;> (show (Lit.int .i64 _).wf = true; decide)

set_option maxHeartbeats 4000000 in
theorem l2Any {w : World} {g n c : Nat} {A : Option Addr} {bs : List UInt8} (h : Ready w g A n c bs) :
    Calls Try.prog 49 #[.pointer (some ⟨g, 0, none⟩)] w (GotP w g A n c) := by
  have hlt := h.cur.lt
  have H1 := Lib.hid (h.alloc (.cells #[.int .i64 0, .int .i64 0] 25))
  have G0 := Lib.hid (World.grownBy_alloc w (.cells #[.int .i64 0, .int .i64 0] 25) (some g))
  have A0 := Lib.hid (HB.new w 0 0)
  have NE := Lib.hid (show w.heap.size ≠ g by omega)
  clear h hlt
  go_enter Try.func49, Try.ntmps49
  go_wp2_with fail
  refine (l2Draw H1.out).mono ?_
  rintro e w1 ⟨x, y, hx, hy, rfl, k1, k2⟩
  have X := Lib.hid hx
  have Y := Lib.hid hy
  have r1 := H1.out.next k2 k1
  have a1 := A0.out.grown k2 (fun e => NE.out (Option.some.inj e))
  have NB := Lib.hid (show w1.heap.size ≠ g from Nat.ne_of_gt r1.cur.lt)
  have GB := Lib.hid (show g < w1.heap.size from r1.cur.lt)
  have NAB := Lib.hid (show w.heap.size ≠ w1.heap.size from Nat.ne_of_lt a1.lt)
  have LE := Lib.hid (show w.heap.size ≤ w1.heap.size from Nat.le_of_lt a1.lt)
  have R1 := Lib.hid (r1.alloc (.cells #[.int .i64 x, .int .i64 y] 25))
  have A1 := Lib.hid (a1.alloc (.cells #[.int .i64 x, .int .i64 y] 25))
  have B1 := Lib.hid (HB.new w1 x y)
  have G1 := Lib.hid (grown_alloc (grown_trans G0.out k2) (.cells #[.int .i64 x, .int .i64 y] 25))
  clear k1 k2 hx hy H1 G0 A0 r1 a1
  go_wp2_with fail
  refine (once R1.out 9 (by decide) (by decide)).mono ?_
  rintro e w2 ⟨q, rfl, k1, k2⟩
  have R2 := Lib.hid (R1.out.next k2 k1)
  have A2 := Lib.hid (A1.out.grown k2 (fun e => NE.out (Option.some.inj e)))
  have B2 := Lib.hid (B1.out.grown k2 (fun e => NB.out (Option.some.inj e)))
  have G2 := Lib.hid (grown_trans G1.out k2)
  clear k1 k2 R1 A1 B1 G1
  cases q
  · go_wp2_with fail
    refine (once R2.out 9 (by decide) (by decide)).mono ?_
    rintro e w4 ⟨q, rfl, k1, k2⟩
    have R4 := Lib.hid (R2.out.next k2 k1)
    have A4 := Lib.hid (A2.out.grown k2 (fun e => NE.out (Option.some.inj e)))
    have B4 := Lib.hid (B2.out.grown k2 (fun e => NB.out (Option.some.inj e)))
    have G4 := Lib.hid (grown_trans G2.out k2)
    clear k1 k2 R2 A2 B2 G2
    cases q
    · have a5 := A4.out
      have b5 := B4.out
      have d0 := a5.c0
      have d1 := a5.c1
      have e0 := a5.f0
      have e1 := a5.f1
      have d2 := b5.c0
      have d3 := b5.c1
      clear a5 b5
      go_wp2_with fail
      have r := (A4.out.set0 x).set1 y
      have s0 := r.c0
      have s1 := r.c1
      clear r
      (try simp only [Exit.inBlock, Exit.then])
      refine bodyPost_ret (by simp [results, Try.results49, go_sem, s0, s1]; try rfl) rfl ?_
      exact ⟨x, y, X.out, Y.out, rfl, cur_set (cur_set R4.out.cur NE.out.symm _ _) NE.out.symm _ _, grown_set (grown_set G4.out (Nat.le_refl _) _ _) (Nat.le_refl _) _ _⟩
    · have hlt := R4.out.cur.lt
      have P := Lib.hid (pick (R4.out.alloc (.cells (ints edges).toArray 3)) w4.heap.size 0 5 edges (by omega) (by decide) (by decide) (cells_at w4 edges 3))
      clear hlt
      go_wp2_with fail
      refine P.out.mono ?_
      rintro e w5 ⟨y', hy', rfl, k1, k2⟩
      have Y2 := Lib.hid (edges_wf hy')
      have r5 := (R4.out.alloc (.cells (ints edges).toArray 3)).next k2 k1
      have a5 := (A4.out.alloc (.cells (ints edges).toArray 3)).grown k2 (fun e => NE.out (Option.some.inj e))
      have b5 := (B4.out.alloc (.cells (ints edges).toArray 3)).grown k2 (fun e => NB.out (Option.some.inj e))
      have g5 := grown_trans (grown_alloc G4.out (.cells (ints edges).toArray 3)) k2
      have d0 := b5.c0
      have d1 := b5.c1
      have e0 := b5.f0
      have e1 := b5.f1
      have R5 := Lib.hid (show Ready (w5.setCell ⟨w1.heap.size, 1, none⟩ (.int .i64 y')) g A n c bs from ⟨r5.len, r5.max, rd_set r5.rd GB.out _ _, cur_set r5.cur NB.out.symm _ _⟩)
      have a6 := a5.other 1 (.int .i64 y') NAB.out
      have b6 := b5.set1 y'
      have G5 := Lib.hid (grown_set g5 LE.out 1 (.int .i64 y'))
      have A5 := Lib.hid a6
      have B5 := Lib.hid b6
      have d4 := a6.c0
      have d5 := a6.c1
      have e4 := a6.f0
      have e5 := a6.f1
      have d6 := b6.c0
      have d7 := b6.c1
      clear k1 k2 hy' r5 a5 b5 a6 b6 g5 R4 A4 B4 G4 P
      go_wp2_with fail
      have r := (A5.out.set0 x).set1 y'
      have s0 := r.c0
      have s1 := r.c1
      clear r
      (try simp only [Exit.inBlock, Exit.then])
      refine bodyPost_ret (by simp [results, Try.results49, go_sem, s0, s1]; try rfl) rfl ?_
      exact ⟨x, y', X.out, Y2.out, rfl, cur_set (cur_set R5.out.cur NE.out.symm _ _) NE.out.symm _ _, grown_set (grown_set G5.out (Nat.le_refl _) _ _) (Nat.le_refl _) _ _⟩
  · go_wp2_with fail
    refine (odd R2.out).mono ?_
    rintro e w3 ⟨x', hx', rfl, k1, k2⟩
    have r3 := R2.out.next k2 k1
    have X2 := Lib.hid (show wf x' from hx')
    have a3 := A2.out.grown k2 (fun e => NE.out (Option.some.inj e))
    have b3 := B2.out.grown k2 (fun e => NB.out (Option.some.inj e))
    have g3 := grown_trans G2.out k2
    have d0 := b3.c0
    have d1 := b3.c1
    have e0 := b3.f0
    have e1 := b3.f1
    have R3 := Lib.hid (show Ready (w3.setCell ⟨w1.heap.size, 0, none⟩ (.int .i64 x')) g A n c bs from ⟨r3.len, r3.max, rd_set r3.rd GB.out _ _, cur_set r3.cur NB.out.symm _ _⟩)
    have A3 := Lib.hid (a3.other 0 (.int .i64 x') NAB.out)
    have B3 := Lib.hid (b3.set0 x')
    have G3 := Lib.hid (grown_set g3 LE.out 0 (.int .i64 x'))
    clear k1 k2 hx' r3 a3 b3 g3 R2 A2 B2 G2
    go_wp2_with fail
    refine (once R3.out 9 (by decide) (by decide)).mono ?_
    rintro e w4 ⟨q, rfl, k1, k2⟩
    have R4 := Lib.hid (R3.out.next k2 k1)
    have A4 := Lib.hid (A3.out.grown k2 (fun e => NE.out (Option.some.inj e)))
    have B4 := Lib.hid (B3.out.grown k2 (fun e => NB.out (Option.some.inj e)))
    have G4 := Lib.hid (grown_trans G3.out k2)
    clear k1 k2 R3 A3 B3 G3 d0 d1 e0 e1
    cases q
    · have a5 := A4.out
      have b5 := B4.out
      have d0 := a5.c0
      have d1 := a5.c1
      have e0 := a5.f0
      have e1 := a5.f1
      have d2 := b5.c0
      have d3 := b5.c1
      clear a5 b5
      go_wp2_with fail
      have r := (A4.out.set0 x').set1 y
      have s0 := r.c0
      have s1 := r.c1
      clear r
      (try simp only [Exit.inBlock, Exit.then])
      refine bodyPost_ret (by simp [results, Try.results49, go_sem, s0, s1]; try rfl) rfl ?_
      exact ⟨x', y, X2.out, Y.out, rfl, cur_set (cur_set R4.out.cur NE.out.symm _ _) NE.out.symm _ _, grown_set (grown_set G4.out (Nat.le_refl _) _ _) (Nat.le_refl _) _ _⟩
    · have hlt := R4.out.cur.lt
      have P := Lib.hid (pick (R4.out.alloc (.cells (ints edges).toArray 3)) w4.heap.size 0 5 edges (by omega) (by decide) (by decide) (cells_at w4 edges 3))
      clear hlt
      go_wp2_with fail
      refine P.out.mono ?_
      rintro e w5 ⟨y', hy', rfl, k1, k2⟩
      have Y2 := Lib.hid (edges_wf hy')
      have r5 := (R4.out.alloc (.cells (ints edges).toArray 3)).next k2 k1
      have a5 := (A4.out.alloc (.cells (ints edges).toArray 3)).grown k2 (fun e => NE.out (Option.some.inj e))
      have b5 := (B4.out.alloc (.cells (ints edges).toArray 3)).grown k2 (fun e => NB.out (Option.some.inj e))
      have g5 := grown_trans (grown_alloc G4.out (.cells (ints edges).toArray 3)) k2
      have d0 := b5.c0
      have d1 := b5.c1
      have e0 := b5.f0
      have e1 := b5.f1
      have R5 := Lib.hid (show Ready (w5.setCell ⟨w1.heap.size, 1, none⟩ (.int .i64 y')) g A n c bs from ⟨r5.len, r5.max, rd_set r5.rd GB.out _ _, cur_set r5.cur NB.out.symm _ _⟩)
      have a6 := a5.other 1 (.int .i64 y') NAB.out
      have b6 := b5.set1 y'
      have G5 := Lib.hid (grown_set g5 LE.out 1 (.int .i64 y'))
      have A5 := Lib.hid a6
      have B5 := Lib.hid b6
      have d4 := a6.c0
      have d5 := a6.c1
      have e4 := a6.f0
      have e5 := a6.f1
      have d6 := b6.c0
      have d7 := b6.c1
      clear k1 k2 hy' r5 a5 b5 a6 b6 g5 R4 A4 B4 G4 P
      go_wp2_with fail
      have r := (A5.out.set0 x').set1 y'
      have s0 := r.c0
      have s1 := r.c1
      clear r
      (try simp only [Exit.inBlock, Exit.then])
      refine bodyPost_ret (by simp [results, Try.results49, go_sem, s0, s1]; try rfl) rfl ?_
      exact ⟨x', y', X2.out, Y2.out, rfl, cur_set (cur_set R5.out.cur NE.out.symm _ _) NE.out.symm _ _, grown_set (grown_set G5.out (Nat.le_refl _) _ _) (Nat.le_refl _) _ _⟩

end Go.Proofs.Ytgcheplneolonad.Dr2
