/- What the model's draw of a valid jet answers: a valid jet; old memory is as it was. -/
import Derived.Test.YtgcheplneolonadDr2
import Derived.Test.YtgcheplneolonadJb
namespace Go.Proofs.Ytgcheplneolonad.Dr4
open Go.RowKit Go.Proofs.Ytgcheplneolonad.Mem Go.Proofs.Ytgcheplneolonad.Draw Go.Proofs.Ytgcheplneolonad.P2 Go.Proofs.Ytgcheplneolonad.Dr2 Go.Proofs.Ytgcheplneolonad.Jt Go.Proofs.Ytgcheplneolonad.Dp
set_option linter.unusedVariables false
set_option linter.unusedSimpArgs false

/-- What the draw of a valid place leaves. -/
def GotV (w : World) (g : Nat) (A : Option Addr) (n c : Nat) (e : Ending) (w' : World) : Prop :=
  ∃ x y : Int, (-64 ≤ x ∧ x ≤ 64) ∧ (-64 ≤ y ∧ y ≤ 64) ∧ e = .returned (.agg #[.int .i64 x, .int .i64 y]) ∧ Cur w' g A n c ∧ w.grownBy w' (some g)

set_option maxHeartbeats 1000000 in
theorem l2DrawV {w : World} {g n c : Nat} {A : Option Addr} {bs : List UInt8} (h : Ready w g A n c bs) :
    Calls Try.prog 66 #[.pointer (some ⟨g, 0, none⟩)] w (GotV w g A n c) := by
  have hlt := h.cur.lt
  have H1 := Lib.hid (h.alloc (.cells #[.int .i64 0, .int .i64 0] 25))
  have G0 := Lib.hid (World.grownBy_alloc w (.cells #[.int .i64 0, .int .i64 0] 25) (some g))
  have B0 := Lib.hid (HB.new w 0 0)
  have NE := Lib.hid (show w.heap.size ≠ g by omega)
  clear h hlt
  go_enter Try.func66, Try.ntmps66
  go_wp2_with fail
  refine (some_ H1.out (-64) 64 (by decide) (by decide) (by decide)).mono ?_
  rintro e w1 ⟨x, hx, rfl, k1, k2⟩
  have R1 := Lib.hid (H1.out.next k2 k1)
  have G1 := Lib.hid (Draw.grown_trans G0.out k2)
  have B1 := Lib.hid (B0.out.grown k2 (fun e => NE.out (Option.some.inj e)))
  have X := Lib.hid hx
  clear k1 k2 hx H1 G0 B0
  go_wp2_with fail
  refine (some_ R1.out (-64) 64 (by decide) (by decide) (by decide)).mono ?_
  rintro e w2 ⟨y, hy, rfl, k1, k2⟩
  have G2 := Lib.hid (Draw.grown_trans G1.out k2)
  have C2 := Lib.hid k1
  have b2 := B1.out.grown k2 (fun e => NE.out (Option.some.inj e))
  have Y := Lib.hid hy
  have B2 := Lib.hid b2
  have d0 := b2.c0
  have d1 := b2.c1
  have e0 := b2.f0
  have e1 := b2.f1
  clear k1 k2 hy R1 G1 B1 b2
  go_wp2_with fail
  have r := (B2.out.set0 x).set1 y
  have s0 := r.c0
  have s1 := r.c1
  clear r
  (try simp only [Exit.inBlock, Exit.then])
  refine bodyPost_ret (by simp [results, Try.results66, go_sem, s0, s1]; try rfl) rfl ?_
  exact ⟨x, y, X.out, Y.out, rfl, cur_set (cur_set C2.out NE.out.symm _ _) NE.out.symm _ _, Dr2.grown_set (Dr2.grown_set G2.out (Nat.le_refl _) _ _) (Nat.le_refl _) _ _⟩

/-- What the draw of a valid jet leaves. -/
def GotJ (w : World) (g : Nat) (A : Option Addr) (n c : Nat) (e : Ending) (w' : World) : Prop :=
  ∃ x y h t l : Int, jt x y h t l = true ∧ e = .returned (jv x y h t l) ∧ Cur w' g A n c ∧ w.grownBy w' (some g)

set_option maxHeartbeats 2000000 in
theorem l3Draw {w : World} {g n c : Nat} {A : Option Addr} {bs : List UInt8} (h : Ready w g A n c bs) :
    Calls Try.prog 54 #[.pointer (some ⟨g, 0, none⟩)] w (GotJ w g A n c) := by
  have hlt := h.cur.lt
  have H1 := Lib.hid (h.alloc (.cells (jc 0 0 0 0 0) 27))
  have G1 := Lib.hid (World.grownBy_alloc w (.cells (jc 0 0 0 0 0) 27) (some g))
  have B1 := Lib.hid (JB.new w 0 0 0 0 0)
  have NE := Lib.hid (show w.heap.size ≠ g by omega)
  clear h hlt
  go_enter Try.func54, Try.ntmps54
  go_wp2_with fail
  refine (l2DrawV H1.out).mono ?_
  rintro e w1 ⟨x, y, hx, hy, rfl, k1, k2⟩
  have H2 := Lib.hid (H1.out.next k2 k1)
  have G2 := Lib.hid (Draw.grown_trans G1.out k2)
  have B2 := Lib.hid (B1.out.grown k2 (fun e => NE.out (Option.some.inj e)))
  have X := Lib.hid (And.intro hx hy)
  clear k1 k2 hx hy H1 G1 B1
  go_wp2_with fail
  refine (below H2.out 4 (by decide) (by decide)).mono ?_
  rintro e w2 ⟨h, hh, rfl, k1, k2⟩
  have H3 := Lib.hid (H2.out.next k2 k1)
  have G3 := Lib.hid (Draw.grown_trans G2.out k2)
  have B3 := Lib.hid (B2.out.grown k2 (fun e => NE.out (Option.some.inj e)))
  have HH := Lib.hid hh
  clear k1 k2 hh H2 G2 B2
  go_wp2_with fail
  refine (below H3.out 17 (by decide) (by decide)).mono ?_
  rintro e w3 ⟨t, ht, rfl, k1, k2⟩
  have H4 := Lib.hid (H3.out.next k2 k1)
  have G4 := Lib.hid (Draw.grown_trans G3.out k2)
  have B4 := Lib.hid (B3.out.grown k2 (fun e => NE.out (Option.some.inj e)))
  have HT := Lib.hid ht
  clear k1 k2 ht H3 G3 B3
  go_wp2_with fail
  refine (some_ H4.out 1 32 (by decide) (by decide) (by decide)).mono ?_
  rintro e w4 ⟨l, hl, rfl, k1, k2⟩
  have C5 := Lib.hid k1
  have G5 := Lib.hid (Draw.grown_trans G4.out k2)
  have b5 := B4.out.grown k2 (fun e => NE.out (Option.some.inj e))
  have HL := Lib.hid hl
  have B5 := Lib.hid b5
  obtain ⟨d0, d1, d2, d3, d4⟩ := b5.c
  have e0 := b5.f 0
  have e1 := b5.f 1
  have e2 := b5.f 2
  have e3 := b5.f 3
  have e4 := b5.f 4
  clear k1 k2 hl H4 G4 B4 b5
  go_wp2_with fail
  obtain ⟨s0, s1, s2, s3, s4⟩ := (B5.out.set x y h t l).c
  (try simp only [Exit.inBlock, Exit.then])
  refine bodyPost_ret (by simp [results, Try.results54, go_sem, s0, s1, s2, s3, s4]; try rfl) rfl ?_
  refine ⟨x, y, h, t, l, ?_, rfl, ?_, ?_⟩
  · have hX := X.out
    have h1 := HH.out
    have h2 := HT.out
    have h3 := HL.out
    exact jt_iff.2 (by omega)
  · exact cur_set (cur_set (cur_set (cur_set (cur_set C5.out NE.out.symm _ _) NE.out.symm _ _) NE.out.symm _ _) NE.out.symm _ _) NE.out.symm _ _
  · exact Dr2.grown_set (Dr2.grown_set (Dr2.grown_set (Dr2.grown_set (Dr2.grown_set G5.out (Nat.le_refl _) _ _) (Nat.le_refl _) _ _) (Nat.le_refl _) _ _) (Nat.le_refl _) _ _) (Nat.le_refl _) _ _

/-- What the draw of a jet for a law leaves. -/
def DrawnJ (w : World) (e : Ending) (w' : World) : Prop :=
  ∃ x y h t l : Int, jt x y h t l = true ∧ e = .returned (jv x y h t l) ∧ Below w.heap.size w w'

end Go.Proofs.Ytgcheplneolonad.Dr4
