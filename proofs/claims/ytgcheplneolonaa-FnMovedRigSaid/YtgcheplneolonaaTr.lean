/- TurnRig of the program and of the model. -/
import Derived.Test.YtgcheplneolonaaMo
import Derived.Test.YtgcheplneolonaaIq
import Derived.Test.YtgcheplneolonaaTuQ
import Derived.Test.YtgcheplneolonaaTp
import Derived.BigRegion
namespace Go.Proofs.Ytgcheplneolonaa.Tr
open Go.RowKit Go.ChangeShapes Go.WideShapes Go.WideElems Go.Deep Go.Proofs.Ytgcheplneolonaa.Mem Go.Proofs.Ytgcheplneolonaa.Rw Go.Proofs.Ytgcheplneolonaa.Pw Go.Proofs.Ytgcheplneolonaa.P2 Go.Proofs.Ytgcheplneolonaa.Dd Go.Proofs.Ytgcheplneolonaa.Dv Go.Proofs.Ytgcheplneolonaa.Dl Go.Proofs.Ytgcheplneolonaa.Ds Go.Proofs.Ytgcheplneolonaa.Fd Go.Proofs.Ytgcheplneolonaa.Ch Go.Proofs.Ytgcheplneolonaa.Hn Go.Proofs.Ytgcheplneolonaa.Po
set_option linter.unusedVariables false
set_option linter.unusedSimpArgs false
open Go.Proofs.Ytgcheplneolonaa.Cm Go.Proofs.Ytgcheplneolonaa.Pl Go.Proofs.Ytgcheplneolonaa.Str Go.Proofs.Ytgcheplneolonaa.Hd Go.Proofs.Ytgcheplneolonaa.Jt Go.Proofs.Ytgcheplneolonaa.Ho Go.Proofs.Ytgcheplneolonaa.Pa Go.Proofs.Ytgcheplneolonaa.Di Go.Proofs.Ytgcheplneolonaa.Ig Go.Proofs.Ytgcheplneolonaa.Ir Go.Proofs.Ytgcheplneolonaa.Iq Go.Proofs.Ytgcheplneolonaa.IsName Go.Proofs.Ytgcheplneolonaa.Mo
open Go.Proofs.Ytgcheplneolonaa.Dr4 (turnJetI turnV_yes)
open Go.Proofs.Ytgcheplneolonaa.Rw (owns_below owns_grown)

/-- A rig that is turned. -/
noncomputable def trV (zs : List D) (n : Int) : List D := if rig zs = true then zs.map (mvD n 0 0) else []
theorem trV_len (zs : List D) (n : Int) : (trV zs n).length ≤ zs.length := by unfold trV; split <;> simp

theorem turnedP (n l : ByteArray) (x y h t m : Int) (t9 : Int) (w : World) : Calls Try.prog 83 #[va n 1 l x y h t m, .int .i64 t9] w fun e w' => e = .returned (va n 1 l x y h t m) ∧ Below w.heap.size w w' := by
  go_enter Try.func83, Try.ntmps83
  go_wp2_with fail
  go_returns
  exact ⟨rfl, by go_grown⟩

theorem set8 {W : World} {b : Nat} {v0 v1 v2 v3 v4 v5 v6 v7 : Value} (h : ∀ j, j < 8 → (W.cell? ⟨b, j, none⟩).isSome = true) : ((((((((W.setCell ⟨b, 0, none⟩ v0).setCell ⟨b, 1, none⟩ v1).setCell ⟨b, 2, none⟩ v2).setCell ⟨b, 3, none⟩ v3).setCell ⟨b, 4, none⟩ v4).setCell ⟨b, 5, none⟩ v5).setCell ⟨b, 6, none⟩ v6).setCell ⟨b, 7, none⟩ v7).cell? ⟨b, 0, none⟩ = some v0 ∧ ((((((((W.setCell ⟨b, 0, none⟩ v0).setCell ⟨b, 1, none⟩ v1).setCell ⟨b, 2, none⟩ v2).setCell ⟨b, 3, none⟩ v3).setCell ⟨b, 4, none⟩ v4).setCell ⟨b, 5, none⟩ v5).setCell ⟨b, 6, none⟩ v6).setCell ⟨b, 7, none⟩ v7).cell? ⟨b, 1, none⟩ = some v1 ∧ ((((((((W.setCell ⟨b, 0, none⟩ v0).setCell ⟨b, 1, none⟩ v1).setCell ⟨b, 2, none⟩ v2).setCell ⟨b, 3, none⟩ v3).setCell ⟨b, 4, none⟩ v4).setCell ⟨b, 5, none⟩ v5).setCell ⟨b, 6, none⟩ v6).setCell ⟨b, 7, none⟩ v7).cell? ⟨b, 2, none⟩ = some v2 ∧ ((((((((W.setCell ⟨b, 0, none⟩ v0).setCell ⟨b, 1, none⟩ v1).setCell ⟨b, 2, none⟩ v2).setCell ⟨b, 3, none⟩ v3).setCell ⟨b, 4, none⟩ v4).setCell ⟨b, 5, none⟩ v5).setCell ⟨b, 6, none⟩ v6).setCell ⟨b, 7, none⟩ v7).cell? ⟨b, 3, none⟩ = some v3 ∧ ((((((((W.setCell ⟨b, 0, none⟩ v0).setCell ⟨b, 1, none⟩ v1).setCell ⟨b, 2, none⟩ v2).setCell ⟨b, 3, none⟩ v3).setCell ⟨b, 4, none⟩ v4).setCell ⟨b, 5, none⟩ v5).setCell ⟨b, 6, none⟩ v6).setCell ⟨b, 7, none⟩ v7).cell? ⟨b, 4, none⟩ = some v4 ∧ ((((((((W.setCell ⟨b, 0, none⟩ v0).setCell ⟨b, 1, none⟩ v1).setCell ⟨b, 2, none⟩ v2).setCell ⟨b, 3, none⟩ v3).setCell ⟨b, 4, none⟩ v4).setCell ⟨b, 5, none⟩ v5).setCell ⟨b, 6, none⟩ v6).setCell ⟨b, 7, none⟩ v7).cell? ⟨b, 5, none⟩ = some v5 ∧ ((((((((W.setCell ⟨b, 0, none⟩ v0).setCell ⟨b, 1, none⟩ v1).setCell ⟨b, 2, none⟩ v2).setCell ⟨b, 3, none⟩ v3).setCell ⟨b, 4, none⟩ v4).setCell ⟨b, 5, none⟩ v5).setCell ⟨b, 6, none⟩ v6).setCell ⟨b, 7, none⟩ v7).cell? ⟨b, 6, none⟩ = some v6 ∧ ((((((((W.setCell ⟨b, 0, none⟩ v0).setCell ⟨b, 1, none⟩ v1).setCell ⟨b, 2, none⟩ v2).setCell ⟨b, 3, none⟩ v3).setCell ⟨b, 4, none⟩ v4).setCell ⟨b, 5, none⟩ v5).setCell ⟨b, 6, none⟩ v6).setCell ⟨b, 7, none⟩ v7).cell? ⟨b, 7, none⟩ = some v7 := by
  refine ⟨?_, ?_, ?_, ?_, ?_, ?_, ?_, ?_⟩
  · rw [World.cell?_setCell_other _ _ _ _ (by simp), World.cell?_setCell_other _ _ _ _ (by simp), World.cell?_setCell_other _ _ _ _ (by simp), World.cell?_setCell_other _ _ _ _ (by simp), World.cell?_setCell_other _ _ _ _ (by simp), World.cell?_setCell_other _ _ _ _ (by simp), World.cell?_setCell_other _ _ _ _ (by simp)]; refine World.cell?_setCell_same' _ _ _ ?_; exact h 0 (by omega)
  · rw [World.cell?_setCell_other _ _ _ _ (by simp), World.cell?_setCell_other _ _ _ _ (by simp), World.cell?_setCell_other _ _ _ _ (by simp), World.cell?_setCell_other _ _ _ _ (by simp), World.cell?_setCell_other _ _ _ _ (by simp), World.cell?_setCell_other _ _ _ _ (by simp)]; refine World.cell?_setCell_same' _ _ _ ?_; rw [World.cell?_setCell_other _ _ _ _ (by simp)]; exact h 1 (by omega)
  · rw [World.cell?_setCell_other _ _ _ _ (by simp), World.cell?_setCell_other _ _ _ _ (by simp), World.cell?_setCell_other _ _ _ _ (by simp), World.cell?_setCell_other _ _ _ _ (by simp), World.cell?_setCell_other _ _ _ _ (by simp)]; refine World.cell?_setCell_same' _ _ _ ?_; rw [World.cell?_setCell_other _ _ _ _ (by simp), World.cell?_setCell_other _ _ _ _ (by simp)]; exact h 2 (by omega)
  · rw [World.cell?_setCell_other _ _ _ _ (by simp), World.cell?_setCell_other _ _ _ _ (by simp), World.cell?_setCell_other _ _ _ _ (by simp), World.cell?_setCell_other _ _ _ _ (by simp)]; refine World.cell?_setCell_same' _ _ _ ?_; rw [World.cell?_setCell_other _ _ _ _ (by simp), World.cell?_setCell_other _ _ _ _ (by simp), World.cell?_setCell_other _ _ _ _ (by simp)]; exact h 3 (by omega)
  · rw [World.cell?_setCell_other _ _ _ _ (by simp), World.cell?_setCell_other _ _ _ _ (by simp), World.cell?_setCell_other _ _ _ _ (by simp)]; refine World.cell?_setCell_same' _ _ _ ?_; rw [World.cell?_setCell_other _ _ _ _ (by simp), World.cell?_setCell_other _ _ _ _ (by simp), World.cell?_setCell_other _ _ _ _ (by simp), World.cell?_setCell_other _ _ _ _ (by simp)]; exact h 4 (by omega)
  · rw [World.cell?_setCell_other _ _ _ _ (by simp), World.cell?_setCell_other _ _ _ _ (by simp)]; refine World.cell?_setCell_same' _ _ _ ?_; rw [World.cell?_setCell_other _ _ _ _ (by simp), World.cell?_setCell_other _ _ _ _ (by simp), World.cell?_setCell_other _ _ _ _ (by simp), World.cell?_setCell_other _ _ _ _ (by simp), World.cell?_setCell_other _ _ _ _ (by simp)]; exact h 5 (by omega)
  · rw [World.cell?_setCell_other _ _ _ _ (by simp)]; refine World.cell?_setCell_same' _ _ _ ?_; rw [World.cell?_setCell_other _ _ _ _ (by simp), World.cell?_setCell_other _ _ _ _ (by simp), World.cell?_setCell_other _ _ _ _ (by simp), World.cell?_setCell_other _ _ _ _ (by simp), World.cell?_setCell_other _ _ _ _ (by simp), World.cell?_setCell_other _ _ _ _ (by simp)]; exact h 6 (by omega)
  · refine World.cell?_setCell_same' _ _ _ ?_; rw [World.cell?_setCell_other _ _ _ _ (by simp), World.cell?_setCell_other _ _ _ _ (by simp), World.cell?_setCell_other _ _ _ _ (by simp), World.cell?_setCell_other _ _ _ _ (by simp), World.cell?_setCell_other _ _ _ _ (by simp), World.cell?_setCell_other _ _ _ _ (by simp), World.cell?_setCell_other _ _ _ _ (by simp)]; exact h 7 (by omega)

set_option maxHeartbeats 400000 in
theorem turnedN (n l : ByteArray) (x y h t m : Int) (c : Nat) (t9 : Int) (hj : jt x y h t 1 = true) (w : World) :
    Calls Try.prog 97 #[hv n 2 l x y h t m c, .int .i64 t9] w fun e w' => e = .returned (va n 2 l (tx (t9 % 4).toNat x y) (ty (t9 % 4).toNat x y) (th h t9) t m) ∧ Below w.heap.size w w' := by
  have TJ := turnJetI x y h t 1 t9
  rw [turnV_yes hj] at TJ
  generalize tx (t9 % 4).toNat x y = X at *
  generalize ty (t9 % 4).toNat x y = Y at *
  generalize th h t9 = Q at *
  have TJ := Lib.hid TJ
  clear hj
  go_enter Try.func97, Try.ntmps97
  go_wp2_with fail
  refine (jetOf _ _ _ _ _ _ _ _ _ _).mono ?_
  rintro e w1 ⟨rfl, hb1⟩
  have B1 := Lib.hid (show Below w.heap.size w w1 from Below.trans (by go_grown) (hb1.mono (by simp; omega)))
  have c0 : w1.cell? ⟨w.heap.size, 0, none⟩ = some (.string n) := (hb1.cell (by simp; omega)).trans (by simp [go_sem])
  have c1 : w1.cell? ⟨w.heap.size, 1, none⟩ = some (.int .i64 2) := (hb1.cell (by simp; omega)).trans (by simp [go_sem])
  have c2 : w1.cell? ⟨w.heap.size, 2, none⟩ = some (.string l) := (hb1.cell (by simp; omega)).trans (by simp [go_sem])
  have c3 : w1.cell? ⟨w.heap.size, 3, none⟩ = some (.int .i64 x) := (hb1.cell (by simp; omega)).trans (by simp [go_sem])
  have c4 : w1.cell? ⟨w.heap.size, 4, none⟩ = some (.int .i64 y) := (hb1.cell (by simp; omega)).trans (by simp [go_sem])
  have c5 : w1.cell? ⟨w.heap.size, 5, none⟩ = some (.int .i64 h) := (hb1.cell (by simp; omega)).trans (by simp [go_sem])
  have c6 : w1.cell? ⟨w.heap.size, 6, none⟩ = some (.int .i64 t) := (hb1.cell (by simp; omega)).trans (by simp [go_sem])
  have c7 : w1.cell? ⟨w.heap.size, 7, none⟩ = some (.int .i64 m) := (hb1.cell (by simp; omega)).trans (by simp [go_sem])
  have c8 : w1.cell? ⟨w.heap.size, 8, none⟩ = some (.chan (some c)) := (hb1.cell (by simp; omega)).trans (by simp [go_sem])
  have r0 : w1.cell? ⟨w.heap.size + 1, 0, none⟩ = some (.string ⟨#[]⟩) := (hb1.cell (by simp)).trans (by simp [go_sem])
  have f0 : w1.frozen? ⟨w.heap.size + 1, 0, none⟩ = false := (hb1.frozen (by simp)).trans (by simp [go_sem])
  have r1 : w1.cell? ⟨w.heap.size + 1, 1, none⟩ = some (.int .i64 0) := (hb1.cell (by simp)).trans (by simp [go_sem])
  have f1 : w1.frozen? ⟨w.heap.size + 1, 1, none⟩ = false := (hb1.frozen (by simp)).trans (by simp [go_sem])
  have r2 : w1.cell? ⟨w.heap.size + 1, 2, none⟩ = some (.string ⟨#[]⟩) := (hb1.cell (by simp)).trans (by simp [go_sem])
  have f2 : w1.frozen? ⟨w.heap.size + 1, 2, none⟩ = false := (hb1.frozen (by simp)).trans (by simp [go_sem])
  have r3 : w1.cell? ⟨w.heap.size + 1, 3, none⟩ = some (.int .i64 0) := (hb1.cell (by simp)).trans (by simp [go_sem])
  have f3 : w1.frozen? ⟨w.heap.size + 1, 3, none⟩ = false := (hb1.frozen (by simp)).trans (by simp [go_sem])
  have r4 : w1.cell? ⟨w.heap.size + 1, 4, none⟩ = some (.int .i64 0) := (hb1.cell (by simp)).trans (by simp [go_sem])
  have f4 : w1.frozen? ⟨w.heap.size + 1, 4, none⟩ = false := (hb1.frozen (by simp)).trans (by simp [go_sem])
  have r5 : w1.cell? ⟨w.heap.size + 1, 5, none⟩ = some (.int .i64 0) := (hb1.cell (by simp)).trans (by simp [go_sem])
  have f5 : w1.frozen? ⟨w.heap.size + 1, 5, none⟩ = false := (hb1.frozen (by simp)).trans (by simp [go_sem])
  have r6 : w1.cell? ⟨w.heap.size + 1, 6, none⟩ = some (.int .i64 0) := (hb1.cell (by simp)).trans (by simp [go_sem])
  have f6 : w1.frozen? ⟨w.heap.size + 1, 6, none⟩ = false := (hb1.frozen (by simp)).trans (by simp [go_sem])
  have r7 : w1.cell? ⟨w.heap.size + 1, 7, none⟩ = some (.int .i64 0) := (hb1.cell (by simp)).trans (by simp [go_sem])
  have f7 : w1.frozen? ⟨w.heap.size + 1, 7, none⟩ = false := (hb1.frozen (by simp)).trans (by simp [go_sem])
  clear hb1
  go_wp2_with fail
  refine (TJ.out _).mono ?_
  rintro e w2 ⟨rfl, hb2⟩
  have B2 := Lib.hid (B1.out.trans (hb2.mono B1.out.size))
  have e0 := cell_below hb2 c0
  have e1 := cell_below hb2 c1
  have e2 := cell_below hb2 c2
  have e3 := cell_below hb2 c3
  have e4 := cell_below hb2 c4
  have e5 := cell_below hb2 c5
  have e6 := cell_below hb2 c6
  have e7 := cell_below hb2 c7
  have e8 := cell_below hb2 c8
  have s0 := cell_below hb2 r0
  have g0 := (hb2.frozen (p := ⟨w.heap.size + 1, 0, none⟩) (World.block_lt_of_cell? w1 _ r0)).trans f0
  have s1 := cell_below hb2 r1
  have g1 := (hb2.frozen (p := ⟨w.heap.size + 1, 1, none⟩) (World.block_lt_of_cell? w1 _ r1)).trans f1
  have s2 := cell_below hb2 r2
  have g2 := (hb2.frozen (p := ⟨w.heap.size + 1, 2, none⟩) (World.block_lt_of_cell? w1 _ r2)).trans f2
  have s3 := cell_below hb2 r3
  have g3 := (hb2.frozen (p := ⟨w.heap.size + 1, 3, none⟩) (World.block_lt_of_cell? w1 _ r3)).trans f3
  have s4 := cell_below hb2 r4
  have g4 := (hb2.frozen (p := ⟨w.heap.size + 1, 4, none⟩) (World.block_lt_of_cell? w1 _ r4)).trans f4
  have s5 := cell_below hb2 r5
  have g5 := (hb2.frozen (p := ⟨w.heap.size + 1, 5, none⟩) (World.block_lt_of_cell? w1 _ r5)).trans f5
  have s6 := cell_below hb2 r6
  have g6 := (hb2.frozen (p := ⟨w.heap.size + 1, 6, none⟩) (World.block_lt_of_cell? w1 _ r6)).trans f6
  have s7 := cell_below hb2 r7
  have g7 := (hb2.frozen (p := ⟨w.heap.size + 1, 7, none⟩) (World.block_lt_of_cell? w1 _ r7)).trans f7
  have p0 : w.heap.size < w2.heap.size := World.block_lt_of_cell? w2 _ e0
  have p1 : w.heap.size + 1 < w2.heap.size := World.block_lt_of_cell? w2 _ s0
  clear hb2  c0 c1 c2 c3 c4 c5 c6 c7 c8 r0 f0 r1 f1 r2 f2 r3 f3 r4 f4 r5 f5 r6 f6 r7 f7
  have d0 : ((w2.alloc (.cells (jc X Y Q t 1) 84)).alloc (.cells (ca n 2 l X Y Q t m) 31)).drew.cell? ⟨w2.heap.size + 1, 0, none⟩ = some (.string n) := by simp [go_sem]
  have d1 : ((w2.alloc (.cells (jc X Y Q t 1) 84)).alloc (.cells (ca n 2 l X Y Q t m) 31)).drew.cell? ⟨w2.heap.size + 1, 1, none⟩ = some (.int .i64 2) := by simp [go_sem]
  have d2 : ((w2.alloc (.cells (jc X Y Q t 1) 84)).alloc (.cells (ca n 2 l X Y Q t m) 31)).drew.cell? ⟨w2.heap.size + 1, 2, none⟩ = some (.string l) := by simp [go_sem]
  have d3 : ((w2.alloc (.cells (jc X Y Q t 1) 84)).alloc (.cells (ca n 2 l X Y Q t m) 31)).drew.cell? ⟨w2.heap.size + 1, 3, none⟩ = some (.int .i64 X) := by simp [go_sem]
  have d4 : ((w2.alloc (.cells (jc X Y Q t 1) 84)).alloc (.cells (ca n 2 l X Y Q t m) 31)).drew.cell? ⟨w2.heap.size + 1, 4, none⟩ = some (.int .i64 Y) := by simp [go_sem]
  have d5 : ((w2.alloc (.cells (jc X Y Q t 1) 84)).alloc (.cells (ca n 2 l X Y Q t m) 31)).drew.cell? ⟨w2.heap.size + 1, 5, none⟩ = some (.int .i64 Q) := by simp [go_sem]
  have d6 : ((w2.alloc (.cells (jc X Y Q t 1) 84)).alloc (.cells (ca n 2 l X Y Q t m) 31)).drew.cell? ⟨w2.heap.size + 1, 6, none⟩ = some (.int .i64 t) := by simp [go_sem]
  have d7 : ((w2.alloc (.cells (jc X Y Q t 1) 84)).alloc (.cells (ca n 2 l X Y Q t m) 31)).drew.cell? ⟨w2.heap.size + 1, 7, none⟩ = some (.int .i64 m) := by simp [go_sem]
  have a0 : ((w2.alloc (.cells (jc X Y Q t 1) 84)).alloc (.cells (ca n 2 l X Y Q t m) 31)).drew.cell? ⟨w.heap.size + 1, 0, none⟩ = _ := cell_alloc (cell_alloc s0)
  have q0 : ((w2.alloc (.cells (jc X Y Q t 1) 84)).alloc (.cells (ca n 2 l X Y Q t m) 31)).drew.frozen? ⟨w.heap.size + 1, 0, none⟩ = false := by simp [go_sem, p1, g0, Nat.lt_succ_of_lt p1]
  have a1 : ((w2.alloc (.cells (jc X Y Q t 1) 84)).alloc (.cells (ca n 2 l X Y Q t m) 31)).drew.cell? ⟨w.heap.size + 1, 1, none⟩ = _ := cell_alloc (cell_alloc s1)
  have q1 : ((w2.alloc (.cells (jc X Y Q t 1) 84)).alloc (.cells (ca n 2 l X Y Q t m) 31)).drew.frozen? ⟨w.heap.size + 1, 1, none⟩ = false := by simp [go_sem, p1, g1, Nat.lt_succ_of_lt p1]
  have a2 : ((w2.alloc (.cells (jc X Y Q t 1) 84)).alloc (.cells (ca n 2 l X Y Q t m) 31)).drew.cell? ⟨w.heap.size + 1, 2, none⟩ = _ := cell_alloc (cell_alloc s2)
  have q2 : ((w2.alloc (.cells (jc X Y Q t 1) 84)).alloc (.cells (ca n 2 l X Y Q t m) 31)).drew.frozen? ⟨w.heap.size + 1, 2, none⟩ = false := by simp [go_sem, p1, g2, Nat.lt_succ_of_lt p1]
  have a3 : ((w2.alloc (.cells (jc X Y Q t 1) 84)).alloc (.cells (ca n 2 l X Y Q t m) 31)).drew.cell? ⟨w.heap.size + 1, 3, none⟩ = _ := cell_alloc (cell_alloc s3)
  have q3 : ((w2.alloc (.cells (jc X Y Q t 1) 84)).alloc (.cells (ca n 2 l X Y Q t m) 31)).drew.frozen? ⟨w.heap.size + 1, 3, none⟩ = false := by simp [go_sem, p1, g3, Nat.lt_succ_of_lt p1]
  have a4 : ((w2.alloc (.cells (jc X Y Q t 1) 84)).alloc (.cells (ca n 2 l X Y Q t m) 31)).drew.cell? ⟨w.heap.size + 1, 4, none⟩ = _ := cell_alloc (cell_alloc s4)
  have q4 : ((w2.alloc (.cells (jc X Y Q t 1) 84)).alloc (.cells (ca n 2 l X Y Q t m) 31)).drew.frozen? ⟨w.heap.size + 1, 4, none⟩ = false := by simp [go_sem, p1, g4, Nat.lt_succ_of_lt p1]
  have a5 : ((w2.alloc (.cells (jc X Y Q t 1) 84)).alloc (.cells (ca n 2 l X Y Q t m) 31)).drew.cell? ⟨w.heap.size + 1, 5, none⟩ = _ := cell_alloc (cell_alloc s5)
  have q5 : ((w2.alloc (.cells (jc X Y Q t 1) 84)).alloc (.cells (ca n 2 l X Y Q t m) 31)).drew.frozen? ⟨w.heap.size + 1, 5, none⟩ = false := by simp [go_sem, p1, g5, Nat.lt_succ_of_lt p1]
  have a6 : ((w2.alloc (.cells (jc X Y Q t 1) 84)).alloc (.cells (ca n 2 l X Y Q t m) 31)).drew.cell? ⟨w.heap.size + 1, 6, none⟩ = _ := cell_alloc (cell_alloc s6)
  have q6 : ((w2.alloc (.cells (jc X Y Q t 1) 84)).alloc (.cells (ca n 2 l X Y Q t m) 31)).drew.frozen? ⟨w.heap.size + 1, 6, none⟩ = false := by simp [go_sem, p1, g6, Nat.lt_succ_of_lt p1]
  have a7 : ((w2.alloc (.cells (jc X Y Q t 1) 84)).alloc (.cells (ca n 2 l X Y Q t m) 31)).drew.cell? ⟨w.heap.size + 1, 7, none⟩ = _ := cell_alloc (cell_alloc s7)
  have q7 : ((w2.alloc (.cells (jc X Y Q t 1) 84)).alloc (.cells (ca n 2 l X Y Q t m) 31)).drew.frozen? ⟨w.heap.size + 1, 7, none⟩ = false := by simp [go_sem, p1, g7, Nat.lt_succ_of_lt p1]
  have BV := Lib.hid (show Below w.heap.size w ((w2.alloc (.cells (jc X Y Q t 1) 84)).alloc (.cells (ca n 2 l X Y Q t m) 31)).drew from ((B2.out.alloc B2.out.size _).alloc (by have := B2.out.size; simp; omega) _).drew)
  clear s0 g0 s1 g1 s2 g2 s3 g3 s4 g4 s5 g5 s6 g6 s7 g7 B1 B2 TJ
  go_wp2_with fail
  go_region
  clear p0 p1 e0 e1 e2 e3 e4 e5 e6 e7 e8
  generalize ((w2.alloc (.cells (jc X Y Q t 1) 84)).alloc (.cells (ca n 2 l X Y Q t m) 31)).drew = V at *
  go_wp2_with fail
  obtain ⟨s0, s1, s2, s3, s4, s5, s6, s7⟩ := set8 (W := V) (b := w.heap.size + 1) (v0 := .string n) (v1 := .int .i64 2) (v2 := .string l) (v3 := .int .i64 X) (v4 := .int .i64 Y) (v5 := .int .i64 Q) (v6 := .int .i64 t) (v7 := .int .i64 m) (by intro j hj; match j, hj with | 0, _ => (rw [a0]; rfl) | 1, _ => (rw [a1]; rfl) | 2, _ => (rw [a2]; rfl) | 3, _ => (rw [a3]; rfl) | 4, _ => (rw [a4]; rfl) | 5, _ => (rw [a5]; rfl) | 6, _ => (rw [a6]; rfl) | 7, _ => (rw [a7]; rfl))
  clear a0 a1 a2 a3 a4 a5 a6 a7 d0 d1 d2 d3 d4 d5 d6 d7 q0 q1 q2 q3 q4 q5 q6 q7
  (try simp only [Exit.inBlock, Exit.then])
  refine bodyPost_ret (v := va n 2 l X Y Q t m) (by simp only [results, Try.results97, s0, s1, s2, s3, s4, s5, s6, s7]; simp [go_sem, s0, s1, s2, s3, s4, s5, s6, s7]; try rfl) rfl ?_
  exact ⟨rfl, BV.out.trans (by go_grown)⟩

end Go.Proofs.Ytgcheplneolonaa.Tr
