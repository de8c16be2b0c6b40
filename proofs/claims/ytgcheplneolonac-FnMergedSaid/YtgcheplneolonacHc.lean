/- Four cells of a block that is written again. -/
import Derived.Test.YtgcheplneolonacLd
namespace Go.Proofs.Ytgcheplneolonac.Hc
open Go.RowKit Go.ChangeShapes Go.WideShapes Go.WideElems Go.Deep Go.Proofs.Ytgcheplneolonac.Mem Go.Proofs.Ytgcheplneolonac.Rw Go.Proofs.Ytgcheplneolonac.P2 Go.Proofs.Ytgcheplneolonac.Cd Go.Proofs.Ytgcheplneolonac.Cv Go.Proofs.Ytgcheplneolonac.Cl Go.Proofs.Ytgcheplneolonac.Cs
set_option linter.unusedVariables false
set_option linter.unusedSimpArgs false
open Go.Proofs.Ytgcheplneolonac.Ld

theorem grown_setCell (W : World) (b o : Nat) (v : Value) : W.grownBy (W.setCell ⟨b, o, none⟩ v) (some b) :=
  ⟨rfl, rfl, rfl, by simp, fun j _ hr => Below.heap_setCell _ _ _ _ (fun e => hr (by rw [e]))⟩
/-- These four lie in a block. -/
structure R4 (W : World) (b : Nat) (p q r s : Value) : Prop where
  c0 : W.cell? ⟨b, 0, none⟩ = some p
  c1 : W.cell? ⟨b, 1, none⟩ = some q
  c2 : W.cell? ⟨b, 2, none⟩ = some r
  c3 : W.cell? ⟨b, 3, none⟩ = some s
  f0 : W.frozen? ⟨b, 0, none⟩ = false
  f1 : W.frozen? ⟨b, 1, none⟩ = false
  f2 : W.frozen? ⟨b, 2, none⟩ = false
  f3 : W.frozen? ⟨b, 3, none⟩ = false
theorem R4.lt {W : World} {b : Nat} {p q r s : Value} (h : R4 W b p q r s) : b < W.heap.size := World.block_lt_of_cell? W _ h.c0
theorem R4.new (W : World) (p q r s : Value) (t : TypeId) : R4 (W.alloc (.cells #[p, q, r, s] t)) W.heap.size p q r s :=
  ⟨cell_here rfl, cell_here rfl, cell_here rfl, cell_here rfl, by simp [go_sem], by simp [go_sem], by simp [go_sem], by simp [go_sem]⟩
theorem R4.kept {W W' : World} {b : Nat} {p q r s : Value} (h : R4 W b p q r s) (hc : ∀ j, W'.cell? ⟨b, j, none⟩ = W.cell? ⟨b, j, none⟩) (hf : ∀ j, W'.frozen? ⟨b, j, none⟩ = W.frozen? ⟨b, j, none⟩) : R4 W' b p q r s :=
  ⟨(hc 0).trans h.c0, (hc 1).trans h.c1, (hc 2).trans h.c2, (hc 3).trans h.c3, (hf 0).trans h.f0, (hf 1).trans h.f1, (hf 2).trans h.f2, (hf 3).trans h.f3⟩
theorem R4.below {W W' : World} {b : Nat} {p q r s : Value} (h : R4 W b p q r s) (hb : Below W.heap.size W W') : R4 W' b p q r s :=
  h.kept (fun j => hb.cell h.lt) (fun j => hb.frozen h.lt)
theorem R4.alloc {W : World} {b : Nat} {p q r s : Value} (h : R4 W b p q r s) (o : Obj) : R4 (W.alloc o) b p q r s :=
  h.below ((Below.refl _ _).alloc (Nat.le_refl _) o)
theorem R4.drew {W : World} {b : Nat} {p q r s : Value} (h : R4 W b p q r s) : R4 W.drew b p q r s := ⟨h.c0, h.c1, h.c2, h.c3, h.f0, h.f1, h.f2, h.f3⟩
theorem R4.drewN {W : World} {b : Nat} {p q r s : Value} (m : Nat) (h : R4 W b p q r s) : R4 (W.drewN m) b p q r s := ⟨h.c0, h.c1, h.c2, h.c3, h.f0, h.f1, h.f2, h.f3⟩
theorem R4.grown {W W' : World} {b : Nat} {p q r s : Value} {row : Option Nat} (h : R4 W b p q r s) (hg : W.grownBy W' row) (hr : row ≠ some b) : R4 W' b p q r s := by
  have hk := hg.block b h.lt (fun e => hr e.symm)
  refine h.kept (fun j => ?_) (fun j => ?_)
  · simp only [World.cell?, hk]
  · simp only [World.frozen?, hk]
abbrev put4 (W : World) (b : Nat) (x y z u : Value) : World := (((W.setCell ⟨b, 0, none⟩ x).setCell ⟨b, 1, none⟩ y).setCell ⟨b, 2, none⟩ z).setCell ⟨b, 3, none⟩ u
theorem R4.put {W : World} {b : Nat} {p q r s : Value} (h : R4 W b p q r s) (x y z u : Value) : R4 (put4 W b x y z u) b x y z u := by
  obtain ⟨s0, s1, s2, s3⟩ := set4 (a := x) (b := y) (c := z) (d := u) h.c0 h.c1 h.c2 h.c3
  exact ⟨s0, s1, s2, s3, by simp [go_sem, h.f0], by simp [go_sem, h.f1], by simp [go_sem, h.f2], by simp [go_sem, h.f3]⟩
theorem put_grown (W : World) (b : Nat) (x y z u : Value) : W.grownBy (put4 W b x y z u) (some b) :=
  Rw.grown_trans (Rw.grown_trans (Rw.grown_trans (grown_setCell _ _ _ _) (grown_setCell _ _ _ _)) (grown_setCell _ _ _ _)) (grown_setCell _ _ _ _)
end Go.Proofs.Ytgcheplneolonac.Hc
