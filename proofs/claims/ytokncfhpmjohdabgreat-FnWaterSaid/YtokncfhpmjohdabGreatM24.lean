/- What the model answers for a jet: its flight, its heights. -/
import Derived.Test.YtokncfhpmjohdabGreatFf
import Derived.Test.YtokncfhpmjohdabGreatM4
set_option linter.unusedVariables false
set_option linter.unusedSimpArgs false
namespace Go.Proofs.YtokncfhpmjohdabGreat.Dp
open Go.RowKit Go.Proofs.YtokncfhpmjohdabGreat.Cx Go.Proofs.YtokncfhpmjohdabGreat.Cm Go.Proofs.YtokncfhpmjohdabGreat.Pl Go.Proofs.YtokncfhpmjohdabGreat.Str Go.Proofs.YtokncfhpmjohdabGreat.Pw Go.Proofs.YtokncfhpmjohdabGreat.P2 Go.Proofs.YtokncfhpmjohdabGreat.Hd Go.Proofs.YtokncfhpmjohdabGreat.Sf Go.Proofs.YtokncfhpmjohdabGreat.Jt
set_option linter.unusedVariables false
set_option linter.unusedSimpArgs false

end Go.Proofs.YtokncfhpmjohdabGreat.Dp
namespace Go.Proofs.YtokncfhpmjohdabGreat.Dp
open Go.RowKit Go.Proofs.YtokncfhpmjohdabGreat.Cx Go.Proofs.YtokncfhpmjohdabGreat.Cm Go.Proofs.YtokncfhpmjohdabGreat.Pl Go.Proofs.YtokncfhpmjohdabGreat.Str Go.Proofs.YtokncfhpmjohdabGreat.Pw Go.Proofs.YtokncfhpmjohdabGreat.P2 Go.Proofs.YtokncfhpmjohdabGreat.Hd Go.Proofs.YtokncfhpmjohdabGreat.Sf Go.Proofs.YtokncfhpmjohdabGreat.Jt
set_option linter.unusedVariables false
set_option linter.unusedSimpArgs false

end Go.Proofs.YtokncfhpmjohdabGreat.Dp
namespace Go.Proofs.YtokncfhpmjohdabGreat.Dp
open Go.RowKit Go.Proofs.YtokncfhpmjohdabGreat.Cx Go.Proofs.YtokncfhpmjohdabGreat.Cm Go.Proofs.YtokncfhpmjohdabGreat.Pl Go.Proofs.YtokncfhpmjohdabGreat.Str Go.Proofs.YtokncfhpmjohdabGreat.Pw Go.Proofs.YtokncfhpmjohdabGreat.P2 Go.Proofs.YtokncfhpmjohdabGreat.Hd Go.Proofs.YtokncfhpmjohdabGreat.Sf Go.Proofs.YtokncfhpmjohdabGreat.Jt
set_option linter.unusedVariables false
set_option linter.unusedSimpArgs false

/-- A result of two cells in a block that is old by now. -/
structure R2 (w : World) (b : Nat) : Prop where
  c0 : w.cell? ⟨b, 0, none⟩ = some (.int .i64 0)
  c1 : w.cell? ⟨b, 1, none⟩ = some (.int .i64 0)
  f0 : w.frozen? ⟨b, 0, none⟩ = false
  f1 : w.frozen? ⟨b, 1, none⟩ = false
theorem R2.below {w w' : World} {b : Nat} (k : R2 w b) (hb : Below w.heap.size w w') : R2 w' b :=
  ⟨cell_below hb k.c0, cell_below hb k.c1, (hb.frozen (World.block_lt_of_cell? w _ k.c0)).trans k.f0, (hb.frozen (World.block_lt_of_cell? w _ k.c1)).trans k.f1⟩
theorem R2.alloc {w : World} {b : Nat} {o : Obj} (k : R2 w b) : R2 (w.alloc o) b := k.below (by go_grown)
theorem R2.drew {w : World} {b : Nat} (k : R2 w b) : R2 w.drew b := ⟨k.c0, k.c1, k.f0, k.f1⟩
theorem R2.s0 {w : World} {b : Nat} (k : R2 w b) (P Q : Value) : ((w.setCell ⟨b, 0, none⟩ P).setCell ⟨b, 1, none⟩ Q).cell? ⟨b, 0, none⟩ = some P := set2_0 (by rw [k.c0]; rfl)
theorem R2.s1 {w : World} {b : Nat} (k : R2 w b) (P Q : Value) : ((w.setCell ⟨b, 0, none⟩ P).setCell ⟨b, 1, none⟩ Q).cell? ⟨b, 1, none⟩ = some Q := set2_1 (by rw [k.c1]; rfl)
theorem R2.new (w : World) : R2 (w.alloc (.cells #[.int .i64 0, .int .i64 0] 34)) w.heap.size := by constructor <;> simp [go_sem]
theorem R2.lt {w : World} {b : Nat} (k : R2 w b) : b < w.heap.size := World.block_lt_of_cell? w _ k.c0

end Go.Proofs.YtokncfhpmjohdabGreat.Dp
namespace Go.Proofs.YtokncfhpmjohdabGreat.Dp
open Go.RowKit Go.Proofs.YtokncfhpmjohdabGreat.Cx Go.Proofs.YtokncfhpmjohdabGreat.Cm Go.Proofs.YtokncfhpmjohdabGreat.Pl Go.Proofs.YtokncfhpmjohdabGreat.Str Go.Proofs.YtokncfhpmjohdabGreat.Pw Go.Proofs.YtokncfhpmjohdabGreat.P2 Go.Proofs.YtokncfhpmjohdabGreat.Hd Go.Proofs.YtokncfhpmjohdabGreat.Sf Go.Proofs.YtokncfhpmjohdabGreat.Jt
set_option linter.unusedVariables false
set_option linter.unusedSimpArgs false

theorem J5.set2 {w : World} {b b' i j : Nat} {u v : Value} {x y h t l : Int} (e : b' ≠ b) (k : J5 w b x y h t l) : J5 ((w.setCell ⟨b', i, none⟩ u).setCell ⟨b', j, none⟩ v) b x y h t l :=
  have f : ∀ o c, w.cell? ⟨b, o, none⟩ = some c → ((w.setCell ⟨b', i, none⟩ u).setCell ⟨b', j, none⟩ v).cell? ⟨b, o, none⟩ = some c := fun o c h => (World.cell?_setCell_other _ _ _ _ (by simp [e])).trans ((World.cell?_setCell_other _ _ _ _ (by simp [e])).trans h)
  ⟨f _ _ k.1, f _ _ k.2.1, f _ _ k.2.2.1, f _ _ k.2.2.2.1, f _ _ k.2.2.2.2⟩
end Go.Proofs.YtokncfhpmjohdabGreat.Dp
namespace Go.Proofs.YtokncfhpmjohdabGreat.Dp
open Go.RowKit Go.Proofs.YtokncfhpmjohdabGreat.Cx Go.Proofs.YtokncfhpmjohdabGreat.Cm Go.Proofs.YtokncfhpmjohdabGreat.Pl Go.Proofs.YtokncfhpmjohdabGreat.Str Go.Proofs.YtokncfhpmjohdabGreat.Pw Go.Proofs.YtokncfhpmjohdabGreat.P2 Go.Proofs.YtokncfhpmjohdabGreat.Hd Go.Proofs.YtokncfhpmjohdabGreat.Sf Go.Proofs.YtokncfhpmjohdabGreat.Jt
set_option linter.unusedVariables false
set_option linter.unusedSimpArgs false

/-- The tick of the peak. -/
def pk (x y h t l : Int) : Nat := if jt x y h t l then ((l + 1) / 2).toNat else 0
end Go.Proofs.YtokncfhpmjohdabGreat.Dp
namespace Go.Proofs.YtokncfhpmjohdabGreat.Dp
open Go.RowKit Go.Proofs.YtokncfhpmjohdabGreat.Cx Go.Proofs.YtokncfhpmjohdabGreat.Cm Go.Proofs.YtokncfhpmjohdabGreat.Pl Go.Proofs.YtokncfhpmjohdabGreat.Str Go.Proofs.YtokncfhpmjohdabGreat.Pw Go.Proofs.YtokncfhpmjohdabGreat.P2 Go.Proofs.YtokncfhpmjohdabGreat.Hd Go.Proofs.YtokncfhpmjohdabGreat.Sf Go.Proofs.YtokncfhpmjohdabGreat.Jt
set_option linter.unusedVariables false
set_option linter.unusedSimpArgs false

end Go.Proofs.YtokncfhpmjohdabGreat.Dp
namespace Go.Proofs.YtokncfhpmjohdabGreat.Dp
open Go.RowKit Go.Proofs.YtokncfhpmjohdabGreat.Cx Go.Proofs.YtokncfhpmjohdabGreat.Cm Go.Proofs.YtokncfhpmjohdabGreat.Pl Go.Proofs.YtokncfhpmjohdabGreat.Str Go.Proofs.YtokncfhpmjohdabGreat.Pw Go.Proofs.YtokncfhpmjohdabGreat.P2 Go.Proofs.YtokncfhpmjohdabGreat.Hd Go.Proofs.YtokncfhpmjohdabGreat.Sf Go.Proofs.YtokncfhpmjohdabGreat.Jt
set_option linter.unusedVariables false
set_option linter.unusedSimpArgs false

end Go.Proofs.YtokncfhpmjohdabGreat.Dp
