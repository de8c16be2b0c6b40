/- Where the drop of a jet lands, of the program and of the model. -/
import Derived.Test.YtgcheplneolonadFq
namespace Go.Proofs.Ytgcheplneolonad.Dp
open Go.RowKit Go.Proofs.Ytgcheplneolonad.Cx Go.Proofs.Ytgcheplneolonad.Cm Go.Proofs.Ytgcheplneolonad.Pl Go.Proofs.Ytgcheplneolonad.Str Go.Proofs.Ytgcheplneolonad.Pw Go.Proofs.Ytgcheplneolonad.P2 Go.Proofs.Ytgcheplneolonad.Hd Go.Proofs.Ytgcheplneolonad.Sf Go.Proofs.Ytgcheplneolonad.Jt
set_option linter.unusedVariables false
set_option linter.unusedSimpArgs false

/-- Where the drop lands, and whether it does. -/
def landV (x y h t l : Int) : Value := told2 (inF x y h t l (fl x y h t l)) (wy x (tx h.toNat t 0) (fl x y h t l).toNat) (wy y (ty h.toNat t 0) (fl x y h t l).toNat)
theorem J5.set2 {w : World} {b b' i j : Nat} {u v : Value} {x y h t l : Int} (e : b' ≠ b) (k : J5 w b x y h t l) : J5 ((w.setCell ⟨b', i, none⟩ u).setCell ⟨b', j, none⟩ v) b x y h t l :=
  have f : ∀ o c, w.cell? ⟨b, o, none⟩ = some c → ((w.setCell ⟨b', i, none⟩ u).setCell ⟨b', j, none⟩ v).cell? ⟨b, o, none⟩ = some c := fun o c h => (World.cell?_setCell_other _ _ _ _ (by simp [e])).trans ((World.cell?_setCell_other _ _ _ _ (by simp [e])).trans h)
  ⟨f _ _ k.1, f _ _ k.2.1, f _ _ k.2.2.1, f _ _ k.2.2.2.1, f _ _ k.2.2.2.2⟩
theorem fl_le (x y h t l : Int) : -9223372036854775808 ≤ fl x y h t l ∧ fl x y h t l ≤ 9223372036854775807 := by
  cases hj : jt x y h t l
  · rw [fl_no hj]; omega
  · have := (jt_iff.1 hj).2.2.2.2
    rw [fl_yes hj]; omega

end Go.Proofs.Ytgcheplneolonad.Dp
