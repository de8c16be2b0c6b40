/- A jet that is turned or moved, of the program. -/
import Derived.Test.YtgcheplneolonabJbQ
import Derived.Test.YtgcheplneolonabTp
namespace Go.Proofs.Ytgcheplneolonab.Dr4
open Go.RowKit Go.Proofs.Ytgcheplneolonab.Cx Go.Proofs.Ytgcheplneolonab.Cm Go.Proofs.Ytgcheplneolonab.Pl Go.Proofs.Ytgcheplneolonab.Str Go.Proofs.Ytgcheplneolonab.Pw Go.Proofs.Ytgcheplneolonab.P2 Go.Proofs.Ytgcheplneolonab.Hd Go.Proofs.Ytgcheplneolonab.Jt Go.Proofs.Ytgcheplneolonab.Dp
set_option linter.unusedVariables false
set_option linter.unusedSimpArgs false

/-- A jet behind n quarter turns. -/
def turnV (x y h t l n : Int) : Value := if jt x y h t l then jv (tx (n % 4).toNat x y) (ty (n % 4).toNat x y) (th h n) t l else jv 0 0 0 0 0
theorem turnV_no {x y h t l n : Int} (hj : jt x y h t l = false) : turnV x y h t l n = jv 0 0 0 0 0 := by unfold turnV; rw [hj]; rfl
theorem turnV_yes {x y h t l n : Int} (hj : jt x y h t l = true) : turnV x y h t l n = jv (tx (n % 4).toNat x y) (ty (n % 4).toNat x y) (th h n) t l := by unfold turnV; rw [hj]; rfl
theorem pl_of {x y h t l : Int} (hj : jt x y h t l = true) : (ms x && ms y) = true := by
  obtain ⟨hx, hy, _⟩ := jt_iff.1 hj
  exact pl_mk (by omega) (by omega)

end Go.Proofs.Ytgcheplneolonab.Dr4
