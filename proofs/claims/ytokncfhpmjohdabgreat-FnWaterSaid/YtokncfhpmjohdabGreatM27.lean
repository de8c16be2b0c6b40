/- Winds made of lists of drifts, of the model. -/
import Derived.Test.YtokncfhpmjohdabGreatM16
import Derived.Test.YtokncfhpmjohdabGreatWc
set_option linter.unusedVariables false
set_option linter.unusedSimpArgs false
namespace Go.Proofs.YtokncfhpmjohdabGreat.Wb
open Go.RowKit Go.Proofs.YtokncfhpmjohdabGreat.Mem Go.Proofs.YtokncfhpmjohdabGreat.Rw Go.Proofs.YtokncfhpmjohdabGreat.Bk Go.Proofs.YtokncfhpmjohdabGreat.Jt Go.Proofs.YtokncfhpmjohdabGreat.Pw Go.Proofs.YtokncfhpmjohdabGreat.P2 Go.Proofs.YtokncfhpmjohdabGreat.Gs Go.Proofs.YtokncfhpmjohdabGreat.Wm Go.Proofs.YtokncfhpmjohdabGreat.Wi Go.Proofs.YtokncfhpmjohdabGreat.Wa
set_option linter.unusedVariables false
set_option linter.unusedSimpArgs false

end Go.Proofs.YtokncfhpmjohdabGreat.Wb
namespace Go.Proofs.YtokncfhpmjohdabGreat.Wc
open Go.RowKit Go.Proofs.YtokncfhpmjohdabGreat.Mem Go.Proofs.YtokncfhpmjohdabGreat.Rw Go.Proofs.YtokncfhpmjohdabGreat.Bk Go.Proofs.YtokncfhpmjohdabGreat.Cx Go.Proofs.YtokncfhpmjohdabGreat.Cm Go.Proofs.YtokncfhpmjohdabGreat.Jt Go.Proofs.YtokncfhpmjohdabGreat.Pl Go.Proofs.YtokncfhpmjohdabGreat.Str Go.Proofs.YtokncfhpmjohdabGreat.Pw Go.Proofs.YtokncfhpmjohdabGreat.P2 Go.Proofs.YtokncfhpmjohdabGreat.Gs Go.Proofs.YtokncfhpmjohdabGreat.Wm Go.Proofs.YtokncfhpmjohdabGreat.Wi Go.Proofs.YtokncfhpmjohdabGreat.Wa
set_option linter.unusedVariables false
set_option linter.unusedSimpArgs false

/-- All places of a list lie so near. -/
def Near (D : Int) (l : List (Int × Int)) : Prop := ∀ p ∈ l, (-D ≤ p.1 ∧ p.1 ≤ D) ∧ (-D ≤ p.2 ∧ p.2 ≤ D)
theorem Near.at {D : Int} {l : List (Int × Int)} (h : Near D l) {k : Nat} {p : Int × Int} (hp : l[k]? = some p) : (-D ≤ p.1 ∧ p.1 ≤ D) ∧ (-D ≤ p.2 ∧ p.2 ≤ D) := h p (List.mem_of_getElem? hp)
theorem Near.was {D : Int} {l : List (Int × Int)} (h : Near D l) (h0 : 0 ≤ D) {k : Nat} (hk : k ≤ l.length) : (-D ≤ (was l k).1 ∧ (was l k).1 ≤ D) ∧ (-D ≤ (was l k).2 ∧ (was l k).2 ≤ D) := by
  cases k with
  | zero => rw [was_zero]; simp only; omega
  | succ k =>
    obtain ⟨p, hp⟩ : ∃ p, l[k]? = some p := ⟨_, List.getElem?_eq_getElem (by omega)⟩
    rw [was_next hp]; exact h.at hp
end Go.Proofs.YtokncfhpmjohdabGreat.Wc
