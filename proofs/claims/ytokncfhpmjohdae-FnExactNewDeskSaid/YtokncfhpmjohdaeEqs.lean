/- Helpers on lists of strings. -/
import Derived.Test.YtokncfhpmjohdaeM4
set_option linter.unusedVariables false
set_option linter.unusedSimpArgs false
namespace Go.Proofs.Ytokncfhpmjohdae.Strs
open Go.RowKit
theorem owns_below {w w' : World} {base : Nat} {e : TypeId} {size : Nat} {v : Value} {n : Nat} {xs : List Value} (h : w.ownsRow base e size v n xs) (hb : Below w.heap.size w w') : w'.ownsRow base e size v n xs := by
  refine ⟨h.1, h.2.imp id fun ⟨g, cap, cur, e1, e2, e3, e4⟩ => ⟨g, cap, cur, e1, e2, (hb.block g ?_).trans e3, e4⟩⟩
  exact (Array.getElem?_eq_some_iff.1 e3).1
end Go.Proofs.Ytokncfhpmjohdae.Strs
