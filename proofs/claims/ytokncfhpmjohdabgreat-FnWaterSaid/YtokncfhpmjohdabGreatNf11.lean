/- Numbers behind FnLifts: the lifts of what hangs on a pump are its share. -/
import Derived.Test.YtokncfhpmjohdabGreatSv
import Derived.Test.YtokncfhpmjohdabGreatM16
import Derived.Test.YtokncfhpmjohdabGreatM9
set_option linter.unusedVariables false
set_option linter.unusedSimpArgs false
namespace Go.Proofs.YtokncfhpmjohdabGreat.Nf11
open Go.Proofs.YtokncfhpmjohdabGreat.Sv hiding D C G
open Go.Proofs.YtokncfhpmjohdabGreat.Dm (tot dm share)
open Go.Proofs.YtokncfhpmjohdabGreat.Ig (rig)
open Go.Proofs.YtokncfhpmjohdabGreat.Ds (sb)
set_option linter.unusedVariables false
set_option linter.unusedSimpArgs false

abbrev D := Dd.D
abbrev C := Cd.C

theorem ord_at {ds : List D} (hr : rig ds = true) {i j : Nat} {p : D} (h1 : ds[i]? = some p) (h2 : ds[j]? = some p) : i = j := by
  obtain ⟨_, ho, _⟩ := Rz.rig_set.1 (Ig.rig_of hr)
  obtain ⟨hi, e1⟩ := List.getElem?_eq_some_iff.1 h1
  obtain ⟨hj, e2⟩ := List.getElem?_eq_some_iff.1 h2
  rcases Nat.lt_trichotomy i j with c | c | c
  · have := List.pairwise_iff_getElem.1 ho i j hi hj c
    rw [e1, e2] at this; exact absurd rfl (Rz.lt_ne this)
  · exact c
  · have := List.pairwise_iff_getElem.1 ho j i hj hi c
    rw [e1, e2] at this; exact absurd rfl (Rz.lt_ne this)
end Go.Proofs.YtokncfhpmjohdabGreat.Nf11
