/- Of a rig: the pump of a device, and what is on one line. -/
import Derived.Test.YtokncfhpmjohdabGreatM9
import Derived.Test.YtokncfhpmjohdabGreatM13
import Derived.Test.YtokncfhpmjohdabGreatDr6b
import Derived.Test.YtokncfhpmjohdabGreatM21
set_option linter.unusedVariables false
set_option linter.unusedSimpArgs false
namespace Go.Proofs.YtokncfhpmjohdabGreat.Lm6
open Go.RowKit Go.ChangeShapes Go.WideShapes Go.WideElems Go.Deep Go.Proofs.YtokncfhpmjohdabGreat.Mem Go.Proofs.YtokncfhpmjohdabGreat.Rw Go.Proofs.YtokncfhpmjohdabGreat.Pw Go.Proofs.YtokncfhpmjohdabGreat.P2 Go.Proofs.YtokncfhpmjohdabGreat.Dd Go.Proofs.YtokncfhpmjohdabGreat.Dv Go.Proofs.YtokncfhpmjohdabGreat.Dl Go.Proofs.YtokncfhpmjohdabGreat.Ds Go.Proofs.YtokncfhpmjohdabGreat.Fd Go.Proofs.YtokncfhpmjohdabGreat.Ch Go.Proofs.YtokncfhpmjohdabGreat.Hn Go.Proofs.YtokncfhpmjohdabGreat.Po
set_option linter.unusedVariables false
set_option linter.unusedSimpArgs false
open Go.Proofs.YtokncfhpmjohdabGreat.Ho Go.Proofs.YtokncfhpmjohdabGreat.Ig Go.Proofs.YtokncfhpmjohdabGreat.Ir Go.Proofs.YtokncfhpmjohdabGreat.Iq Go.Proofs.YtokncfhpmjohdabGreat.Pu Go.Proofs.YtokncfhpmjohdabGreat.Sl Go.Proofs.YtokncfhpmjohdabGreat.Ol Go.Proofs.YtokncfhpmjohdabGreat.Rz

end Go.Proofs.YtokncfhpmjohdabGreat.Lm6
namespace Go.Proofs.YtokncfhpmjohdabGreat.Ha
open Go.RowKit Go.ChangeShapes Go.WideShapes Go.WideElems Go.Deep Go.Proofs.YtokncfhpmjohdabGreat.Mem Go.Proofs.YtokncfhpmjohdabGreat.Rw Go.Proofs.YtokncfhpmjohdabGreat.Dd Go.Proofs.YtokncfhpmjohdabGreat.Dl Go.Proofs.YtokncfhpmjohdabGreat.Strs
set_option linter.unusedVariables false
set_option linter.unusedSimpArgs false

def Not (ss : List ByteArray) (s : ByteArray) (k : Nat) : Prop := ∀ j, j < k → ss[j]? ≠ some s
theorem Not.all {ss : List ByteArray} {s : ByteArray} {k : Nat} (h : Not ss s k) (hk : ss.length = k) : ¬ s ∈ ss := fun hp => by
  obtain ⟨j, hj, e⟩ := List.mem_iff_getElem.1 hp
  exact h j (by omega) (by rw [List.getElem?_eq_getElem hj, e])

end Go.Proofs.YtokncfhpmjohdabGreat.Ha
namespace Go.Proofs.YtokncfhpmjohdabGreat.Nl9
open Go.Proofs.YtokncfhpmjohdabGreat.Sv Go.Proofs.YtokncfhpmjohdabGreat.Lt9 Go.Proofs.YtokncfhpmjohdabGreat.Ha
open Go.Proofs.YtokncfhpmjohdabGreat.Ds (sb)
set_option linter.unusedVariables false
set_option linter.unusedSimpArgs false

/-- A show that was drawn is a show. -/
theorem drawn_show {ds : List D} {cs : List C} {gs : List G} {T : Int} (h1 : Sd.score cs = true) (h2 : Ig.Rig ds) (h3 : Wm.wd gs = true) (h4 : 0 ≤ T) (h5 : T ≤ 13) : show9 ds cs gs T = true :=
  show_iff.2 ⟨Ig.rig_yes h2, h1, h3, h4, by omega⟩
end Go.Proofs.YtokncfhpmjohdabGreat.Nl9
