/- Lists of cues that a call makes. -/
import Derived.Test.YtgcheplneolonacSd
import Derived.Test.YtgcheplneolonacTn
import Derived.Laws.AppendOwn
import Derived.Laws.OwnMore
import Derived.OwnWalk
namespace Go.Proofs.Ytgcheplneolonac.Oc
open Go.RowKit Go.ChangeShapes Go.WideShapes Go.WideElems Go.Deep Go.Proofs.Ytgcheplneolonac.Mem Go.Proofs.Ytgcheplneolonac.Rw Go.Proofs.Ytgcheplneolonac.P2 Go.Proofs.Ytgcheplneolonac.Cd Go.Proofs.Ytgcheplneolonac.Cv Go.Proofs.Ytgcheplneolonac.Cl Go.Proofs.Ytgcheplneolonac.Cs
set_option linter.unusedVariables false
set_option linter.unusedSimpArgs false
open Go.Proofs.Ytgcheplneolonac.Sd Go.Proofs.Ytgcheplneolonac.Tn
open Go.Proofs.Ytgcheplneolonac.Rw (owns_below owns_grown)

/-- A list of the call's own that holds these cues. -/
def RowC (w : World) (ds : List C) (e : Ending) (w' : World) : Prop :=
  ∃ g c, e = .returned (.slice (some ⟨g, 0, none⟩) ds.length c) ∧ w'.ownsRow w.heap.size 26 4 (.slice (some ⟨g, 0, none⟩) ds.length c) ds.length (dls ds) ∧ Below w.heap.size w w'
/-- .. and whether it has all of them. -/
def RowB (w : World) (ds : List C) (r : Bool) (e : Ending) (w' : World) : Prop :=
  ∃ g c, e = .returned (.tuple #[.slice (some ⟨g, 0, none⟩) ds.length c, .bool r]) ∧ w'.ownsRow w.heap.size 26 4 (.slice (some ⟨g, 0, none⟩) ds.length c) ds.length (dls ds) ∧ Below w.heap.size w w'
theorem own_mk {w : World} {base n : Nat} {v : Value} {xs : List Value} (h : w.ownsRow base 26 4 v (n + 1) xs) : ∃ g c, v = .slice (some ⟨g, 0, none⟩) (n + 1) c := by
  rcases h.2 with ⟨_, e⟩ | ⟨g, cap, cur, e, _⟩
  · omega
  · exact ⟨g, cap, e⟩
theorem own_drew {w : World} {base n : Nat} {v : Value} {xs : List Value} (h : w.ownsRow base 26 4 v n xs) : w.drew.ownsRow base 26 4 v n xs := ⟨h.1, h.2⟩
theorem own_drewN {w : World} {base n : Nat} {v : Value} {xs : List Value} (m : Nat) (h : w.ownsRow base 26 4 v n xs) : (w.drewN m).ownsRow base 26 4 v n xs := ⟨h.1, h.2⟩
theorem own_base {w : World} {base n : Nat} {v : Value} {xs : List Value} (h : w.ownsRow base 26 4 v n xs) : ∀ k, v.ownBlock = some k → base ≤ k := fun k e => (h.lt k e).1

/-- The cues of these names. -/
noncomputable def pick (zs : List C) (ss : List ByteArray) : List C := zs.filter fun d => hasN ss d.nm
/-- A list, or none. -/
def bon : Bool → List C → List C
  | true, l => l
  | false, _ => []
noncomputable def only (zs : List C) (ss : List ByteArray) : List C := if score zs = true then pick zs ss else []
theorem only_no {zs : List C} (h : score zs = false) (ss : List ByteArray) : only zs ss = [] := by unfold only; rw [h]; rfl
theorem only_yes {zs : List C} (h : score zs = true) (ss : List ByteArray) : only zs ss = pick zs ss := by unfold only; rw [if_pos h]
theorem pick_len (zs : List C) (ss : List ByteArray) : (pick zs ss).length ≤ zs.length := List.length_filter_le _ _
theorem only_len (zs : List C) (ss : List ByteArray) : (only zs ss).length ≤ zs.length := by
  unfold only; split
  · exact pick_len _ _
  · exact Nat.zero_le _
theorem pick_yes {zs : List C} {ss : List ByteArray} {k : Nat} {d : C} (h : zs[k]? = some d) (hn : hasN ss d.nm = true) : pick (zs.take (k + 1)) ss = pick (zs.take k) ss ++ [d] := by
  obtain ⟨hk, rfl⟩ := List.getElem?_eq_some_iff.1 h
  unfold pick
  rw [List.take_succ_eq_append_getElem hk, List.filter_append]
  simp [hn]
theorem pick_no {zs : List C} {ss : List ByteArray} {k : Nat} {d : C} (h : zs[k]? = some d) (hn : hasN ss d.nm = false) : pick (zs.take (k + 1)) ss = pick (zs.take k) ss := by
  obtain ⟨hk, rfl⟩ := List.getElem?_eq_some_iff.1 h
  unfold pick
  rw [List.take_succ_eq_append_getElem hk, List.filter_append]
  simp [hn]
end Go.Proofs.Ytgcheplneolonac.Oc
