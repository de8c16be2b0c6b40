/- Rigs that are turned or moved: the devices, and the model's list of them. -/
import Derived.Test.YtgcheplneolonabIr
import Derived.Test.YtgcheplneolonabHdS
namespace Go.Proofs.Ytgcheplneolonab.Mo
open Go.RowKit Go.ChangeShapes Go.WideShapes Go.WideElems Go.Deep Go.Proofs.Ytgcheplneolonab.Mem Go.Proofs.Ytgcheplneolonab.Rw Go.Proofs.Ytgcheplneolonab.Pw Go.Proofs.Ytgcheplneolonab.P2 Go.Proofs.Ytgcheplneolonab.Dd Go.Proofs.Ytgcheplneolonab.Dv Go.Proofs.Ytgcheplneolonab.Dl Go.Proofs.Ytgcheplneolonab.Ds Go.Proofs.Ytgcheplneolonab.Fd Go.Proofs.Ytgcheplneolonab.Ch Go.Proofs.Ytgcheplneolonab.Hn Go.Proofs.Ytgcheplneolonab.Po
set_option linter.unusedVariables false
set_option linter.unusedSimpArgs false
open Go.Proofs.Ytgcheplneolonab.Cm Go.Proofs.Ytgcheplneolonab.Pl Go.Proofs.Ytgcheplneolonab.Str Go.Proofs.Ytgcheplneolonab.Hd Go.Proofs.Ytgcheplneolonab.Jt Go.Proofs.Ytgcheplneolonab.Ho Go.Proofs.Ytgcheplneolonab.Pa Go.Proofs.Ytgcheplneolonab.Di Go.Proofs.Ytgcheplneolonab.Ig Go.Proofs.Ytgcheplneolonab.Ir Go.Proofs.Ytgcheplneolonab.IsName
open Go.Proofs.Ytgcheplneolonab.Rw (owns_below owns_grown)

/-- The places of a valid device that is no pump. -/
theorem dB_place {d : D} (h : dB d = true) (h1 : d.kd ≠ 1) : (-4096 ≤ d.x ∧ d.x ≤ 4096) ∧ (-4096 ≤ d.y ∧ d.y ≤ 4096) := by
  unfold dB devB at h
  rw [Bool.and_eq_true, if_neg h1] at h
  by_cases h2 : d.kd = 2
  · rw [if_pos h2] at h
    unfold nozB at h
    rw [Bool.and_eq_true, Bool.and_eq_true] at h
    have := jt_iff.1 h.2.2.1
    omega
  · rw [if_neg h2] at h
    by_cases h3 : d.kd = 3
    · rw [if_pos h3] at h
      unfold lampB at h
      rw [Bool.and_eq_true, Bool.and_eq_true] at h
      exact pl_yes h.2.2.1
    · rw [if_neg h3] at h; cases h.2
theorem dB_kinds {d : D} (h : dB d = true) : d.kd = 1 ∨ d.kd = 2 ∨ d.kd = 3 := by
  unfold dB devB at h
  rw [Bool.and_eq_true] at h
  by_cases h1 : d.kd = 1
  · exact Or.inl h1
  by_cases h2 : d.kd = 2
  · exact Or.inr (Or.inl h2)
  by_cases h3 : d.kd = 3
  · exact Or.inr (Or.inr h3)
  · rw [if_neg h1, if_neg h2, if_neg h3] at h; cases h.2
theorem th_in {h n : Int} (e : hd h = true) : hd (th h n) = true := by
  unfold th; rw [if_pos e]; exact hd_mk (by omega)
/-- A list of the call's own that holds these devices. -/
def RowD (w : World) (ds : List D) (e : Ending) (w' : World) : Prop :=
  ∃ g c, e = .returned (.slice (some ⟨g, 0, none⟩) ds.length c) ∧ w'.ownsRow w.heap.size 28 8 (.slice (some ⟨g, 0, none⟩) ds.length c) ds.length (dls ds) ∧ Below w.heap.size w w'
/-- .. and whether it has all of them. -/
def RowB (w : World) (ds : List D) (r : Bool) (e : Ending) (w' : World) : Prop :=
  ∃ g c, e = .returned (.tuple #[.slice (some ⟨g, 0, none⟩) ds.length c, .bool r]) ∧ w'.ownsRow w.heap.size 28 8 (.slice (some ⟨g, 0, none⟩) ds.length c) ds.length (dls ds) ∧ Below w.heap.size w w'
theorem own_mk {w : World} {base n : Nat} {v : Value} {xs : List Value} (h : w.ownsRow base 28 8 v (n + 1) xs) : ∃ g c, v = .slice (some ⟨g, 0, none⟩) (n + 1) c := by
  rcases h.2 with ⟨_, e⟩ | ⟨g, cap, cur, e, _⟩
  · omega
  · exact ⟨g, cap, e⟩
theorem own_drew {w : World} {base n : Nat} {v : Value} {xs : List Value} (h : w.ownsRow base 28 8 v n xs) : w.drew.ownsRow base 28 8 v n xs := ⟨h.1, h.2⟩
theorem own_base {w : World} {base n : Nat} {v : Value} {xs : List Value} (h : w.ownsRow base 28 8 v n xs) : ∀ k, v.ownBlock = some k → base ≤ k := fun k e => (h.lt k e).1

end Go.Proofs.Ytgcheplneolonab.Mo
