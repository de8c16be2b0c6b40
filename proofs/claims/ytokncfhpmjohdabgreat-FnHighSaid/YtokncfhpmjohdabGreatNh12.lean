/- What the loops of FnHigh look for: numbers. -/
import Derived.Test.YtokncfhpmjohdabGreatNh11
set_option linter.unusedVariables false
set_option linter.unusedSimpArgs false
namespace Go.Proofs.YtokncfhpmjohdabGreat.Nh12
open Go.Proofs.YtokncfhpmjohdabGreat.Sv hiding D C G
open Go.Proofs.YtokncfhpmjohdabGreat.Na11 Go.Proofs.YtokncfhpmjohdabGreat.Nh11
open Go.Proofs.YtokncfhpmjohdabGreat.Lp9 (ldV)
open Go.Proofs.YtokncfhpmjohdabGreat.Dp (ha pk)
open Go.Proofs.YtokncfhpmjohdabGreat.Ja9 (jaV)
set_option linter.unusedVariables false
set_option linter.unusedSimpArgs false

/-- What PeakOf tells of the answer of JetAt. -/
def topO : Option (D × Int) → Int
  | some (d, l) => ha d.x d.y d.hd d.tl l (pk d.x d.y d.hd d.tl l)
  | none => 0
theorem jv_top (R : Option (D × Int)) : ∃ ax ay ah at9 al, Ja9.jvO R = .tuple #[.agg #[.int .i64 ax, .int .i64 ay, .int .i64 ah, .int .i64 at9, .int .i64 al], .bool R.isSome] ∧ (R.isSome = true → topO R = ha ax ay ah at9 al (pk ax ay ah at9 al)) := by
  cases R with
  | none => exact ⟨0, 0, 0, 0, 0, rfl, fun h => by cases h⟩
  | some q => obtain ⟨d, l⟩ := q; exact ⟨d.x, d.y, d.hd, d.tl, l, rfl, fun _ => rfl⟩
/-- Whether a device's jet at a tick goes this high. -/
noncomputable def mtB (ds : List D) (cs : List C) (gs : List G) (T H : Int) (k : Int) (d : D) : Bool := (jaV ds cs gs T d.nm k).isSome && decide (topO (jaV ds cs gs T d.nm k) = H)
/-- None of the first devices at the last tick, and none at those before. -/
def NoM (ds : List D) (cs : List C) (gs : List G) (T H : Int) (k i : Nat) : Prop := ∀ (q j : Nat) (d : D), (q < k ∨ (q = k ∧ j < i)) → ds[j]? = some d → mtB ds cs gs T H (q : Int) d = false
theorem no_zero (ds : List D) (cs : List C) (gs : List G) (T H : Int) : NoM ds cs gs T H 0 0 := fun q j d h _ => by omega
theorem no_next {ds : List D} {cs : List C} {gs : List G} {T H : Int} {k i : Nat} {d : D} (h : NoM ds cs gs T H k i) (hd : ds[i]? = some d) (hm : mtB ds cs gs T H (k : Int) d = false) : NoM ds cs gs T H k (i + 1) := fun q j e hq he => by
  by_cases c : q = k ∧ j = i
  · rw [c.2, hd] at he
    injection he with he
    rw [c.1, ← he]; exact hm
  · exact h q j e (by omega) he
theorem no_tick {ds : List D} {cs : List C} {gs : List G} {T H : Int} {k : Nat} (h : NoM ds cs gs T H k ds.length) : NoM ds cs gs T H (k + 1) 0 := fun q j e hq he => by
  have hj := (List.getElem?_eq_some_iff.1 he).1
  exact h q j e (by omega) he
theorem no_all {ds : List D} {cs : List C} {gs : List G} {T : Int} {N : Nat} (hN : (N : Int) = T) (h : NoM ds cs gs T (Tn9.hi9 (all9 ds cs gs T)) N 0) : ldV ds cs gs T = [] := by
  by_cases c : ldV ds cs gs T = []
  · exact c
  · obtain ⟨k, j, d, l, h1, h2, h3, _, h5⟩ := high_found c
    have := h k j d (by omega) h2
    unfold mtB at this
    rw [h3] at this
    simp only [Option.isSome_some, Bool.true_and, decide_eq_false_iff_not] at this
    exact absurd h5 this
end Go.Proofs.YtokncfhpmjohdabGreat.Nh12
