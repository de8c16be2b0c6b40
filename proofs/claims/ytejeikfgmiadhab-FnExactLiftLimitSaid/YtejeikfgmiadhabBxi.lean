/- Whether a place is in a box: the program's answer. -/
import Derived.Test.YtejeikfgmiadhabBxq
set_option linter.unusedVariables false
set_option linter.unusedSimpArgs false
namespace Go.Proofs.Ytejeikfgmiadhab.Bxi
open Go.RowKit Go.Proofs.Ytejeikfgmiadhab.Cm Go.Proofs.Ytejeikfgmiadhab.Pl Go.Proofs.Ytejeikfgmiadhab.Str Go.Proofs.Ytejeikfgmiadhab.Pw Go.Proofs.Ytejeikfgmiadhab.P2
set_option linter.unusedVariables false

def bx (x y z u : Int) : Bool := (ms x && ms y) && (ms z && ms u) && decide (x ≤ z) && decide (y ≤ u)
def ib (x y z u a b : Int) : Bool := bx x y z u && decide (x ≤ a) && decide (a ≤ z) && decide (y ≤ b) && decide (b ≤ u)

theorem isBoxI (x y z u : Int) (w : World) : Calls Try.prog 20 #[.agg #[.int .i64 x, .int .i64 y, .int .i64 z, .int .i64 u]] w fun e w' => e = .returned (.bool (bx x y z u)) ∧ Below w.heap.size w w' := by
  unfold bx
  cases p : (ms x && ms y)
  · have C1 := Lib.hid (isPlaceI_of p)
    clear p
    go_enter Try.func20, Try.ntmps20
    go_wp2_with fail
    refine (C1.out _).mono ?_
    rintro e w' ⟨rfl, rfl⟩
    go_wp2_with fail
    go_returns
    exact ⟨rfl, by go_grown⟩
  cases q : (ms z && ms u)
  · have C1 := Lib.hid (isPlaceI_of p)
    have C2 := Lib.hid (isPlaceI_of q)
    clear p q
    go_enter Try.func20, Try.ntmps20
    go_wp2_with fail
    refine (C1.out _).mono ?_
    rintro e w' ⟨rfl, rfl⟩
    go_wp2_with fail
    refine (C2.out _).mono ?_
    rintro e w' ⟨rfl, rfl⟩
    go_wp2_with fail
    go_returns
    exact ⟨rfl, by go_grown⟩
  · have C1 := Lib.hid (isPlaceI_of p)
    have C2 := Lib.hid (isPlaceI_of q)
    clear p q
    by_cases h1 : x ≤ z <;> by_cases h2 : y ≤ u
    all_goals
      go_enter Try.func20, Try.ntmps20
      go_wp2_with fail
      refine (C1.out _).mono ?_
      rintro e w' ⟨rfl, rfl⟩
      go_wp2_with fail
      refine (C2.out _).mono ?_
      rintro e w' ⟨rfl, rfl⟩
      go_wp2_with fail
      all_goals first | omega | skip
      all_goals go_returns
      all_goals refine ⟨?_, by go_grown⟩
      all_goals first | (simp [*]; done) | (simp [*]; omega)

end Go.Proofs.Ytejeikfgmiadhab.Bxi
