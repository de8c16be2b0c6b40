/- The laws' marks in a show that has none. -/
import Derived.Test.YtejeikfgmiadhaaGreatMk9
namespace Go.Proofs.YtejeikfgmiadhaaGreat.Mn9
open Go.RowKit Go.ChangeShapes Go.WideShapes Go.WideElems Go.Deep Go.Proofs.YtejeikfgmiadhaaGreat.Mem Go.Proofs.YtejeikfgmiadhaaGreat.Rw Go.Proofs.YtejeikfgmiadhaaGreat.P2 Go.Proofs.YtejeikfgmiadhaaGreat.Bk Go.Proofs.YtejeikfgmiadhaaGreat.Sp Go.Proofs.YtejeikfgmiadhaaGreat.Sq Go.Proofs.YtejeikfgmiadhaaGreat.St9
set_option linter.unusedVariables false
set_option linter.unusedSimpArgs false
theorem markD0 (w : World) : Calls Tryz.prog 44 #[.slice none 0 0, .int .i64 1] w fun e w' => e = .returned (.int .i64 1) ∧ Below w.heap.size w w' := by
  go_enter Tryz.func44, Tryz.ntmps44
  go_wp2_with fail
  refine wp_loop_rounds 2 ?_
  repeat any_goals (rw [rounds_succ]; go_wp2_with fail)
  go_ret
  exact ⟨rfl, Below.refl _ _⟩
theorem markC0 (w : World) : Calls Tryz.prog 45 #[.slice none 0 0, .int .i64 1] w fun e w' => e = .returned (.int .i64 1) ∧ Below w.heap.size w w' := by
  go_enter Tryz.func45, Tryz.ntmps45
  go_wp2_with fail
  refine wp_loop_rounds 2 ?_
  repeat any_goals (rw [rounds_succ]; go_wp2_with fail)
  go_ret
  exact ⟨rfl, Below.refl _ _⟩
theorem markG0 (w : World) : Calls Tryz.prog 46 #[.slice none 0 0, .int .i64 1] w fun e w' => e = .returned (.int .i64 1) ∧ Below w.heap.size w w' := by
  go_enter Tryz.func46, Tryz.ntmps46
  go_wp2_with fail
  refine wp_loop_rounds 2 ?_
  repeat any_goals (rw [rounds_succ]; go_wp2_with fail)
  go_ret
  exact ⟨rfl, Below.refl _ _⟩
set_option maxRecDepth 100000 in
theorem markNil (w : World) : Calls Tryz.prog 14 #[.agg #[.slice none 0 0, .slice none 0 0, .slice none 0 0, .int .i64 0], .int .i64 1] w fun e w' => e = .returned (.int .i64 1) ∧ Below w.heap.size w w' := by
  have B0 := Lib.hid ((Below.refl w.heap.size w).alloc (Nat.le_refl _) (.cells zc 34))
  have K0 := Lib.hid (Bk.new w zc 34)
  go_enter Tryz.func14, Tryz.ntmps14
  go_wp2_with fail
  refine (markD0 _).mono ?_
  rintro e u1 ⟨rfl, hb⟩
  have K1 := Lib.hid (K0.out.below hb)
  have B1 := Lib.hid (B0.out.trans (hb.mono B0.out.size))
  have y1 := K1.out.cell (i := 1) rfl
  clear hb K0 B0
  go_wp2_with fail
  refine (markC0 _).mono ?_
  rintro e u2 ⟨rfl, hb⟩
  have K2 := Lib.hid (K1.out.below hb)
  have B2 := Lib.hid (B1.out.trans (hb.mono B1.out.size))
  have y2 := K2.out.cell (i := 2) rfl
  clear hb K1 B1 y1
  go_wp2_with fail
  refine (markG0 _).mono ?_
  rintro e u3 ⟨rfl, hb⟩
  have B3 := Lib.hid (B2.out.trans (hb.mono B2.out.size))
  clear hb K2 B2 y2
  go_wp2_with fail
  go_ret
  exact ⟨rfl, B3.out⟩
end Go.Proofs.YtejeikfgmiadhaaGreat.Mn9
