/- The law FnExactIsBox holds at every input. The step from the walk to the row follows the guide's own template. -/
import Derived.Test.YtkgccpbpmclikaaMem
import Derived.Test.YtkgccpbpmclikaaBx
namespace Go.Proofs.Ytkgccpbpmclikaa.fnExactIsBox
open Go.ChangeShapes Go.WideShapes Go.ChangeAt Go.RowKit Go.WideMaps Go.WideElems Go.Proofs.Ytkgccpbpmclikaa.Mem
open Go.ChangeMaps (open_string shut_string)
set_option linter.unusedVariables false

theorem own : ownKnob Try.prog.godebug = none := by kernel_rfl
theorem laidOut : laidOutB Try.prog = true := by kernel_rfl

open Go.Proofs.Ytkgccpbpmclikaa.Cm Go.Proofs.Ytkgccpbpmclikaa.Pl Go.Proofs.Ytkgccpbpmclikaa.Str Go.Proofs.Ytkgccpbpmclikaa.Pw Go.Proofs.Ytkgccpbpmclikaa.P2 Go.Proofs.Ytkgccpbpmclikaa.Bx

set_option maxHeartbeats 2000000 in
theorem walk (x0 y0 z0 u0 : Int) (wx0 : (Lit.int .i64 x0).wf = true) (wy0 : (Lit.int .i64 y0).wf = true) (wz0 : (Lit.int .i64 z0).wf = true) (wu0 : (Lit.int .i64 u0).wf = true) (w : World) :
    Calls Try.prog 11 #[bv x0 y0 z0 u0] w fun e w' => e = .returned (.bool true) ∧ Below w.heap.size w w' := by
  unfold bv
  have T := Lib.hid (toBox x0 y0 z0 u0)
  have CS := isBoxS x0 y0 z0 u0
  have CI := isBoxI x0 y0 z0 u0
  generalize bx x0 y0 z0 u0 = r at *
  replace CS := Lib.hid CS
  replace CI := Lib.hid CI
  clear wx0 wy0 wz0 wu0
  go_enter Try.func11, Try.ntmps11
  go_wp2_with fail
  refine (T.out _).mono ?_
  rintro e v1 ⟨rfl, hb⟩
  have B1 : Below w.heap.size w v1 := Below.trans (by go_grown) (hb.mono (by go_size))
  have m1 : v1.cell? ⟨w.heap.size, 0, none⟩ = some (.int .i64 x0) := cell_below hb (by simp [go_sem])
  have m2 : v1.cell? ⟨w.heap.size, 1, none⟩ = some (.int .i64 y0) := cell_below hb (by simp [go_sem])
  have m3 : v1.cell? ⟨w.heap.size, 2, none⟩ = some (.int .i64 z0) := cell_below hb (by simp [go_sem])
  have m4 : v1.cell? ⟨w.heap.size, 3, none⟩ = some (.int .i64 u0) := cell_below hb (by simp [go_sem])
  clear hb
  go_wp2_with fail
  refine (CS.out _).mono ?_
  rintro e v2 ⟨rfl, hb⟩
  have B2 : Below w.heap.size w v2 := B1.trans (hb.mono B1.size)
  have n1 := cell_below hb m1
  have n2 := cell_below hb m2
  have n3 := cell_below hb m3
  have n4 := cell_below hb m4
  clear hb m1 m2 m3 m4
  go_wp2_with fail
  refine (T.out _).mono ?_
  rintro e v3 ⟨rfl, hb⟩
  have B3 : Below w.heap.size w v3 := B2.trans (hb.mono B2.size)
  clear hb n1 n2 n3 n4
  go_wp2_with fail
  refine (CI.out _).mono ?_
  rintro e v4 ⟨rfl, hb⟩
  have B4 : Below w.heap.size w v4 := B3.trans (hb.mono B3.size)
  clear hb
  go_wp2_with fail
  all_goals go_returns
  all_goals exact ⟨rfl, B4⟩

set_option maxRecDepth 100000 in
theorem lifted (os : Os) (started : os.Started) (H : Type) (enc : TypeId × Value → H) :
    ReturnsInHanded {} Try.checked os 11 .any (Rows.fnExactIsBoxSpec.pre6 enc Try.prog Try.f11 Rows.fnExactIsBoxRow.domain false) (Rows.fnExactIsBoxSpec.post enc Try.prog Try.f11 false true false false) := by
  refine returnsInHanded_of_change (C := Try.checked) own started (by kernel_rfl) Try.func11
    (ChangeSpec.witness6 (enc := enc) (C := Try.checked) false ⟨#[], #[.agg #[.int .i64 0, .int .i64 0, .int .i64 0, .int .i64 0]], []⟩ 8 (by kernel_rfl) (by kernel_rfl) (by kernel_rfl) (by kernel_rfl)) ?_
  intro W base args ds gs before hval0 hW hcnd hsz
  have hval : ∀ (j : Nat) t v, Try.f11.params[j]? = some t → args[j]? = some v → Value.okWide Try.prog W .any base t v := hval0
  have hW' := hW
  obtain ⟨p, q, hA0, hV, rfl, hfz, hnd⟩ := hW
  have hA1 := hA0
  have hA : DataW.TrodAll enc Try.prog W 0 (fun _ => true) true Try.f11.params.toList args.toList ds p := hA0
  rw [Try.params11] at hA hval
  obtain ⟨v0, vs0, d0, ds0, p0, q0, hargs, rfl, rfl, h0, r0⟩ := trodAll_cons hA
  obtain ⟨rfl, rfl, rfl⟩ := trodAll_nil r0
  obtain rfl : args = #[v0] := by cases args; simp_all
  obtain ⟨rfl, rfl⟩ := trodVars_none hV
  obtain ⟨x0, y0, z0, u0, rfl, wx0, wy0, wz0, wu0⟩ := Str.take_box Try.underlying43 (by kernel_rfl) rfl rfl rfl rfl Try.underlying23 (by kernel_rfl) (by kernel_rfl) Try.underlying3 Try.underlying3 (hval 0 43 v0 rfl rfl) h0
  clear hA0 hval0
  rw [List.append_nil] at hW'
  refine (walk x0 y0 z0 u0 wx0 wy0 wz0 wu0 W).mono fun e W' ⟨he, hb⟩ => ?_
  subst he
  exact ⟨_, rfl, post_law rfl hW' hA1 laidOut (by rw [Try.params11]; exact of_decide_eq_true (by kernel_rfl)) 4 (by kernel_rfl) Try.underlying4 rfl hb⟩

theorem over : Rows.fnExactIsBoxRow.holds Try.pinned (OpenSpec.ofChange Rows.fnExactIsBoxSpec) :=
  OpenClaim.holds_of_wide 11 Try.f11 rfl rfl rfl rfl rfl rfl rfl ⟨rfl, rfl, rfl, rfl, rfl⟩ rfl rfl rfl rfl rfl (by kernel_rfl) Try.func11 (by kernel_rfl)
    (of_decide_eq_true (by kernel_rfl)) (by unfold Func.isWrapper; first | (rw [if_pos (by decide +kernel)]; kernel_rfl) | (rw [if_neg (by decide +kernel)]; exact ⟨rfl, rfl⟩))
    (fun os started H enc _ => lifted os started H enc)

/-- The statement. -/
theorem proved : Rows.FnExactIsBoxSaid :=
  over
#print axioms proved
end Go.Proofs.Ytkgccpbpmclikaa.fnExactIsBox
