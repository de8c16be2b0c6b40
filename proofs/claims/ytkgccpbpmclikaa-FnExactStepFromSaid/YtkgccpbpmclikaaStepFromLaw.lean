/- The law FnExactStepFrom holds at every input. The step from the walk to the row follows the guide's own template. -/
import Derived.Test.YtkgccpbpmclikaaMem
import Derived.Test.YtkgccpbpmclikaaSf
namespace Go.Proofs.Ytkgccpbpmclikaa.fnExactStepFrom
open Go.ChangeShapes Go.WideShapes Go.ChangeAt Go.RowKit Go.WideMaps Go.WideElems Go.Proofs.Ytkgccpbpmclikaa.Mem
open Go.ChangeMaps (open_string shut_string)
set_option linter.unusedVariables false

theorem own : ownKnob Try.prog.godebug = none := by kernel_rfl
theorem laidOut : laidOutB Try.prog = true := by kernel_rfl

open Go.Proofs.Ytkgccpbpmclikaa.Cm Go.Proofs.Ytkgccpbpmclikaa.Pl Go.Proofs.Ytkgccpbpmclikaa.Str Go.Proofs.Ytkgccpbpmclikaa.Pw Go.Proofs.Ytkgccpbpmclikaa.P2 Go.Proofs.Ytkgccpbpmclikaa.Sf

set_option maxHeartbeats 4000000 in
set_option maxRecDepth 100000 in
theorem walk (x0 y0 : Int) (wx0 : (Lit.int .i64 x0).wf = true) (wy0 : (Lit.int .i64 y0).wf = true) (a1 : Int) (w1 : (Lit.int .i64 a1).wf = true) (a2 : Int) (w2 : (Lit.int .i64 a2).wf = true) (w : World) :
    Calls Try.prog 9 #[pv x0 y0, .int .i64 a1, .int .i64 a2] w fun e w' => e = .returned (.bool true) ∧ Below w.heap.size w w' := by
  unfold pv
  obtain ⟨P, Q, B, CS, CI⟩ := stepBoth x0 y0 a1 a2
  replace CS := Lib.hid CS
  replace CI := Lib.hid CI
  clear w1 w2 wx0 wy0
  go_enter Try.func9, Try.ntmps9
  go_wp2_with (go_at_call 16; refine (toPlace _ _ _).mono ?_; rintro e w' ⟨rfl, rfl⟩)
  refine (CS.out _).mono ?_
  rintro e u ⟨rfl, hb⟩
  have m1 : u.cell? ⟨w.heap.size, 0, none⟩ = some (.int .i64 x0) := cell_below hb (by simp [go_sem])
  have m2 : u.cell? ⟨w.heap.size, 1, none⟩ = some (.int .i64 y0) := cell_below hb (by simp [go_sem])
  have hB : Below w.heap.size w u := Below.trans (by go_grown) (hb.mono (by go_size))
  have hsz := hB.size
  have q1 : w.heap.size < u.heap.size := (World.block_lt_of_cell? u _ m1)
  have q2 : ∀ j, w.heap.size < u.heap.size + j := fun j => by omega
  clear hb
  go_wp2_with (go_at_call 16; refine (toPlace _ _ _).mono ?_; rintro e w' ⟨rfl, rfl⟩)
  refine (CI.out _).mono ?_
  rintro e v ⟨rfl, hb⟩
  have n1 : v.cell? ⟨u.heap.size, 0, none⟩ = some (.int .i64 P) := cell_below hb (by simp [go_sem])
  have n2 : v.cell? ⟨u.heap.size, 1, none⟩ = some (.int .i64 Q) := cell_below hb (by simp [go_sem])
  have hB2 : Below w.heap.size w v := Below.trans (by go_grown) (hb.mono (by go_size))
  have hsz2 := hB2.size
  have p1 : u.heap.size < v.heap.size := (World.block_lt_of_cell? v _ n1)
  have p2 : ∀ j, u.heap.size < v.heap.size + j := fun j => by omega
  clear hb m1 m2 q1 q2
  go_wp2_with (go_at_call 24; refine (eqPlace _ _ _).mono ?_; rintro e w' ⟨rfl, rfl⟩)
  all_goals go_returns
  all_goals exact ⟨rfl, by go_grown⟩

set_option maxRecDepth 100000 in
theorem lifted (os : Os) (started : os.Started) (H : Type) (enc : TypeId × Value → H) :
    ReturnsInHanded {} Try.checked os 9 .any (Rows.fnExactStepFromSpec.pre6 enc Try.prog Try.f9 Rows.fnExactStepFromRow.domain false) (Rows.fnExactStepFromSpec.post enc Try.prog Try.f9 false true false false) := by
  refine returnsInHanded_of_change (C := Try.checked) own started (by kernel_rfl) Try.func9
    (ChangeSpec.witness6 (enc := enc) (C := Try.checked) false ⟨#[], #[.agg #[.int .i64 0, .int .i64 0], .int .i64 0, .int .i64 0], []⟩ 8 (by kernel_rfl) (by kernel_rfl) (by kernel_rfl) (by kernel_rfl)) ?_
  intro W base args ds gs before hval0 hW hcnd hsz
  have hval : ∀ (j : Nat) t v, Try.f9.params[j]? = some t → args[j]? = some v → Value.okWide Try.prog W .any base t v := hval0
  have hW' := hW
  obtain ⟨p, q, hA0, hV, rfl, hfz, hnd⟩ := hW
  have hA1 := hA0
  have hA : DataW.TrodAll enc Try.prog W 0 (fun _ => true) true Try.f9.params.toList args.toList ds p := hA0
  rw [Try.params9] at hA hval
  obtain ⟨v0, vs0, d0, ds0, p0, q0, hargs, rfl, rfl, h0, r0⟩ := trodAll_cons hA
  obtain ⟨v1, vs1, d1, ds1, p1, q1, rfl, rfl, rfl, h1, r1⟩ := trodAll_cons r0
  obtain ⟨v2, vs2, d2, ds2, p2, q2, rfl, rfl, rfl, h2, r2⟩ := trodAll_cons r1
  obtain ⟨rfl, rfl, rfl⟩ := trodAll_nil r2
  obtain rfl : args = #[v0, v1, v2] := by cases args; simp_all
  obtain ⟨rfl, rfl⟩ := trodVars_none hV
  obtain ⟨x0, y0, rfl, wx0, wy0⟩ := Str.take_place Try.underlying23 (by kernel_rfl) (by kernel_rfl) Try.underlying3 Try.underlying3 (hval 0 23 v0 rfl rfl) h0
  obtain ⟨a1, rfl, rfl, rfl, w1⟩ := open_int Try.underlying3 (hval 1 3 v1 rfl rfl) h1
  obtain ⟨a2, rfl, rfl, rfl, w2⟩ := open_int Try.underlying3 (hval 2 3 v2 rfl rfl) h2
  clear hA0 hval0
  rw [List.append_nil] at hW'
  refine (walk x0 y0 wx0 wy0 a1 w1 a2 w2 W).mono fun e W' ⟨he, hb⟩ => ?_
  subst he
  exact ⟨_, rfl, post_law rfl hW' hA1 laidOut (by rw [Try.params9]; exact of_decide_eq_true (by kernel_rfl)) 4 (by kernel_rfl) Try.underlying4 rfl hb⟩

theorem over : Rows.fnExactStepFromRow.holds Try.pinned (OpenSpec.ofChange Rows.fnExactStepFromSpec) :=
  OpenClaim.holds_of_wide 9 Try.f9 rfl rfl rfl rfl rfl rfl rfl ⟨rfl, rfl, rfl, rfl, rfl⟩ rfl rfl rfl rfl rfl (by kernel_rfl) Try.func9 (by kernel_rfl)
    (of_decide_eq_true (by kernel_rfl)) (by unfold Func.isWrapper; first | (rw [if_pos (by decide +kernel)]; kernel_rfl) | (rw [if_neg (by decide +kernel)]; exact ⟨rfl, rfl⟩))
    (fun os started H enc _ => lifted os started H enc)

/-- The statement. -/
theorem proved : Rows.FnExactStepFromSaid :=
  over
#print axioms proved
end Go.Proofs.Ytkgccpbpmclikaa.fnExactStepFrom
