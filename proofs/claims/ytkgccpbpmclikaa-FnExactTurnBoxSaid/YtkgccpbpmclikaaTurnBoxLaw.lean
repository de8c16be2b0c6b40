/- The law FnExactTurnBox holds at every input. The step from the walk to the row follows the guide's own template. -/
import Derived.Test.YtkgccpbpmclikaaMem
import Derived.Test.YtkgccpbpmclikaaTb
import Derived.Test.YtkgccpbpmclikaaTb3
import Derived.Test.YtkgccpbpmclikaaTb4
namespace Go.Proofs.Ytkgccpbpmclikaa.fnExactTurnBox
open Go.ChangeShapes Go.WideShapes Go.ChangeAt Go.RowKit Go.WideMaps Go.WideElems Go.Proofs.Ytkgccpbpmclikaa.Mem
open Go.ChangeMaps (open_string shut_string)
set_option linter.unusedVariables false

theorem own : ownKnob Try.prog.godebug = none := by kernel_rfl
theorem laidOut : laidOutB Try.prog = true := by kernel_rfl

open Go.Proofs.Ytkgccpbpmclikaa.Cm Go.Proofs.Ytkgccpbpmclikaa.Pl Go.Proofs.Ytkgccpbpmclikaa.Str Go.Proofs.Ytkgccpbpmclikaa.Pw Go.Proofs.Ytkgccpbpmclikaa.P2 Go.Proofs.Ytkgccpbpmclikaa.Bx Go.Proofs.Ytkgccpbpmclikaa.Tb

/-- Both answer alike: the turned box, or nothing. -/
theorem alike (x y z u n : Int) : ∃ q1 q2 q3 q4 : Int,
    (∀ w, Calls Try.prog 45 #[box4 x y z u, .int .i64 n] w fun e w' => e = .returned (box4 q1 q2 q3 q4) ∧ Below w.heap.size w w') ∧
    (∀ w, Calls Try.prog 44 #[box4 x y z u, .int .i64 n] w fun e w' => e = .returned (box4 q1 q2 q3 q4) ∧ Below w.heap.size w w') := by
  cases h : bx x y z u
  · exact ⟨0, 0, 0, 0, turnBoxI_no n h, turnBoxS_no n h⟩
  · have hp : (ms x && ms y) = true := by
      unfold bx at h
      cases hp : (ms x && ms y)
      · rw [hp] at h; simp at h
      · rfl
    have hq : (ms z && ms u) = true := by
      unfold bx at h
      cases hq : (ms z && ms u)
      · rw [hq] at h; simp at h
      · rfl
    exact ⟨_, _, _, _, turnBoxI n hp hq h, turnBoxS n hp hq h⟩

set_option maxHeartbeats 2000000 in
theorem walk (x0 y0 z0 u0 : Int) (wx0 : (Lit.int .i64 x0).wf = true) (wy0 : (Lit.int .i64 y0).wf = true) (wz0 : (Lit.int .i64 z0).wf = true) (wu0 : (Lit.int .i64 u0).wf = true) (a1 : Int) (w1 : (Lit.int .i64 a1).wf = true) (w : World) :
    Calls Try.prog 14 #[bv x0 y0 z0 u0, .int .i64 a1] w fun e w' => e = .returned (.bool true) ∧ Below w.heap.size w w' := by
  unfold bv
  have T := Lib.hid (toBox x0 y0 z0 u0)
  obtain ⟨q1, q2, q3, q4, ci, cs⟩ := alike x0 y0 z0 u0 a1
  have CS := Lib.hid cs
  have CI := Lib.hid ci
  have EQ := Lib.hid (eqBox q1 q2 q3 q4)
  clear wx0 wy0 wz0 wu0 cs ci
  go_enter Try.func14, Try.ntmps14
  go_wp2_with fail
  refine (T.out _).mono ?_
  rintro e v1 ⟨rfl, hb⟩
  have B1 : Below w.heap.size w v1 := Below.trans (by go_grown) (hb.mono (by go_size))
  have m1 : v1.cell? ⟨w.heap.size, 0, none⟩ = some (.int .i64 x0) := cell_below hb (by simp [go_sem])
  have m2 : v1.cell? ⟨w.heap.size, 1, none⟩ = some (.int .i64 y0) := cell_below hb (by simp [go_sem])
  have m3 : v1.cell? ⟨w.heap.size, 2, none⟩ = some (.int .i64 z0) := cell_below hb (by simp [go_sem])
  have m4 : v1.cell? ⟨w.heap.size, 3, none⟩ = some (.int .i64 u0) := cell_below hb (by simp [go_sem])
  clear hb
  go_wp2_with fail
  refine (CS.out _).mono ?_
  rintro e v2 ⟨rfl, hb⟩
  have B2 : Below w.heap.size w v2 := B1.trans (hb.mono B1.size)
  have n1 := cell_below hb m1
  have n2 := cell_below hb m2
  have n3 := cell_below hb m3
  have n4 := cell_below hb m4
  have l1 : w.heap.size < v2.heap.size := World.block_lt_of_cell? _ _ n1
  have l2 : ∀ j, w.heap.size < v2.heap.size + j := fun j => by omega
  clear hb m1 m2 m3 m4
  go_wp2_with fail
  refine (T.out _).mono ?_
  rintro e v3 ⟨rfl, hb⟩
  have B3 : Below w.heap.size w v3 := B2.trans (Below.trans (by have := B2.size; go_grown) (hb.mono (by have := B2.size; simp; omega)))
  have k1 : v3.cell? ⟨v2.heap.size, 0, none⟩ = some (.int .i64 q1) := cell_below hb (by simp [go_sem])
  have k2 : v3.cell? ⟨v2.heap.size, 1, none⟩ = some (.int .i64 q2) := cell_below hb (by simp [go_sem])
  have k3 : v3.cell? ⟨v2.heap.size, 2, none⟩ = some (.int .i64 q3) := cell_below hb (by simp [go_sem])
  have k4 : v3.cell? ⟨v2.heap.size, 3, none⟩ = some (.int .i64 q4) := cell_below hb (by simp [go_sem])
  clear hb n1 n2 n3 n4 l1 l2
  go_wp2_with fail
  refine (CI.out _).mono ?_
  rintro e v4 ⟨rfl, hb⟩
  have B4 : Below w.heap.size w v4 := B3.trans (hb.mono B3.size)
  have j1 := cell_below hb k1
  have j2 := cell_below hb k2
  have j3 := cell_below hb k3
  have j4 := cell_below hb k4
  have l1 : v2.heap.size < v4.heap.size := World.block_lt_of_cell? _ _ j1
  have l2 : ∀ j, v2.heap.size < v4.heap.size + j := fun j => by omega
  clear hb k1 k2 k3 k4
  go_wp2_with fail
  refine (EQ.out _).mono ?_
  rintro e v5 ⟨rfl, hb⟩
  have B5 : Below w.heap.size w v5 := B4.trans (Below.trans (by have := B4.size; go_grown) (hb.mono (by have := B4.size; simp; omega)))
  clear hb
  go_wp2_with fail
  all_goals go_returns
  all_goals exact ⟨rfl, B5⟩

set_option maxRecDepth 100000 in
theorem lifted (os : Os) (started : os.Started) (H : Type) (enc : TypeId × Value → H) :
    ReturnsInHanded {} Try.checked os 14 .any (Rows.fnExactTurnBoxSpec.pre6 enc Try.prog Try.f14 Rows.fnExactTurnBoxRow.domain false) (Rows.fnExactTurnBoxSpec.post enc Try.prog Try.f14 false true false false) := by
  refine returnsInHanded_of_change (C := Try.checked) own started (by kernel_rfl) Try.func14
    (ChangeSpec.witness6 (enc := enc) (C := Try.checked) false ⟨#[], #[.agg #[.int .i64 0, .int .i64 0, .int .i64 0, .int .i64 0], .int .i64 0], []⟩ 8 (by kernel_rfl) (by kernel_rfl) (by kernel_rfl) (by kernel_rfl)) ?_
  intro W base args ds gs before hval0 hW hcnd hsz
  have hval : ∀ (j : Nat) t v, Try.f14.params[j]? = some t → args[j]? = some v → Value.okWide Try.prog W .any base t v := hval0
  have hW' := hW
  obtain ⟨p, q, hA0, hV, rfl, hfz, hnd⟩ := hW
  have hA1 := hA0
  have hA : DataW.TrodAll enc Try.prog W 0 (fun _ => true) true Try.f14.params.toList args.toList ds p := hA0
  rw [Try.params14] at hA hval
  obtain ⟨v0, vs0, d0, ds0, p0, q0, hargs, rfl, rfl, h0, r0⟩ := trodAll_cons hA
  obtain ⟨v1, vs1, d1, ds1, p1, q1, rfl, rfl, rfl, h1, r1⟩ := trodAll_cons r0
  obtain ⟨rfl, rfl, rfl⟩ := trodAll_nil r1
  obtain rfl : args = #[v0, v1] := by cases args; simp_all
  obtain ⟨rfl, rfl⟩ := trodVars_none hV
  obtain ⟨x0, y0, z0, u0, rfl, wx0, wy0, wz0, wu0⟩ := Str.take_box Try.underlying43 (by kernel_rfl) rfl rfl rfl rfl Try.underlying23 (by kernel_rfl) (by kernel_rfl) Try.underlying3 Try.underlying3 (hval 0 43 v0 rfl rfl) h0
  obtain ⟨a1, rfl, rfl, rfl, w1⟩ := open_int Try.underlying3 (hval 1 3 v1 rfl rfl) h1
  clear hA0 hval0
  rw [List.append_nil] at hW'
  refine (walk x0 y0 z0 u0 wx0 wy0 wz0 wu0 a1 w1 W).mono fun e W' ⟨he, hb⟩ => ?_
  subst he
  exact ⟨_, rfl, post_law rfl hW' hA1 laidOut (by rw [Try.params14]; exact of_decide_eq_true (by kernel_rfl)) 4 (by kernel_rfl) Try.underlying4 rfl hb⟩

theorem over : Rows.fnExactTurnBoxRow.holds Try.pinned (OpenSpec.ofChange Rows.fnExactTurnBoxSpec) :=
  OpenClaim.holds_of_wide 14 Try.f14 rfl rfl rfl rfl rfl rfl rfl ⟨rfl, rfl, rfl, rfl, rfl⟩ rfl rfl rfl rfl rfl (by kernel_rfl) Try.func14 (by kernel_rfl)
    (of_decide_eq_true (by kernel_rfl)) (by unfold Func.isWrapper; first | (rw [if_pos (by decide +kernel)]; kernel_rfl) | (rw [if_neg (by decide +kernel)]; exact ⟨rfl, rfl⟩))
    (fun os started H enc _ => lifted os started H enc)

/-- The statement. -/
theorem proved : Rows.FnExactTurnBoxSaid :=
  over
#print axioms proved
end Go.Proofs.Ytkgccpbpmclikaa.fnExactTurnBox
