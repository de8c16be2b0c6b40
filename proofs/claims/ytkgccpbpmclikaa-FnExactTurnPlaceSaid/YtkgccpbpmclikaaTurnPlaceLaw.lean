/- The law FnExactTurnPlace holds at every input. The step from the walk to the row follows the guide's own template. -/
import Derived.Test.YtkgccpbpmclikaaMem
import Derived.Test.YtkgccpbpmclikaaPw
namespace Go.Proofs.Ytkgccpbpmclikaa.fnExactTurnPlace
open Go.ChangeShapes Go.WideShapes Go.ChangeAt Go.RowKit Go.WideMaps Go.WideElems Go.Proofs.Ytkgccpbpmclikaa.Mem
open Go.ChangeMaps (open_string shut_string)
set_option linter.unusedVariables false

theorem own : ownKnob Try.prog.godebug = none := by kernel_rfl
theorem laidOut : laidOutB Try.prog = true := by kernel_rfl

open Go.Proofs.Ytkgccpbpmclikaa.Cm Go.Proofs.Ytkgccpbpmclikaa.Pl Go.Proofs.Ytkgccpbpmclikaa.Str Go.Proofs.Ytkgccpbpmclikaa.Pw

set_option maxHeartbeats 2000000 in
theorem walk (x0 y0 : Int) (wx0 : (Lit.int .i64 x0).wf = true) (wy0 : (Lit.int .i64 y0).wf = true) (a1 : Int) (w1 : (Lit.int .i64 a1).wf = true) (w : World) :
    Calls Try.prog 6 #[pv x0 y0, .int .i64 a1] w fun e w' => e = .returned (.bool true) ∧ Below w.heap.size w w' := by
  unfold pv
  cases p : ms x0 && ms y0
  · have CS := Lib.hid (isPlaceS_of p)
    have CI := Lib.hid (isPlaceI_of p)
    clear p
    go_enter Try.func6, Try.ntmps6
    go_wp2_with (first
      | (go_at_call 16; refine (toPlace _ _ _).mono ?_; rintro e w' ⟨rfl, rfl⟩)
      | (go_at_call 24; refine (eqPlace _ _ _).mono ?_; rintro e w' ⟨rfl, rfl⟩)
      | (go_at_call 15; refine (CS.out _).mono ?_; rintro e w' ⟨rfl, rfl⟩)
      | (go_at_call 17; refine (CI.out _).mono ?_; rintro e w' ⟨rfl, rfl⟩)
      | (go_at_call 22; go_enter Try.func22, Try.ntmps22)
      | (go_at_call 23; go_enter Try.func23, Try.ntmps23))
    all_goals go_returns
    all_goals exact ⟨rfl, by go_grown⟩
  · obtain ⟨hx, hy⟩ := pl_yes p
    have CS := Lib.hid (isPlaceS_of p)
    have CI := Lib.hid (isPlaceI_of p)
    have L := l2Turn a1 (x := x0) (y := y0) (by omega) (by omega)
    have C := Lib.hid (complexOf x0 y0 (by omega) (by omega))
    have T := turned (n := a1) (by omega) (by omega) (i32_f32 x0) (i32_f32 y0)
    have bx := txle (k := (a1 % 4).toNat) hx hy
    have b_y := tyle (k := (a1 % 4).toNat) hx hy
    generalize tx (a1 % 4).toNat x0 y0 = X at *
    generalize ty (a1 % 4).toNat x0 y0 = Y at *
    have L := Lib.hid L
    have T := Lib.hid T
    have D := Lib.hid (fun re im => toldYes (re := re) (im := im) bx b_y)
    clear p hx hy bx b_y
    go_enter Try.func6, Try.ntmps6
    go_wp2_with (first
      | (go_at_call 16; refine (toPlace _ _ _).mono ?_; rintro e w' ⟨rfl, rfl⟩)
      | (go_at_call 24; refine (eqPlace _ _ _).mono ?_; rintro e w' ⟨rfl, rfl⟩)
      | (go_at_call 15; refine (CS.out _).mono ?_; rintro e w' ⟨rfl, rfl⟩)
      | (go_at_call 17; refine (CI.out _).mono ?_; rintro e w' ⟨rfl, rfl⟩)
      | (go_at_call 50; refine (L.out _).mono ?_; rintro e w' ⟨rfl, rfl⟩)
      | (go_at_call 53; refine (C.out _).mono ?_; rintro e w' ⟨rfl, rfl⟩)
      | (go_at_call 52; refine (T.out _).mono ?_; rintro e w' ⟨re, im, rfl, rfl, i1, i2⟩)
      | (go_at_call 51; refine (D.out _ _ (by assumption) (by assumption) _).mono ?_; rintro e w' ⟨rfl, rfl⟩)
      | (go_at_call 22; go_enter Try.func22, Try.ntmps22)
      | (go_at_call 23; go_enter Try.func23, Try.ntmps23))
    all_goals go_returns
    all_goals exact ⟨rfl, by go_grown⟩

set_option maxRecDepth 100000 in
theorem lifted (os : Os) (started : os.Started) (H : Type) (enc : TypeId × Value → H) :
    ReturnsInHanded {} Try.checked os 6 .any (Rows.fnExactTurnPlaceSpec.pre6 enc Try.prog Try.f6 Rows.fnExactTurnPlaceRow.domain false) (Rows.fnExactTurnPlaceSpec.post enc Try.prog Try.f6 false true false false) := by
  refine returnsInHanded_of_change (C := Try.checked) own started (by kernel_rfl) Try.func6
    (ChangeSpec.witness6 (enc := enc) (C := Try.checked) false ⟨#[], #[.agg #[.int .i64 0, .int .i64 0], .int .i64 0], []⟩ 8 (by kernel_rfl) (by kernel_rfl) (by kernel_rfl) (by kernel_rfl)) ?_
  intro W base args ds gs before hval0 hW hcnd hsz
  have hval : ∀ (j : Nat) t v, Try.f6.params[j]? = some t → args[j]? = some v → Value.okWide Try.prog W .any base t v := hval0
  have hW' := hW
  obtain ⟨p, q, hA0, hV, rfl, hfz, hnd⟩ := hW
  have hA1 := hA0
  have hA : DataW.TrodAll enc Try.prog W 0 (fun _ => true) true Try.f6.params.toList args.toList ds p := hA0
  rw [Try.params6] at hA hval
  obtain ⟨v0, vs0, d0, ds0, p0, q0, hargs, rfl, rfl, h0, r0⟩ := trodAll_cons hA
  obtain ⟨v1, vs1, d1, ds1, p1, q1, rfl, rfl, rfl, h1, r1⟩ := trodAll_cons r0
  obtain ⟨rfl, rfl, rfl⟩ := trodAll_nil r1
  obtain rfl : args = #[v0, v1] := by cases args; simp_all
  obtain ⟨rfl, rfl⟩ := trodVars_none hV
  obtain ⟨x0, y0, rfl, wx0, wy0⟩ := Str.take_place Try.underlying23 (by kernel_rfl) (by kernel_rfl) Try.underlying3 Try.underlying3 (hval 0 23 v0 rfl rfl) h0
  obtain ⟨a1, rfl, rfl, rfl, w1⟩ := open_int Try.underlying3 (hval 1 3 v1 rfl rfl) h1
  clear hA0 hval0
  rw [List.append_nil] at hW'
  refine (walk x0 y0 wx0 wy0 a1 w1 W).mono fun e W' ⟨he, hb⟩ => ?_
  subst he
  exact ⟨_, rfl, post_law rfl hW' hA1 laidOut (by rw [Try.params6]; exact of_decide_eq_true (by kernel_rfl)) 4 (by kernel_rfl) Try.underlying4 rfl hb⟩

theorem over : Rows.fnExactTurnPlaceRow.holds Try.pinned (OpenSpec.ofChange Rows.fnExactTurnPlaceSpec) :=
  OpenClaim.holds_of_wide 6 Try.f6 rfl rfl rfl rfl rfl rfl rfl ⟨rfl, rfl, rfl, rfl, rfl⟩ rfl rfl rfl rfl rfl (by kernel_rfl) Try.func6 (by kernel_rfl)
    (of_decide_eq_true (by kernel_rfl)) (by unfold Func.isWrapper; first | (rw [if_pos (by decide +kernel)]; kernel_rfl) | (rw [if_neg (by decide +kernel)]; exact ⟨rfl, rfl⟩))
    (fun os started H enc _ => lifted os started H enc)

/-- The statement. -/
theorem proved : Rows.FnExactTurnPlaceSaid :=
  over
#print axioms proved
end Go.Proofs.Ytkgccpbpmclikaa.fnExactTurnPlace
