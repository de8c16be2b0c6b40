/- The law FnExactTurnJet holds at every input. The step from the walk to the row follows the guide's own template. -/
import Derived.Test.YtbbdbmelohaonaaMem
import Derived.Test.YtbbdbmelohaonaaTj
import Derived.Test.YtbbdbmelohaonaaTs
namespace Go.Proofs.Ytbbdbmelohaonaa.fnExactTurnJet
open Go.ChangeShapes Go.WideShapes Go.ChangeAt Go.RowKit Go.WideMaps Go.WideElems Go.Proofs.Ytbbdbmelohaonaa.Mem
open Go.ChangeMaps (open_string shut_string)
set_option linter.unusedVariables false
set_option linter.unusedSimpArgs false

theorem own : ownKnob Try.prog.godebug = none := by kernel_rfl
theorem laidOut : laidOutB Try.prog = true := by kernel_rfl

open Go.Proofs.Ytbbdbmelohaonaa.Cm Go.Proofs.Ytbbdbmelohaonaa.Pl Go.Proofs.Ytbbdbmelohaonaa.Str Go.Proofs.Ytbbdbmelohaonaa.Pw Go.Proofs.Ytbbdbmelohaonaa.P2 Go.Proofs.Ytbbdbmelohaonaa.Hd Go.Proofs.Ytbbdbmelohaonaa.Jt Go.Proofs.Ytbbdbmelohaonaa.Dp Go.Proofs.Ytbbdbmelohaonaa.Dr4

set_option maxHeartbeats 2000000 in
set_option maxRecDepth 100000 in
theorem walk (jx0 jy0 jh0 jt0 jl0 : Int) (wx0 : (Lit.int .i64 jx0).wf = true) (wy0 : (Lit.int .i64 jy0).wf = true) (wh0 : (Lit.int .i64 jh0).wf = true) (wt0 : (Lit.int .i64 jt0).wf = true) (wl0 : (Lit.int .i64 jl0).wf = true) (a1 : Int) (w1 : (Lit.int .i64 a1).wf = true) (w : World) :
    Calls Try.prog 12 #[jv' jx0 jy0 jh0 jt0 jl0, .int .i64 a1] w fun e w' => e = .returned (.bool true) ∧ Below w.heap.size w w' := by
  have CS := turnJetS jx0 jy0 jh0 jt0 jl0 a1
  have CI := turnJetI jx0 jy0 jh0 jt0 jl0 a1
  obtain ⟨X, Y, H, T, Lf, e⟩ : ∃ X Y H T Lf, turnV jx0 jy0 jh0 jt0 jl0 a1 = jv X Y H T Lf := by
    unfold turnV; split <;> exact ⟨_, _, _, _, _, rfl⟩
  rw [e] at CS CI
  clear e
  replace CS := Lib.hid CS
  replace CI := Lib.hid CI
  have TJ := Lib.hid (toJet jx0 jy0 jh0 jt0 jl0)
  have EQ := Lib.hid (eqJet X Y H T Lf)
  clear wx0 wy0 wh0 wt0 wl0 w1
  go_enter Try.func12, Try.ntmps12
  go_wp2_with fail
  refine (TJ.out _).mono ?_
  rintro e v1 ⟨rfl, hb⟩
  have HJ := Lib.hid (J5.below (J5.new w jx0 jy0 jh0 jt0 jl0 25) hb)
  have HB := Lib.hid (show Below w.heap.size w v1 from Below.trans (by go_grown) (hb.mono (by go_size)))
  clear hb
  go_wp2_with fail
  refine (CS.out _).mono ?_
  rintro e v2 ⟨rfl, hb⟩
  have HJ := Lib.hid (J5.below HJ.out hb)
  have HB := Lib.hid (HB.out.trans (hb.mono HB.out.size))
  clear hb
  obtain ⟨j0, j1, j2, j3, j4⟩ := HJ.out
  have hsz := HB.out.size
  have q1 : w.heap.size < v2.heap.size := World.block_lt_of_cell? v2 _ j0
  have q2 : ∀ j, w.heap.size < v2.heap.size + j := fun j => by omega
  go_wp2_with fail
  refine (TJ.out _).mono ?_
  rintro e v3 ⟨rfl, hb⟩
  have RC := Lib.hid (JB.below (JB.new v2 X Y H T Lf) hb)
  have HB := Lib.hid (show Below w.heap.size w v3 from HB.out.trans (Below.trans (by go_grown) (hb.mono (by go_size))))
  clear hb j0 j1 j2 j3 j4 hsz q1 q2
  go_wp2_with fail
  refine (CI.out _).mono ?_
  rintro e v4 ⟨rfl, hb⟩
  have RC := Lib.hid (JB.below RC.out hb)
  have HB := Lib.hid (HB.out.trans (hb.mono HB.out.size))
  obtain ⟨r0, r1, r2, r3, r4⟩ := RC.out.c
  have rl := RC.out.lt
  have hsz := HB.out.size
  have rm : ∀ j, v2.heap.size < v4.heap.size + j := fun j => Nat.lt_of_lt_of_le rl (Nat.le_add_right _ j)
  clear hb
  go_wp2_with fail
  refine (EQ.out _).mono ?_
  rintro e v5 ⟨rfl, hb⟩
  have HB := Lib.hid (show Below w.heap.size w v5 from HB.out.trans (Below.trans (by go_grown) (hb.mono (by go_size))))
  clear hb r0 r1 r2 r3 r4 rl rm
  go_wp2_with fail
  all_goals go_returns
  all_goals exact ⟨rfl, HB.out⟩

set_option maxRecDepth 100000 in
theorem lifted (os : Os) (started : os.Started) (H : Type) (enc : TypeId × Value → H) :
    ReturnsInHanded {} Try.checked os 12 .any (Rows.fnExactTurnJetSpec.pre6 enc Try.prog Try.f12 Rows.fnExactTurnJetRow.domain false) (Rows.fnExactTurnJetSpec.post enc Try.prog Try.f12 false true false false) := by
  refine returnsInHanded_of_change (C := Try.checked) own started (by kernel_rfl) Try.func12
    (ChangeSpec.witness6 (enc := enc) (C := Try.checked) false ⟨#[], #[.agg #[.int .i64 0, .int .i64 0, .int .i64 0, .int .i64 0, .int .i64 0], .int .i64 0], []⟩ 8 (by kernel_rfl) (by kernel_rfl) (by kernel_rfl) (by kernel_rfl)) ?_
  intro W base args ds gs before hval0 hW hcnd hsz
  have hval : ∀ (j : Nat) t v, Try.f12.params[j]? = some t → args[j]? = some v → Value.okWide Try.prog W .any base t v := hval0
  have hW' := hW
  obtain ⟨p, q, hA0, hV, rfl, hfz, hnd⟩ := hW
  have hA1 := hA0
  have hA : DataW.TrodAll enc Try.prog W 0 (fun _ => true) true Try.f12.params.toList args.toList ds p := hA0
  rw [Try.params12] at hA hval
  obtain ⟨v0, vs0, d0, ds0, p0, q0, hargs, rfl, rfl, h0, r0⟩ := trodAll_cons hA
  obtain ⟨v1, vs1, d1, ds1, p1, q1, rfl, rfl, rfl, h1, r1⟩ := trodAll_cons r0
  obtain ⟨rfl, rfl, rfl⟩ := trodAll_nil r1
  obtain rfl : args = #[v0, v1] := by cases args; simp_all
  obtain ⟨rfl, rfl⟩ := trodVars_none hV
  obtain ⟨jx0, jy0, jh0, jt0, jl0, rfl, wx0, wy0, wh0, wt0, wl0⟩ := Str.take_jet Try.underlying25 (by kernel_rfl) rfl rfl rfl rfl rfl (by kernel_rfl) (by kernel_rfl) (by kernel_rfl) Try.underlying3 Try.underlying3 Try.underlying3 Try.underlying23 (by kernel_rfl) (by kernel_rfl) Try.underlying3 Try.underlying3 (hval 0 25 v0 rfl rfl) h0
  obtain ⟨a1, rfl, rfl, rfl, w1⟩ := open_int Try.underlying3 (hval 1 3 v1 rfl rfl) h1
  clear hA0 hval0
  rw [List.append_nil] at hW'
  refine (walk jx0 jy0 jh0 jt0 jl0 wx0 wy0 wh0 wt0 wl0 a1 w1 W).mono fun e W' ⟨he, hb⟩ => ?_
  subst he
  exact ⟨_, rfl, post_law rfl hW' hA1 laidOut (by rw [Try.params12]; exact of_decide_eq_true (by kernel_rfl)) 4 (by kernel_rfl) Try.underlying4 rfl hb⟩

theorem over : Rows.fnExactTurnJetRow.holds Try.pinned (OpenSpec.ofChange Rows.fnExactTurnJetSpec) :=
  OpenClaim.holds_of_wide 12 Try.f12 rfl rfl rfl rfl rfl rfl rfl ⟨rfl, rfl, rfl, rfl, rfl⟩ rfl rfl rfl rfl rfl (by kernel_rfl) Try.func12 (by kernel_rfl)
    (of_decide_eq_true (by kernel_rfl)) (by unfold Func.isWrapper; first | (rw [if_pos (by decide +kernel)]; kernel_rfl) | (rw [if_neg (by decide +kernel)]; exact ⟨rfl, rfl⟩))
    (fun os started H enc _ => lifted os started H enc)

/-- The statement. -/
theorem proved : Rows.FnExactTurnJetSaid :=
  over
#print axioms proved
end Go.Proofs.Ytbbdbmelohaonaa.fnExactTurnJet
