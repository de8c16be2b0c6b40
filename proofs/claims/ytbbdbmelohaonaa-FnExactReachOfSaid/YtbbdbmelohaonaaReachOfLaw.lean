/- The law FnExactReachOf holds at every input. The step from the walk to the row follows the guide's own template. -/
import Derived.Test.YtbbdbmelohaonaaMem
import Derived.Test.YtbbdbmelohaonaaTj
import Derived.Test.YtbbdbmelohaonaaJl
import Derived.Test.YtbbdbmelohaonaaFuh
namespace Go.Proofs.Ytbbdbmelohaonaa.fnExactReachOf
open Go.ChangeShapes Go.WideShapes Go.ChangeAt Go.RowKit Go.WideMaps Go.WideElems Go.Proofs.Ytbbdbmelohaonaa.Mem
open Go.ChangeMaps (open_string shut_string)
set_option linter.unusedVariables false
set_option linter.unusedSimpArgs false

theorem own : ownKnob Try.prog.godebug = none := by kernel_rfl
theorem laidOut : laidOutB Try.prog = true := by kernel_rfl

open Go.Proofs.Ytbbdbmelohaonaa.Cm Go.Proofs.Ytbbdbmelohaonaa.Pl Go.Proofs.Ytbbdbmelohaonaa.Str Go.Proofs.Ytbbdbmelohaonaa.Pw Go.Proofs.Ytbbdbmelohaonaa.P2 Go.Proofs.Ytbbdbmelohaonaa.Hd Go.Proofs.Ytbbdbmelohaonaa.Jt Go.Proofs.Ytbbdbmelohaonaa.Dp

set_option maxHeartbeats 2000000 in
set_option maxRecDepth 100000 in
theorem walk (jx0 jy0 jh0 jt0 jl0 : Int) (wx0 : (Lit.int .i64 jx0).wf = true) (wy0 : (Lit.int .i64 jy0).wf = true) (wh0 : (Lit.int .i64 jh0).wf = true) (wt0 : (Lit.int .i64 jt0).wf = true) (wl0 : (Lit.int .i64 jl0).wf = true) (w : World) :
    Calls Try.prog 9 #[jv' jx0 jy0 jh0 jt0 jl0] w fun e w' => e = .returned (.bool true) ∧ Below w.heap.size w w' := by
  have CS := reachS jx0 jy0 jh0 jt0 jl0
  have CI := reachI jx0 jy0 jh0 jt0 jl0
  generalize rc jx0 jy0 jh0 jt0 jl0 = R at *
  replace CS := Lib.hid CS
  replace CI := Lib.hid CI
  have T := Lib.hid (toJet jx0 jy0 jh0 jt0 jl0)
  clear wx0 wy0 wh0 wt0 wl0
  go_enter Try.func9, Try.ntmps9
  go_wp2_with fail
  refine (T.out _).mono ?_
  rintro e v1 ⟨rfl, hb⟩
  have HJ := Lib.hid (J5.below (J5.new w jx0 jy0 jh0 jt0 jl0 25) hb)
  have HB := Lib.hid (show Below w.heap.size w v1 from Below.trans (by go_grown) (hb.mono (by go_size)))
  clear hb
  go_wp2_with fail
  refine (CS.out _).mono ?_
  rintro e v2 ⟨rfl, hb⟩
  have HJ := Lib.hid (J5.below HJ.out hb)
  have HB := Lib.hid (HB.out.trans (hb.mono HB.out.size))
  clear hb
  obtain ⟨j0, j1, j2, j3, j4⟩ := HJ.out
  have hsz := HB.out.size
  have q1 : w.heap.size < v2.heap.size := World.block_lt_of_cell? v2 _ j0
  have q2 : ∀ j, w.heap.size < v2.heap.size + j := fun j => by omega
  go_wp2_with fail
  refine (T.out _).mono ?_
  rintro e v3 ⟨rfl, hb⟩
  have HJ := Lib.hid (J5.below HJ.out hb)
  have HB := Lib.hid (HB.out.trans (hb.mono HB.out.size))
  clear hb j0 j1 j2 j3 j4 hsz q1 q2
  go_wp2_with fail
  refine (CI.out _).mono ?_
  rintro e v4 ⟨rfl, hb⟩
  have HB := Lib.hid (HB.out.trans (hb.mono HB.out.size))
  clear hb
  go_wp2_with fail
  all_goals go_returns
  all_goals exact ⟨rfl, HB.out⟩

set_option maxRecDepth 100000 in
theorem lifted (os : Os) (started : os.Started) (H : Type) (enc : TypeId × Value → H) :
    ReturnsInHanded {} Try.checked os 9 .any (Rows.fnExactReachOfSpec.pre6 enc Try.prog Try.f9 Rows.fnExactReachOfRow.domain false) (Rows.fnExactReachOfSpec.post enc Try.prog Try.f9 false true false false) := by
  refine returnsInHanded_of_change (C := Try.checked) own started (by kernel_rfl) Try.func9
    (ChangeSpec.witness6 (enc := enc) (C := Try.checked) false ⟨#[], #[.agg #[.int .i64 0, .int .i64 0, .int .i64 0, .int .i64 0, .int .i64 0]], []⟩ 8 (by kernel_rfl) (by kernel_rfl) (by kernel_rfl) (by kernel_rfl)) ?_
  intro W base args ds gs before hval0 hW hcnd hsz
  have hval : ∀ (j : Nat) t v, Try.f9.params[j]? = some t → args[j]? = some v → Value.okWide Try.prog W .any base t v := hval0
  have hW' := hW
  obtain ⟨p, q, hA0, hV, rfl, hfz, hnd⟩ := hW
  have hA1 := hA0
  have hA : DataW.TrodAll enc Try.prog W 0 (fun _ => true) true Try.f9.params.toList args.toList ds p := hA0
  rw [Try.params9] at hA hval
  obtain ⟨v0, vs0, d0, ds0, p0, q0, hargs, rfl, rfl, h0, r0⟩ := trodAll_cons hA
  obtain ⟨rfl, rfl, rfl⟩ := trodAll_nil r0
  obtain rfl : args = #[v0] := by cases args; simp_all
  obtain ⟨rfl, rfl⟩ := trodVars_none hV
  obtain ⟨jx0, jy0, jh0, jt0, jl0, rfl, wx0, wy0, wh0, wt0, wl0⟩ := Str.take_jet Try.underlying25 (by kernel_rfl) rfl rfl rfl rfl rfl (by kernel_rfl) (by kernel_rfl) (by kernel_rfl) Try.underlying3 Try.underlying3 Try.underlying3 Try.underlying23 (by kernel_rfl) (by kernel_rfl) Try.underlying3 Try.underlying3 (hval 0 25 v0 rfl rfl) h0
  clear hA0 hval0
  rw [List.append_nil] at hW'
  refine (walk jx0 jy0 jh0 jt0 jl0 wx0 wy0 wh0 wt0 wl0 W).mono fun e W' ⟨he, hb⟩ => ?_
  subst he
  exact ⟨_, rfl, post_law rfl hW' hA1 laidOut (by rw [Try.params9]; exact of_decide_eq_true (by kernel_rfl)) 4 (by kernel_rfl) Try.underlying4 rfl hb⟩

theorem over : Rows.fnExactReachOfRow.holds Try.pinned (OpenSpec.ofChange Rows.fnExactReachOfSpec) :=
  OpenClaim.holds_of_wide 9 Try.f9 rfl rfl rfl rfl rfl rfl rfl ⟨rfl, rfl, rfl, rfl, rfl⟩ rfl rfl rfl rfl rfl (by kernel_rfl) Try.func9 (by kernel_rfl)
    (of_decide_eq_true (by kernel_rfl)) (by unfold Func.isWrapper; first | (rw [if_pos (by decide +kernel)]; kernel_rfl) | (rw [if_neg (by decide +kernel)]; exact ⟨rfl, rfl⟩))
    (fun os started H enc _ => lifted os started H enc)

/-- The statement. -/
theorem proved : Rows.FnExactReachOfSaid :=
  over
#print axioms proved
end Go.Proofs.Ytbbdbmelohaonaa.fnExactReachOf
