/- The law FnExactInBox holds at every input. The step from the walk to the row follows the guide's own template. -/
import Derived.Test.YtkgccpbpmclikaaMem
import Derived.Test.YtkgccpbpmclikaaBx
import Derived.Deep.DeepCutAuto
namespace Go.Proofs.Ytkgccpbpmclikaa.fnExactInBox
open Go.ChangeShapes Go.WideShapes Go.ChangeAt Go.RowKit Go.WideMaps Go.WideElems Go.Proofs.Ytkgccpbpmclikaa.Mem
open Go.ChangeMaps (open_string shut_string)
set_option linter.unusedVariables false

theorem own : ownKnob Try.prog.godebug = none := by kernel_rfl
theorem laidOut : laidOutB Try.prog = true := by kernel_rfl

open Go.Proofs.Ytkgccpbpmclikaa.Cm Go.Proofs.Ytkgccpbpmclikaa.Pl Go.Proofs.Ytkgccpbpmclikaa.Str Go.Proofs.Ytkgccpbpmclikaa.Pw Go.Proofs.Ytkgccpbpmclikaa.P2 Go.Proofs.Ytkgccpbpmclikaa.Bx

set_option maxHeartbeats 4000000 in
set_option maxRecDepth 100000 in
theorem walk (x0 y0 z0 u0 : Int) (wx0 : (Lit.int .i64 x0).wf = true) (wy0 : (Lit.int .i64 y0).wf = true) (wz0 : (Lit.int .i64 z0).wf = true) (wu0 : (Lit.int .i64 u0).wf = true) (x1 y1 : Int) (wx1 : (Lit.int .i64 x1).wf = true) (wy1 : (Lit.int .i64 y1).wf = true) (w : World) :
    Calls Try.prog 12 #[bv x0 y0 z0 u0, pv x1 y1] w fun e w' => e = .returned (.bool true) ∧ Below w.heap.size w w' := by
  unfold pv bv
  have T := Lib.hid (toBox x0 y0 z0 u0)
  have CS := inBoxS x0 y0 z0 u0 x1 y1
  have CI := inBoxI x0 y0 z0 u0 x1 y1
  generalize ib x0 y0 z0 u0 x1 y1 = R at *
  replace CS := Lib.hid CS
  replace CI := Lib.hid CI
  clear wx0 wy0 wz0 wu0 wx1 wy1
  go_enter Try.func12, Try.ntmps12
  go_upto_region 1 with fail
  go_cut [5] (fun s wx => s = .bool R ∧ Below (((w.alloc (.cells #[.int .i64 x0, .int .i64 y0, .int .i64 z0, .int .i64 u0] 43)).alloc (.cells #[.int .i64 x1, .int .i64 y1] 23))).heap.size ((w.alloc (.cells #[.int .i64 x0, .int .i64 y0, .int .i64 z0, .int .i64 u0] 43)).alloc (.cells #[.int .i64 x1, .int .i64 y1] 23)) wx)
  case first =>
    go_region_with
      (first
        | (go_at_call 16; refine (toPlace _ _ _).mono ?_; rintro e w' ⟨rfl, rfl⟩)
        | (go_at_call 34; refine (T.out _).mono ?_; rintro e v ⟨rfl, hb⟩; have t5 : v.cell? ⟨w.heap.size + 1, 0, none⟩ = some (.int .i64 x1) := (cell_below hb (by simp [go_sem, *])); have t6 : v.cell? ⟨w.heap.size + 1, 1, none⟩ = some (.int .i64 y1) := (cell_below hb (by simp [go_sem, *])); have hB1 : Below (((w.alloc (.cells #[.int .i64 x0, .int .i64 y0, .int .i64 z0, .int .i64 u0] 43)).alloc (.cells #[.int .i64 x1, .int .i64 y1] 23))).heap.size ((w.alloc (.cells #[.int .i64 x0, .int .i64 y0, .int .i64 z0, .int .i64 u0] 43)).alloc (.cells #[.int .i64 x1, .int .i64 y1] 23)) v := (Below.trans (by go_grown) (hb.mono (by go_size))); have hsz1 : (((w.alloc (.cells #[.int .i64 x0, .int .i64 y0, .int .i64 z0, .int .i64 u0] 43)).alloc (.cells #[.int .i64 x1, .int .i64 y1] 23))).heap.size ≤ v.heap.size := hB1.size; (try simp only [World.size_alloc] at hsz1); clear hb)
        | (go_at_call 36; refine (CS.out _).mono ?_; rintro e w' ⟨rfl, hb⟩; have hB : Below (((w.alloc (.cells #[.int .i64 x0, .int .i64 y0, .int .i64 z0, .int .i64 u0] 43)).alloc (.cells #[.int .i64 x1, .int .i64 y1] 23))).heap.size ((w.alloc (.cells #[.int .i64 x0, .int .i64 y0, .int .i64 z0, .int .i64 u0] 43)).alloc (.cells #[.int .i64 x1, .int .i64 y1] 23)) w' := (Below.trans (by go_grown) (hb.mono (by go_size))); clear hb))
    all_goals go_wp2_with fail
    all_goals go_meet
    all_goals exact ⟨rfl, by assumption⟩
  case rest =>
    obtain ⟨rfl, hb⟩ := hcut
    obtain ⟨hc, hf, l1, l2, n1, n2, n3, n4⟩ := open_below hb
    have m1 : wc.cell? ⟨w.heap.size, 0, none⟩ = some (.int .i64 x0) := by simp [go_sem, *]
    have m2 : wc.cell? ⟨w.heap.size, 1, none⟩ = some (.int .i64 y0) := by simp [go_sem, *]
    have m3 : wc.cell? ⟨w.heap.size, 2, none⟩ = some (.int .i64 z0) := by simp [go_sem, *]
    have m4 : wc.cell? ⟨w.heap.size, 3, none⟩ = some (.int .i64 u0) := by simp [go_sem, *]
    have m5 : wc.cell? ⟨w.heap.size + 1, 0, none⟩ = some (.int .i64 x1) := by simp [go_sem, *]
    have m6 : wc.cell? ⟨w.heap.size + 1, 1, none⟩ = some (.int .i64 y1) := by simp [go_sem, *]
    have q1 : w.heap.size < wc.heap.size := l1 _ (by simp; omega)
    have q2 : w.heap.size + 1 < wc.heap.size := l1 _ (by simp)
    have hw : Below w.heap.size w wc := Below.trans (by go_grown) (hb.mono (by go_size))
    have q3 : ∀ j, w.heap.size < wc.heap.size + j := fun j => l2 _ j (by simp; omega)
    have q4 : ∀ j, w.heap.size + 1 < wc.heap.size + j := fun j => l2 _ j (by simp)
    clear hc hf l1 l2 n1 n2 n3 n4 hb
    generalize wc = wa at *
    go_upto_region 2 with fail
    go_cut [6] (fun s wx => s = .bool R ∧ Below wa.heap.size wa wx)
    case first =>
      go_region_with
        (first
          | (go_at_call 16; refine (toPlace _ _ _).mono ?_; rintro e w' ⟨rfl, rfl⟩)
          | (go_at_call 34; refine (T.out _).mono ?_; rintro e v ⟨rfl, hb⟩; have t5 : v.cell? ⟨w.heap.size + 1, 0, none⟩ = some (.int .i64 x1) := (cell_below hb (by simp [go_sem, *])); have t6 : v.cell? ⟨w.heap.size + 1, 1, none⟩ = some (.int .i64 y1) := (cell_below hb (by simp [go_sem, *])); have hB1 : Below (wa).heap.size wa v := (Below.trans (by go_grown) (hb.mono (by go_size))); have hsz1 : (wa).heap.size ≤ v.heap.size := hB1.size; (try simp only [World.size_alloc] at hsz1); clear hb)
          | (go_at_call 37; refine (CI.out _).mono ?_; rintro e w' ⟨rfl, hb⟩; have hB : Below (wa).heap.size wa w' := (Below.trans (by go_grown) (hb.mono (by go_size))); clear hb))
      all_goals go_wp2_with fail
      all_goals go_meet
      all_goals exact ⟨rfl, by assumption⟩
    case rest =>
      obtain ⟨rfl, hb⟩ := hcut
      have hw2 : Below w.heap.size w wc := hw.trans (hb.mono hw.size)
      have hz := hw2.size
      clear hb
      go_wp2_with fail
      all_goals go_returns
      all_goals exact ⟨rfl, by go_grown⟩

set_option maxRecDepth 100000 in
theorem lifted (os : Os) (started : os.Started) (H : Type) (enc : TypeId × Value → H) :
    ReturnsInHanded {} Try.checked os 12 .any (Rows.fnExactInBoxSpec.pre6 enc Try.prog Try.f12 Rows.fnExactInBoxRow.domain false) (Rows.fnExactInBoxSpec.post enc Try.prog Try.f12 false true false false) := by
  refine returnsInHanded_of_change (C := Try.checked) own started (by kernel_rfl) Try.func12
    (ChangeSpec.witness6 (enc := enc) (C := Try.checked) false ⟨#[], #[.agg #[.int .i64 0, .int .i64 0, .int .i64 0, .int .i64 0], .agg #[.int .i64 0, .int .i64 0]], []⟩ 8 (by kernel_rfl) (by kernel_rfl) (by kernel_rfl) (by kernel_rfl)) ?_
  intro W base args ds gs before hval0 hW hcnd hsz
  have hval : ∀ (j : Nat) t v, Try.f12.params[j]? = some t → args[j]? = some v → Value.okWide Try.prog W .any base t v := hval0
  have hW' := hW
  obtain ⟨p, q, hA0, hV, rfl, hfz, hnd⟩ := hW
  have hA1 := hA0
  have hA : DataW.TrodAll enc Try.prog W 0 (fun _ => true) true Try.f12.params.toList args.toList ds p := hA0
  rw [Try.params12] at hA hval
  obtain ⟨v0, vs0, d0, ds0, p0, q0, hargs, rfl, rfl, h0, r0⟩ := trodAll_cons hA
  obtain ⟨v1, vs1, d1, ds1, p1, q1, rfl, rfl, rfl, h1, r1⟩ := trodAll_cons r0
  obtain ⟨rfl, rfl, rfl⟩ := trodAll_nil r1
  obtain rfl : args = #[v0, v1] := by cases args; simp_all
  obtain ⟨rfl, rfl⟩ := trodVars_none hV
  obtain ⟨x0, y0, z0, u0, rfl, wx0, wy0, wz0, wu0⟩ := Str.take_box Try.underlying43 (by kernel_rfl) rfl rfl rfl rfl Try.underlying23 (by kernel_rfl) (by kernel_rfl) Try.underlying3 Try.underlying3 (hval 0 43 v0 rfl rfl) h0
  obtain ⟨x1, y1, rfl, wx1, wy1⟩ := Str.take_place Try.underlying23 (by kernel_rfl) (by kernel_rfl) Try.underlying3 Try.underlying3 (hval 1 23 v1 rfl rfl) h1
  clear hA0 hval0
  rw [List.append_nil] at hW'
  refine (walk x0 y0 z0 u0 wx0 wy0 wz0 wu0 x1 y1 wx1 wy1 W).mono fun e W' ⟨he, hb⟩ => ?_
  subst he
  exact ⟨_, rfl, post_law rfl hW' hA1 laidOut (by rw [Try.params12]; exact of_decide_eq_true (by kernel_rfl)) 4 (by kernel_rfl) Try.underlying4 rfl hb⟩

theorem over : Rows.fnExactInBoxRow.holds Try.pinned (OpenSpec.ofChange Rows.fnExactInBoxSpec) :=
  OpenClaim.holds_of_wide 12 Try.f12 rfl rfl rfl rfl rfl rfl rfl ⟨rfl, rfl, rfl, rfl, rfl⟩ rfl rfl rfl rfl rfl (by kernel_rfl) Try.func12 (by kernel_rfl)
    (of_decide_eq_true (by kernel_rfl)) (by unfold Func.isWrapper; first | (rw [if_pos (by decide +kernel)]; kernel_rfl) | (rw [if_neg (by decide +kernel)]; exact ⟨rfl, rfl⟩))
    (fun os started H enc _ => lifted os started H enc)

/-- The statement. -/
theorem proved : Rows.FnExactInBoxSaid :=
  over
#print axioms proved
end Go.Proofs.Ytkgccpbpmclikaa.fnExactInBox
