/- The law FnExactTurnAbout holds at every input. The step from the walk to the row follows the guide's own template. -/
import Derived.Test.YtkgccpbpmclikaaMem
import Derived.Test.YtkgccpbpmclikaaP3
import Derived.Deep.DeepCutAuto
namespace Go.Proofs.Ytkgccpbpmclikaa.fnExactTurnAbout
open Go.ChangeShapes Go.WideShapes Go.ChangeAt Go.RowKit Go.WideMaps Go.WideElems Go.Proofs.Ytkgccpbpmclikaa.Mem
open Go.ChangeMaps (open_string shut_string)
set_option linter.unusedVariables false

theorem own : ownKnob Try.prog.godebug = none := by kernel_rfl
theorem laidOut : laidOutB Try.prog = true := by kernel_rfl

open Go.Proofs.Ytkgccpbpmclikaa.Cm Go.Proofs.Ytkgccpbpmclikaa.Pl Go.Proofs.Ytkgccpbpmclikaa.Str Go.Proofs.Ytkgccpbpmclikaa.Pw Go.Proofs.Ytkgccpbpmclikaa.P2 Go.Proofs.Ytkgccpbpmclikaa.P3

set_option maxHeartbeats 4000000 in
set_option maxRecDepth 100000 in
theorem walk (x0 y0 : Int) (wx0 : (Lit.int .i64 x0).wf = true) (wy0 : (Lit.int .i64 y0).wf = true) (x1 y1 : Int) (wx1 : (Lit.int .i64 x1).wf = true) (wy1 : (Lit.int .i64 y1).wf = true) (a2 : Int) (w2 : (Lit.int .i64 a2).wf = true) (w : World) :
    Calls Try.prog 7 #[pv x0 y0, pv x1 y1, .int .i64 a2] w fun e w' => e = .returned (.bool true) ∧ Below w.heap.size w w' := by
  unfold pv
  obtain ⟨P, Q, B, CS, CI⟩ := aboutBoth x0 y0 x1 y1 a2
  replace CS := Lib.hid CS
  replace CI := Lib.hid CI
  go_enter Try.func7, Try.ntmps7
  go_upto_region 1 with fail
  go_cut [7, 8] (fun s t wx => ∃ k : Nat, s = .pointer (some ⟨k, 0, none⟩) ∧ t = .bool B ∧ Lay ((w.alloc (.cells #[.int .i64 x0, .int .i64 y0] 23)).alloc (.cells #[.int .i64 x1, .int .i64 y1] 23)) wx k P Q)
  case first =>
    go_region_held3 (fun w' => w'.cell? ⟨w.heap.size, 0, none⟩ = some (.int .i64 x0) ∧ w'.cell? ⟨w.heap.size, 1, none⟩ = some (.int .i64 y0) ∧ w'.cell? ⟨w.heap.size + 1, 0, none⟩ = some (.int .i64 x1) ∧ w'.cell? ⟨w.heap.size + 1, 1, none⟩ = some (.int .i64 y1)) (first | (simp [go_sem, *]; done) | (refine ⟨?_, ?_, ?_, ?_⟩ <;> (refine cell_alloc ?_) <;> (simp [go_sem, *]; done)))
      (first
        | (go_at_call 16; refine (toPlace _ _ _).mono ?_; rintro e w' ⟨rfl, rfl⟩)
        | (go_at_call 25; refine (CS.out _).mono ?_; rintro e w' ⟨rfl, hb⟩; obtain ⟨hc, hf, l1, l2, n1, n2, n3, n4⟩ := open_below hb; have hB : Below (((w.alloc (.cells #[.int .i64 x0, .int .i64 y0] 23)).alloc (.cells #[.int .i64 x1, .int .i64 y1] 23))).heap.size ((w.alloc (.cells #[.int .i64 x0, .int .i64 y0] 23)).alloc (.cells #[.int .i64 x1, .int .i64 y1] 23)) w' := Below.trans (by go_grown) (hb.mono (by go_size)); have hsz := hB.size; have HS := Lib.hid hb.size; clear hb))
    all_goals go_wp2_with fail
    all_goals go_meet
    all_goals refine ⟨_, rfl, rfl, ⟨?_, ?_, ?_, ?_, ?_⟩⟩
    all_goals first | (go_grown; done) | (simp [go_sem, *]; done) | (have h9 := HS.out; simp at h9 ⊢; omega) | ((first | refine set2_0 ?_ | refine set2_1 ?_); rw [hc _ (by first | (simp; done) | (simp; omega))]; first | (simp [go_sem, *]; done) | (simp (disch := first | omega | (simp; omega)) [go_sem, *]; done))
  case rest =>
    obtain ⟨k, rfl, rfl, hb, ho, hn, c0, c1⟩ := hcut
    obtain ⟨hc, hf, l1, l2, n1, n2, n3, n4⟩ := open_below hb
    have m1 : wc.cell? ⟨w.heap.size, 0, none⟩ = some (.int .i64 x0) := by simp [go_sem, *]
    have m2 : wc.cell? ⟨w.heap.size, 1, none⟩ = some (.int .i64 y0) := by simp [go_sem, *]
    have m3 : wc.cell? ⟨w.heap.size + 1, 0, none⟩ = some (.int .i64 x1) := by simp [go_sem, *]
    have m4 : wc.cell? ⟨w.heap.size + 1, 1, none⟩ = some (.int .i64 y1) := by simp [go_sem, *]
    have q1 : w.heap.size < wc.heap.size := l1 _ (by simp; omega)
    have q2 : w.heap.size + 1 < wc.heap.size := l1 _ (by simp)
    have hw : Below w.heap.size w wc := Below.trans (by go_grown) (hb.mono (by go_size))
    have q3 : ∀ j, w.heap.size < wc.heap.size + j := fun j => l2 _ j (by simp; omega)
    have q4 : ∀ j, w.heap.size + 1 < wc.heap.size + j := fun j => l2 _ j (by simp)
    clear hc hf l1 l2 n1 n2 n3 n4 ho hb
    generalize wc = wa at *
    go_upto_region 2 with fail
    go_cut [9, 10] (fun s t wx => ∃ k : Nat, s = .pointer (some ⟨k, 0, none⟩) ∧ t = .bool B ∧ Lay wa wx k P Q)
    case first =>
      go_region_held3 (fun w' => w'.cell? ⟨w.heap.size, 0, none⟩ = some (.int .i64 x0) ∧ w'.cell? ⟨w.heap.size, 1, none⟩ = some (.int .i64 y0) ∧ w'.cell? ⟨w.heap.size + 1, 0, none⟩ = some (.int .i64 x1) ∧ w'.cell? ⟨w.heap.size + 1, 1, none⟩ = some (.int .i64 y1)) (first | (simp [go_sem, *]; done) | (refine ⟨?_, ?_, ?_, ?_⟩ <;> (refine cell_alloc ?_) <;> (simp [go_sem, *]; done)))
        (first
          | (go_at_call 16; refine (toPlace _ _ _).mono ?_; rintro e w' ⟨rfl, rfl⟩)
          | (go_at_call 26; refine (CI.out _).mono ?_; rintro e w' ⟨rfl, hb⟩; obtain ⟨hc, hf, l1, l2, n1, n2, n3, n4⟩ := open_below hb; have hB : Below (wa).heap.size wa w' := Below.trans (by go_grown) (hb.mono (by go_size)); have hsz := hB.size; have HS := Lib.hid hb.size; clear hb))
      all_goals go_wp2_with fail
      all_goals go_meet
      all_goals refine ⟨_, rfl, rfl, ⟨?_, ?_, ?_, ?_, ?_⟩⟩
      all_goals first | (go_grown; done) | (simp [go_sem, *]; done) | (have h9 := HS.out; simp at h9 ⊢; omega) | ((first | refine set2_0 ?_ | refine set2_1 ?_); rw [hc _ (by first | (simp; done) | (simp; omega))]; first | (simp [go_sem, *]; done) | (simp (disch := first | omega | (simp; omega)) [go_sem, *]; done))
    case rest =>
      obtain ⟨k', rfl, rfl, hb, ho, hn', d0, d1⟩ := hcut
      have e0 := cell_below hb c0
      have e1 := cell_below hb c1
      have hw2 : Below w.heap.size w wc := hw.trans (hb.mono hw.size)
      have hz := hw2.size
      clear hb ho
      go_wp2_with (go_at_call 24; refine (eqPlace _ _ _).mono ?_; rintro e w' ⟨rfl, rfl⟩)
      all_goals go_returns
      all_goals exact ⟨rfl, by go_grown⟩

set_option maxRecDepth 100000 in
theorem lifted (os : Os) (started : os.Started) (H : Type) (enc : TypeId × Value → H) :
    ReturnsInHanded {} Try.checked os 7 .any (Rows.fnExactTurnAboutSpec.pre6 enc Try.prog Try.f7 Rows.fnExactTurnAboutRow.domain false) (Rows.fnExactTurnAboutSpec.post enc Try.prog Try.f7 false true false false) := by
  refine returnsInHanded_of_change (C := Try.checked) own started (by kernel_rfl) Try.func7
    (ChangeSpec.witness6 (enc := enc) (C := Try.checked) false ⟨#[], #[.agg #[.int .i64 0, .int .i64 0], .agg #[.int .i64 0, .int .i64 0], .int .i64 0], []⟩ 8 (by kernel_rfl) (by kernel_rfl) (by kernel_rfl) (by kernel_rfl)) ?_
  intro W base args ds gs before hval0 hW hcnd hsz
  have hval : ∀ (j : Nat) t v, Try.f7.params[j]? = some t → args[j]? = some v → Value.okWide Try.prog W .any base t v := hval0
  have hW' := hW
  obtain ⟨p, q, hA0, hV, rfl, hfz, hnd⟩ := hW
  have hA1 := hA0
  have hA : DataW.TrodAll enc Try.prog W 0 (fun _ => true) true Try.f7.params.toList args.toList ds p := hA0
  rw [Try.params7] at hA hval
  obtain ⟨v0, vs0, d0, ds0, p0, q0, hargs, rfl, rfl, h0, r0⟩ := trodAll_cons hA
  obtain ⟨v1, vs1, d1, ds1, p1, q1, rfl, rfl, rfl, h1, r1⟩ := trodAll_cons r0
  obtain ⟨v2, vs2, d2, ds2, p2, q2, rfl, rfl, rfl, h2, r2⟩ := trodAll_cons r1
  obtain ⟨rfl, rfl, rfl⟩ := trodAll_nil r2
  obtain rfl : args = #[v0, v1, v2] := by cases args; simp_all
  obtain ⟨rfl, rfl⟩ := trodVars_none hV
  obtain ⟨x0, y0, rfl, wx0, wy0⟩ := Str.take_place Try.underlying23 (by kernel_rfl) (by kernel_rfl) Try.underlying3 Try.underlying3 (hval 0 23 v0 rfl rfl) h0
  obtain ⟨x1, y1, rfl, wx1, wy1⟩ := Str.take_place Try.underlying23 (by kernel_rfl) (by kernel_rfl) Try.underlying3 Try.underlying3 (hval 1 23 v1 rfl rfl) h1
  obtain ⟨a2, rfl, rfl, rfl, w2⟩ := open_int Try.underlying3 (hval 2 3 v2 rfl rfl) h2
  clear hA0 hval0
  rw [List.append_nil] at hW'
  refine (walk x0 y0 wx0 wy0 x1 y1 wx1 wy1 a2 w2 W).mono fun e W' ⟨he, hb⟩ => ?_
  subst he
  exact ⟨_, rfl, post_law rfl hW' hA1 laidOut (by rw [Try.params7]; exact of_decide_eq_true (by kernel_rfl)) 4 (by kernel_rfl) Try.underlying4 rfl hb⟩

theorem over : Rows.fnExactTurnAboutRow.holds Try.pinned (OpenSpec.ofChange Rows.fnExactTurnAboutSpec) :=
  OpenClaim.holds_of_wide 7 Try.f7 rfl rfl rfl rfl rfl rfl rfl ⟨rfl, rfl, rfl, rfl, rfl⟩ rfl rfl rfl rfl rfl (by kernel_rfl) Try.func7 (by kernel_rfl)
    (of_decide_eq_true (by kernel_rfl)) (by unfold Func.isWrapper; first | (rw [if_pos (by decide +kernel)]; kernel_rfl) | (rw [if_neg (by decide +kernel)]; exact ⟨rfl, rfl⟩))
    (fun os started H enc _ => lifted os started H enc)

/-- The statement. -/
theorem proved : Rows.FnExactTurnAboutSaid :=
  over
#print axioms proved
end Go.Proofs.Ytkgccpbpmclikaa.fnExactTurnAbout
