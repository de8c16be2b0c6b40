/- The law FnExactAimJet holds at every input. The step from the walk to the row follows the guide's own template. -/
import Derived.Test.YtbbdbmelohaonaaMem
import Derived.Test.YtbbdbmelohaonaaTj
import Derived.Test.YtbbdbmelohaonaaTs
import Derived.Test.YtbbdbmelohaonaaAis
import Derived.Deep.DeepCutAuto
namespace Go.Proofs.Ytbbdbmelohaonaa.fnExactAimJet
open Go.ChangeShapes Go.WideShapes Go.ChangeAt Go.RowKit Go.WideMaps Go.WideElems Go.Proofs.Ytbbdbmelohaonaa.Mem
open Go.ChangeMaps (open_string shut_string)
set_option linter.unusedVariables false
set_option linter.unusedSimpArgs false

theorem own : ownKnob Try.prog.godebug = none := by kernel_rfl
theorem laidOut : laidOutB Try.prog = true := by kernel_rfl

open Go.Proofs.Ytbbdbmelohaonaa.Cm Go.Proofs.Ytbbdbmelohaonaa.Pl Go.Proofs.Ytbbdbmelohaonaa.Str Go.Proofs.Ytbbdbmelohaonaa.Pw Go.Proofs.Ytbbdbmelohaonaa.P2 Go.Proofs.Ytbbdbmelohaonaa.Hd Go.Proofs.Ytbbdbmelohaonaa.Jt Go.Proofs.Ytbbdbmelohaonaa.Dp Go.Proofs.Ytbbdbmelohaonaa.Dr4

/-- The cells that the law's arguments lie in. -/
abbrev S0 (W : World) (b : Nat) (x y : Int) (c : Nat) (u v : Int) : Prop := W.cell? ⟨b, 0, none⟩ = some (.int .i64 x) ∧ W.cell? ⟨b, 1, none⟩ = some (.int .i64 y) ∧ W.cell? ⟨c, 0, none⟩ = some (.int .i64 u) ∧ W.cell? ⟨c, 1, none⟩ = some (.int .i64 v)
theorem S0.below {W W' : World} {b : Nat} {x y : Int} {c : Nat} {u v : Int} (k : S0 W b x y c u v) (hb : Below W.heap.size W W') : S0 W' b x y c u v := ⟨cell_below hb k.1, cell_below hb k.2.1, cell_below hb k.2.2.1, cell_below hb k.2.2.2⟩
theorem S0.alloc {W : World} {o : Obj} {b : Nat} {x y : Int} {c : Nat} {u v : Int} (k : S0 W b x y c u v) : S0 (W.alloc o) b x y c u v := ⟨cell_alloc k.1, cell_alloc k.2.1, cell_alloc k.2.2.1, cell_alloc k.2.2.2⟩
theorem S0.far {W : World} {b : Nat} {x y : Int} {c : Nat} {u v : Int} {b' i : Nat} {z : Value} (e1 : b' ≠ b) (e2 : b' ≠ c) (k : S0 W b x y c u v) : S0 (W.setCell ⟨b', i, none⟩ z) b x y c u v := ⟨(World.cell?_setCell_other _ _ _ _ (by simp [e1])).trans k.1, (World.cell?_setCell_other _ _ _ _ (by simp [e1])).trans k.2.1, (World.cell?_setCell_other _ _ _ _ (by simp [e2])).trans k.2.2.1, (World.cell?_setCell_other _ _ _ _ (by simp [e2])).trans k.2.2.2⟩
theorem S0.lt2 {W : World} {b : Nat} {x y : Int} {c : Nat} {u v : Int} (k : S0 W b x y c u v) : W.cell? ⟨c, 0, none⟩ = some (.int .i64 u) := k.2.2.1
theorem S0.drew {W : World} {b : Nat} {x y : Int} {c : Nat} {u v : Int} (k : S0 W b x y c u v) : S0 W.drew b x y c u v := k

set_option maxHeartbeats 4000000 in
set_option maxRecDepth 100000 in
theorem walk (x0 y0 : Int) (wx0 : (Lit.int .i64 x0).wf = true) (wy0 : (Lit.int .i64 y0).wf = true) (x1 y1 : Int) (wx1 : (Lit.int .i64 x1).wf = true) (wy1 : (Lit.int .i64 y1).wf = true) (a2 : Int) (w2 : (Lit.int .i64 a2).wf = true) (w : World) :
    Calls Try.prog 11 #[pv x0 y0, pv x1 y1, .int .i64 a2] w fun e w' => e = .returned (.bool true) ∧ Below w.heap.size w w' := by
  unfold pv
  have CS := aimS x0 y0 x1 y1 a2
  have CI := aimI x0 y0 x1 y1 a2
  obtain ⟨X, Y, H, T, Lf, R, e⟩ : ∃ X Y H T Lf R, aimV x0 y0 x1 y1 a2 = .tuple #[jv X Y H T Lf, .bool R] := by
    unfold aimV; split <;> exact ⟨_, _, _, _, _, _, rfl⟩
  rw [e] at CS CI
  clear e
  replace CS := Lib.hid CS
  replace CI := Lib.hid CI
  have TJ := Lib.hid (toPlaceB x0 y0)
  have TP := Lib.hid (toPlaceB x1 y1)
  clear wx0 wy0 wx1 wy1 w2
  have EQ := Lib.hid (eqJet X Y H T Lf)
  go_enter Try.func11, Try.ntmps11
  have K0 := Lib.hid (show S0 ((w.alloc (.cells #[.int .i64 x0, .int .i64 y0] 23)).alloc (.cells #[.int .i64 x1, .int .i64 y1] 23)) w.heap.size x0 y0 (w.heap.size + 1) x1 y1 from (by refine ⟨?_, ?_, ?_, ?_⟩ <;> simp [go_sem]))
  have B0 := Lib.hid (show Below w.heap.size w ((w.alloc (.cells #[.int .i64 x0, .int .i64 y0] 23)).alloc (.cells #[.int .i64 x1, .int .i64 y1] 23)) by go_grown)
  go_upto_region 1 with fail
  go_cut [7, 8] (fun a b wx => ∃ g, a = .pointer (some ⟨g, 0, none⟩) ∧ b = .bool R ∧ Hid (JB wx g X Y H T Lf) ∧ Hid (S0 wx w.heap.size x0 y0 (w.heap.size + 1) x1 y1) ∧ Hid (Below w.heap.size w wx))
  case first =>
    have k1_0 := S0.drew K0.out
    have b1_0 := B0.out.drew
    go_region_held3 (fun w' => w'.cell? ⟨w.heap.size, 0, none⟩ = some (.int .i64 x0) ∧ w'.cell? ⟨w.heap.size, 1, none⟩ = some (.int .i64 y0) ∧ w'.cell? ⟨w.heap.size + 1, 0, none⟩ = some (.int .i64 x1) ∧ w'.cell? ⟨w.heap.size + 1, 1, none⟩ = some (.int .i64 y1)) ((first | (with_reducible exact k1_0) | (with_reducible exact k1_1) | (with_reducible exact k1_2) | (with_reducible exact k1_3) | (with_reducible exact K0.out) | (repeat (first | (with_reducible exact k1_0) | (with_reducible exact k1_1) | (with_reducible exact k1_2) | (with_reducible exact k1_3) | (with_reducible exact K0.out) | (with_reducible refine S0.drew ?_) | (with_reducible refine S0.alloc ?_) | (with_reducible refine S0.far (by omega) (by omega) ?_)))))
      (first
          | (go_at_call 34; ((with_reducible refine (TJ.out _).mono ?_); rintro e r1_1 ⟨rfl, hb⟩; (first | (have k1_1 := S0.below k1_0 hb; have b1_1 := b1_0.trans (hb.mono b1_0.size); (first | have q1_1 := JB.below q1_0 hb | skip)) | (have q1_1 := JB.below (JB.drew (show JB (((w.alloc (.cells #[.int .i64 x0, .int .i64 y0] 23)).alloc (.cells #[.int .i64 x1, .int .i64 y1] 23)).alloc (.cells (jc 0 0 0 0 0) 29)) (w.heap.size + 1 + 1) 0 0 0 0 0 from by simpa using JB.new ((w.alloc (.cells #[.int .i64 x0, .int .i64 y0] 23)).alloc (.cells #[.int .i64 x1, .int .i64 y1] 23)) 0 0 0 0 0)) hb; have k1_1 := S0.below (S0.drew (S0.alloc (o := (.cells (jc 0 0 0 0 0) 29)) K0.out)) hb; have b1_1 := (((B0.out).alloc B0.out.size (.cells (jc 0 0 0 0 0) 29)).drew).trans (hb.mono (by have := B0.out.size; go_size)))); clear hb))
          | (go_at_call 34; ((with_reducible refine (TP.out _).mono ?_); rintro e r1_2 ⟨rfl, hb⟩; (first | (have k1_2 := S0.below k1_1 hb; have b1_2 := b1_1.trans (hb.mono b1_1.size); (first | have q1_2 := JB.below q1_1 hb | skip)) | (have e1 := World.block_lt_of_cell? r1_1 _ k1_1.1; have e2 := World.block_lt_of_cell? r1_1 _ (S0.lt2 k1_1); have q1_2 := JB.below (JB.new r1_1 0 0 0 0 0) hb; have k1_2 := S0.below (S0.alloc (o := (.cells (jc 0 0 0 0 0) 29)) k1_1) hb; have b1_2 := (b1_1.alloc b1_1.size (.cells (jc 0 0 0 0 0) 29)).trans (hb.mono (by have := b1_1.size; go_size)))); clear hb))
          | (go_at_call 33; ((with_reducible refine (CS.out _).mono ?_); rintro e r1_3 ⟨rfl, hb⟩; (first | (have k1_3 := S0.below k1_2 hb; have b1_3 := b1_2.trans (hb.mono b1_2.size); (first | have q1_3 := JB.below q1_2 hb | skip)) | (have e1 := World.block_lt_of_cell? r1_2 _ k1_2.1; have e2 := World.block_lt_of_cell? r1_2 _ (S0.lt2 k1_2); have q1_3 := JB.below (JB.new r1_2 0 0 0 0 0) hb; have k1_3 := S0.below (S0.alloc (o := (.cells (jc 0 0 0 0 0) 29)) k1_2) hb; have b1_3 := (b1_2.alloc b1_2.size (.cells (jc 0 0 0 0 0) 29)).trans (hb.mono (by have := b1_2.size; go_size)))); (first | (obtain ⟨z0, z1, z2, z3, z4⟩ := q1_3.c; have g0 := q1_3.f 0; have g1 := q1_3.f 1; have g2 := q1_3.f 2; have g3 := q1_3.f 3; have g4 := q1_3.f 4) | skip); clear hb)))
    all_goals have KK := Lib.hid k1_3
    all_goals have BK := Lib.hid b1_3
    all_goals go_wp2_with fail
    all_goals go_meet
    all_goals first
      | exact ⟨_, rfl, rfl, Lib.hid (q1_3.set X Y H T Lf), Lib.hid (S0.far (by omega) (by omega) (S0.far (by omega) (by omega) (S0.far (by omega) (by omega) (S0.far (by omega) (by omega) (S0.far (by omega) (by omega) KK.out))))), Lib.hid (BK.out.trans (by have := BK.out.size; go_grown))⟩
      | exact ⟨_, rfl, rfl, Lib.hid (JB.new r1_3 X Y H T Lf), Lib.hid (S0.alloc (o := (.cells (jc X Y H T Lf) 29)) KK.out), Lib.hid (BK.out.alloc BK.out.size (.cells (jc X Y H T Lf) 29))⟩
  case rest =>
    obtain ⟨g, rfl, rfl, R4, K4, B4⟩ := hcut
    clear K0 B0
    go_upto_region 2 with fail
    go_cut [9, 10] (fun a b wx => ∃ k, a = .pointer (some ⟨k, 0, none⟩) ∧ b = .bool R ∧ Hid (JB wx k X Y H T Lf) ∧ Hid (JB wx g X Y H T Lf) ∧ Hid (Below w.heap.size w wx))
    case first =>
      have k2_0 := S0.drew K4.out
      have b2_0 := B4.out.drew
      have o2_0 := JB.drew R4.out
      have e4 := World.block_lt_of_cell? _ _ K4.out.1
      have e5 := World.block_lt_of_cell? _ _ (S0.lt2 K4.out)
      have e6 := R4.out.lt
      go_region_held3 (fun w' => w'.cell? ⟨w.heap.size, 0, none⟩ = some (.int .i64 x0) ∧ w'.cell? ⟨w.heap.size, 1, none⟩ = some (.int .i64 y0) ∧ w'.cell? ⟨w.heap.size + 1, 0, none⟩ = some (.int .i64 x1) ∧ w'.cell? ⟨w.heap.size + 1, 1, none⟩ = some (.int .i64 y1)) ((first | (with_reducible exact k2_0) | (with_reducible exact k2_1) | (with_reducible exact k2_2) | (with_reducible exact k2_3) | (with_reducible exact K4.out) | (repeat (first | (with_reducible exact k2_0) | (with_reducible exact k2_1) | (with_reducible exact k2_2) | (with_reducible exact k2_3) | (with_reducible exact K4.out) | (with_reducible refine S0.drew ?_) | (with_reducible refine S0.alloc ?_) | (with_reducible refine S0.far (by omega) (by omega) ?_)))))
        (first
            | (go_at_call 34; ((with_reducible refine (TJ.out _).mono ?_); rintro e r2_1 ⟨rfl, hb⟩; (first | (have k2_1 := S0.below k2_0 hb; have b2_1 := b2_0.trans (hb.mono b2_0.size); (first | have q2_1 := JB.below q2_0 hb | skip); have o2_1 := JB.below o2_0 hb) | (have q2_1 := JB.below (JB.drew (JB.new wc 0 0 0 0 0)) hb; have k2_1 := S0.below (S0.drew (S0.alloc (o := (.cells (jc 0 0 0 0 0) 29)) K4.out)) hb; have b2_1 := (((B4.out).alloc B4.out.size (.cells (jc 0 0 0 0 0) 29)).drew).trans (hb.mono (by have := B4.out.size; go_size)); have o2_1 := JB.below (JB.drew (JB.alloc R4.out (.cells (jc 0 0 0 0 0) 29))) hb)); clear hb))
            | (go_at_call 34; ((with_reducible refine (TP.out _).mono ?_); rintro e r2_2 ⟨rfl, hb⟩; (first | (have k2_2 := S0.below k2_1 hb; have b2_2 := b2_1.trans (hb.mono b2_1.size); (first | have q2_2 := JB.below q2_1 hb | skip); have o2_2 := JB.below o2_1 hb) | (have e1 := World.block_lt_of_cell? r2_1 _ k2_1.1; have e2 := World.block_lt_of_cell? r2_1 _ (S0.lt2 k2_1); have q2_2 := JB.below (JB.new r2_1 0 0 0 0 0) hb; have k2_2 := S0.below (S0.alloc (o := (.cells (jc 0 0 0 0 0) 29)) k2_1) hb; have b2_2 := (b2_1.alloc b2_1.size (.cells (jc 0 0 0 0 0) 29)).trans (hb.mono (by have := b2_1.size; go_size)); have e3 := o2_1.lt; have o2_2 := JB.below (JB.alloc o2_1 (.cells (jc 0 0 0 0 0) 29)) hb)); clear hb))
            | (go_at_call 35; ((with_reducible refine (CI.out _).mono ?_); rintro e r2_3 ⟨rfl, hb⟩; (first | (have k2_3 := S0.below k2_2 hb; have b2_3 := b2_2.trans (hb.mono b2_2.size); (first | have q2_3 := JB.below q2_2 hb | skip); have o2_3 := JB.below o2_2 hb) | (have e1 := World.block_lt_of_cell? r2_2 _ k2_2.1; have e2 := World.block_lt_of_cell? r2_2 _ (S0.lt2 k2_2); have q2_3 := JB.below (JB.new r2_2 0 0 0 0 0) hb; have k2_3 := S0.below (S0.alloc (o := (.cells (jc 0 0 0 0 0) 29)) k2_2) hb; have b2_3 := (b2_2.alloc b2_2.size (.cells (jc 0 0 0 0 0) 29)).trans (hb.mono (by have := b2_2.size; go_size)); have e3 := o2_2.lt; have o2_3 := JB.below (JB.alloc o2_2 (.cells (jc 0 0 0 0 0) 29)) hb)); (first | (obtain ⟨z0, z1, z2, z3, z4⟩ := q2_3.c; have g0 := q2_3.f 0; have g1 := q2_3.f 1; have g2 := q2_3.f 2; have g3 := q2_3.f 3; have g4 := q2_3.f 4) | skip); clear hb)))
      all_goals have KK := Lib.hid o2_3
      all_goals have BK := Lib.hid b2_3
      all_goals go_wp2_with fail
      all_goals go_meet
      all_goals first
        | exact ⟨_, rfl, rfl, Lib.hid (q2_3.set X Y H T Lf), Lib.hid (JB.other (JB.other (JB.other (JB.other (JB.other KK.out _ _ (by omega)) _ _ (by omega)) _ _ (by omega)) _ _ (by omega)) _ _ (by omega)), Lib.hid (BK.out.trans (by have := BK.out.size; go_grown))⟩
        | exact ⟨_, rfl, rfl, Lib.hid (JB.new r2_3 X Y H T Lf), Lib.hid (KK.out.alloc (.cells (jc X Y H T Lf) 29)), Lib.hid (BK.out.alloc BK.out.size (.cells (jc X Y H T Lf) 29))⟩
    case rest =>
      obtain ⟨k, rfl, rfl, R5, R6, HB⟩ := hcut
      obtain ⟨c0, c1, c2, c3, c4⟩ := R5.out.c
      obtain ⟨d0, d1, d2, d3, d4⟩ := R6.out.c
      clear R4 K4 B4
      go_wp2_with fail
      refine (EQ.out _).mono ?_
      rintro e v5 ⟨rfl, hb⟩
      have HB := Lib.hid (show Below w.heap.size w v5 from HB.out.trans (hb.mono HB.out.size))
      clear hb c0 c1 c2 c3 c4 d0 d1 d2 d3 d4
      go_wp2_with fail
      all_goals go_returns
      all_goals exact ⟨rfl, HB.out⟩

set_option maxRecDepth 100000 in
theorem lifted (os : Os) (started : os.Started) (H : Type) (enc : TypeId × Value → H) :
    ReturnsInHanded {} Try.checked os 11 .any (Rows.fnExactAimJetSpec.pre6 enc Try.prog Try.f11 Rows.fnExactAimJetRow.domain false) (Rows.fnExactAimJetSpec.post enc Try.prog Try.f11 false true false false) := by
  refine returnsInHanded_of_change (C := Try.checked) own started (by kernel_rfl) Try.func11
    (ChangeSpec.witness6 (enc := enc) (C := Try.checked) false ⟨#[], #[.agg #[.int .i64 0, .int .i64 0], .agg #[.int .i64 0, .int .i64 0], .int .i64 0], []⟩ 8 (by kernel_rfl) (by kernel_rfl) (by kernel_rfl) (by kernel_rfl)) ?_
  intro W base args ds gs before hval0 hW hcnd hsz
  have hval : ∀ (j : Nat) t v, Try.f11.params[j]? = some t → args[j]? = some v → Value.okWide Try.prog W .any base t v := hval0
  have hW' := hW
  obtain ⟨p, q, hA0, hV, rfl, hfz, hnd⟩ := hW
  have hA1 := hA0
  have hA : DataW.TrodAll enc Try.prog W 0 (fun _ => true) true Try.f11.params.toList args.toList ds p := hA0
  rw [Try.params11] at hA hval
  obtain ⟨v0, vs0, d0, ds0, p0, q0, hargs, rfl, rfl, h0, r0⟩ := trodAll_cons hA
  obtain ⟨v1, vs1, d1, ds1, p1, q1, rfl, rfl, rfl, h1, r1⟩ := trodAll_cons r0
  obtain ⟨v2, vs2, d2, ds2, p2, q2, rfl, rfl, rfl, h2, r2⟩ := trodAll_cons r1
  obtain ⟨rfl, rfl, rfl⟩ := trodAll_nil r2
  obtain rfl : args = #[v0, v1, v2] := by cases args; simp_all
  obtain ⟨rfl, rfl⟩ := trodVars_none hV
  obtain ⟨x0, y0, rfl, wx0, wy0⟩ := Str.take_place Try.underlying23 (by kernel_rfl) (by kernel_rfl) Try.underlying3 Try.underlying3 (hval 0 23 v0 rfl rfl) h0
  obtain ⟨x1, y1, rfl, wx1, wy1⟩ := Str.take_place Try.underlying23 (by kernel_rfl) (by kernel_rfl) Try.underlying3 Try.underlying3 (hval 1 23 v1 rfl rfl) h1
  obtain ⟨a2, rfl, rfl, rfl, w2⟩ := open_int Try.underlying3 (hval 2 3 v2 rfl rfl) h2
  clear hA0 hval0
  rw [List.append_nil] at hW'
  refine (walk x0 y0 wx0 wy0 x1 y1 wx1 wy1 a2 w2 W).mono fun e W' ⟨he, hb⟩ => ?_
  subst he
  exact ⟨_, rfl, post_law rfl hW' hA1 laidOut (by rw [Try.params11]; exact of_decide_eq_true (by kernel_rfl)) 4 (by kernel_rfl) Try.underlying4 rfl hb⟩

theorem over : Rows.fnExactAimJetRow.holds Try.pinned (OpenSpec.ofChange Rows.fnExactAimJetSpec) :=
  OpenClaim.holds_of_wide 11 Try.f11 rfl rfl rfl rfl rfl rfl rfl ⟨rfl, rfl, rfl, rfl, rfl⟩ rfl rfl rfl rfl rfl (by kernel_rfl) Try.func11 (by kernel_rfl)
    (of_decide_eq_true (by kernel_rfl)) (by unfold Func.isWrapper; first | (rw [if_pos (by decide +kernel)]; kernel_rfl) | (rw [if_neg (by decide +kernel)]; exact ⟨rfl, rfl⟩))
    (fun os started H enc _ => lifted os started H enc)

/-- The statement. -/
theorem proved : Rows.FnExactAimJetSaid :=
  over
#print axioms proved
end Go.Proofs.Ytbbdbmelohaonaa.fnExactAimJet
