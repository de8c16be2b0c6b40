/- The law FnExactSplitAt holds at every input. The step from the walk to the row follows the guide's own template. -/
import Derived.Test.YtjpmhponcbbdcaaDoorMem
import Derived.Test.YtjpmhponcbbdcaaDoorCards
import Derived.Test.YtjpmhponcbbdcaaDoorTie
import Derived.LaidMore
import Derived.Deep.DeepHandedRow
import Derived.Lib.LaidTab
import Derived.Test.YtjpmhponcbbdcaaDoorSplit
import Derived.Test.YtjpmhponcbbdcaaDoorMark
namespace Go.Proofs.YtjpmhponcbbdcaaDoor.fnExactSplitAt
open Go.ChangeShapes Go.WideShapes Go.ChangeAt Go.RowKit Go.WideMaps Go.WideElems Go.Proofs.YtjpmhponcbbdcaaDoor.Mem
open Go.ChangeMaps (open_string shut_string)
set_option linter.unusedVariables false

theorem own : ownKnob Tryd.prog.godebug = none := by kernel_rfl
theorem laidOut : laidOutB Tryd.prog = true := by kernel_rfl

theorem pieces_len (sep s : ByteArray) (hs : s.size ≤ 1048576) : (Split.pieces sep s).length ≤ 1048577 := by
  unfold Split.pieces
  split
  · exact Nat.succ_le_succ (Nat.zero_le _)
  · rename_i h
    have h1 : 1 ≤ sep.size := by omega
    rw [Split.split_len sep s h1]
    have := Lib.countB_le sep h1 _ s (Nat.le_refl _)
    omega

/-- The marks are laid, from 1 on. -/
theorem mark (base g c B : Nat) (zs : List ByteArray) (w : World) (hb : zs.length ≤ 2097152) (hB : B ≤ base) (hBw : base ≤ w.heap.size) (hr : w.ownsRow base 9 1 (.slice (some ⟨g, 0, none⟩) zs.length c) zs.length (Strs.strs zs)) :
    Calls Tryd.prog 19 #[.slice (some ⟨g, 0, none⟩) zs.length c, .int .i64 1] w fun e w' => e = .returned (.int .i64 (1 + (zs.length : Int))) ∧ w'.ownsRow base 9 1 (.slice (some ⟨g, 0, none⟩) zs.length c) zs.length (Strs.strs (Mark.marks 1 zs.length)) ∧ Below B w w' :=
  Mark.markStringS base g zs.length c B 1 zs w rfl hb (by omega) (by omega) hB hBw hr
theorem held (A : Option Addr) (n c : Nat) (w : World) (hb : n ≤ 2097152) (hr : Rd w w.heap.size A (Strs.strs (Mark.marks 1 n))) :
    Calls Tryd.prog 20 #[.slice A n c, .int .i64 1] w fun e w' => e = .returned (.int .i64 (1 + (n : Int))) ∧ Below w.heap.size w w' :=
  Mark.heldStringS A n c 1 w hb (by omega) (by omega) hr

set_option maxRecDepth 100000 in
set_option maxHeartbeats 2000000 in
theorem walk (s : ByteArray) (w0 : s.size ≤ maxLen) (sep : ByteArray) (w1 : sep.size ≤ maxLen) (w : World) (hL : laidMetH Tryd.prog Rows.fnExactSplitAtRow.laid w) (hsh : w.ShapedOpen Tryd.prog) :
    Calls Tryd.prog 6 #[.string s, .string sep] w fun e w' => e = .returned (.bool true) ∧ Below w.heap.size w w' := by
  clear hL
  unfold maxLen at w0 w1
  by_cases h : 1048576 < s.size
  · clear hsh
    go_enter Tryd.func6, Tryd.ntmps6
    go_wp2_with fail
    go_ret
    exact ⟨rfl, Below.refl _ _⟩
  · by_cases h2 : 1048576 < sep.size
    · clear hsh
      go_enter Tryd.func6, Tryd.ntmps6
      go_wp2_with fail
      go_ret
      exact ⟨rfl, Below.refl _ _⟩
    · have hs : s.size ≤ 1048576 := by omega
      have hp : sep.size ≤ 1048576 := by omega
      have hl := pieces_len sep s hs
      have CS := Lib.hid (Split.spec s sep w hs hp)
      have CI : ∀ v, Below w.heap.size w v → Calls Tryd.prog 14 #[.string s, .string sep] v (Split.Cut v (Split.pieces sep s)) := fun v hv => Split.impl s sep v (Split.shaped_below hsh hv) hs (by unfold maxLen; omega)
      generalize Split.pieces sep s = P at hl CS CI
      have CH := Lib.hid CI
      have hl2 : P.length ≤ 2097152 := by omega
      have hl3 : P.length ≤ 9223372036854775807 := by omega
      have HL := Lib.hid hl2
      clear hsh CI h h2 w0 w1 hl
      go_enter Tryd.func6, Tryd.ntmps6
      go_wp2_with fail
      refine CS.out.mono ?_
      rintro e v1 ⟨g0, c0, rfl, o0, b0⟩
      have R0 := Lib.hid (Rd.own o0)
      have B1 := Lib.hid b0
      clear o0 b0
      go_wp2_with fail
      refine (CH.out _ B1.out).mono ?_
      rintro e v2 ⟨g1, c1, rfl, o1, b1⟩
      have O1 := Lib.hid o1
      have R1 := Lib.hid (Rd.own o1)
      have R02 := Lib.hid ((R0.out.below b1).more b1.size)
      have S12 := Lib.hid b1
      have B2 := Lib.hid (B1.out.trans (b1.mono B1.out.size))
      clear o1 b1
      go_wp2_with fail
      refine (Strs.eqStringS _ _ P.length c1 c0 P v2.heap.size _ rfl hl3 R1.out R02.out).mono ?_
      rintro e v3 ⟨rfl, m, rfl⟩
      have O3 := Lib.hid (Strs.owns_below O1.out (below_drewN (Below.refl _ _) m))
      have S13 := Lib.hid (below_drewN S12.out m)
      have B3 := Lib.hid (below_drewN B2.out m)
      have Z3 := Lib.hid S13.out.size
      generalize v2.drewN m = v3 at *
      go_wp2_with fail
      refine (mark v1.heap.size g1 c1 v1.heap.size P _ HL.out (Nat.le_refl _) Z3.out O3.out).mono ?_
      rintro e v4 ⟨rfl, o4, b4⟩
      have R4 := Lib.hid (Rd.own o4)
      have S14 := Lib.hid (S13.out.trans b4)
      have B4 := Lib.hid (B3.out.trans (b4.mono B1.out.size))
      clear o4 b4
      go_wp2_with fail
      refine (held _ P.length c1 _ HL.out R4.out).mono ?_
      rintro e v5 ⟨rfl, b5⟩
      have R5 := Lib.hid ((R4.out.below b5).more b5.size)
      have S15 := Lib.hid (S14.out.trans (b5.mono S14.out.size))
      have B5 := Lib.hid (B4.out.trans (b5.mono B4.out.size))
      clear b5
      go_wp2_with fail
      refine (CH.out _ B5.out).mono ?_
      rintro e v6 ⟨g6, c6, rfl, o6, b6⟩
      have R6 := Lib.hid (Rd.own o6)
      have R56 := Lib.hid ((R5.out.below b6).more b6.size)
      have S16 := Lib.hid (S15.out.trans (b6.mono S15.out.size))
      have R06 := Lib.hid ((R0.out.below S16.out).more S16.out.size)
      have B6 := Lib.hid (B5.out.trans (b6.mono B5.out.size))
      clear o6 b6
      go_wp2_with fail
      refine (Strs.eqStringS _ _ P.length c6 c0 P v6.heap.size _ rfl hl3 R6.out R06.out).mono ?_
      rintro e v7 ⟨rfl, m7, rfl⟩
      have R7 := Lib.hid ((R56.out.below (below_drewN (Below.refl _ _) m7)).more (below_drewN (Below.refl v6.heap.size v6) m7).size)
      have B7 := Lib.hid (below_drewN B6.out m7)
      generalize v6.drewN m7 = v7 at *
      go_wp2_with fail
      refine (held _ P.length c1 _ HL.out R7.out).mono ?_
      rintro e v8 ⟨rfl, b8⟩
      have B8 := Lib.hid (B7.out.trans (b8.mono B7.out.size))
      clear b8
      go_wp2_with fail
      go_ret
      exact ⟨rfl, B8.out⟩

/-- A start whose listed tables hold what their initialisers lay. -/
noncomputable def laidWorld (os : Os) : World :=
  { World.holding Tryd.prog os ⟨#[], #[], []⟩ with heap := (((World.holding Tryd.prog os ⟨#[], #[], []⟩).heap).modify 5 fun | .cells _ t frozen => .cells (([128, 191, 160, 191, 128, 159, 144, 191, 128, 143, 0, 0, 0, 0, 0, 0, 0, 0, 0, 0, 0, 0, 0, 0, 0, 0, 0, 0, 0, 0, 0, 0] : List Int).map (Value.int .u8)).toArray t frozen | o => o).modify 4 fun | .cells _ t frozen => .cells (Go.Pinned.utf8FirstZ.map fun z : Nat => Value.int .u8 (z : Int)).toArray t frozen | o => o }
theorem laid_met (os : Os) : laidMet Tryd.prog Rows.fnExactSplitAtRow.laid ((laidWorld os).forCall (fun _ _ => 0) ⟨#[], #[.string ByteArray.empty, .string ByteArray.empty], []⟩).memory :=
  laidMet_of_run' 8 (by kernel_rfl) (by kernel_rfl)
theorem reads (os : Os) {H : Type} (enc : TypeId × Value → H) : ∃ places, DataW.whole enc Tryd.prog ((laidWorld os).forCall (fun _ _ => 0) ⟨#[], #[.string ByteArray.empty, .string ByteArray.empty], []⟩).memory Tryd.f6.params.toList Rows.fnExactSplitAtSpec.vars false #[.string ByteArray.empty, .string ByteArray.empty].toList 8 = some ([.lit (.string []), .lit (.string [])], [], places) :=
  ⟨[], by kernel_rfl⟩

set_option maxRecDepth 100000 in
theorem contract (H : Type) (enc : TypeId × Value → H) (W : World) (base : Nat) (args : Array Value) (ds gs : List (DataW H)) (before : List MemPlace)
    (hval0 : ∀ (j : Nat) t v, Tryd.f6.params[j]? = some t → args[j]? = some v → Value.okWide Tryd.prog W .any base t v)
    (hW : DataW.Whole enc Tryd.prog Tryd.f6.params.toList Rows.fnExactSplitAtSpec.vars false W args.toList ds gs before) (hL : laidMetH Tryd.prog Rows.fnExactSplitAtRow.laid W) (hsh : W.ShapedOpen Tryd.prog) :
    Calls Tryd.prog 6 args W fun e W' => ∃ v, e = .returned v ∧ Rows.fnExactSplitAtSpec.post enc Tryd.prog Tryd.f6 false true false false W args v W' := by
  have hval : ∀ (j : Nat) t v, Tryd.f6.params[j]? = some t → args[j]? = some v → Value.okWide Tryd.prog W .any base t v := hval0
  have hW' := hW
  obtain ⟨p, q, hA0, hV, rfl, hfz, hnd⟩ := hW
  have hA1 := hA0
  have hA : DataW.TrodAll enc Tryd.prog W 0 (fun _ => true) true Tryd.f6.params.toList args.toList ds p := hA0
  rw [Tryd.params6] at hA hval
  obtain ⟨v0, vs0, d0, ds0, p0, q0, hargs, rfl, rfl, h0, r0⟩ := trodAll_cons hA
  obtain ⟨v1, vs1, d1, ds1, p1, q1, rfl, rfl, rfl, h1, r1⟩ := trodAll_cons r0
  obtain ⟨rfl, rfl, rfl⟩ := trodAll_nil r1
  obtain rfl : args = #[v0, v1] := by cases args; simp_all
  obtain ⟨rfl, rfl⟩ := trodVars_none hV
  obtain ⟨a0, rfl, rfl, rfl, w0⟩ := open_string Tryd.underlying9 (hval 0 9 v0 rfl rfl) h0
  obtain ⟨a1, rfl, rfl, rfl, w1⟩ := open_string Tryd.underlying9 (hval 1 9 v1 rfl rfl) h1
  clear hA0 hval0
  rw [List.append_nil] at hW'
  refine (walk a0 w0 a1 w1 W hL hsh).mono fun e W' ⟨he, hb⟩ => ?_
  subst he
  exact ⟨_, rfl, post_law rfl hW' hA1 laidOut (by rw [Tryd.params6]; exact of_decide_eq_true (by kernel_rfl)) 4 (by kernel_rfl) Tryd.underlying4 rfl hb⟩

set_option maxRecDepth 100000 in
theorem lifted (os : Os) (started : os.Started) (H : Type) (enc : TypeId × Value → H) (F : Stop.Interp) :
    ReturnsInHanded {} Tryd.checked os 6 .any ((OpenSpec.ofChange Rows.fnExactSplitAtSpec).preRow enc Tryd.prog Tryd.f6 Rows.fnExactSplitAtRow.domain false Rows.fnExactSplitAtRow.laid) (((OpenSpec.ofChange Rows.fnExactSplitAtSpec).at F).post enc Tryd.prog Tryd.f6 false true false false) := by
  obtain ⟨places, hx⟩ := reads os enc
  refine returnsInHanded_of_row (C := Tryd.checked) (s := OpenSpec.ofChange Rows.fnExactSplitAtSpec) own started (by as_aux_lemma => kernel_rfl) Tryd.func6
    (witness_row_at (enc := enc) (C := Tryd.checked) false (laidWorld os) #[.string ByteArray.empty, .string ByteArray.empty] rfl (by as_aux_lemma => kernel_rfl) (by as_aux_lemma => kernel_rfl) (by as_aux_lemma => kernel_rfl)
      (OpenSpec.preRow_of_cond 8 hx (by as_aux_lemma => kernel_rfl) (fun k hk => by cases hk) (by as_aux_lemma => kernel_rfl) (laid_met os))) ?_
  intro W base args ds gs before hval hW hq1 hq2 hq3 hL hq4 hq5
  exact contract H enc W base args ds gs before hval hW hL hq4

theorem said : Rows.FnExactSplitAtSaid :=
  OpenClaim.holds_of_cond 6 Tryd.f6 rfl rfl rfl rfl rfl rfl rfl ⟨rfl, rfl, rfl, rfl, rfl⟩ rfl rfl rfl rfl rfl (by kernel_rfl) Tryd.func6 (by kernel_rfl)
    (of_decide_eq_true (by kernel_rfl)) (by unfold Func.isWrapper; first | (rw [if_pos (by decide +kernel)]; kernel_rfl) | (rw [if_neg (by decide +kernel)]; exact ⟨rfl, rfl⟩))
    (fun os started H enc _ F => by rw [OpenClaim.pre_eq_preRow]; exact lifted os started H enc F)

/-- The card. -/
theorem card : Rows.FnExactSplitAtCardSaid :=
  Claim7.holds_tied_plain_at .later [] _ _ _ _ said (fun _ h => by cases h) (by kernel_rfl) (fun _ h => by cases h) fnExactSplitAt_row_tie rfl ⟨rfl, rfl⟩ (by kernel_rfl) rfl
    (fun f fn hf hfn => by
      obtain rfl : f = 6 := Option.some.inj ((show Tryd.prog.funcNamed "loop.example/g03017/laws.FnExactSplitAt" = some 6 by kernel_rfl).symm.trans hf) |>.symm
      obtain rfl : fn = Tryd.f6 := (Option.some.inj (Tryd.func6.symm.trans hfn)).symm
      exact ⟨by kernel_rfl, fun j t ht => by
        rw [Tryd.params6] at ht
        have hm : t ∈ [9, 9] := by simpa using Array.mem_of_getElem? ht
        have hall : ([9, 9].all fun u => !Tryd.prog.wantsStandIn u) = true := by kernel_rfl
        exact (show Tryd.prog.wantsStandIn t = false by simpa using List.all_eq_true.1 hall t hm)⟩)
    (by kernel_rfl)
#print axioms card
end Go.Proofs.YtjpmhponcbbdcaaDoor.fnExactSplitAt
