/- The law FnNumbers holds at every input. The step from the walk to the row follows the guide's own template. -/
import Derived.Test.YtjpmhponcbbdcaaDoorMem
import Derived.Test.YtjpmhponcbbdcaaDoorCards
import Derived.Test.YtjpmhponcbbdcaaDoorTie
import Derived.LaidMore
import Derived.Deep.DeepHandedRow
import Derived.Lib.LaidTab
import Derived.Test.YtjpmhponcbbdcaaDoorNumDraw
import Derived.Test.YtjpmhponcbbdcaaDoorNumFacts
import Derived.Test.YtjpmhponcbbdcaaDoorSplit
import Derived.Test.YtjpmhponcbbdcaaDoorJoinN
import Derived.Test.YtjpmhponcbbdcaaDoorParse
import Derived.Test.YtjpmhponcbbdcaaDoorFmt
import Derived.Test.YtjpmhponcbbdcaaDoorTakeB
import Derived.Stop.LaidErr
import Derived.Deep.DeepCutAuto
import Derived.Lib.ItoaLen
namespace Go.Proofs.YtjpmhponcbbdcaaDoor.fnNumbers
open Go.ChangeShapes Go.WideShapes Go.ChangeAt Go.RowKit Go.WideMaps Go.WideElems Go.Proofs.YtjpmhponcbbdcaaDoor.Mem
open Go.ChangeMaps (open_string shut_string)
set_option linter.unusedVariables false

theorem own : ownKnob Tryd.prog.godebug = none := by kernel_rfl
theorem laidOut : laidOutB Tryd.prog = true := by kernel_rfl

theorem starErr : ("*errors.errorString" : String) = "*" ++ "errors.errorString" := rfl
theorem rowErr (u : TypeId) (h : Tryd.prog.typeName? 3 u = some "*errors.errorString") : u = 91 :=
  typeName_ptr_named (nm := "errors.errorString") (by rw [← starErr]; kernel_rfl) (by kernel_rfl) (by decide) u (by rw [← starErr]; exact h)
theorem errsOf {W : World} (h : laidMetH Tryd.prog Rows.fnNumbersRow.laid W) : Parse.Errs W := by
  rw [MakeChecks.laidMetH_plain _ _ _ (by kernel_rfl)] at h
  have h1 := laidMet.filter (fun x => x.1 == "strconv.ErrSyntax") h
  have h2 := laidMet.filter (fun x => x.1 == "strconv.ErrRange") h
  obtain ⟨a1, _, v1, _⟩ := laid_sentinel (r := []) (g := 0) h1 (by kernel_rfl) (by kernel_rfl) Tryd.underlying45 rowErr Tryd.underlying91 Tryd.underlying93 rfl rfl Tryd.underlying9 (by kernel_rfl) (by kernel_rfl)
  obtain ⟨a2, _, v2, _⟩ := laid_sentinel (r := []) (g := 1) h2 (by kernel_rfl) (by kernel_rfl) Tryd.underlying45 rowErr Tryd.underlying91 Tryd.underlying93 rfl rfl Tryd.underlying9 (by kernel_rfl) (by kernel_rfl)
  exact ⟨⟨_, _, v1⟩, _, _, v2⟩
theorem tabOf {W : World} (h : laidMetH Tryd.prog Rows.fnNumbersRow.laid W) : Fmt.Tab W := by
  rw [MakeChecks.laidMetH_plain _ _ _ (by kernel_rfl)] at h
  have h2 := laidMet.filter (fun x => x.1 == "internal/strconv.uint64pow10") h
  exact Lib.tabIs_of_head (rest := []) (g := 2) (by kernel_rfl) (by kernel_rfl) Tryd.underlying96 Tryd.underlying71 (by kernel_rfl) (by kernel_rfl) h2

theorem big (A : Option Addr) (n c : Nat) (w : World) (h : n ≤ 4096) : Calls Tryd.prog 7 #[.slice A n c] w fun e w' => e = .returned (.bool false) ∧ w = w' := by
  have d : decide (4096 < (n : Int)) = false := decide_eq_false (by omega)
  go_enter Tryd.func7, Tryd.ntmps7
  go_wp2
  go_ret
  exact ⟨rfl, rfl⟩
theorem itoa_small {n : Int} (h : (Lit.int .i64 n).wf = true) : (Fmt.itoaT n).size ≤ 1048576 := by
  simp only [Lit.wf, decide_eq_true_eq, Bool.and_eq_true] at h
  have h1 : IntKind.i64.min = -9223372036854775808 := rfl
  have h2 : IntKind.i64.max = 9223372036854775807 := rfl
  have := Lib.itoa_length_le n (by omega) (by omega)
  rw [Lib.size_eq]
  show (Lib.itoa n).length ≤ _
  omega
theorem wf_range {n : Int} (h : (Lit.int .i64 n).wf = true) : -9223372036854775808 ≤ n ∧ n ≤ 9223372036854775807 := by
  simp only [Lit.wf, decide_eq_true_eq, Bool.and_eq_true] at h
  exact h

set_option maxRecDepth 100000 in
set_option maxHeartbeats 4000000 in
theorem walk (A : Option Addr) (n c : Nat) (bs : List UInt8) (hn : bs.length = n) (hm : n ≤ maxLen) (w : World) (hr : Rd w w.heap.size A (Draw.u8s bs)) (hL : laidMetH Tryd.prog Rows.fnNumbersRow.laid w) (hsh : w.ShapedOpen Tryd.prog) :
    Calls Tryd.prog 3 #[.slice A n c] w fun e w' => e = .returned (.bool true) ∧ Below w.heap.size w w' := by
  unfold maxLen at hm
  by_cases hlen : 4096 < n
  · clear hL hsh
    go_enter Tryd.func3, Tryd.ntmps3
    go_wp2
    go_ret
    exact ⟨rfl, Below.refl _ _⟩
  · have hb : n ≤ 4096 := by omega
    have DF := Lib.hid (NumDraw.drawF w A n c bs hn hb hr)
    have DP := Lib.hid (fun (v : World) (hv : Below w.heap.size w v) => NumDraw.drawP v A n c bs hn hb ((hr.below hv).more hv.size))
    have DC := Lib.hid (fun (v : World) (hv : Below w.heap.size w v) => NumDraw.drawC v A n c bs hn hb ((hr.below hv).more hv.size))
    have CF := Lib.hid (fun (x : Int) (h1 : -9223372036854775808 ≤ x) (h2 : x ≤ 9223372036854775807) (v : World) (hv : Below w.heap.size w v) => Fmt.impl x v h1 h2 ((tabOf hL).below hv))
    have CP := Lib.hid (fun (s : ByteArray) (hs : s.size ≤ 1048576) (v : World) (hv : Below w.heap.size w v) => Parse.impl s v hs ((errsOf hL).below hv) ((tabOf hL).below hv))
    have CS := Lib.hid (fun (s sep : ByteArray) (hs : s.size ≤ 1048576) (hl : (Split.pieces sep s).length ≤ maxLen) (v : World) (hv : Below w.heap.size w v) => Split.impl s sep v (Split.shaped_below hsh hv) hs hl)
    clear hn hr hlen hm hL hsh
    go_enter Tryd.func3, Tryd.ntmps3
    go_wp2_with fail
    refine (big _ _ _ _ hb).mono ?_
    rintro e w' ⟨rfl, rfl⟩
    go_wp2_with fail
    refine DF.out.mono ?_
    rintro e w1 ⟨x, rfl, wx, b1⟩
    have B1 := Lib.hid b1
    have hxs := itoa_small wx
    obtain ⟨hx1, hx2⟩ := wf_range wx
    have YES := Lib.hid (@NumFacts.back_yes x)
    have NO := Lib.hid (@NumFacts.back_no x)
    have C1 := Lib.hid (CF.out x hx1 hx2 w1 B1.out)
    have XX := Lib.hid (And.intro hx1 hx2)
    generalize Fmt.itoaT x = T at hxs YES NO C1
    have C2 := Lib.hid (CP.out T hxs)
    clear b1 wx DF hx1 hx2
    go_wp2_with fail
    refine C1.out.mono ?_
    rintro e w2 ⟨rfl, b2⟩
    have B2 := Lib.hid (B1.out.trans (b2.mono B1.out.size))
    clear b2 C1 B1
    go_wp2_with fail
    refine (C2.out _ B2.out).mono ?_
    rintro e w3 ⟨rfl, b3⟩
    have B3 := Lib.hid (B2.out.trans (b3.mono B2.out.size))
    clear b3 C2 B2
    generalize Parse.val T = k at YES NO ⊢
    generalize Parse.good T = ok at YES NO ⊢
    clear hxs
    go_upto_region 5 with fail
    go_cut [36] (fun s wx => s = .bool false ∧ wx = w3)
    case first =>
      by_cases c1 : x < 0
      · obtain rfl := (NO.out (Or.inl c1)).1
        clear YES NO
        go_wp2_with fail
        go_meet
        exact ⟨rfl, rfl⟩
      · by_cases c2 : 999 < x
        · obtain rfl := (NO.out (Or.inr c2)).1
          clear YES NO
          go_wp2_with fail
          go_meet
          exact ⟨congrArg Value.bool (decide_eq_false (by omega)), rfl⟩
        · obtain ⟨rfl, rfl⟩ := YES.out (by omega) (by omega)
          clear YES NO
          have hb2 : (k != k) = false := bne_self_eq_false k
          go_wp2_with fail
          go_meet
          exact ⟨rfl, rfl⟩
    case rest =>
      obtain ⟨rfl, rfl⟩ := hcut
      clear YES NO XX
      go_wp2_with fail
      refine (DP.out _ B3.out).mono ?_
      rintro e w4 ⟨s, rfl, hs, b4⟩
      have B4 := Lib.hid (B3.out.trans (b4.mono B3.out.size))
      clear b4 B3 DP
      go_wp2_with fail
      refine (CP.out s (by omega) _ B4.out).mono ?_
      rintro e w5 ⟨rfl, b5⟩
      have B5 := Lib.hid (B4.out.trans (b5.mono B4.out.size))
      clear b5 B4
      have RY := Lib.hid (@NumFacts.read_yes s)
      have RN := Lib.hid (@NumFacts.read_no s)
      generalize Parse.val s = m at RY RN ⊢
      generalize Parse.good s = is at RY RN ⊢
      go_wp2_with fail
      refine (DC.out _ B5.out).mono ?_
      rintro e w6 ⟨t, sep, rfl, ht, hsep, b6⟩
      have B6 := Lib.hid (B5.out.trans (b6.mono B5.out.size))
      clear b6 B5 DC
      have C3 := Lib.hid (CS.out t sep (by omega) (by have := NumFacts.split_len sep t; unfold maxLen; omega))
      have J1 := Lib.hid (NumFacts.split_join sep t)
      have J2 := Lib.hid (show (Split.pieces sep t).length + Strs.byteSum (Split.pieces sep t) ≤ 1048576 by have := NumFacts.split_len sep t; have := NumFacts.split_sum sep t; omega)
      generalize Split.pieces sep t = P at C3 J1 J2
      have hps : sep.size ≤ 1048576 := by omega
      clear CS CP
      have TT : (t.toList == t.toList) = true := beq_self_eq_true _
      have SS : (s.toList == s.toList) = true := beq_self_eq_true _
      have NN : ((0 : Int) == 0) = true := rfl
      cases is
      · obtain rfl := RN.out rfl
        clear RY RN CF
        go_wp2_with fail
        refine (C3.out _ B6.out).mono ?_
        rintro e w7 ⟨g, cc, rfl, o7, b7⟩
        have O7 := Lib.hid o7
        have B7 := Lib.hid (B6.out.trans (b7.mono B6.out.size))
        clear o7 b7
        go_wp2_with fail
        have hcap : P.length ≤ cc := by
          rcases O7.out.2 with ⟨e, _⟩ | ⟨_, _, _, e, _, _, hc, _⟩
          · cases e
          · cases e; exact hc
        refine (Join.impl _ P.length cc P sep _ rfl hcap J2.out hps (Rd.own O7.out)).mono ?_
        rintro e w8 ⟨rfl, b8⟩
        have B8 := Lib.hid (B7.out.trans (b8.mono B7.out.size))
        clear b8 hcap
        rw [J1.out]
        go_wp2_with fail
        go_ret
        exact ⟨rfl, B8.out⟩
      · obtain ⟨r1, r2, r3⟩ := RY.out rfl
        have C4 := Lib.hid (CF.out m (by omega) (by omega))
        rw [r1] at C4
        clear RY RN CF r1
        go_wp2_with fail
        refine (C4.out _ B6.out).mono ?_
        rintro e w7 ⟨rfl, b7⟩
        have B7 := Lib.hid (B6.out.trans (b7.mono B6.out.size))
        clear b7
        go_wp2_with fail
        refine (C3.out _ B7.out).mono ?_
        rintro e w8 ⟨g, cc, rfl, o8, b8⟩
        have O8 := Lib.hid o8
        have B8 := Lib.hid (B7.out.trans (b8.mono B7.out.size))
        clear o8 b8
        go_wp2_with fail
        have hcap : P.length ≤ cc := by
          rcases O8.out.2 with ⟨e, _⟩ | ⟨_, _, _, e, _, _, hc, _⟩
          · cases e
          · cases e; exact hc
        refine (Join.impl _ P.length cc P sep _ rfl hcap J2.out hps (Rd.own O8.out)).mono ?_
        rintro e w9 ⟨rfl, b9⟩
        have B9 := Lib.hid (B8.out.trans (b9.mono B8.out.size))
        clear b9 hcap
        rw [J1.out]
        go_wp2_with fail
        go_ret
        exact ⟨rfl, B9.out⟩

/-- A start whose listed tables hold what their initialisers lay. -/
noncomputable def laidWorld (os : Os) : World :=
  { World.doorLaid Tryd.prog 72 os with heap := ((World.doorLaid Tryd.prog 72 os).heap).modify 4 fun | .cells _ t frozen => .cells (Go.Pinned.utf8FirstZ.map fun z : Nat => Value.int .u8 (z : Int)).toArray t frozen | o => o }
theorem laid_met (os : Os) : laidMet Tryd.prog Rows.fnNumbersRow.laid ((laidWorld os).forCall (fun _ _ => 0) ⟨#[], #[.slice none 0 0], []⟩).memory :=
  laidMet_of_run' 8 (by kernel_rfl) (by kernel_rfl)
theorem reads (os : Os) {H : Type} (enc : TypeId × Value → H) : ∃ places, DataW.whole enc Tryd.prog ((laidWorld os).forCall (fun _ _ => 0) ⟨#[], #[.slice none 0 0], []⟩).memory Tryd.f3.params.toList Rows.fnNumbersSpec.vars false #[.slice none 0 0].toList 8 = some ([.nil], [], places) :=
  ⟨[], by kernel_rfl⟩

set_option maxRecDepth 100000 in
theorem contract (H : Type) (enc : TypeId × Value → H) (W : World) (base : Nat) (args : Array Value) (ds gs : List (DataW H)) (before : List MemPlace)
    (hval0 : ∀ (j : Nat) t v, Tryd.f3.params[j]? = some t → args[j]? = some v → Value.okWide Tryd.prog W .any base t v)
    (hW : DataW.Whole enc Tryd.prog Tryd.f3.params.toList Rows.fnNumbersSpec.vars false W args.toList ds gs before) (hL : laidMetH Tryd.prog Rows.fnNumbersRow.laid W) (hsh : W.ShapedOpen Tryd.prog) :
    Calls Tryd.prog 3 args W fun e W' => ∃ v, e = .returned v ∧ Rows.fnNumbersSpec.post enc Tryd.prog Tryd.f3 false true false false W args v W' := by
  have hval : ∀ (j : Nat) t v, Tryd.f3.params[j]? = some t → args[j]? = some v → Value.okWide Tryd.prog W .any base t v := hval0
  have hW' := hW
  obtain ⟨p, q, hA0, hV, rfl, hfz, hnd⟩ := hW
  have hA1 := hA0
  have hA : DataW.TrodAll enc Tryd.prog W 0 (fun _ => true) true Tryd.f3.params.toList args.toList ds p := hA0
  rw [Tryd.params3] at hA hval
  obtain ⟨v0, vs0, d0, ds0, p0, q0, hargs, rfl, rfl, h0, r0⟩ := trodAll_cons hA
  obtain ⟨rfl, rfl, rfl⟩ := trodAll_nil r0
  obtain rfl : args = #[v0] := by cases args; simp_all
  obtain ⟨rfl, rfl⟩ := trodVars_none hV
  obtain ⟨A0, n0, c0, a0, rfl, l0, m0, g0⟩ := RampFn.take_bytes Tryd.underlying22 Tryd.underlying5 (by kernel_rfl) (hval 0 22 v0 rfl rfl) h0
  clear hA0 hval0
  rw [List.append_nil] at hW'
  refine (walk A0 n0 c0 a0 l0 m0 W g0 hL hsh).mono fun e W' ⟨he, hb⟩ => ?_
  subst he
  exact ⟨_, rfl, post_law rfl hW' hA1 laidOut (by rw [Tryd.params3]; exact of_decide_eq_true (by kernel_rfl)) 4 (by kernel_rfl) Tryd.underlying4 rfl hb⟩

set_option maxRecDepth 100000 in
theorem lifted (os : Os) (started : os.Started) (H : Type) (enc : TypeId × Value → H) (F : Stop.Interp) :
    ReturnsInHanded {} Tryd.checked os 3 .any ((OpenSpec.ofChange Rows.fnNumbersSpec).preRow enc Tryd.prog Tryd.f3 Rows.fnNumbersRow.domain false Rows.fnNumbersRow.laid) (((OpenSpec.ofChange Rows.fnNumbersSpec).at F).post enc Tryd.prog Tryd.f3 false true false false) := by
  obtain ⟨places, hx⟩ := reads os enc
  refine returnsInHanded_of_row (C := Tryd.checked) (s := OpenSpec.ofChange Rows.fnNumbersSpec) own started (by as_aux_lemma => kernel_rfl) Tryd.func3
    (witness_row_at (enc := enc) (C := Tryd.checked) false (laidWorld os) #[.slice none 0 0] rfl (by as_aux_lemma => kernel_rfl) (by as_aux_lemma => kernel_rfl) (by as_aux_lemma => kernel_rfl)
      (OpenSpec.preRow_of_cond 8 hx (by as_aux_lemma => kernel_rfl) (fun k hk => by cases hk) (by as_aux_lemma => kernel_rfl) (laid_met os))) ?_
  intro W base args ds gs before hval hW hq1 hq2 hq3 hL hq4 hq5
  exact contract H enc W base args ds gs before hval hW hL hq4

theorem said : Rows.FnNumbersSaid :=
  OpenClaim.holds_of_cond 3 Tryd.f3 rfl rfl rfl rfl rfl rfl rfl ⟨rfl, rfl, rfl, rfl, rfl⟩ rfl rfl rfl rfl rfl (by kernel_rfl) Tryd.func3 (by kernel_rfl)
    (of_decide_eq_true (by kernel_rfl)) (by unfold Func.isWrapper; first | (rw [if_pos (by decide +kernel)]; kernel_rfl) | (rw [if_neg (by decide +kernel)]; exact ⟨rfl, rfl⟩))
    (fun os started H enc _ F => by rw [OpenClaim.pre_eq_preRow]; exact lifted os started H enc F)

/-- The card. -/
theorem card : Rows.FnNumbersCardSaid :=
  Claim7.holds_tied_plain_at .later [] _ _ _ _ said (fun _ h => by cases h) (by kernel_rfl) (fun _ h => by cases h) fnNumbers_row_tie rfl ⟨rfl, rfl⟩ (by kernel_rfl) rfl
    (fun f fn hf hfn => by
      obtain rfl : f = 3 := Option.some.inj ((show Tryd.prog.funcNamed "loop.example/g03017/laws.FnNumbers" = some 3 by kernel_rfl).symm.trans hf) |>.symm
      obtain rfl : fn = Tryd.f3 := (Option.some.inj (Tryd.func3.symm.trans hfn)).symm
      exact ⟨by kernel_rfl, fun j t ht => by
        rw [Tryd.params3] at ht
        have hm : t ∈ [22] := by simpa using Array.mem_of_getElem? ht
        have hall : ([22].all fun u => !Tryd.prog.wantsStandIn u) = true := by kernel_rfl
        exact (show Tryd.prog.wantsStandIn t = false by simpa using List.all_eq_true.1 hall t hm)⟩)
    (by kernel_rfl)
#print axioms card
end Go.Proofs.YtjpmhponcbbdcaaDoor.fnNumbers
