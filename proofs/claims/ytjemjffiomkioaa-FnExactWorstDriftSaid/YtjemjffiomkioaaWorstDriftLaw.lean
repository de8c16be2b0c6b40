/- The law FnExactWorstDrift holds at every input. The step from the walk to the row follows the guide's own template. -/
import Derived.Test.YtjemjffiomkioaaMem
import Derived.Test.YtjemjffiomkioaaPls4
import Derived.Test.YtjemjffiomkioaaWz
namespace Go.Proofs.Ytjemjffiomkioaa.fnExactWorstDrift
open Go.ChangeShapes Go.WideShapes Go.ChangeAt Go.RowKit Go.WideMaps Go.WideElems Go.Proofs.Ytjemjffiomkioaa.Mem
open Go.ChangeMaps (open_string shut_string)
set_option linter.unusedVariables false
set_option linter.unusedSimpArgs false

theorem own : ownKnob Try.prog.godebug = none := by kernel_rfl
theorem laidOut : laidOutB Try.prog = true := by kernel_rfl

open Go.Proofs.Ytjemjffiomkioaa.Rw Go.Proofs.Ytjemjffiomkioaa.Bk Go.Proofs.Ytjemjffiomkioaa.Str Go.Proofs.Ytjemjffiomkioaa.Pw Go.Proofs.Ytjemjffiomkioaa.P2 Go.Proofs.Ytjemjffiomkioaa.Gs Go.Proofs.Ytjemjffiomkioaa.Wm Go.Proofs.Ytjemjffiomkioaa.Wi Go.Proofs.Ytjemjffiomkioaa.Pls Go.Proofs.Ytjemjffiomkioaa.Wr Go.Proofs.Ytjemjffiomkioaa.Wa Go.Proofs.Ytjemjffiomkioaa.Wx Go.Proofs.Ytjemjffiomkioaa.Wz

set_option maxRecDepth 100000 in
set_option maxHeartbeats 4000000 in
theorem walk (A0 : Option Addr) (n0 c0 : Nat) (zs0 : List (Int × Int)) (hn0 : zs0.length = n0) (hm0 : n0 ≤ maxLen) (h : Int) (hwh : (Lit.int .i64 h).wf = true) (w : World) (hr0 : Rd w w.heap.size A0 (pls zs0)) (hwf0 : ∀ z ∈ zs0, (Lit.int .i64 z.1).wf = true ∧ (Lit.int .i64 z.2).wf = true) :
    Calls Try.prog 13 #[.slice A0 n0 c0, .int .i64 h] w fun e w' => e = .returned (.bool true) ∧ Below w.heap.size w w' := by
  unfold maxLen at hm0
  by_cases hlen0 : 1048576 < n0
  · go_enter Try.func13, Try.ntmps13
    go_wp2_with fail
    go_wp2
    go_ret
    exact ⟨rfl, Below.refl _ _⟩
  have hb0 : n0 ≤ 1048576 := by omega
  obtain ⟨⟨dx, dy⟩, hd⟩ : ∃ d, wD zs0 h = d := ⟨_, rfl⟩
  have CS := Lib.hid (show ∀ (A : Option Addr) (W : World), Rd W W.heap.size A (pls zs0) → Calls Try.prog 44 #[.slice A n0 n0, .int .i64 h] W fun e w' => e = .returned (pq (dx, dy)) ∧ Below W.heap.size W w' from fun A W hh => by have := worstS A n0 n0 zs0 h W hn0 hb0 hh; rw [hd] at this; exact this)
  have CI := Lib.hid (show ∀ (A : Option Addr) (W : World), Rd W W.heap.size A (pls zs0) → Calls Try.prog 45 #[.slice A n0 n0, .int .i64 h] W fun e w' => e = .returned (pq (dx, dy)) ∧ Below W.heap.size W w' from fun A W hh => by have := worstI A n0 n0 zs0 h W hn0 hb0 hh; rw [hd] at this; exact this)
  have HR0 := Lib.hid hr0
  have HN0 := Lib.hid hn0
  have hn90 : ¬ ((1048576 : Int) - (n0 : Int) < 0) := by omega
  have hu : undef = Value.tuple #[] := rfl
  have BB := Lib.hid (Below.refl w.heap.size w)
  clear hr0 hn0 hwf0 hlen0 hm0 hd
  go_enter Try.func13, Try.ntmps13
  go_wp2_with fail
  refine (szPlaceS A0 n0 c0 hb0 _).mono ?_
  rintro e w' ⟨rfl, rfl⟩
  go_wp2_with fail
  refine (toPlaceS A0 n0 c0 zs0 _ HN0.out hb0 ((HR0.out.below BB.out).more (by have h9 := BB.out.size; first | omega | (simp; omega)))).mono ?_
  rintro e u1 ⟨gX0, rfl, _, ho, hb⟩
  have XN := Lib.hid (Rd.own ho)
  clear ho
  have BB2 := Lib.hid (BB.out.trans (hb.mono (by have h9 := BB.out.size; first | omega | (simp; omega))))
  have HBW : Below w.heap.size w u1 := hb
  clear hb HBW BB
  have BB := BB2
  clear BB2
  have X0 := XN
  clear XN
  go_wp2_with fail
  refine (CS.out _ _ X0.out).mono ?_
  rintro e u2 ⟨rfl, hb⟩
  have BB2 := Lib.hid (BB.out.trans (hb.mono (by have h9 := BB.out.size; first | omega | (simp; omega))))
  have HBW : Below u1.heap.size u1 u2 := hb
  have X0n := Lib.hid ((X0.out.below HBW).more HBW.size)
  clear hb HBW BB X0
  have BB := BB2
  clear BB2
  have X0 := X0n
  clear X0n
  clear X0
  go_wp2_with fail
  refine (toPlaceS A0 n0 c0 zs0 _ HN0.out hb0 ((HR0.out.below (BB.out.trans (by have h9 := BB.out.size; go_grown))).more (by have h9 := BB.out.size; first | omega | (simp; omega)))).mono ?_
  rintro e u3 ⟨gX1, rfl, _, ho, hb⟩
  have XN := Lib.hid (Rd.own ho)
  clear ho
  have BB2 := Lib.hid ((BB.out.trans (by have h9 := BB.out.size; go_grown)).trans (hb.mono (by have h9 := BB.out.size; first | omega | (simp; omega))))
  have HBW : Below u2.heap.size u2 u3 := (Below.trans (by go_grown) (hb.mono (by first | (simp; done) | (simp; omega))) : Below u2.heap.size u2 u3)
  have L0 := Lib.hid (((Bk.new u2 #[.int .i64 (dx), .int .i64 (dy)] 30)).below hb)
  clear hb HBW BB
  have BB := BB2
  clear BB2
  have X1 := XN
  clear XN
  go_wp2_with fail
  refine (CI.out _ _ X1.out).mono ?_
  rintro e u4 ⟨rfl, hb⟩
  have BB2 := Lib.hid (BB.out.trans (hb.mono (by have h9 := BB.out.size; first | omega | (simp; omega))))
  have HBW : Below u3.heap.size u3 u4 := hb
  have X1n := Lib.hid ((X1.out.below HBW).more HBW.size)
  have L0n := Lib.hid (L0.out.below HBW)
  clear hb HBW BB X1 L0
  have BB := BB2
  clear BB2
  have X1 := X1n
  clear X1n
  have L0 := L0n
  clear L0n
  have cL00 := L0.out.cell (i := 0) rfl
  have cL01 := L0.out.cell (i := 1) rfl
  have lL0 := L0.out.lt
  have mL0 : ∀ j, _ < u4.heap.size + j := fun j => Nat.lt_of_lt_of_le lL0 (Nat.le_add_right _ j)
  go_wp2_with fail
  refine (eqPlace _ _ _).mono ?_
  rintro e w' ⟨rfl, rfl⟩
  go_wp2_with fail
  refine (toPlaceS A0 n0 c0 zs0 _ HN0.out hb0 ((HR0.out.below (BB.out.trans (by have h9 := BB.out.size; go_grown))).more (by have h9 := BB.out.size; first | omega | (simp; omega)))).mono ?_
  rintro e u5 ⟨gX2, rfl, _, ho, hb⟩
  have XN := Lib.hid (Rd.own ho)
  clear ho
  clear cL00 cL01 lL0 mL0
  have BB2 := Lib.hid ((BB.out.trans (by have h9 := BB.out.size; go_grown)).trans (hb.mono (by have h9 := BB.out.size; first | omega | (simp; omega))))
  have HBW : Below u4.heap.size u4 u5 := (Below.trans (by go_grown) (hb.mono (by first | (simp; done) | (simp; omega))) : Below u4.heap.size u4 u5)
  have X1n := Lib.hid ((X1.out.below HBW).more HBW.size)
  have L0n := Lib.hid (L0.out.below HBW)
  clear hb HBW BB X1 L0
  have BB := BB2
  clear BB2
  have X1 := X1n
  clear X1n
  have L0 := L0n
  clear L0n
  have X2 := XN
  clear XN
  clear L0
  go_wp2_with fail
  refine (eqPlaceS _ _ n0 n0 n0 zs0 _ _ HN0.out hb0 (Nat.le_refl _) X1.out X2.out).mono ?_
  rintro e u6 ⟨rfl, hb⟩
  have BB2 := Lib.hid (BB.out.trans (hb.mono (by have h9 := BB.out.size; first | omega | (simp; omega))))
  have HBW : Below u5.heap.size u5 u6 := hb
  have X1n := Lib.hid ((X1.out.below HBW).more HBW.size)
  have X2n := Lib.hid ((X2.out.below HBW).more HBW.size)
  clear hb HBW BB X1 X2
  have BB := BB2
  clear BB2
  have X1 := X1n
  clear X1n
  have X2 := X2n
  clear X2n
  go_wp2_with fail
  go_ret
  exact ⟨rfl, BB.out⟩

set_option maxRecDepth 100000 in
theorem lifted (os : Os) (started : os.Started) (H : Type) (enc : TypeId × Value → H) :
    ReturnsInHanded {} Try.checked os 13 .any (Rows.fnExactWorstDriftSpec.pre6 enc Try.prog Try.f13 Rows.fnExactWorstDriftRow.domain false) (Rows.fnExactWorstDriftSpec.post enc Try.prog Try.f13 false true false false) := by
  refine returnsInHanded_of_change (C := Try.checked) own started (by kernel_rfl) Try.func13
    (ChangeSpec.witness6 (enc := enc) (C := Try.checked) false ⟨#[], #[.slice none 0 0, .int .i64 0], []⟩ 8 (by kernel_rfl) (by kernel_rfl) (by kernel_rfl) (by kernel_rfl)) ?_
  intro W base args ds gs before hval0 hW hcnd hsz
  have hval : ∀ (j : Nat) t v, Try.f13.params[j]? = some t → args[j]? = some v → Value.okWide Try.prog W .any base t v := hval0
  have hW' := hW
  obtain ⟨p, q, hA0, hV, rfl, hfz, hnd⟩ := hW
  have hA1 := hA0
  have hA : DataW.TrodAll enc Try.prog W 0 (fun _ => true) true Try.f13.params.toList args.toList ds p := hA0
  rw [Try.params13] at hA hval
  obtain ⟨v0, vs0, d0, ds0, p0, q0, hargs, rfl, rfl, h0, r0⟩ := trodAll_cons hA
  obtain ⟨v1, vs1, d1, ds1, p1, q1, rfl, rfl, rfl, h1, r1⟩ := trodAll_cons r0
  obtain ⟨rfl, rfl, rfl⟩ := trodAll_nil r1
  obtain rfl : args = #[v0, v1] := by cases args; simp_all
  obtain ⟨rfl, rfl⟩ := trodVars_none hV
  obtain ⟨A0, n0, c0, a0, rfl, l0, m0, g0, w0⟩ := Pls.take_places Try.underlying43 Try.underlying64 (by kernel_rfl) rfl rfl (by kernel_rfl) (by kernel_rfl) Try.underlying3 Try.underlying3 (hval 0 43 v0 rfl rfl) h0
  obtain ⟨a1, rfl, rfl, rfl, w1⟩ := open_int Try.underlying3 (hval 1 3 v1 rfl rfl) h1
  clear hA0 hval0
  rw [List.append_nil] at hW'
  refine (walk A0 n0 c0 a0 l0 m0 a1 w1 W g0 w0).mono fun e W' ⟨he, hb⟩ => ?_
  subst he
  exact ⟨_, rfl, post_law rfl hW' hA1 laidOut (by rw [Try.params13]; exact of_decide_eq_true (by kernel_rfl)) 4 (by kernel_rfl) Try.underlying4 rfl hb⟩

theorem over : Rows.fnExactWorstDriftRow.holds Try.pinned (OpenSpec.ofChange Rows.fnExactWorstDriftSpec) :=
  OpenClaim.holds_of_wide 13 Try.f13 rfl rfl rfl rfl rfl rfl rfl ⟨rfl, rfl, rfl, rfl, rfl⟩ rfl rfl rfl rfl rfl (by kernel_rfl) Try.func13 (by kernel_rfl)
    (of_decide_eq_true (by kernel_rfl)) (by unfold Func.isWrapper; first | (rw [if_pos (by decide +kernel)]; kernel_rfl) | (rw [if_neg (by decide +kernel)]; exact ⟨rfl, rfl⟩))
    (fun os started H enc _ => lifted os started H enc)

/-- The statement. -/
theorem proved : Rows.FnExactWorstDriftSaid :=
  over
#print axioms proved
end Go.Proofs.Ytjemjffiomkioaa.fnExactWorstDrift
