/- The law FnExactBoxOf holds at every input. The step from the walk to the row follows the guide's own template. -/
import Derived.Test.YtkgccpbpmclikaaMem
import Derived.Test.YtkgccpbpmclikaaBi
namespace Go.Proofs.Ytkgccpbpmclikaa.fnExactBoxOf
open Go.ChangeShapes Go.WideShapes Go.ChangeAt Go.RowKit Go.WideMaps Go.WideElems Go.Proofs.Ytkgccpbpmclikaa.Mem
open Go.ChangeMaps (open_string shut_string)
set_option linter.unusedVariables false

theorem own : ownKnob Try.prog.godebug = none := by kernel_rfl
theorem laidOut : laidOutB Try.prog = true := by kernel_rfl

open Go.Proofs.Ytkgccpbpmclikaa.Str Go.Proofs.Ytkgccpbpmclikaa.Pw Go.Proofs.Ytkgccpbpmclikaa.P2 Go.Proofs.Ytkgccpbpmclikaa.Bx Go.Proofs.Ytkgccpbpmclikaa.Tb Go.Proofs.Ytkgccpbpmclikaa.Pls Go.Proofs.Ytkgccpbpmclikaa.Bo Go.Proofs.Ytkgccpbpmclikaa.Bi

set_option maxHeartbeats 2000000 in
theorem walk (A : Option Addr) (n c : Nat) (zs : List (Int × Int)) (hn : zs.length = n) (hm : n ≤ maxLen) (w : World) (hr : Rd w w.heap.size A (pls zs)) (hwf : ∀ z ∈ zs, (Lit.int .i64 z.1).wf = true ∧ (Lit.int .i64 z.2).wf = true) :
    Calls Try.prog 13 #[.slice A n c] w fun e w' => e = .returned (.bool true) ∧ Below w.heap.size w w' := by
  unfold maxLen at hm
  by_cases hlen : 1048576 < n
  · go_enter Try.func13, Try.ntmps13
    go_wp2
    go_ret
    exact ⟨rfl, Below.refl _ _⟩
  · have hb : n ≤ 1048576 := by omega
    obtain ⟨⟨q1, q2, q3, q4⟩, hq⟩ : ∃ q, val zs = q := ⟨_, rfl⟩
    obtain ⟨r, hk⟩ : ∃ r, okB zs = r := ⟨_, rfl⟩
    have CS := Lib.hid (show ∀ (A : Option Addr) (w : World), Rd w w.heap.size A (pls zs) → Calls Try.prog 39 #[.slice A n n] w fun e w' => e = .returned (.tuple #[box4 q1 q2 q3 q4, .bool r]) ∧ Below w.heap.size w w' from
      fun A w h => by have := boxOfS A n n zs w hn hb h; rw [hq, hk] at this; exact this)
    have CI := Lib.hid (show ∀ (A : Option Addr) (w : World), Rd w w.heap.size A (pls zs) → Calls Try.prog 41 #[.slice A n n] w fun e w' => e = .returned (.tuple #[box4 q1 q2 q3 q4, .bool r]) ∧ Below w.heap.size w w' from
      fun A w h => by have := boxOfI A n n zs w hn hb h; rw [hq, hk] at this; exact this)
    have HR := Lib.hid hr
    have HN := Lib.hid hn
    have hu : undef = Value.tuple #[] := rfl
    clear hr hn hwf hlen hq hk
    go_enter Try.func13, Try.ntmps13
    have hn9 : ¬ ((1048576 : Int) - (n : Int) < 0) := by omega
    go_wp2_with fail
    refine (szPlaceS A n c hb _).mono ?_
    rintro e w' ⟨rfl, rfl⟩
    go_wp2_with fail
    refine (toPlaceS A n c zs _ HN.out hb HR.out).mono ?_
    rintro e w1 ⟨g1, rfl, s1, o1, b1⟩
    have O1 := Lib.hid o1
    have B1 := Lib.hid b1
    clear o1 b1
    go_wp2_with fail
    refine (CS.out _ _ (Rd.own O1.out)).mono ?_
    rintro e w2 ⟨rfl, b2⟩
    have B2 := Lib.hid (B1.out.trans (b2.mono B1.out.size))
    clear b2
    go_wp2_with fail
    refine (toPlaceS A n c zs _ HN.out hb ((HR.out.below (B2.out.trans (by have h9 := B2.out.size; go_grown))).more (by have h9 := B2.out.size; simp; omega))).mono ?_
    rintro e w3 ⟨g3, rfl, s3, o3, b3⟩
    have L0 : B4 w3 w2.heap.size q1 q2 q3 q4 := (show B4 (w2.alloc _) w2.heap.size q1 q2 q3 q4 by constructor <;> simp [go_sem]).below b3
    have O3 := Lib.hid (Rd.own o3)
    have B3 := Lib.hid (show Below w.heap.size w w3 from (B2.out.trans (by have h9 := B2.out.size; go_grown)).trans (b3.mono (by have h9 := B2.out.size; simp; omega)))
    clear o3 b3
    go_wp2_with fail
    refine (CI.out _ _ O3.out).mono ?_
    rintro e w4 ⟨rfl, b4⟩
    have L1 := L0.below b4
    have R4 := Lib.hid ((O3.out.below b4).more b4.size)
    have B4' := Lib.hid (B3.out.trans (b4.mono B3.out.size))
    have k0 := L1.c0
    have k1 := L1.c1
    have k2 := L1.c2
    have k3 := L1.c3
    have l1 : w2.heap.size < w4.heap.size := World.block_lt_of_cell? w4 _ k0
    have l2 : ∀ j, w2.heap.size < w4.heap.size + j := fun j => by omega
    clear b4 L0 L1
    go_wp2_with fail
    refine (eqBox _ _ _ _ _).mono ?_
    rintro e w5 ⟨rfl, b5⟩
    have R5 := Lib.hid (((R4.out.below (B := w4.heap.size) (by go_grown)).more (by simp)).below b5 |>.more b5.size)
    have B5 := Lib.hid (B4'.out.trans ((Below.trans (by have h9 := B4'.out.size; go_grown) (b5.mono (by have h9 := B4'.out.size; simp; omega))) : Below w.heap.size w4 w5))
    clear b5
    cases r
    all_goals
      go_wp2_with fail
      refine (toPlaceS A n c zs _ HN.out hb ((HR.out.below B5.out).more B5.out.size)).mono ?_
      rintro e w6 ⟨g6, rfl, s6, o6, b6⟩
      have R6 := Lib.hid ((R5.out.below b6).more b6.size)
      have O6 := Lib.hid (Rd.own o6)
      have B6 := Lib.hid (B5.out.trans (b6.mono B5.out.size))
      clear o6 b6
      go_wp2_with fail
      refine (eqPlaceS _ _ n n n zs w6.heap.size _ HN.out hb (Nat.le_refl _) R6.out O6.out).mono ?_
      rintro e w7 ⟨rfl, b7⟩
      have B7 := Lib.hid (B6.out.trans (b7.mono B6.out.size))
      clear b7
      go_wp2_with fail
      go_ret
      exact ⟨rfl, B7.out⟩

set_option maxRecDepth 100000 in
theorem lifted (os : Os) (started : os.Started) (H : Type) (enc : TypeId × Value → H) :
    ReturnsInHanded {} Try.checked os 13 .any (Rows.fnExactBoxOfSpec.pre6 enc Try.prog Try.f13 Rows.fnExactBoxOfRow.domain false) (Rows.fnExactBoxOfSpec.post enc Try.prog Try.f13 false true false false) := by
  refine returnsInHanded_of_change (C := Try.checked) own started (by kernel_rfl) Try.func13
    (ChangeSpec.witness6 (enc := enc) (C := Try.checked) false ⟨#[], #[.slice none 0 0], []⟩ 8 (by kernel_rfl) (by kernel_rfl) (by kernel_rfl) (by kernel_rfl)) ?_
  intro W base args ds gs before hval0 hW hcnd hsz
  have hval : ∀ (j : Nat) t v, Try.f13.params[j]? = some t → args[j]? = some v → Value.okWide Try.prog W .any base t v := hval0
  have hW' := hW
  obtain ⟨p, q, hA0, hV, rfl, hfz, hnd⟩ := hW
  have hA1 := hA0
  have hA : DataW.TrodAll enc Try.prog W 0 (fun _ => true) true Try.f13.params.toList args.toList ds p := hA0
  rw [Try.params13] at hA hval
  obtain ⟨v0, vs0, d0, ds0, p0, q0, hargs, rfl, rfl, h0, r0⟩ := trodAll_cons hA
  obtain ⟨rfl, rfl, rfl⟩ := trodAll_nil r0
  obtain rfl : args = #[v0] := by cases args; simp_all
  obtain ⟨rfl, rfl⟩ := trodVars_none hV
  obtain ⟨A0, n0, c0, a0, rfl, l0, m0, g0, w0⟩ := Pls.take_places Try.underlying51 Try.underlying23 (by kernel_rfl) rfl rfl (by kernel_rfl) (by kernel_rfl) Try.underlying3 Try.underlying3 (hval 0 51 v0 rfl rfl) h0
  clear hA0 hval0
  rw [List.append_nil] at hW'
  refine (walk A0 n0 c0 a0 l0 m0 W g0 w0).mono fun e W' ⟨he, hb⟩ => ?_
  subst he
  exact ⟨_, rfl, post_law rfl hW' hA1 laidOut (by rw [Try.params13]; exact of_decide_eq_true (by kernel_rfl)) 4 (by kernel_rfl) Try.underlying4 rfl hb⟩

theorem over : Rows.fnExactBoxOfRow.holds Try.pinned (OpenSpec.ofChange Rows.fnExactBoxOfSpec) :=
  OpenClaim.holds_of_wide 13 Try.f13 rfl rfl rfl rfl rfl rfl rfl ⟨rfl, rfl, rfl, rfl, rfl⟩ rfl rfl rfl rfl rfl (by kernel_rfl) Try.func13 (by kernel_rfl)
    (of_decide_eq_true (by kernel_rfl)) (by unfold Func.isWrapper; first | (rw [if_pos (by decide +kernel)]; kernel_rfl) | (rw [if_neg (by decide +kernel)]; exact ⟨rfl, rfl⟩))
    (fun os started H enc _ => lifted os started H enc)

/-- The statement. -/
theorem proved : Rows.FnExactBoxOfSaid :=
  over
#print axioms proved
end Go.Proofs.Ytkgccpbpmclikaa.fnExactBoxOf
