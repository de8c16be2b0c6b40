/- The law FnExactIsCue holds at every input. The step from the walk to the row follows the guide's own template. -/
import Derived.Test.YtapijndbchopbaaMem
import Derived.Test.YtapijndbchopbaaCv
import Derived.Test.YtapijndbchopbaaCs
namespace Go.Proofs.Ytapijndbchopbaa.fnExactIsCue
open Go.ChangeShapes Go.WideShapes Go.ChangeAt Go.RowKit Go.WideMaps Go.WideElems Go.Proofs.Ytapijndbchopbaa.Mem
open Go.ChangeMaps (open_string shut_string)
set_option linter.unusedVariables false
set_option linter.unusedSimpArgs false

theorem own : ownKnob Try.prog.godebug = none := by kernel_rfl
theorem laidOut : laidOutB Try.prog = true := by kernel_rfl

open Go.Proofs.Ytapijndbchopbaa.Cd Go.Proofs.Ytapijndbchopbaa.Cv Go.Proofs.Ytapijndbchopbaa.Cs Go.Proofs.Ytapijndbchopbaa.P2

set_option maxRecDepth 100000 in
set_option maxHeartbeats 4000000 in
theorem walk (d : C) (hd : Dok d) (w : World) :
    Calls Try.prog 3 #[va d.tk d.nm d.lv d.rp] w fun e w' => e = .returned (.bool true) ∧ Below w.heap.size w w' := by
  obtain ⟨t, n, l, r⟩ := d
  obtain ⟨hn, _⟩ := hd
  show Calls Try.prog 3 #[va t n l r] w fun e w' => e = .returned (.bool true) ∧ Below w.heap.size w w'
  simp only [] at hn
  by_cases hR : (1048576 : Int) - (n.size : Int) < 0
  · have C := Lib.hid (szNo t n l r 1048576 (by omega) (by omega) hn hR)
    clear hn hR
    go_enter Try.func3, Try.ntmps3
    go_wp2_with fail
    refine (C.out _).mono ?_
    rintro e w' ⟨rfl, rfl⟩
    go_wp2_with fail
    go_returns
    exact ⟨rfl, by go_grown⟩
  obtain ⟨R, hRR⟩ : ∃ R : Int, (1048576 : Int) - (n.size : Int) = R := ⟨_, rfl⟩
  have hp : ¬ R < 0 := by omega
  have C := Lib.hid (szYes t n l r 1048576 R (by omega) hRR (by omega))
  have CS := isCueS t n l r (by omega)
  have CI := isCueI t n l r
  generalize cueB t n l r = q at *
  have CS := Lib.hid CS
  have CI := Lib.hid CI
  clear hn hR hRR
  cases q
  all_goals
    go_enter Try.func3, Try.ntmps3
    go_wp2_with fail
    refine (C.out _).mono ?_
    rintro e w' ⟨rfl, rfl⟩
    go_wp2_with fail
    refine (toCue _ _ _ _ _).mono ?_
    rintro e w1 ⟨rfl, hb⟩
    obtain ⟨hc1, hf1⟩ := open_below hb
    have hz : w.heap.size ≤ ((w.alloc (.cells (ca t n l r) 23)).alloc (.cells (ca t n l r) 23)).heap.size := by simp; omega
    have H1 := Lib.hid (show Below w.heap.size w w1 from Below.trans (by go_grown) (hb.mono hz))
    clear hz
    have p1 : w.heap.size < w1.heap.size := by have := hb.size; simp at this; omega
    clear hb
    have K1 : ∀ j v, (ca t n l r)[j]? = some v → w1.cell? ⟨w.heap.size, j, none⟩ = some v := fun j v hv => by rw [hc1 _ (by simp; omega)]; exact cell_alloc (cell_here hv)
    have k0 := K1 0 _ rfl
    have k1 := K1 1 _ rfl
    have k2 := K1 2 _ rfl
    have k3 := K1 3 _ rfl
    clear K1 hc1 hf1
    go_wp2_with fail
    refine (CS.out _).mono ?_
    rintro e w2 ⟨rfl, rfl⟩
    have H2 := Lib.hid (H1.out.alloc H1.out.size (.cells (ca t n l r) 26))
    have c0 := cell_alloc (o := .cells (ca t n l r) 26) k0
    have c1 := cell_alloc (o := .cells (ca t n l r) 26) k1
    have c2 := cell_alloc (o := .cells (ca t n l r) 26) k2
    have c3 := cell_alloc (o := .cells (ca t n l r) 26) k3
    generalize w1.alloc (.cells (ca t n l r) 26) = w2 at *
    clear k0 k1 k2 k3 H1 p1
    go_wp2_with fail
    refine (toCue _ _ _ _ _).mono ?_
    rintro e w3 ⟨rfl, hb⟩
    have H3 := Lib.hid (H2.out.trans (hb.mono H2.out.size))
    clear hb H2 c0 c1 c2 c3
    go_wp2_with fail
    refine (CI.out _).mono ?_
    rintro e w4 ⟨rfl, rfl⟩
    have H4 := Lib.hid (H3.out.alloc H3.out.size (.cells (ca t n l r) 26))
    clear H3
    go_wp2_with fail
    go_returns
    exact ⟨rfl, H4.out⟩

set_option maxRecDepth 100000 in
theorem lifted (os : Os) (started : os.Started) (H : Type) (enc : TypeId × Value → H) :
    ReturnsInHanded {} Try.checked os 3 .any (Rows.fnExactIsCueSpec.pre6 enc Try.prog Try.f3 Rows.fnExactIsCueRow.domain false) (Rows.fnExactIsCueSpec.post enc Try.prog Try.f3 false true false false) := by
  refine returnsInHanded_of_change (C := Try.checked) own started (by kernel_rfl) Try.func3
    (ChangeSpec.witness6 (enc := enc) (C := Try.checked) false ⟨#[], #[.agg #[.int .i64 0, .string ByteArray.empty, .int .i64 0, .int .i64 0]], []⟩ 8 (by kernel_rfl) (by kernel_rfl) (by kernel_rfl) (by kernel_rfl)) ?_
  intro W base args ds gs before hval0 hW hcnd hsz
  have hval : ∀ (j : Nat) t v, Try.f3.params[j]? = some t → args[j]? = some v → Value.okWide Try.prog W .any base t v := hval0
  have hW' := hW
  obtain ⟨p, q, hA0, hV, rfl, hfz, hnd⟩ := hW
  have hA1 := hA0
  have hA : DataW.TrodAll enc Try.prog W 0 (fun _ => true) true Try.f3.params.toList args.toList ds p := hA0
  rw [Try.params3] at hA hval
  obtain ⟨v0, vs0, d0, ds0, p0, q0, hargs, rfl, rfl, h0, r0⟩ := trodAll_cons hA
  obtain ⟨rfl, rfl, rfl⟩ := trodAll_nil r0
  obtain rfl : args = #[v0] := by cases args; simp_all
  obtain ⟨rfl, rfl⟩ := trodVars_none hV
  obtain ⟨D0, rfl, w0⟩ := Cd.take_cue Try.underlying23 (by kernel_rfl) Cd.read_this (hval 0 23 v0 rfl rfl) h0
  clear hA0 hval0
  rw [List.append_nil] at hW'
  refine (walk D0 w0 W).mono fun e W' ⟨he, hb⟩ => ?_
  subst he
  exact ⟨_, rfl, post_law rfl hW' hA1 laidOut (by rw [Try.params3]; exact of_decide_eq_true (by kernel_rfl)) 4 (by kernel_rfl) Try.underlying4 rfl hb⟩

theorem over : Rows.fnExactIsCueRow.holds Try.pinned (OpenSpec.ofChange Rows.fnExactIsCueSpec) :=
  OpenClaim.holds_of_wide 3 Try.f3 rfl rfl rfl rfl rfl rfl rfl ⟨rfl, rfl, rfl, rfl, rfl⟩ rfl rfl rfl rfl rfl (by kernel_rfl) Try.func3 (by kernel_rfl)
    (of_decide_eq_true (by kernel_rfl)) (by unfold Func.isWrapper; first | (rw [if_pos (by decide +kernel)]; kernel_rfl) | (rw [if_neg (by decide +kernel)]; exact ⟨rfl, rfl⟩))
    (fun os started H enc _ => lifted os started H enc)

/-- The statement. -/
theorem proved : Rows.FnExactIsCueSaid :=
  over
#print axioms proved
end Go.Proofs.Ytapijndbchopbaa.fnExactIsCue
