/- The law FnExactEndOf holds at every input. The step from the walk to the row follows the guide's own template. -/
import Derived.Test.YtapijndbchopbaaMem
import Derived.Test.YtapijndbchopbaaCl
import Derived.Test.YtapijndbchopbaaCs
import Derived.Test.YtapijndbchopbaaSd
import Derived.Test.YtapijndbchopbaaEm7
import Derived.Test.YtapijndbchopbaaEi7
namespace Go.Proofs.Ytapijndbchopbaa.fnExactEndOf
open Go.ChangeShapes Go.WideShapes Go.ChangeAt Go.RowKit Go.WideMaps Go.WideElems Go.Proofs.Ytapijndbchopbaa.Mem
open Go.ChangeMaps (open_string shut_string)
set_option linter.unusedVariables false
set_option linter.unusedSimpArgs false

theorem own : ownKnob Try.prog.godebug = none := by kernel_rfl
theorem laidOut : laidOutB Try.prog = true := by kernel_rfl

open Go.Proofs.Ytapijndbchopbaa.Rw Go.Proofs.Ytapijndbchopbaa.P2 Go.Proofs.Ytapijndbchopbaa.Cd Go.Proofs.Ytapijndbchopbaa.Cv Go.Proofs.Ytapijndbchopbaa.Cl Go.Proofs.Ytapijndbchopbaa.Cs Go.Proofs.Ytapijndbchopbaa.Sd Go.Proofs.Ytapijndbchopbaa.Em7 Go.Proofs.Ytapijndbchopbaa.Ei7 Go.Proofs.Ytapijndbchopbaa.Ed

set_option maxRecDepth 100000 in
set_option maxHeartbeats 4000000 in
theorem walk (A0 : Option Addr) (n0 c0 : Nat) (zs : List C) (hn0 : zs.length = n0) (hm0 : n0 ≤ maxLen) (w : World) (hr0 : Rd w w.heap.size A0 (dls zs)) (hwf : ∀ z ∈ zs, Dok z) :
    Calls Try.prog 11 #[.slice A0 n0 c0] w fun e w' => e = .returned (.bool true) ∧ Below w.heap.size w w' := by
  have SZ := Lib.hid (szCueS A0 n0 c0 zs w hn0 hm0 hr0 hwf)
  by_cases hz : szV n0 zs < 0
  · generalize szV n0 zs = R at *
    clear hn0 hm0 hr0 hwf
    go_enter Try.func11, Try.ntmps11
    go_wp2_with fail
    refine SZ.out.mono ?_
    rintro e w1 ⟨rfl, hb⟩
    have BB := Lib.hid hb
    clear hb SZ
    go_wp2_with fail
    go_returns
    exact ⟨rfl, BB.out⟩
  have hb : n0 ≤ 1048576 ∧ bulk zs ≤ 1048576 := by unfold szV szW at hz; split at hz <;> omega
  obtain ⟨hb0, hbk⟩ := hb
  have hsz : ∀ z ∈ zs, z.nm.size ≤ 1048576 := fun z hm => by
    obtain ⟨k, hk, rfl⟩ := List.getElem_of_mem hm
    have h1 := bulk_take (List.getElem?_eq_getElem hk)
    have h2 := bulk_le zs (k + 1)
    omega
  obtain ⟨R, hR⟩ : ∃ R, szV n0 zs = R := ⟨_, rfl⟩
  rw [hR] at hz SZ
  clear hR
  obtain ⟨r, hrr⟩ : ∃ r, endV zs = r := ⟨_, rfl⟩
  have qq : (r == r) = true := by simp
  have CS := Lib.hid (show ∀ (A : Option Addr) (W : World), Rd W W.heap.size A (dls zs) → Calls Try.prog 42 #[.slice A n0 n0] W fun e w' => e = .returned (.int .i64 r) ∧ Below W.heap.size W w' from fun A W h => hrr ▸ endS A n0 n0 zs W hn0 hb0 (Nat.le_refl _) hb0 hsz h)
  have CI := Lib.hid (show ∀ (A : Option Addr) (W : World), Rd W W.heap.size A (dls zs) → Calls Try.prog 43 #[.slice A n0 n0] W fun e w' => e = .returned (.int .i64 r) ∧ Below W.heap.size W w' from fun A W h => hrr ▸ endI A n0 n0 zs W hn0 hb0 h)
  have HR0 := Lib.hid hr0
  have HN0 := Lib.hid hn0
  have hu : undef = Value.tuple #[] := rfl
  clear hr0 hn0 hwf hm0 hrr hsz hbk
  go_enter Try.func11, Try.ntmps11
  go_wp2_with fail
  refine SZ.out.mono ?_
  rintro e w0 ⟨rfl, hb⟩
  have BB := Lib.hid hb
  clear hb SZ
  go_wp2_with fail
  refine (toCueS A0 n0 c0 zs _ HN0.out hb0 ((HR0.out.below BB.out).more (by have h9 := BB.out.size; first | omega | (simp; omega)))).mono ?_
  rintro e u1 ⟨gX0, rfl, _, ho, hb⟩
  have XN := Lib.hid (Rd.own ho)
  clear ho
  have BB2 := Lib.hid (BB.out.trans (hb.mono (by have h9 := BB.out.size; first | omega | (simp; omega))))
  have HBW := hb
  clear hb HBW BB 
  have BB := BB2
  clear BB2
  have X0 := XN
  clear XN
  go_wp2_with fail
  refine (CS.out _ _ X0.out).mono ?_
  rintro e u2 ⟨rfl, hb⟩
  have BB2 := Lib.hid (BB.out.trans (hb.mono (by have h9 := BB.out.size; first | omega | (simp; omega))))
  have HBW := hb
  have X0n := Lib.hid ((X0.out.below HBW).more HBW.size)
  clear hb HBW BB X0
  have BB := BB2
  clear BB2
  have X0 := X0n
  clear X0n
  clear X0
  go_wp2_with fail
  refine (toCueS A0 n0 c0 zs _ HN0.out hb0 ((HR0.out.below BB.out).more (by have h9 := BB.out.size; first | omega | (simp; omega)))).mono ?_
  rintro e u3 ⟨gX1, rfl, _, ho, hb⟩
  have XN := Lib.hid (Rd.own ho)
  clear ho
  have BB2 := Lib.hid (BB.out.trans (hb.mono (by have h9 := BB.out.size; first | omega | (simp; omega))))
  have HBW := hb
  clear hb HBW BB 
  have BB := BB2
  clear BB2
  have X1 := XN
  clear XN
  go_wp2_with fail
  refine (CI.out _ _ X1.out).mono ?_
  rintro e u4 ⟨rfl, hb⟩
  have BB2 := Lib.hid (BB.out.trans (hb.mono (by have h9 := BB.out.size; first | omega | (simp; omega))))
  have HBW := hb
  have X1n := Lib.hid ((X1.out.below HBW).more HBW.size)
  clear hb HBW BB X1
  have BB := BB2
  clear BB2
  have X1 := X1n
  clear X1n
  go_wp2_with fail
  refine (toCueS A0 n0 c0 zs _ HN0.out hb0 ((HR0.out.below BB.out).more (by have h9 := BB.out.size; first | omega | (simp; omega)))).mono ?_
  rintro e u5 ⟨gX2, rfl, _, ho, hb⟩
  have XN := Lib.hid (Rd.own ho)
  clear ho
  have BB2 := Lib.hid (BB.out.trans (hb.mono (by have h9 := BB.out.size; first | omega | (simp; omega))))
  have HBW := hb
  have X1n := Lib.hid ((X1.out.below HBW).more HBW.size)
  clear hb HBW BB X1
  have BB := BB2
  clear BB2
  have X1 := X1n
  clear X1n
  have X2 := XN
  clear XN
  go_wp2_with fail
  refine (eqCueS _ _ n0 n0 n0 zs _ _ HN0.out hb0 (Nat.le_refl _) X1.out X2.out).mono ?_
  rintro e u6 ⟨rfl, hb⟩
  have BB2 := Lib.hid (BB.out.trans (hb.mono (by have h9 := BB.out.size; first | omega | (simp; omega))))
  have HBW := hb
  have X1n := Lib.hid ((X1.out.below HBW).more HBW.size)
  have X2n := Lib.hid ((X2.out.below HBW).more HBW.size)
  clear hb HBW BB X1 X2
  have BB := BB2
  clear BB2
  have X1 := X1n
  clear X1n
  have X2 := X2n
  clear X2n
  go_wp2_with fail
  go_returns
  exact ⟨rfl, BB.out⟩

set_option maxRecDepth 100000 in
theorem lifted (os : Os) (started : os.Started) (H : Type) (enc : TypeId × Value → H) :
    ReturnsInHanded {} Try.checked os 11 .any (Rows.fnExactEndOfSpec.pre6 enc Try.prog Try.f11 Rows.fnExactEndOfRow.domain false) (Rows.fnExactEndOfSpec.post enc Try.prog Try.f11 false true false false) := by
  refine returnsInHanded_of_change (C := Try.checked) own started (by kernel_rfl) Try.func11
    (ChangeSpec.witness6 (enc := enc) (C := Try.checked) false ⟨#[], #[.slice none 0 0], []⟩ 8 (by kernel_rfl) (by kernel_rfl) (by kernel_rfl) (by kernel_rfl)) ?_
  intro W base args ds gs before hval0 hW hcnd hsz
  have hval : ∀ (j : Nat) t v, Try.f11.params[j]? = some t → args[j]? = some v → Value.okWide Try.prog W .any base t v := hval0
  have hW' := hW
  obtain ⟨p, q, hA0, hV, rfl, hfz, hnd⟩ := hW
  have hA1 := hA0
  have hA : DataW.TrodAll enc Try.prog W 0 (fun _ => true) true Try.f11.params.toList args.toList ds p := hA0
  rw [Try.params11] at hA hval
  obtain ⟨v0, vs0, d0, ds0, p0, q0, hargs, rfl, rfl, h0, r0⟩ := trodAll_cons hA
  obtain ⟨rfl, rfl, rfl⟩ := trodAll_nil r0
  obtain rfl : args = #[v0] := by cases args; simp_all
  obtain ⟨rfl, rfl⟩ := trodVars_none hV
  obtain ⟨A0, n0, c0, a0, rfl, l0, m0, g0, w0⟩ := Cd.take_cues Try.underlying31 (by kernel_rfl) Cd.read_this (hval 0 31 v0 rfl rfl) h0
  clear hA0 hval0
  rw [List.append_nil] at hW'
  refine (walk A0 n0 c0 a0 l0 m0 W g0 w0).mono fun e W' ⟨he, hb⟩ => ?_
  subst he
  exact ⟨_, rfl, post_law rfl hW' hA1 laidOut (by rw [Try.params11]; exact of_decide_eq_true (by kernel_rfl)) 4 (by kernel_rfl) Try.underlying4 rfl hb⟩

theorem over : Rows.fnExactEndOfRow.holds Try.pinned (OpenSpec.ofChange Rows.fnExactEndOfSpec) :=
  OpenClaim.holds_of_wide 11 Try.f11 rfl rfl rfl rfl rfl rfl rfl ⟨rfl, rfl, rfl, rfl, rfl⟩ rfl rfl rfl rfl rfl (by kernel_rfl) Try.func11 (by kernel_rfl)
    (of_decide_eq_true (by kernel_rfl)) (by unfold Func.isWrapper; first | (rw [if_pos (by decide +kernel)]; kernel_rfl) | (rw [if_neg (by decide +kernel)]; exact ⟨rfl, rfl⟩))
    (fun os started H enc _ => lifted os started H enc)

/-- The statement. -/
theorem proved : Rows.FnExactEndOfSaid :=
  over
#print axioms proved
end Go.Proofs.Ytapijndbchopbaa.fnExactEndOf
