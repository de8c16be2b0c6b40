/- The law FnExactLevelAt holds at every input. The step from the walk to the row follows the guide's own template. -/
import Derived.Test.YtapijndbchopbaaMem
import Derived.Test.YtapijndbchopbaaCl
import Derived.Test.YtapijndbchopbaaCs
import Derived.Test.YtapijndbchopbaaSd
import Derived.Test.YtapijndbchopbaaLm7
import Derived.Test.YtapijndbchopbaaLi7
namespace Go.Proofs.Ytapijndbchopbaa.fnExactLevelAt
open Go.ChangeShapes Go.WideShapes Go.ChangeAt Go.RowKit Go.WideMaps Go.WideElems Go.Proofs.Ytapijndbchopbaa.Mem
open Go.ChangeMaps (open_string shut_string)
set_option linter.unusedVariables false
set_option linter.unusedSimpArgs false

theorem own : ownKnob Try.prog.godebug = none := by kernel_rfl
theorem laidOut : laidOutB Try.prog = true := by kernel_rfl

open Go.Proofs.Ytapijndbchopbaa.Rw Go.Proofs.Ytapijndbchopbaa.P2 Go.Proofs.Ytapijndbchopbaa.Cd Go.Proofs.Ytapijndbchopbaa.Cv Go.Proofs.Ytapijndbchopbaa.Cl Go.Proofs.Ytapijndbchopbaa.Cs Go.Proofs.Ytapijndbchopbaa.Sd Go.Proofs.Ytapijndbchopbaa.Lm7 Go.Proofs.Ytapijndbchopbaa.Li7 Go.Proofs.Ytapijndbchopbaa.Ld

set_option maxRecDepth 100000 in
set_option maxHeartbeats 4000000 in
theorem walk (A0 : Option Addr) (n0 c0 : Nat) (zs : List C) (hn0 : zs.length = n0) (hm0 : n0 ≤ maxLen) (s1 : ByteArray) (ws1 : s1.size ≤ maxLen) (i1 : Int) (wi1 : (Lit.int .i64 i1).wf = true) (w : World) (hr0 : Rd w w.heap.size A0 (dls zs)) (hwf : ∀ z ∈ zs, Dok z) :
    Calls Try.prog 7 #[.slice A0 n0 c0, .string s1, .int .i64 i1] w fun e w' => e = .returned (.bool true) ∧ Below w.heap.size w w' := by
  unfold maxLen at ws1
  by_cases hs1 : 1048576 < s1.size
  · go_enter Try.func7, Try.ntmps7
    go_wp2
    all_goals go_returns
    all_goals exact ⟨rfl, Below.refl _ _⟩
  have hs1' : s1.size ≤ 1048576 := by omega
  have SZ := Lib.hid (szCueS A0 n0 c0 zs w hn0 hm0 hr0 hwf)
  by_cases hz : szV n0 zs < 0
  · generalize szV n0 zs = R at *
    clear hn0 hm0 hr0 hwf
    go_enter Try.func7, Try.ntmps7
    go_wp2_with fail
    refine SZ.out.mono ?_
    rintro e w1 ⟨rfl, hb⟩
    have BB := Lib.hid hb
    clear hb SZ
    go_wp2_with fail
    go_returns
    exact ⟨rfl, BB.out⟩
  have hb : n0 ≤ 1048576 ∧ bulk zs ≤ 1048576 := by unfold szV szW at hz; split at hz <;> omega
  obtain ⟨hb0, hbk⟩ := hb
  have hsz : ∀ z ∈ zs, z.nm.size ≤ 1048576 := fun z hm => by
    obtain ⟨k, hk, rfl⟩ := List.getElem_of_mem hm
    have h1 := bulk_take (List.getElem?_eq_getElem hk)
    have h2 := bulk_le zs (k + 1)
    omega
  obtain ⟨R, hR⟩ : ∃ R, szV n0 zs = R := ⟨_, rfl⟩
  rw [hR] at hz SZ
  clear hR
  obtain ⟨r, hrr⟩ : ∃ r, levV zs s1 i1 = r := ⟨_, rfl⟩
  have CS := Lib.hid (show ∀ (A : Option Addr) (W : World), Rd W W.heap.size A (dls zs) → Calls Try.prog 27 #[.slice A n0 n0, .string s1, .int .i64 i1] W fun e w' => e = .returned (.int .i64 r) ∧ Below W.heap.size W w' from fun A W h => hrr ▸ levelS A n0 n0 zs s1 i1 W hn0 hb0 wi1 hsz h)
  have CI := Lib.hid (show ∀ (A : Option Addr) (W : World), Rd W W.heap.size A (dls zs) → Calls Try.prog 28 #[.slice A n0 n0, .string s1, .int .i64 i1] W fun e w' => e = .returned (.int .i64 r) ∧ Below W.heap.size W w' from fun A W h => hrr ▸ levelI A n0 n0 zs s1 i1 W hn0 hb0 wi1 h)
  have HR0 := Lib.hid hr0
  have HN0 := Lib.hid hn0
  have hu : undef = Value.tuple #[] := rfl
  clear hr0 hn0 hwf hm0 hrr hsz hbk
  clear ws1
  go_enter Try.func7, Try.ntmps7
  go_wp2_with fail
  refine SZ.out.mono ?_
  rintro e w0 ⟨rfl, hb⟩
  have BB := Lib.hid hb
  clear hb SZ
  go_wp2_with fail
  refine (toCueS A0 n0 c0 zs _ HN0.out hb0 ((HR0.out.below BB.out).more (by have h9 := BB.out.size; first | omega | (simp; omega)))).mono ?_
  rintro e u1 ⟨gX0, rfl, _, ho, hb⟩
  have XN := Lib.hid (Rd.own ho)
  clear ho
  have BB2 := Lib.hid (BB.out.trans (hb.mono (by have h9 := BB.out.size; first | omega | (simp; omega))))
  have HBW := hb
  clear hb HBW BB 
  have BB := BB2
  clear BB2
  have X0 := XN
  clear XN
  go_wp2_with fail
  refine (CS.out _ _ X0.out).mono ?_
  rintro e u2 ⟨rfl, hb⟩
  have BB2 := Lib.hid (BB.out.trans (hb.mono (by have h9 := BB.out.size; first | omega | (simp; omega))))
  have HBW := hb
  have X0n := Lib.hid ((X0.out.below HBW).more HBW.size)
  clear hb HBW BB X0
  have BB := BB2
  clear BB2
  have X0 := X0n
  clear X0n
  clear X0
  go_wp2_with fail
  refine (toCueS A0 n0 c0 zs _ HN0.out hb0 ((HR0.out.below BB.out).more (by have h9 := BB.out.size; first | omega | (simp; omega)))).mono ?_
  rintro e u3 ⟨gX1, rfl, _, ho, hb⟩
  have XN := Lib.hid (Rd.own ho)
  clear ho
  have BB2 := Lib.hid (BB.out.trans (hb.mono (by have h9 := BB.out.size; first | omega | (simp; omega))))
  have HBW := hb
  clear hb HBW BB 
  have BB := BB2
  clear BB2
  have X1 := XN
  clear XN
  go_wp2_with fail
  refine (CI.out _ _ X1.out).mono ?_
  rintro e u4 ⟨rfl, hb⟩
  have BB2 := Lib.hid (BB.out.trans (hb.mono (by have h9 := BB.out.size; first | omega | (simp; omega))))
  have HBW := hb
  have X1n := Lib.hid ((X1.out.below HBW).more HBW.size)
  clear hb HBW BB X1
  have BB := BB2
  clear BB2
  have X1 := X1n
  clear X1n
  go_wp2_with fail
  refine (toCueS A0 n0 c0 zs _ HN0.out hb0 ((HR0.out.below BB.out).more (by have h9 := BB.out.size; first | omega | (simp; omega)))).mono ?_
  rintro e u5 ⟨gX2, rfl, _, ho, hb⟩
  have XN := Lib.hid (Rd.own ho)
  clear ho
  have BB2 := Lib.hid (BB.out.trans (hb.mono (by have h9 := BB.out.size; first | omega | (simp; omega))))
  have HBW := hb
  have X1n := Lib.hid ((X1.out.below HBW).more HBW.size)
  clear hb HBW BB X1
  have BB := BB2
  clear BB2
  have X1 := X1n
  clear X1n
  have X2 := XN
  clear XN
  go_wp2_with fail
  refine (eqCueS _ _ n0 n0 n0 zs _ _ HN0.out hb0 (Nat.le_refl _) X1.out X2.out).mono ?_
  rintro e u6 ⟨rfl, hb⟩
  have BB2 := Lib.hid (BB.out.trans (hb.mono (by have h9 := BB.out.size; first | omega | (simp; omega))))
  have HBW := hb
  have X1n := Lib.hid ((X1.out.below HBW).more HBW.size)
  have X2n := Lib.hid ((X2.out.below HBW).more HBW.size)
  clear hb HBW BB X1 X2
  have BB := BB2
  clear BB2
  have X1 := X1n
  clear X1n
  have X2 := X2n
  clear X2n
  go_wp2_with fail
  go_returns
  exact ⟨rfl, BB.out⟩

set_option maxRecDepth 100000 in
theorem lifted (os : Os) (started : os.Started) (H : Type) (enc : TypeId × Value → H) :
    ReturnsInHanded {} Try.checked os 7 .any (Rows.fnExactLevelAtSpec.pre6 enc Try.prog Try.f7 Rows.fnExactLevelAtRow.domain false) (Rows.fnExactLevelAtSpec.post enc Try.prog Try.f7 false true false false) := by
  refine returnsInHanded_of_change (C := Try.checked) own started (by kernel_rfl) Try.func7
    (ChangeSpec.witness6 (enc := enc) (C := Try.checked) false ⟨#[], #[.slice none 0 0, .string ByteArray.empty, .int .i64 0], []⟩ 8 (by kernel_rfl) (by kernel_rfl) (by kernel_rfl) (by kernel_rfl)) ?_
  intro W base args ds gs before hval0 hW hcnd hsz
  have hval : ∀ (j : Nat) t v, Try.f7.params[j]? = some t → args[j]? = some v → Value.okWide Try.prog W .any base t v := hval0
  have hW' := hW
  obtain ⟨p, q, hA0, hV, rfl, hfz, hnd⟩ := hW
  have hA1 := hA0
  have hA : DataW.TrodAll enc Try.prog W 0 (fun _ => true) true Try.f7.params.toList args.toList ds p := hA0
  rw [Try.params7] at hA hval
  obtain ⟨v0, vs0, d0, ds0, p0, q0, hargs, rfl, rfl, h0, r0⟩ := trodAll_cons hA
  obtain ⟨v1, vs1, d1, ds1, p1, q1, rfl, rfl, rfl, h1, r1⟩ := trodAll_cons r0
  obtain ⟨v2, vs2, d2, ds2, p2, q2, rfl, rfl, rfl, h2, r2⟩ := trodAll_cons r1
  obtain ⟨rfl, rfl, rfl⟩ := trodAll_nil r2
  obtain rfl : args = #[v0, v1, v2] := by cases args; simp_all
  obtain ⟨rfl, rfl⟩ := trodVars_none hV
  obtain ⟨A0, n0, c0, a0, rfl, l0, m0, g0, w0⟩ := Cd.take_cues Try.underlying31 (by kernel_rfl) Cd.read_this (hval 0 31 v0 rfl rfl) h0
  obtain ⟨a1, rfl, rfl, rfl, w1⟩ := open_string Try.underlying9 (hval 1 9 v1 rfl rfl) h1
  obtain ⟨a2, rfl, rfl, rfl, w2⟩ := open_int Try.underlying3 (hval 2 3 v2 rfl rfl) h2
  clear hA0 hval0
  rw [List.append_nil] at hW'
  refine (walk A0 n0 c0 a0 l0 m0 a1 w1 a2 w2 W g0 w0).mono fun e W' ⟨he, hb⟩ => ?_
  subst he
  exact ⟨_, rfl, post_law rfl hW' hA1 laidOut (by rw [Try.params7]; exact of_decide_eq_true (by kernel_rfl)) 4 (by kernel_rfl) Try.underlying4 rfl hb⟩

theorem over : Rows.fnExactLevelAtRow.holds Try.pinned (OpenSpec.ofChange Rows.fnExactLevelAtSpec) :=
  OpenClaim.holds_of_wide 7 Try.f7 rfl rfl rfl rfl rfl rfl rfl ⟨rfl, rfl, rfl, rfl, rfl⟩ rfl rfl rfl rfl rfl (by kernel_rfl) Try.func7 (by kernel_rfl)
    (of_decide_eq_true (by kernel_rfl)) (by unfold Func.isWrapper; first | (rw [if_pos (by decide +kernel)]; kernel_rfl) | (rw [if_neg (by decide +kernel)]; exact ⟨rfl, rfl⟩))
    (fun os started H enc _ => lifted os started H enc)

/-- The statement. -/
theorem proved : Rows.FnExactLevelAtSaid :=
  over
#print axioms proved
end Go.Proofs.Ytapijndbchopbaa.fnExactLevelAt
