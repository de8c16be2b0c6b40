/- The law FnExactFitsRose holds at every input. The step from the walk to the row follows the guide's own template. -/
import Derived.Test.YtjemjffiomkioaaMem
import Derived.Test.YtjemjffiomkioaaGs
import Derived.Test.YtjemjffiomkioaaPls4
import Derived.Test.YtjemjffiomkioaaWx
import Derived.Test.YtjemjffiomkioaaSzG
import Derived.Test.YtjemjffiomkioaaSzP
namespace Go.Proofs.Ytjemjffiomkioaa.fnExactFitsRose
open Go.ChangeShapes Go.WideShapes Go.ChangeAt Go.RowKit Go.WideMaps Go.WideElems Go.Proofs.Ytjemjffiomkioaa.Mem
open Go.ChangeMaps (open_string shut_string)
set_option linter.unusedVariables false
set_option linter.unusedSimpArgs false

theorem own : ownKnob Try.prog.godebug = none := by kernel_rfl
theorem laidOut : laidOutB Try.prog = true := by kernel_rfl

open Go.Proofs.Ytjemjffiomkioaa.Rw Go.Proofs.Ytjemjffiomkioaa.Bk Go.Proofs.Ytjemjffiomkioaa.Str Go.Proofs.Ytjemjffiomkioaa.Pw Go.Proofs.Ytjemjffiomkioaa.P2 Go.Proofs.Ytjemjffiomkioaa.Gs Go.Proofs.Ytjemjffiomkioaa.Pls Go.Proofs.Ytjemjffiomkioaa.Wm Go.Proofs.Ytjemjffiomkioaa.Wi Go.Proofs.Ytjemjffiomkioaa.Wr Go.Proofs.Ytjemjffiomkioaa.Wx

set_option maxRecDepth 100000 in
set_option maxHeartbeats 4000000 in
theorem walk (A0 : Option Addr) (n0 c0 : Nat) (zs0 : List G) (hn0 : zs0.length = n0) (hm0 : n0 ≤ maxLen) (A1 : Option Addr) (n1 c1 : Nat) (zs1 : List (Int × Int)) (hn1 : zs1.length = n1) (hm1 : n1 ≤ maxLen) (t : Int) (hwt : (Lit.int .i64 t).wf = true) (w : World) (hr0 : Rd w w.heap.size A0 (gls zs0)) (hwf0 : ∀ z ∈ zs0, Gok z) (hr1 : Rd w w.heap.size A1 (pls zs1)) (hwf1 : ∀ z ∈ zs1, (Lit.int .i64 z.1).wf = true ∧ (Lit.int .i64 z.2).wf = true) :
    Calls Try.prog 11 #[.slice A0 n0 c0, .slice A1 n1 c1, .int .i64 t] w fun e w' => e = .returned (.bool true) ∧ Below w.heap.size w w' := by
  unfold maxLen at hm0
  unfold maxLen at hm1
  by_cases hlen0 : 1048576 < n0
  · go_enter Try.func11, Try.ntmps11
    go_wp2_with fail
    go_wp2
    go_ret
    exact ⟨rfl, Below.refl _ _⟩
  have hb0 : n0 ≤ 1048576 := by omega
  obtain ⟨L1, hL1⟩ : ∃ L : Int, 1048576 - (n0 : Int) = L := ⟨_, rfl⟩
  have hL0 : ¬ L1 < 0 := by omega
  have S0 := Lib.hid (SzG.yes A0 n0 c0 1048576 L1 (by omega) (by omega) hL1)
  by_cases hlen1 : L1 - (n1 : Int) < 0
  · have S1 := Lib.hid (SzP.no A1 n1 c1 L1 (by omega) (by omega) (by unfold maxLen; omega) hlen1)
    clear hL1 hlen1
    go_enter Try.func11, Try.ntmps11
    go_wp2_with fail
    refine (S0.out _).mono ?_
    rintro e w' ⟨rfl, rfl⟩
    go_wp2_with fail
    refine (S1.out _).mono ?_
    rintro e w' ⟨rfl, rfl⟩
    go_wp2_with fail
    go_ret
    exact ⟨rfl, Below.refl _ _⟩
  have hb1 : n1 ≤ 1048576 := by omega
  obtain ⟨L2, hL2⟩ : ∃ L : Int, L1 - (n1 : Int) = L := ⟨_, rfl⟩
  have hL9 : ¬ L2 < 0 := by omega
  have S1 := Lib.hid (SzP.yes A1 n1 c1 L1 L2 (by omega) (by omega) hL2)
  clear hL1 hL2
  have HR0 := Lib.hid hr0
  have HN0 := Lib.hid hn0
  have HR1 := Lib.hid hr1
  have HN1 := Lib.hid hn1
  obtain ⟨r, hrr⟩ : ∃ r, fr zs0 zs1 t = r := ⟨_, rfl⟩
  have CS := Lib.hid (show ∀ (A B : Option Addr) (W : World), Rd W W.heap.size A (gls zs0) → Rd W W.heap.size B (pls zs1) → Calls Try.prog 39 #[.slice A n0 n0, .slice B n1 n1, .int .i64 t] W fun e w' => e = .returned (.bool r) ∧ Below W.heap.size W w' from fun A B W h h2 => by have := fitsS A B n0 n0 n1 n1 zs0 zs1 _ t W hn0 hn1 hb0 hb1 (Nat.le_refl _) h h2; rw [hrr] at this; exact this)
  have CI := Lib.hid (show ∀ (A B : Option Addr) (W : World), Rd W W.heap.size A (gls zs0) → Rd W W.heap.size B (pls zs1) → Calls Try.prog 40 #[.slice A n0 n0, .slice B n1 n1, .int .i64 t] W fun e w' => e = .returned (.bool r) ∧ Below W.heap.size W w' from fun A B W h h2 => by have := fitsI A B n0 n0 n1 n1 zs0 zs1 _ t W hn0 hn1 hb0 hb1 (Nat.le_refl _) h h2; rw [hrr] at this; exact this)
  have hu : undef = Value.tuple #[] := rfl
  have BB := Lib.hid (Below.refl w.heap.size w)
  clear hr0 hn0 hwf0 hlen0 hm0 hr1 hn1 hwf1 hlen1 hm1 hrr
  cases r
  all_goals
    go_enter Try.func11, Try.ntmps11
    go_wp2_with fail
    refine (S0.out _).mono ?_
    rintro e w' ⟨rfl, rfl⟩
    go_wp2_with fail
    refine (S1.out _).mono ?_
    rintro e w' ⟨rfl, rfl⟩
    go_wp2_with fail
    refine (toGustS A0 n0 c0 zs0 _ HN0.out hb0 ((HR0.out.below BB.out).more (by have h9 := BB.out.size; first | omega | (simp; omega)))).mono ?_
    rintro e u1 ⟨gX0, rfl, _, ho, hb⟩
    have XN := Lib.hid (Rd.own ho)
    clear ho
    have BB2 := Lib.hid (BB.out.trans (hb.mono (by have h9 := BB.out.size; first | omega | (simp; omega))))
    have HBW : Below w.heap.size w u1 := hb
    clear hb HBW BB
    have BB := BB2
    clear BB2
    have X0 := XN
    clear XN
    go_wp2_with fail
    refine (toPlaceS A1 n1 c1 zs1 _ HN1.out hb1 ((HR1.out.below BB.out).more (by have h9 := BB.out.size; first | omega | (simp; omega)))).mono ?_
    rintro e u2 ⟨gY0, rfl, _, ho, hb⟩
    have XN := Lib.hid (Rd.own ho)
    clear ho
    have BB2 := Lib.hid (BB.out.trans (hb.mono (by have h9 := BB.out.size; first | omega | (simp; omega))))
    have HBW : Below u1.heap.size u1 u2 := hb
    have X0n := Lib.hid ((X0.out.below HBW).more HBW.size)
    clear hb HBW BB X0
    have BB := BB2
    clear BB2
    have X0 := X0n
    clear X0n
    have Y0 := XN
    clear XN
    go_wp2_with fail
    refine (CS.out _ _ _ X0.out Y0.out).mono ?_
    rintro e u3 ⟨rfl, hb⟩
    have BB2 := Lib.hid (BB.out.trans (hb.mono (by have h9 := BB.out.size; first | omega | (simp; omega))))
    have HBW : Below u2.heap.size u2 u3 := hb
    have X0n := Lib.hid ((X0.out.below HBW).more HBW.size)
    have Y0n := Lib.hid ((Y0.out.below HBW).more HBW.size)
    clear hb HBW BB X0 Y0
    have BB := BB2
    clear BB2
    have X0 := X0n
    clear X0n
    have Y0 := Y0n
    clear Y0n
    clear X0
    clear Y0
    go_wp2_with fail
    refine (toGustS A0 n0 c0 zs0 _ HN0.out hb0 ((HR0.out.below BB.out).more (by have h9 := BB.out.size; first | omega | (simp; omega)))).mono ?_
    rintro e u4 ⟨gX1, rfl, _, ho, hb⟩
    have XN := Lib.hid (Rd.own ho)
    clear ho
    have BB2 := Lib.hid (BB.out.trans (hb.mono (by have h9 := BB.out.size; first | omega | (simp; omega))))
    have HBW : Below u3.heap.size u3 u4 := hb
    clear hb HBW BB
    have BB := BB2
    clear BB2
    have X1 := XN
    clear XN
    go_wp2_with fail
    refine (toPlaceS A1 n1 c1 zs1 _ HN1.out hb1 ((HR1.out.below BB.out).more (by have h9 := BB.out.size; first | omega | (simp; omega)))).mono ?_
    rintro e u5 ⟨gY1, rfl, _, ho, hb⟩
    have XN := Lib.hid (Rd.own ho)
    clear ho
    have BB2 := Lib.hid (BB.out.trans (hb.mono (by have h9 := BB.out.size; first | omega | (simp; omega))))
    have HBW : Below u4.heap.size u4 u5 := hb
    have X1n := Lib.hid ((X1.out.below HBW).more HBW.size)
    clear hb HBW BB X1
    have BB := BB2
    clear BB2
    have X1 := X1n
    clear X1n
    have Y1 := XN
    clear XN
    go_wp2_with fail
    refine (CI.out _ _ _ X1.out Y1.out).mono ?_
    rintro e u6 ⟨rfl, hb⟩
    have BB2 := Lib.hid (BB.out.trans (hb.mono (by have h9 := BB.out.size; first | omega | (simp; omega))))
    have HBW : Below u5.heap.size u5 u6 := hb
    have X1n := Lib.hid ((X1.out.below HBW).more HBW.size)
    have Y1n := Lib.hid ((Y1.out.below HBW).more HBW.size)
    clear hb HBW BB X1 Y1
    have BB := BB2
    clear BB2
    have X1 := X1n
    clear X1n
    have Y1 := Y1n
    clear Y1n
    go_wp2_with fail
    refine (toGustS A0 n0 c0 zs0 _ HN0.out hb0 ((HR0.out.below BB.out).more (by have h9 := BB.out.size; first | omega | (simp; omega)))).mono ?_
    rintro e u7 ⟨gX2, rfl, _, ho, hb⟩
    have XN := Lib.hid (Rd.own ho)
    clear ho
    have BB2 := Lib.hid (BB.out.trans (hb.mono (by have h9 := BB.out.size; first | omega | (simp; omega))))
    have HBW : Below u6.heap.size u6 u7 := hb
    have X1n := Lib.hid ((X1.out.below HBW).more HBW.size)
    have Y1n := Lib.hid ((Y1.out.below HBW).more HBW.size)
    clear hb HBW BB X1 Y1
    have BB := BB2
    clear BB2
    have X1 := X1n
    clear X1n
    have Y1 := Y1n
    clear Y1n
    have X2 := XN
    clear XN
    go_wp2_with fail
    refine (eqGustS _ _ n0 n0 n0 zs0 _ _ HN0.out hb0 (Nat.le_refl _) X1.out X2.out).mono ?_
    rintro e u8 ⟨rfl, hb⟩
    have BB2 := Lib.hid (BB.out.trans (hb.mono (by have h9 := BB.out.size; first | omega | (simp; omega))))
    have HBW : Below u7.heap.size u7 u8 := hb
    have X1n := Lib.hid ((X1.out.below HBW).more HBW.size)
    have Y1n := Lib.hid ((Y1.out.below HBW).more HBW.size)
    have X2n := Lib.hid ((X2.out.below HBW).more HBW.size)
    clear hb HBW BB X1 Y1 X2
    have BB := BB2
    clear BB2
    have X1 := X1n
    clear X1n
    have Y1 := Y1n
    clear Y1n
    have X2 := X2n
    clear X2n
    clear X1
    clear X2
    go_wp2_with fail
    refine (toPlaceS A1 n1 c1 zs1 _ HN1.out hb1 ((HR1.out.below BB.out).more (by have h9 := BB.out.size; first | omega | (simp; omega)))).mono ?_
    rintro e u9 ⟨gY2, rfl, _, ho, hb⟩
    have XN := Lib.hid (Rd.own ho)
    clear ho
    have BB2 := Lib.hid (BB.out.trans (hb.mono (by have h9 := BB.out.size; first | omega | (simp; omega))))
    have HBW : Below u8.heap.size u8 u9 := hb
    have Y1n := Lib.hid ((Y1.out.below HBW).more HBW.size)
    clear hb HBW BB Y1
    have BB := BB2
    clear BB2
    have Y1 := Y1n
    clear Y1n
    have Y2 := XN
    clear XN
    go_wp2_with fail
    refine (eqPlaceS _ _ n1 n1 n1 zs1 _ _ HN1.out hb1 (Nat.le_refl _) Y1.out Y2.out).mono ?_
    rintro e u10 ⟨rfl, hb⟩
    have BB2 := Lib.hid (BB.out.trans (hb.mono (by have h9 := BB.out.size; first | omega | (simp; omega))))
    have HBW : Below u9.heap.size u9 u10 := hb
    have Y1n := Lib.hid ((Y1.out.below HBW).more HBW.size)
    have Y2n := Lib.hid ((Y2.out.below HBW).more HBW.size)
    clear hb HBW BB Y1 Y2
    have BB := BB2
    clear BB2
    have Y1 := Y1n
    clear Y1n
    have Y2 := Y2n
    clear Y2n
    go_wp2_with fail
    go_ret
    exact ⟨rfl, BB.out⟩

set_option maxRecDepth 100000 in
theorem lifted (os : Os) (started : os.Started) (H : Type) (enc : TypeId × Value → H) :
    ReturnsInHanded {} Try.checked os 11 .any (Rows.fnExactFitsRoseSpec.pre6 enc Try.prog Try.f11 Rows.fnExactFitsRoseRow.domain false) (Rows.fnExactFitsRoseSpec.post enc Try.prog Try.f11 false true false false) := by
  refine returnsInHanded_of_change (C := Try.checked) own started (by kernel_rfl) Try.func11
    (ChangeSpec.witness6 (enc := enc) (C := Try.checked) false ⟨#[], #[.slice none 0 0, .slice none 0 0, .int .i64 0], []⟩ 8 (by kernel_rfl) (by kernel_rfl) (by kernel_rfl) (by kernel_rfl)) ?_
  intro W base args ds gs before hval0 hW hcnd hsz
  have hval : ∀ (j : Nat) t v, Try.f11.params[j]? = some t → args[j]? = some v → Value.okWide Try.prog W .any base t v := hval0
  have hW' := hW
  obtain ⟨p, q, hA0, hV, rfl, hfz, hnd⟩ := hW
  have hA1 := hA0
  have hA : DataW.TrodAll enc Try.prog W 0 (fun _ => true) true Try.f11.params.toList args.toList ds p := hA0
  rw [Try.params11] at hA hval
  obtain ⟨v0, vs0, d0, ds0, p0, q0, hargs, rfl, rfl, h0, r0⟩ := trodAll_cons hA
  obtain ⟨v1, vs1, d1, ds1, p1, q1, rfl, rfl, rfl, h1, r1⟩ := trodAll_cons r0
  obtain ⟨v2, vs2, d2, ds2, p2, q2, rfl, rfl, rfl, h2, r2⟩ := trodAll_cons r1
  obtain ⟨rfl, rfl, rfl⟩ := trodAll_nil r2
  obtain rfl : args = #[v0, v1, v2] := by cases args; simp_all
  obtain ⟨rfl, rfl⟩ := trodVars_none hV
  obtain ⟨A0, n0, c0, a0, rfl, l0, m0, g0, w0⟩ := Gs.take_gusts Try.underlying22 Try.underlying66 (by kernel_rfl) rfl rfl (by kernel_rfl) Try.underlying3 rfl Try.underlying64 (by kernel_rfl) rfl rfl (by kernel_rfl) (by kernel_rfl) Try.underlying3 Try.underlying3 (hval 0 22 v0 rfl rfl) h0
  obtain ⟨A1, n1, c1, a1, rfl, l1, m1, g1, w1⟩ := Pls.take_places Try.underlying43 Try.underlying64 (by kernel_rfl) rfl rfl (by kernel_rfl) (by kernel_rfl) Try.underlying3 Try.underlying3 (hval 1 43 v1 rfl rfl) h1
  obtain ⟨a2, rfl, rfl, rfl, w2⟩ := open_int Try.underlying3 (hval 2 3 v2 rfl rfl) h2
  clear hA0 hval0
  rw [List.append_nil] at hW'
  refine (walk A0 n0 c0 a0 l0 m0 A1 n1 c1 a1 l1 m1 a2 w2 W g0 w0 g1 w1).mono fun e W' ⟨he, hb⟩ => ?_
  subst he
  exact ⟨_, rfl, post_law rfl hW' hA1 laidOut (by rw [Try.params11]; exact of_decide_eq_true (by kernel_rfl)) 4 (by kernel_rfl) Try.underlying4 rfl hb⟩

theorem over : Rows.fnExactFitsRoseRow.holds Try.pinned (OpenSpec.ofChange Rows.fnExactFitsRoseSpec) :=
  OpenClaim.holds_of_wide 11 Try.f11 rfl rfl rfl rfl rfl rfl rfl ⟨rfl, rfl, rfl, rfl, rfl⟩ rfl rfl rfl rfl rfl (by kernel_rfl) Try.func11 (by kernel_rfl)
    (of_decide_eq_true (by kernel_rfl)) (by unfold Func.isWrapper; first | (rw [if_pos (by decide +kernel)]; kernel_rfl) | (rw [if_neg (by decide +kernel)]; exact ⟨rfl, rfl⟩))
    (fun os started H enc _ => lifted os started H enc)

/-- The statement. -/
theorem proved : Rows.FnExactFitsRoseSaid :=
  over
#print axioms proved
end Go.Proofs.Ytjemjffiomkioaa.fnExactFitsRose
