/- The law FnAim holds at every input. The step from the walk to the row follows the guide's own template. -/
import Derived.Test.YtgmgdjhldjjckaaMem
import Derived.Test.YtgmgdjhldjjckaaDa
import Derived.Test.YtgmgdjhldjjckaaTakeC
namespace Go.Proofs.Ytgmgdjhldjjckaa.fnAim
open Go.ChangeShapes Go.WideShapes Go.ChangeAt Go.RowKit Go.WideMaps Go.WideElems Go.Proofs.Ytgmgdjhldjjckaa.Mem
open Go.ChangeMaps (open_string shut_string)
set_option linter.unusedVariables false
set_option linter.unusedSimpArgs false

theorem own : ownKnob Try.prog.godebug = none := by kernel_rfl
theorem laidOut : laidOutB Try.prog = true := by kernel_rfl

open Go.Proofs.Ytgmgdjhldjjckaa.Cm Go.Proofs.Ytgmgdjhldjjckaa.Pl Go.Proofs.Ytgmgdjhldjjckaa.Str Go.Proofs.Ytgmgdjhldjjckaa.Pw Go.Proofs.Ytgmgdjhldjjckaa.P2 Go.Proofs.Ytgmgdjhldjjckaa.Hd Go.Proofs.Ytgmgdjhldjjckaa.Draw Go.Proofs.Ytgmgdjhldjjckaa.Dr2 Go.Proofs.Ytgmgdjhldjjckaa.Dr4 Go.Proofs.Ytgmgdjhldjjckaa.Jt Go.Proofs.Ytgmgdjhldjjckaa.Dp

theorem HB.below {w w' : World} {b : Nat} {x y : Int} (h : HB w b x y) (hb : Below w.heap.size w w') : HB w' b x y := (hb.block b h.lt).trans h

set_option maxHeartbeats 4000000 in
set_option maxRecDepth 100000 in
theorem walk (A : Option Addr) (n c : Nat) (bs : List UInt8) (hn : bs.length = n) (hm : n ≤ maxLen) (w : World) (hr : Rd w w.heap.size A (Draw.u8s bs)) :
    Calls Try.prog 6 #[.slice A n c] w fun e w' => e = .returned (.bool true) ∧ Below w.heap.size w w' := by
  by_cases hbig : (n : Int) ≤ 4096
  · have D := Lib.hid (drawAimJet w A n c bs hn (by omega) hr)
    have HR := Lib.hid hr
    have HN := Lib.hid hn
    have HL := Lib.hid hbig
    clear hm
    go_enter Try.func6, Try.ntmps6
    go_wp2_with (go_at_call 15; go_enter Try.func15, Try.ntmps15)
    refine D.out.mono ?_
    rintro e u0 ⟨ax, ay, u, v, l, rfl, hB⟩
    have BB := Lib.hid hB
    clear D hbig hB hn hr
    have AI := aimI ax ay u v l
    unfold aimV at AI
    by_cases hq : aq ax ay u v l < 68
    · rw [if_pos hq] at AI
      obtain ⟨b0, b1, b2⟩ := pa_yes (aq_at hq)
      have LP := landI ax ay ((aq ax ay u v l / 17 : Nat) : Int) ((aq ax ay u v l % 17 : Nat) : Int) l
      rw [land_eq, b0, b1, b2] at LP
      clear b0 b1 b2
      generalize ((aq ax ay u v l / 17 : Nat) : Int) = h1 at *
      generalize ((aq ax ay u v l % 17 : Nat) : Int) = t1 at *
      clear hq
      replace AI := Lib.hid AI
      replace LP := Lib.hid LP
      go_wp2_with fail
      refine (AI.out _).mono ?_
      rintro e u1 ⟨rfl, hb⟩
      have Ka := Lib.hid (HB.below ((HB.new u0 (ax) (ay)).alloc (.cells #[.int .i64 (u), .int .i64 (v)] 25)) hb)
      have Kg := Lib.hid (HB.below ((show HB ((u0.alloc (.cells #[.int .i64 (ax), .int .i64 (ay)] 25)).alloc (.cells #[.int .i64 (u), .int .i64 (v)] 25)) (u0.heap.size + 1) (u) (v) from by simpa using HB.new (u0.alloc (.cells #[.int .i64 (ax), .int .i64 (ay)] 25)) (u) (v))) hb)
      have BB2 := Lib.hid ((((BB.out).alloc (by have := BB.out.size; go_size) (.cells #[.int .i64 (ax), .int .i64 (ay)] 25)).alloc (by have := BB.out.size; go_size) (.cells #[.int .i64 (u), .int .i64 (v)] 25)).trans (hb.mono (by have := BB.out.size; go_size)))
      clear hb BB
      have BB := BB2
      clear BB2
      have Ha := Ka
      clear Ka
      have Hg := Kg
      clear Kg
      have ca0 := Ha.out.c0
      have ca1 := Ha.out.c1
      have la := Ha.out.lt
      have ma : ∀ j, _ < u1.heap.size + j := fun j => Nat.lt_of_lt_of_le la (Nat.le_add_right _ j)
      have cg0 := Hg.out.c0
      have cg1 := Hg.out.c1
      have lg := Hg.out.lt
      have mg : ∀ j, _ < u1.heap.size + j := fun j => Nat.lt_of_lt_of_le lg (Nat.le_add_right _ j)
      go_wp2_with fail
      refine (LP.out _).mono ?_
      rintro e u2 ⟨rfl, hb⟩
      clear ca0 ca1 la ma cg0 cg1 lg mg
      have Ka := Lib.hid (HB.below ((Ha.out).alloc (.cells #[.int .i64 (ax), .int .i64 (ay), .int .i64 (h1), .int .i64 (t1), .int .i64 (l)] 27)) hb)
      have Kg := Lib.hid (HB.below ((Hg.out).alloc (.cells #[.int .i64 (ax), .int .i64 (ay), .int .i64 (h1), .int .i64 (t1), .int .i64 (l)] 27)) hb)
      have Kj := Lib.hid (JB.below (JB.new u1 (ax) (ay) (h1) (t1) (l)) hb)
      have BB2 := Lib.hid (((BB.out).alloc (by have := BB.out.size; go_size) (.cells #[.int .i64 (ax), .int .i64 (ay), .int .i64 (h1), .int .i64 (t1), .int .i64 (l)] 27)).trans (hb.mono (by have := BB.out.size; go_size)))
      clear hb BB Ha Hg
      have BB := BB2
      clear BB2
      have Ha := Ka
      clear Ka
      have Hg := Kg
      clear Kg
      have Hj := Kj
      clear Kj
      have ca0 := Ha.out.c0
      have ca1 := Ha.out.c1
      have la := Ha.out.lt
      have ma : ∀ j, _ < u2.heap.size + j := fun j => Nat.lt_of_lt_of_le la (Nat.le_add_right _ j)
      have cg0 := Hg.out.c0
      have cg1 := Hg.out.c1
      have lg := Hg.out.lt
      have mg : ∀ j, _ < u2.heap.size + j := fun j => Nat.lt_of_lt_of_le lg (Nat.le_add_right _ j)
      obtain ⟨cj0, cj1, cj2, cj3, cj4⟩ := Hj.out.c
      have lj := Hj.out.lt
      have mj : ∀ j, _ < u2.heap.size + j := fun j => Nat.lt_of_lt_of_le lj (Nat.le_add_right _ j)
      clear AI LP
      have DR := (HR.out.below ((BB.out).alloc (by have := BB.out.size; go_size) (.cells #[.int .i64 (u), .int .i64 (v)] 25))).more ((BB.out).alloc (by have := BB.out.size; go_size) (.cells #[.int .i64 (u), .int .i64 (v)] 25)).size
      have D2 := drawJet ((u2.alloc (.cells #[.int .i64 (u), .int .i64 (v)] 25))) A n c bs HN.out (by have := HL.out; omega) DR
      clear DR
      go_wp2_with fail
      refine (D2).mono ?_
      rintro e v0 ⟨x, y, h, t, m, hj, rfl, hb⟩
      clear ca0 ca1 la ma cg0 cg1 lg mg cj0 cj1 cj2 cj3 cj4 lj mj
      have BB2 := Lib.hid (((BB.out).alloc (by have := BB.out.size; go_size) (.cells #[.int .i64 (u), .int .i64 (v)] 25)).trans (hb.mono (by have := BB.out.size; go_size)))
      clear hb BB Ha Hg Hj
      have BB := BB2
      clear BB2
      clear D2
      have AB := aim_back hj
      have LI := landI x y h t m
      rw [land_eq, lB_of hj] at LI
      have AK := aimI x y (lX x y h t m) (lY x y h t m) m
      unfold aimV at AK
      rw [if_pos AB.1] at AK
      obtain ⟨_, b1, b2⟩ := AB
      rw [b1] at AK
      generalize lX x y h t m = X at *
      generalize lY x y h t m = Y at *
      generalize ((aq x y X Y m / 17 : Nat) : Int) = h2 at *
      clear b1
      replace LI := Lib.hid LI
      replace AK := Lib.hid AK
      clear hj
      go_wp2_with fail
      refine (LI.out _).mono ?_
      rintro e v1 ⟨rfl, hb⟩
      have Kk := Lib.hid (JB.below (JB.new v0 (x) (y) (h) (t) (m)) hb)
      have BB2 := Lib.hid (((BB.out).alloc (by have := BB.out.size; go_size) (.cells #[.int .i64 (x), .int .i64 (y), .int .i64 (h), .int .i64 (t), .int .i64 (m)] 27)).trans (hb.mono (by have := BB.out.size; go_size)))
      clear hb BB
      have BB := BB2
      clear BB2
      have Hk := Kk
      clear Kk
      obtain ⟨ck0, ck1, ck2, ck3, ck4⟩ := Hk.out.c
      have lk := Hk.out.lt
      have mk : ∀ j, _ < v1.heap.size + j := fun j => Nat.lt_of_lt_of_le lk (Nat.le_add_right _ j)
      go_wp2_with fail
      refine (AK.out _).mono ?_
      rintro e v2 ⟨rfl, hb⟩
      clear ck0 ck1 ck2 ck3 ck4 lk mk
      have Kk := Lib.hid (JB.below ((Hk.out).alloc (.cells #[.int .i64 (X), .int .i64 (Y)] 25)) hb)
      have Kp := Lib.hid (HB.below (HB.new v1 (X) (Y)) hb)
      have BB2 := Lib.hid (((BB.out).alloc (by have := BB.out.size; go_size) (.cells #[.int .i64 (X), .int .i64 (Y)] 25)).trans (hb.mono (by have := BB.out.size; go_size)))
      clear hb BB Hk
      have BB := BB2
      clear BB2
      have Hk := Kk
      clear Kk
      have Hp := Kp
      clear Kp
      obtain ⟨ck0, ck1, ck2, ck3, ck4⟩ := Hk.out.c
      have lk := Hk.out.lt
      have mk : ∀ j, _ < v2.heap.size + j := fun j => Nat.lt_of_lt_of_le lk (Nat.le_add_right _ j)
      have cp0 := Hp.out.c0
      have cp1 := Hp.out.c1
      have lp := Hp.out.lt
      have mp : ∀ j, _ < v2.heap.size + j := fun j => Nat.lt_of_lt_of_le lp (Nat.le_add_right _ j)
      rcases b2 with b2 | ⟨b2, b3⟩
      · clear AK LI
        subst b2
        go_wp2_with fail
        go_returns
        exact ⟨rfl, (BB.out).alloc (by have := BB.out.size; go_size) (.cells #[.int .i64 (x), .int .i64 (y), .int .i64 (h2), .int .i64 (t), .int .i64 (m)] 27)⟩
      · clear AK LI
        subst b2 b3
        by_cases h0 : h = 0
        · subst h0
          go_wp2_with fail
          go_returns
          exact ⟨rfl, (BB.out).alloc (by have := BB.out.size; go_size) (.cells #[.int .i64 (x), .int .i64 (y), .int .i64 (0), .int .i64 (0), .int .i64 (m)] 27)⟩
        · have h1 : ((0 : Int) == h) = false := by simpa using fun e => h0 e.symm
          go_wp2_with fail
          go_returns
          exact ⟨rfl, (BB.out).alloc (by have := BB.out.size; go_size) (.cells #[.int .i64 (x), .int .i64 (y), .int .i64 (0), .int .i64 (0), .int .i64 (m)] 27)⟩
    · rw [if_neg hq] at AI
      clear hq
      replace AI := Lib.hid AI
      go_wp2_with fail
      refine (AI.out _).mono ?_
      rintro e u1 ⟨rfl, hb⟩
      have Ka := Lib.hid (HB.below ((HB.new u0 (ax) (ay)).alloc (.cells #[.int .i64 (u), .int .i64 (v)] 25)) hb)
      have Kg := Lib.hid (HB.below ((show HB ((u0.alloc (.cells #[.int .i64 (ax), .int .i64 (ay)] 25)).alloc (.cells #[.int .i64 (u), .int .i64 (v)] 25)) (u0.heap.size + 1) (u) (v) from by simpa using HB.new (u0.alloc (.cells #[.int .i64 (ax), .int .i64 (ay)] 25)) (u) (v))) hb)
      have BB2 := Lib.hid ((((BB.out).alloc (by have := BB.out.size; go_size) (.cells #[.int .i64 (ax), .int .i64 (ay)] 25)).alloc (by have := BB.out.size; go_size) (.cells #[.int .i64 (u), .int .i64 (v)] 25)).trans (hb.mono (by have := BB.out.size; go_size)))
      clear hb BB
      have BB := BB2
      clear BB2
      have Ha := Ka
      clear Ka
      have Hg := Kg
      clear Kg
      have ca0 := Ha.out.c0
      have ca1 := Ha.out.c1
      have la := Ha.out.lt
      have ma : ∀ j, _ < u1.heap.size + j := fun j => Nat.lt_of_lt_of_le la (Nat.le_add_right _ j)
      have cg0 := Hg.out.c0
      have cg1 := Hg.out.c1
      have lg := Hg.out.lt
      have mg : ∀ j, _ < u1.heap.size + j := fun j => Nat.lt_of_lt_of_le lg (Nat.le_add_right _ j)
      clear AI
      have DR := (HR.out.below ((BB.out).alloc (by have := BB.out.size; go_size) (.cells #[.int .i64 (0), .int .i64 (0), .int .i64 (0), .int .i64 (0), .int .i64 (0)] 27))).more ((BB.out).alloc (by have := BB.out.size; go_size) (.cells #[.int .i64 (0), .int .i64 (0), .int .i64 (0), .int .i64 (0), .int .i64 (0)] 27)).size
      have D2 := drawJet ((u1.alloc (.cells #[.int .i64 (0), .int .i64 (0), .int .i64 (0), .int .i64 (0), .int .i64 (0)] 27))) A n c bs HN.out (by have := HL.out; omega) DR
      clear DR
      go_wp2_with fail
      refine (D2).mono ?_
      rintro e v0 ⟨x, y, h, t, m, hj, rfl, hb⟩
      clear ca0 ca1 la ma cg0 cg1 lg mg
      have BB2 := Lib.hid (((BB.out).alloc (by have := BB.out.size; go_size) (.cells #[.int .i64 (0), .int .i64 (0), .int .i64 (0), .int .i64 (0), .int .i64 (0)] 27)).trans (hb.mono (by have := BB.out.size; go_size)))
      clear hb BB Ha Hg
      have BB := BB2
      clear BB2
      clear D2
      have AB := aim_back hj
      have LI := landI x y h t m
      rw [land_eq, lB_of hj] at LI
      have AK := aimI x y (lX x y h t m) (lY x y h t m) m
      unfold aimV at AK
      rw [if_pos AB.1] at AK
      obtain ⟨_, b1, b2⟩ := AB
      rw [b1] at AK
      generalize lX x y h t m = X at *
      generalize lY x y h t m = Y at *
      generalize ((aq x y X Y m / 17 : Nat) : Int) = h2 at *
      clear b1
      replace LI := Lib.hid LI
      replace AK := Lib.hid AK
      clear hj
      go_wp2_with fail
      refine (LI.out _).mono ?_
      rintro e v1 ⟨rfl, hb⟩
      have Kk := Lib.hid (JB.below (JB.new v0 (x) (y) (h) (t) (m)) hb)
      have BB2 := Lib.hid (((BB.out).alloc (by have := BB.out.size; go_size) (.cells #[.int .i64 (x), .int .i64 (y), .int .i64 (h), .int .i64 (t), .int .i64 (m)] 27)).trans (hb.mono (by have := BB.out.size; go_size)))
      clear hb BB
      have BB := BB2
      clear BB2
      have Hk := Kk
      clear Kk
      obtain ⟨ck0, ck1, ck2, ck3, ck4⟩ := Hk.out.c
      have lk := Hk.out.lt
      have mk : ∀ j, _ < v1.heap.size + j := fun j => Nat.lt_of_lt_of_le lk (Nat.le_add_right _ j)
      go_wp2_with fail
      refine (AK.out _).mono ?_
      rintro e v2 ⟨rfl, hb⟩
      clear ck0 ck1 ck2 ck3 ck4 lk mk
      have Kk := Lib.hid (JB.below ((Hk.out).alloc (.cells #[.int .i64 (X), .int .i64 (Y)] 25)) hb)
      have Kp := Lib.hid (HB.below (HB.new v1 (X) (Y)) hb)
      have BB2 := Lib.hid (((BB.out).alloc (by have := BB.out.size; go_size) (.cells #[.int .i64 (X), .int .i64 (Y)] 25)).trans (hb.mono (by have := BB.out.size; go_size)))
      clear hb BB Hk
      have BB := BB2
      clear BB2
      have Hk := Kk
      clear Kk
      have Hp := Kp
      clear Kp
      obtain ⟨ck0, ck1, ck2, ck3, ck4⟩ := Hk.out.c
      have lk := Hk.out.lt
      have mk : ∀ j, _ < v2.heap.size + j := fun j => Nat.lt_of_lt_of_le lk (Nat.le_add_right _ j)
      have cp0 := Hp.out.c0
      have cp1 := Hp.out.c1
      have lp := Hp.out.lt
      have mp : ∀ j, _ < v2.heap.size + j := fun j => Nat.lt_of_lt_of_le lp (Nat.le_add_right _ j)
      rcases b2 with b2 | ⟨b2, b3⟩
      · clear AK LI
        subst b2
        go_wp2_with fail
        go_returns
        exact ⟨rfl, (BB.out).alloc (by have := BB.out.size; go_size) (.cells #[.int .i64 (x), .int .i64 (y), .int .i64 (h2), .int .i64 (t), .int .i64 (m)] 27)⟩
      · clear AK LI
        subst b2 b3
        by_cases h0 : h = 0
        · subst h0
          go_wp2_with fail
          go_returns
          exact ⟨rfl, (BB.out).alloc (by have := BB.out.size; go_size) (.cells #[.int .i64 (x), .int .i64 (y), .int .i64 (0), .int .i64 (0), .int .i64 (m)] 27)⟩
        · have h1 : ((0 : Int) == h) = false := by simpa using fun e => h0 e.symm
          go_wp2_with fail
          go_returns
          exact ⟨rfl, (BB.out).alloc (by have := BB.out.size; go_size) (.cells #[.int .i64 (x), .int .i64 (y), .int .i64 (0), .int .i64 (0), .int .i64 (m)] 27)⟩
  · have hd : decide (4096 < n) = true := decide_eq_true (by omega)
    clear hn hm hr
    go_enter Try.func6, Try.ntmps6
    go_wp2_with (go_at_call 15; go_enter Try.func15, Try.ntmps15)
    go_returns
    exact ⟨rfl, Below.refl _ _⟩

set_option maxRecDepth 100000 in
theorem lifted (os : Os) (started : os.Started) (H : Type) (enc : TypeId × Value → H) :
    ReturnsInHanded {} Try.checked os 6 .any (Rows.fnAimSpec.pre6 enc Try.prog Try.f6 Rows.fnAimRow.domain false) (Rows.fnAimSpec.post enc Try.prog Try.f6 false true false false) := by
  refine returnsInHanded_of_change (C := Try.checked) own started (by kernel_rfl) Try.func6
    (ChangeSpec.witness6 (enc := enc) (C := Try.checked) false ⟨#[], #[.slice none 0 0], []⟩ 8 (by kernel_rfl) (by kernel_rfl) (by kernel_rfl) (by kernel_rfl)) ?_
  intro W base args ds gs before hval0 hW hcnd hsz
  have hval : ∀ (j : Nat) t v, Try.f6.params[j]? = some t → args[j]? = some v → Value.okWide Try.prog W .any base t v := hval0
  have hW' := hW
  obtain ⟨p, q, hA0, hV, rfl, hfz, hnd⟩ := hW
  have hA1 := hA0
  have hA : DataW.TrodAll enc Try.prog W 0 (fun _ => true) true Try.f6.params.toList args.toList ds p := hA0
  rw [Try.params6] at hA hval
  obtain ⟨v0, vs0, d0, ds0, p0, q0, hargs, rfl, rfl, h0, r0⟩ := trodAll_cons hA
  obtain ⟨rfl, rfl, rfl⟩ := trodAll_nil r0
  obtain rfl : args = #[v0] := by cases args; simp_all
  obtain ⟨rfl, rfl⟩ := trodVars_none hV
  obtain ⟨A0, n0, c0, a0, rfl, l0, m0, g0⟩ := RampFn.take_bytes Try.underlying22 Try.underlying5 (by kernel_rfl) (hval 0 22 v0 rfl rfl) h0
  clear hA0 hval0
  rw [List.append_nil] at hW'
  refine (walk A0 n0 c0 a0 l0 m0 W g0).mono fun e W' ⟨he, hb⟩ => ?_
  subst he
  exact ⟨_, rfl, post_law rfl hW' hA1 laidOut (by rw [Try.params6]; exact of_decide_eq_true (by kernel_rfl)) 4 (by kernel_rfl) Try.underlying4 rfl hb⟩

theorem over : Rows.fnAimRow.holds Try.pinned (OpenSpec.ofChange Rows.fnAimSpec) :=
  OpenClaim.holds_of_wide 6 Try.f6 rfl rfl rfl rfl rfl rfl rfl ⟨rfl, rfl, rfl, rfl, rfl⟩ rfl rfl rfl rfl rfl (by kernel_rfl) Try.func6 (by kernel_rfl)
    (of_decide_eq_true (by kernel_rfl)) (by unfold Func.isWrapper; first | (rw [if_pos (by decide +kernel)]; kernel_rfl) | (rw [if_neg (by decide +kernel)]; exact ⟨rfl, rfl⟩))
    (fun os started H enc _ => lifted os started H enc)

/-- The statement. -/
theorem proved : Rows.FnAimSaid :=
  over
#print axioms proved
end Go.Proofs.Ytgmgdjhldjjckaa.fnAim
