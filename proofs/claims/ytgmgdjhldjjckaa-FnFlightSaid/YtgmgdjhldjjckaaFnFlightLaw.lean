/- The law FnFlight holds at every input. The step from the walk to the row follows the guide's own template. -/
import Derived.Test.YtgmgdjhldjjckaaMem
import Derived.Test.YtgmgdjhldjjckaaDr4
import Derived.Test.YtgmgdjhldjjckaaFs
import Derived.Test.YtgmgdjhldjjckaaTakeC
import Derived.Deep.RegionHeld3
namespace Go.Proofs.Ytgmgdjhldjjckaa.fnFlight
open Go.ChangeShapes Go.WideShapes Go.ChangeAt Go.RowKit Go.WideMaps Go.WideElems Go.Proofs.Ytgmgdjhldjjckaa.Mem
open Go.ChangeMaps (open_string shut_string)
set_option linter.unusedVariables false
set_option linter.unusedSimpArgs false

theorem own : ownKnob Try.prog.godebug = none := by kernel_rfl
theorem laidOut : laidOutB Try.prog = true := by kernel_rfl

open Go.Proofs.Ytgmgdjhldjjckaa.Cm Go.Proofs.Ytgmgdjhldjjckaa.Pl Go.Proofs.Ytgmgdjhldjjckaa.Str Go.Proofs.Ytgmgdjhldjjckaa.Pw Go.Proofs.Ytgmgdjhldjjckaa.P2 Go.Proofs.Ytgmgdjhldjjckaa.Hd Go.Proofs.Ytgmgdjhldjjckaa.Draw Go.Proofs.Ytgmgdjhldjjckaa.Dr2 Go.Proofs.Ytgmgdjhldjjckaa.Dr4 Go.Proofs.Ytgmgdjhldjjckaa.Jt Go.Proofs.Ytgmgdjhldjjckaa.Dp

set_option maxHeartbeats 4000000 in
set_option maxRecDepth 100000 in
theorem walk (A : Option Addr) (n c : Nat) (bs : List UInt8) (hn : bs.length = n) (hm : n ≤ maxLen) (w : World) (hr : Rd w w.heap.size A (Draw.u8s bs)) :
    Calls Try.prog 3 #[.slice A n c] w fun e w' => e = .returned (.bool true) ∧ Below w.heap.size w w' := by
  by_cases hbig : (n : Int) ≤ 4096
  · have D := Lib.hid (drawJet w A n c bs hn (by omega) hr)
    clear hm
    go_enter Try.func3, Try.ntmps3
    go_wp2_with (go_at_call 15; go_enter Try.func15, Try.ntmps15)
    refine D.out.mono ?_
    rintro e u0 ⟨x, y, h, t, l, hj, rfl, hB⟩
    have BB := Lib.hid hB
    have J := Lib.hid hj
    have hl := (jt_iff.1 hj).2.2.2.2
    clear D hbig hB hn hr
    obtain ⟨N, hN⟩ : ∃ N : Nat, (N : Int) = l + 1 := ⟨(l + 1).toNat, by omega⟩
    have F := flightI x y h t l
    rw [fl_yes hj] at F
    replace F := Lib.hid F
    have G := fun (n : Int) (r : Int) (e : ha x y h t l n = r) => e ▸ heightI x y h t l n
    have H0 := Lib.hid (G 0 0 (by rw [show (0 : Int) = ((0 : Nat) : Int) from rfl, ha_in hj (by omega), hg_zero]; rfl))
    have H1 := Lib.hid (G (l + 1) 0 (by rw [← hN, ha_in hj (by omega), hg_end hN]))
    have H2 := Lib.hid (G (l + 1 + 1) 0 (by unfold ha; rw [inF_no (Or.inr (Or.inr (by omega)))]; rfl))
    have H3 := Lib.hid (G (-1) 0 (by unfold ha; rw [inF_no (Or.inr (Or.inl (by omega)))]; rfl))
    replace G := Lib.hid G
    have HN := Lib.hid hN
    clear hj hN
    go_wp2_with fail
    refine (F.out _).mono ?_
    rintro e u1 ⟨rfl, hb⟩
    have Kj := Lib.hid (JB.below (JB.new u0 (x) (y) (h) (t) (l)) hb)
    have BB2 := Lib.hid (((BB.out).alloc (by have := BB.out.size; go_size) (.cells #[.int .i64 (x), .int .i64 (y), .int .i64 (h), .int .i64 (t), .int .i64 (l)] 27)).trans (hb.mono (by have := BB.out.size; go_size)))
    clear hb BB
    have BB := BB2
    clear BB2
    have Hj := Kj
    clear Kj
    obtain ⟨cj0, cj1, cj2, cj3, cj4⟩ := Hj.out.c
    have lj := Hj.out.lt
    have mj : ∀ j, _ < u1.heap.size + j := fun j => Nat.lt_of_lt_of_le lj (Nat.le_add_right _ j)
    go_wp2_with fail
    refine (H0.out _).mono ?_
    rintro e u2 ⟨rfl, hb⟩
    clear cj0 cj1 cj2 cj3 cj4 lj mj
    have Kj := Lib.hid (JB.below (Hj.out) hb)
    have BB2 := Lib.hid ((BB.out).trans (hb.mono (by have := BB.out.size; go_size)))
    clear hb BB Hj
    have BB := BB2
    clear BB2
    have Hj := Kj
    clear Kj
    obtain ⟨cj0, cj1, cj2, cj3, cj4⟩ := Hj.out.c
    have lj := Hj.out.lt
    have mj : ∀ j, _ < u2.heap.size + j := fun j => Nat.lt_of_lt_of_le lj (Nat.le_add_right _ j)
    go_wp2_with fail
    refine (H1.out _).mono ?_
    rintro e u3 ⟨rfl, hb⟩
    clear cj0 cj1 cj2 cj3 cj4 lj mj
    have Kj := Lib.hid (JB.below (Hj.out) hb)
    have BB2 := Lib.hid ((BB.out).trans (hb.mono (by have := BB.out.size; go_size)))
    clear hb BB Hj
    have BB := BB2
    clear BB2
    have Hj := Kj
    clear Kj
    obtain ⟨cj0, cj1, cj2, cj3, cj4⟩ := Hj.out.c
    have lj := Hj.out.lt
    have mj : ∀ j, _ < u3.heap.size + j := fun j => Nat.lt_of_lt_of_le lj (Nat.le_add_right _ j)
    go_wp2_with fail
    refine (H2.out _).mono ?_
    rintro e u4 ⟨rfl, hb⟩
    clear cj0 cj1 cj2 cj3 cj4 lj mj
    have Kj := Lib.hid (JB.below (Hj.out) hb)
    have BB2 := Lib.hid ((BB.out).trans (hb.mono (by have := BB.out.size; go_size)))
    clear hb BB Hj
    have BB := BB2
    clear BB2
    have Hj := Kj
    clear Kj
    obtain ⟨cj0, cj1, cj2, cj3, cj4⟩ := Hj.out.c
    have lj := Hj.out.lt
    have mj : ∀ j, _ < u4.heap.size + j := fun j => Nat.lt_of_lt_of_le lj (Nat.le_add_right _ j)
    go_wp2_with fail
    refine (H3.out _).mono ?_
    rintro e u5 ⟨rfl, hb⟩
    clear cj0 cj1 cj2 cj3 cj4 lj mj
    have Kj := Lib.hid (JB.below (Hj.out) hb)
    have BB2 := Lib.hid ((BB.out).trans (hb.mono (by have := BB.out.size; go_size)))
    clear hb BB Hj
    have BB := BB2
    clear BB2
    have Hj := Kj
    clear Kj
    obtain ⟨cj0, cj1, cj2, cj3, cj4⟩ := Hj.out.c
    have lj := Hj.out.lt
    have mj : ∀ j, _ < u5.heap.size + j := fun j => Nat.lt_of_lt_of_le lj (Nat.le_add_right _ j)
    go_wp2_with fail
    go_loopw [5] (fun i wr => ∃ k : Nat, 1 ≤ k ∧ (k : Int) ≤ l + 1 ∧ i = .int .i64 k ∧ Hid (JB wr u0.heap.size x y h t l) ∧ Hid (Below w.heap.size w wr)) (fun i _ => (l + 1 - intOf i).toNat)
    case atStart => exact ⟨1, by omega, by omega, rfl, Hj, BB⟩
    case round =>
      clear cj0 cj1 cj2 cj3 cj4 lj mj Hj BB
      obtain ⟨k, k1, k2, rfl, Hj, BB⟩ := hrel
      obtain ⟨cj0, cj1, cj2, cj3, cj4⟩ := Hj.out.c
      have lj := Hj.out.lt
      have mj : ∀ j, _ < wr.heap.size + j := fun j => Nat.lt_of_lt_of_le lj (Nat.le_add_right _ j)
      by_cases hlt : (k : Int) ≤ l
      · have hj := J.out
        have hpos := hg_pos (l := l) k1 hlt
        have hle := hg_le (l := l) (k := k) (by omega) hl.2
        have hs := hg_succ l k
        have hle2 := hg_le (l := l) (k := k + 1) (by omega) hl.2
        have hn2 := hg_nonneg (l := l) (k := k + 1) (by omega)
        have HA := G.out (k : Int) _ (ha_in hj (by omega))
        have HC := G.out ((k : Int) + 1) (hg l (k + 1)) (by rw [show (k : Int) + 1 = ((k + 1 : Nat) : Int) by omega, ha_in hj (by omega)])
        have HBk := G.out (l + 1 - (k : Int)) (hg l k) (by obtain ⟨m, hm⟩ : ∃ m : Nat, (m : Int) = l + 1 - k := ⟨(l + 1 - k).toNat, by omega⟩; rw [← hm, ha_in hj (by omega)]; unfold hg; rw [show l + 1 - (m : Int) = k by omega, hm, Int.mul_comm])
        have q1 : IntKind.i64.wrap (l + 1 - (k : Int)) = l + 1 - k := IntWalk.i64_in _ (by omega)
        have q2 : IntKind.i64.wrap ((k : Int) * (l + 1 - k)) = hg l k := by rw [show (k : Int) * (l + 1 - k) = hg l k from rfl]; exact IntWalk.i64_in _ (by omega)
        have q3 : IntKind.i64.wrap ((k : Int) + 1) = k + 1 := IntWalk.i64_in _ (by omega)
        have q4 : IntKind.i64.wrap (2 * (k : Int)) = 2 * k := IntWalk.i64_in _ (by omega)
        have q5 : IntKind.i64.wrap (l - 2 * (k : Int)) = l - 2 * k := IntWalk.i64_in _ (by omega)
        have q6 : IntKind.i64.wrap (hg l (k + 1) - hg l k) = l - 2 * k := by rw [← hs, show hg l k + (l - 2 * (k : Int)) - hg l k = l - 2 * k by omega]; exact q5
        clear hs hle2 hn2 hj
        generalize hg l (k + 1) = B at *
        generalize hg l k = A at *
        have hz : ¬ A ≤ 0 := by omega
        have hz2 : decide (A ≤ 0) = false := decide_eq_false hz
        replace HA := Lib.hid HA
        replace HBk := Lib.hid HBk
        replace HC := Lib.hid HC
        go_wp2_with fail
        refine (HA.out _).mono ?_
        rintro e u6 ⟨rfl, hb⟩
        clear cj0 cj1 cj2 cj3 cj4 lj mj
        have Kj := Lib.hid (JB.below (Hj.out) hb)
        have BB2 := Lib.hid ((BB.out).trans (hb.mono (by have := BB.out.size; go_size)))
        clear hb BB Hj
        have BB := BB2
        clear BB2
        have Hj := Kj
        clear Kj
        obtain ⟨cj0, cj1, cj2, cj3, cj4⟩ := Hj.out.c
        have lj := Hj.out.lt
        have mj : ∀ j, _ < u6.heap.size + j := fun j => Nat.lt_of_lt_of_le lj (Nat.le_add_right _ j)
        go_wp2_with fail
        have hJ0 := (JB.drew Hj.out).c
        go_region_held3 (fun w' => w'.cell? ⟨u0.heap.size, 0, none⟩ = some (.int .i64 x) ∧ w'.cell? ⟨u0.heap.size, 1, none⟩ = some (.int .i64 y) ∧ w'.cell? ⟨u0.heap.size, 2, none⟩ = some (.int .i64 h) ∧ w'.cell? ⟨u0.heap.size, 3, none⟩ = some (.int .i64 t) ∧ w'.cell? ⟨u0.heap.size, 4, none⟩ = some (.int .i64 l)) ((first | (with_reducible exact hJ1) | (with_reducible exact hJ2) | exact hJ0))
          (first
            | (go_at_call 18; ((with_reducible refine (HBk.out _).mono ?_); rintro e r1 ⟨rfl, hb⟩; have kJ1 := JB.below (JB.drew Hj.out) hb; have hJ1 := kJ1.c; have BB1 := Lib.hid (BB.out.trans (Below.trans (Below.refl _ _).drew (hb.mono BB.out.size))); clear hb))
            | (go_at_call 18; ((with_reducible refine (HC.out _).mono ?_); rintro e r2 ⟨rfl, hb⟩; have kJ2 := Lib.hid (JB.below kJ1 hb); have hJ2 := kJ2.out.c; have BB2 := Lib.hid (BB1.out.trans (hb.mono BB1.out.size)); clear hb)))
        all_goals clear hJ0 hJ1 hJ2 kJ1 q1 q2 q3 q4 q5 q6 cj0 cj1 cj2 cj3 cj4 lj mj
        all_goals go_wp2_with fail
        go_roundw
        case rel => exact ⟨k + 1, by omega, by omega, by go_num, kJ2, BB2⟩
        case measure => simp [intOf]; omega
      · go_wp2_with fail
        go_returns
        exact ⟨rfl, BB.out⟩
  · have hd : decide (4096 < n) = true := decide_eq_true (by omega)
    clear hn hm hr
    go_enter Try.func3, Try.ntmps3
    go_wp2_with (go_at_call 15; go_enter Try.func15, Try.ntmps15)
    go_returns
    exact ⟨rfl, Below.refl _ _⟩

set_option maxRecDepth 100000 in
theorem lifted (os : Os) (started : os.Started) (H : Type) (enc : TypeId × Value → H) :
    ReturnsInHanded {} Try.checked os 3 .any (Rows.fnFlightSpec.pre6 enc Try.prog Try.f3 Rows.fnFlightRow.domain false) (Rows.fnFlightSpec.post enc Try.prog Try.f3 false true false false) := by
  refine returnsInHanded_of_change (C := Try.checked) own started (by kernel_rfl) Try.func3
    (ChangeSpec.witness6 (enc := enc) (C := Try.checked) false ⟨#[], #[.slice none 0 0], []⟩ 8 (by kernel_rfl) (by kernel_rfl) (by kernel_rfl) (by kernel_rfl)) ?_
  intro W base args ds gs before hval0 hW hcnd hsz
  have hval : ∀ (j : Nat) t v, Try.f3.params[j]? = some t → args[j]? = some v → Value.okWide Try.prog W .any base t v := hval0
  have hW' := hW
  obtain ⟨p, q, hA0, hV, rfl, hfz, hnd⟩ := hW
  have hA1 := hA0
  have hA : DataW.TrodAll enc Try.prog W 0 (fun _ => true) true Try.f3.params.toList args.toList ds p := hA0
  rw [Try.params3] at hA hval
  obtain ⟨v0, vs0, d0, ds0, p0, q0, hargs, rfl, rfl, h0, r0⟩ := trodAll_cons hA
  obtain ⟨rfl, rfl, rfl⟩ := trodAll_nil r0
  obtain rfl : args = #[v0] := by cases args; simp_all
  obtain ⟨rfl, rfl⟩ := trodVars_none hV
  obtain ⟨A0, n0, c0, a0, rfl, l0, m0, g0⟩ := RampFn.take_bytes Try.underlying22 Try.underlying5 (by kernel_rfl) (hval 0 22 v0 rfl rfl) h0
  clear hA0 hval0
  rw [List.append_nil] at hW'
  refine (walk A0 n0 c0 a0 l0 m0 W g0).mono fun e W' ⟨he, hb⟩ => ?_
  subst he
  exact ⟨_, rfl, post_law rfl hW' hA1 laidOut (by rw [Try.params3]; exact of_decide_eq_true (by kernel_rfl)) 4 (by kernel_rfl) Try.underlying4 rfl hb⟩

theorem over : Rows.fnFlightRow.holds Try.pinned (OpenSpec.ofChange Rows.fnFlightSpec) :=
  OpenClaim.holds_of_wide 3 Try.f3 rfl rfl rfl rfl rfl rfl rfl ⟨rfl, rfl, rfl, rfl, rfl⟩ rfl rfl rfl rfl rfl (by kernel_rfl) Try.func3 (by kernel_rfl)
    (of_decide_eq_true (by kernel_rfl)) (by unfold Func.isWrapper; first | (rw [if_pos (by decide +kernel)]; kernel_rfl) | (rw [if_neg (by decide +kernel)]; exact ⟨rfl, rfl⟩))
    (fun os started H enc _ => lifted os started H enc)

/-- The statement. -/
theorem proved : Rows.FnFlightSaid :=
  over
#print axioms proved
end Go.Proofs.Ytgmgdjhldjjckaa.fnFlight
