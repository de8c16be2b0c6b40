/- The law FnRuns holds at every input. The step from the walk to the row follows the guide's own template. -/
import Derived.Test.YtmbiomekbinplaaMem
import Derived.Test.YtmbiomekbinplaaDr8
import Derived.Test.YtmbiomekbinplaaDw8
import Derived.Test.YtmbiomekbinplaaRo8
import Derived.Test.YtmbiomekbinplaaRu8
import Derived.Test.YtmbiomekbinplaaRn8
import Derived.Test.YtmbiomekbinplaaLe5
import Derived.Test.YtmbiomekbinplaaTakeC
import Derived.Deep.RegionHeld3
import Derived.BigQuiet
namespace Go.Proofs.Ytmbiomekbinplaa.fnRuns
open Go.ChangeShapes Go.WideShapes Go.ChangeAt Go.RowKit Go.WideMaps Go.WideElems Go.Proofs.Ytmbiomekbinplaa.Mem
open Go.ChangeMaps (open_string shut_string)
set_option linter.unusedVariables false
set_option linter.unusedSimpArgs false

theorem own : ownKnob Try.prog.godebug = none := by kernel_rfl
theorem laidOut : laidOutB Try.prog = true := by kernel_rfl

open Go.Proofs.Ytmbiomekbinplaa.Rw Go.Proofs.Ytmbiomekbinplaa.Tk Go.Proofs.Ytmbiomekbinplaa.Dr8 open Go.Proofs.Ytmbiomekbinplaa.Rn8
open Go.Proofs.Ytmbiomekbinplaa.Rw (owns_below owns_grown owns_base)

set_option maxHeartbeats 4000000 in
set_option maxRecDepth 100000 in
theorem walk (A : Option Addr) (n c : Nat) (bs : List UInt8) (hn : bs.length = n) (hm : n ≤ maxLen) (w : World) (hr : Rd w w.heap.size A (Draw.u8s bs)) :
    Calls Try.prog 4 #[.slice A n c] w fun e w' => e = .returned (.bool true) ∧ Below w.heap.size w w' := by
  have hu : undef = Value.tuple #[] := rfl
  by_cases hbig : (n : Int) ≤ 4096
  · have D := Lib.hid (drawT w A n c bs hn (by omega) hr)
    have D2 := Lib.hid (fun (W : World) (hW : Below w.heap.size w W) => Dw8.drawR W A n c bs hn (by omega) ((hr.below hW).more hW.size))
    clear hm
    go_enter Try.func4, Try.ntmps4
    go_wp2_with (go_at_call 8; go_enter Try.func8, Try.ntmps8)
    refine D.out.mono ?_
    rintro e wd0 ⟨zs, q, gZ, cZ, hl, hq, ht, rfl, hR, hB⟩
    have BB := Lib.hid hB
    have Z := Lib.hid (Rd.own hR)
    obtain ⟨V, hV⟩ : ∃ V, rn zs = V := ⟨_, rfl⟩
    obtain ⟨m, hm⟩ : ∃ m, V.length = m := ⟨_, rfl⟩
    obtain ⟨hfit, hex⟩ := rn_fit zs
    rw [hV] at hfit hex
    have hm24 : m ≤ 24 := by
      have := rn_len zs zs.length (Nat.le_refl _)
      rw [List.take_length, hV, hm] at this
      omega
    have hrv : rnV zs = V := by rw [rnV_yes ht, hV]
    have hg : rkG V = true := rkG_iff.2 ⟨hfit, by rw [hex]; exact ht⟩
    have hL : rkL V = zs := by rw [rkL_yes hg, hex]
    have CR := Lib.hid (show ∀ (W : World) (h : Rd W W.heap.size (some ⟨gZ, 0, none⟩) (ints zs)), Calls Try.prog 13 #[.slice (some ⟨gZ, 0, none⟩) q cZ] W (fun e w' => ∃ g c, e = .returned (.slice (some ⟨g, 0, none⟩) m c) ∧ w'.ownsRow W.heap.size 35 2 (.slice (some ⟨g, 0, none⟩) m c) m (rls V) ∧ Below W.heap.size W w') from fun W h => by
      have := Ro8.runsI (some ⟨gZ, 0, none⟩) q cZ zs W hl (by omega) h
      rw [hrv] at this
      unfold Ro8.RowR at this
      rw [hm] at this
      exact this)
    have CO := Lib.hid (show ∀ (g c : Nat) (W : World) (h : Rd W W.heap.size (some ⟨g, 0, none⟩) (rls V)), Calls Try.prog 14 #[.slice (some ⟨g, 0, none⟩) m c] W (fun e w' => ∃ g c, e = .returned (.tuple #[.slice (some ⟨g, 0, none⟩) q c, .bool true]) ∧ w'.ownsRow W.heap.size 3 1 (.slice (some ⟨g, 0, none⟩) q c) q (ints zs) ∧ Below W.heap.size W w') from fun g c W h => by
      have := Ru8.ofRunsI (some ⟨g, 0, none⟩) m c V W hm (by omega) h
      rw [hL, hg] at this
      unfold Fw8.RowP at this
      rw [hl] at this
      exact this)
    have ZL := Lib.hid hl
    have VL := Lib.hid hm
    have FT := Lib.hid hfit
    have EX := Lib.hid (show (ex V).length = q by rw [hex, hl])
    have d9 : ((q : Int) == (q : Int)) = true := by simp
    clear D hbig hR hB hn hr hl ht hV hm hfit hex hrv hg hL
    go_wp2_with fail
    refine (CR.out _ Z.out).mono ?_
    rintro e wx ⟨gV, cV, rfl, ho, hb⟩
    have Y := Lib.hid (Rd.own ho)
    have BB2 := Lib.hid (BB.out.trans (hb.mono BB.out.size))
    clear ho
    have Zn := Lib.hid ((Z.out.below hb).more hb.size)
    clear hb BB Z
    have BB := BB2
    clear BB2
    have Z := Zn
    clear Zn
    go_wp2_with fail
    refine (CO.out _ _ _ Y.out).mono ?_
    rintro e wx ⟨gX, cX, rfl, ho, hb⟩
    have X := Lib.hid (Rd.own ho)
    have BB2 := Lib.hid (BB.out.trans (hb.mono BB.out.size))
    clear ho
    have Zn := Lib.hid ((Z.out.below hb).more hb.size)
    have Yn := Lib.hid ((Y.out.below hb).more hb.size)
    clear hb BB Z Y
    have BB := BB2
    clear BB2
    have Z := Zn
    clear Zn
    have Y := Yn
    clear Yn
    go_wp2_with fail
    obtain ⟨wo, rfl⟩ : ∃ wo, wo = wx := ⟨_, rfl⟩
    go_loopw [7, 8] (fun nv i wr => ∃ k a m9 : Nat, k ≤ m ∧ i = .int .i64 k ∧ nv = .int .i64 a ∧ Hid ((ex (V.take k)).length = a) ∧ wr = wo.drewN m9) (fun _ i _ => m - (intOf i).toNat)
    case atStart => exact ⟨0, 0, 0, Nat.zero_le _, rfl, rfl, Lib.hid rfl, rfl⟩
    case round =>
      obtain ⟨k, a, m9, hk, rfl, rfl, AK, rfl⟩ := hrel
      by_cases hlt : k < m
      · obtain ⟨⟨l, x⟩, hz⟩ : ∃ z, V[k]? = some z := ⟨_, List.getElem?_eq_getElem (by rw [VL.out]; exact hlt)⟩
        obtain ⟨x1, hne⟩ := FT.out k _ hz
        simp only [] at x1
        obtain ⟨x, rfl⟩ := Int.eq_ofNat_of_zero_le (show 0 ≤ x by omega)
        have hE := ex_take hz
        have AX := Lib.hid (show (ex (V.take (k + 1))).length = a + x by rw [hE, List.length_append, AK.out, List.length_replicate]; simp)
        have hax : a + x ≤ 24 := by
          have h1 := EX.out
          obtain ⟨t, ht⟩ := ex_prefix V (k + 1)
          have h2 := AX.out
          rw [ht, List.length_append, h2] at h1
          omega
        obtain ⟨z0, z1⟩ := rls_get hz
        obtain ⟨b1, o1, e1, _, h1⟩ := Y.out.get (k := k * 2) (by rw [rls_len, VL.out]; omega)
        obtain ⟨rfl, rfl⟩ : gV = b1 ∧ 0 = o1 := by cases e1; exact ⟨rfl, rfl⟩
        have c1 : wo.cell? ⟨gV, k * 2, none⟩ = some (.int .i64 l) := by have := h1 _ _ z0; rw [Nat.zero_add] at this; exact this
        have c2 : wo.cell? ⟨gV, k * 2 + 1, none⟩ = some (.int .i64 x) := by have := h1 _ _ z1; rw [Nat.zero_add] at this; exact this
        have y1 : (k : Int) < (m : Int) := by omega
        have y2 : decide ((k : Int) < (m : Int)) = true := decide_eq_true y1
        have y3 : decide ((x : Int) < 1) = false := decide_eq_false (by omega)
        have y4 : ¬ (x : Int) < 1 := by omega
        clear hE z0 z1 e1
        by_cases hk0 : 0 < k
        · have y5 : (0 : Int) < (k : Int) := by omega
          have y6 : decide ((0 : Int) < (k : Int)) = true := decide_eq_true y5
          obtain ⟨⟨l2, x2⟩, hz2⟩ : ∃ z, V[k - 1]? = some z := ⟨_, List.getElem?_eq_getElem (by rw [VL.out]; omega)⟩
          have hn2 := hne _ hk0 hz2
          simp only [] at hn2
          have y7 : (l == l2) = false := by simp; exact fun e => hn2 e.symm
          obtain ⟨z0, z1⟩ := rls_get hz2
          have c3 : wo.cell? ⟨gV, (k - 1) * 2, none⟩ = some (.int .i64 l2) := by have := h1 _ _ z0; rw [Nat.zero_add] at this; exact this
          have y8 : (k : Int) - 1 = ((k - 1 : Nat) : Int) := by omega
          have y9 : ((k - 1 : Nat) : Int) < (m : Int) := by omega
          have y10 : k - 1 < m := by omega
          clear hz hz2 z0 z1 hne hn2 h1
          go_wp2_with fail
          go_quiet (fail)
          go_wp2_with fail
          go_roundw
          case rel => exact ⟨k + 1, a + x, _, by omega, by go_num, by go_num, AX, rfl⟩
          case measure => simp [intOf]; omega
        · obtain rfl : k = 0 := by omega
          clear hz hne h1
          go_wp2_with fail
          go_quiet (fail)
          go_wp2_with fail
          go_roundw
          case rel => exact ⟨0 + 1, a + x, _, by omega, by go_num, by go_num, AX, rfl⟩
          case measure => simp [intOf]; omega
      · obtain rfl : k = m := by omega
        have hak : a = q := by rw [← AK.out, ← EX.out, ← VL.out, List.take_length]
        subst hak
        have y2 : decide ((k : Int) < (k : Int)) = false := decide_eq_false (by omega)
        have hb := below_drewN (Below.refl wo.heap.size wo) m9
        obtain ⟨wp, hwp⟩ : ∃ wp, World.drewN wo m9 = wp := ⟨_, rfl⟩
        rw [hwp] at hb ⊢
        clear hwp
        have BB2 := Lib.hid (BB.out.trans (hb.mono BB.out.size))
        have Zn := Lib.hid ((Z.out.below hb).more hb.size)
        have Xn := Lib.hid ((X.out.below hb).more hb.size)
        clear hb BB Z X
        have BB := BB2
        clear BB2
        have Z := Zn
        clear Zn
        have X := Xn
        clear Xn
        go_wp2_with fail
        refine (Le5.intsL _ _ a _ _ zs _ _ ZL.out (by omega) X.out Z.out).mono ?_
        rintro e wz ⟨rfl, m8, rfl⟩
        have hb := below_drewN (Below.refl wp.heap.size wp) m8
        obtain ⟨wq, hwq⟩ : ∃ wq, World.drewN wp m8 = wq := ⟨_, rfl⟩
        rw [hwq] at hb ⊢
        clear hwq
        have B3 := Lib.hid (BB.out.trans (hb.mono BB.out.size))
        clear hb BB Z X
        have DR := Lib.hid (D2.out wq B3.out)
        clear D2
        go_wp2_with fail
        refine DR.out.mono ?_
        rintro e w5 ⟨rs, p, gS, cS, hp, hp66, rfl, ho, hb⟩
        have B5 := Lib.hid (B3.out.trans (hb.mono B3.out.size))
        cases hg : rkG rs
        · have CO2 := Lib.hid (show Calls Try.prog 14 #[.slice (some ⟨gS, 0, none⟩) p cS] w5 (fun e w' => ∃ g c, e = .returned (.tuple #[.slice (some ⟨g, 0, none⟩) 0 c, .bool false]) ∧ w'.ownsRow w5.heap.size 3 1 (.slice (some ⟨g, 0, none⟩) 0 c) 0 (ints ([] : List Int)) ∧ Below w5.heap.size w5 w') from by
            have := Ru8.ofRunsI (some ⟨gS, 0, none⟩) p cS rs w5 hp (by omega) (Rd.own ho)
            rw [rkL_no hg, hg] at this
            unfold Fw8.RowP at this
            exact this)
          clear ho hb hp hg DR B3
          go_wp2_with fail
          refine CO2.out.mono ?_
          rintro e w6 ⟨gT, cT, rfl, ho, hb⟩
          have B6 := Lib.hid (B5.out.trans (hb.mono B5.out.size))
          clear ho hb
          go_wp2_with fail
          go_ret
          exact ⟨rfl, B6.out⟩
        · have hrv : rnV (ex rs) = rs := rk_found.2 hg
          obtain ⟨T, hT⟩ : ∃ T, ex rs = T := ⟨_, rfl⟩
          obtain ⟨t, hTl⟩ : ∃ t, T.length = t := ⟨_, rfl⟩
          have ht64 : t ≤ 64 := by rw [← hTl, ← hT]; exact (tk_iff.1 (rkG_iff.1 hg).2).1
          have CO2 := Lib.hid (show Calls Try.prog 14 #[.slice (some ⟨gS, 0, none⟩) p cS] w5 (fun e w' => ∃ g c, e = .returned (.tuple #[.slice (some ⟨g, 0, none⟩) t c, .bool true]) ∧ w'.ownsRow w5.heap.size 3 1 (.slice (some ⟨g, 0, none⟩) t c) t (ints T) ∧ Below w5.heap.size w5 w') from by
            have := Ru8.ofRunsI (some ⟨gS, 0, none⟩) p cS rs w5 hp (by omega) (Rd.own ho)
            rw [rkL_yes hg, hg, hT] at this
            unfold Fw8.RowP at this
            rw [hTl] at this
            exact this)
          have CR2 := Lib.hid (show ∀ (g c : Nat) (W : World) (h : Rd W W.heap.size (some ⟨g, 0, none⟩) (ints T)), Calls Try.prog 13 #[.slice (some ⟨g, 0, none⟩) t c] W (fun e w' => ∃ g c, e = .returned (.slice (some ⟨g, 0, none⟩) p c) ∧ w'.ownsRow W.heap.size 35 2 (.slice (some ⟨g, 0, none⟩) p c) p (rls rs) ∧ Below W.heap.size W w') from fun g c W h => by
            have := Ro8.runsI (some ⟨g, 0, none⟩) t c T W hTl (by omega) h
            rw [← hT, hrv] at this
            unfold Ro8.RowR at this
            rw [hp] at this
            exact this)
          have d8 : ((p : Int) == (p : Int)) = true := by simp
          clear ho hb hp hg DR B3 hrv hT hTl
          go_wp2_with fail
          refine CO2.out.mono ?_
          rintro e w6 ⟨gT, cT, rfl, ho, hb⟩
          have B6 := Lib.hid (B5.out.trans (hb.mono B5.out.size))
          have C3 := Lib.hid (CR2.out _ cT _ (Rd.own ho))
          clear ho hb CR2
          go_wp2_with fail
          refine C3.out.mono ?_
          rintro e w7 ⟨gK, cK, rfl, ho, hb⟩
          have B7 := Lib.hid (B6.out.trans (hb.mono B6.out.size))
          clear ho hb
          go_wp2_with fail
          go_ret
          exact ⟨rfl, B7.out⟩
  · have hd : decide (4096 < n) = true := decide_eq_true (by omega)
    clear hn hm hr
    go_enter Try.func4, Try.ntmps4
    go_wp2_with (go_at_call 8; go_enter Try.func8, Try.ntmps8)
    go_returns
    exact ⟨rfl, Below.refl _ _⟩

set_option maxRecDepth 100000 in
theorem lifted (os : Os) (started : os.Started) (H : Type) (enc : TypeId × Value → H) :
    ReturnsInHanded {} Try.checked os 4 .any (Rows.fnRunsSpec.pre6 enc Try.prog Try.f4 Rows.fnRunsRow.domain false) (Rows.fnRunsSpec.post enc Try.prog Try.f4 false true false false) := by
  refine returnsInHanded_of_change (C := Try.checked) own started (by kernel_rfl) Try.func4
    (ChangeSpec.witness6 (enc := enc) (C := Try.checked) false ⟨#[], #[.slice none 0 0], []⟩ 8 (by kernel_rfl) (by kernel_rfl) (by kernel_rfl) (by kernel_rfl)) ?_
  intro W base args ds gs before hval0 hW hcnd hsz
  have hval : ∀ (j : Nat) t v, Try.f4.params[j]? = some t → args[j]? = some v → Value.okWide Try.prog W .any base t v := hval0
  have hW' := hW
  obtain ⟨p, q, hA0, hV, rfl, hfz, hnd⟩ := hW
  have hA1 := hA0
  have hA : DataW.TrodAll enc Try.prog W 0 (fun _ => true) true Try.f4.params.toList args.toList ds p := hA0
  rw [Try.params4] at hA hval
  obtain ⟨v0, vs0, d0, ds0, p0, q0, hargs, rfl, rfl, h0, r0⟩ := trodAll_cons hA
  obtain ⟨rfl, rfl, rfl⟩ := trodAll_nil r0
  obtain rfl : args = #[v0] := by cases args; simp_all
  obtain ⟨rfl, rfl⟩ := trodVars_none hV
  obtain ⟨A0, n0, c0, a0, rfl, l0, m0, g0⟩ := RampFn.take_bytes Try.underlying22 Try.underlying5 (by kernel_rfl) (hval 0 22 v0 rfl rfl) h0
  clear hA0 hval0
  rw [List.append_nil] at hW'
  refine (walk A0 n0 c0 a0 l0 m0 W g0).mono fun e W' ⟨he, hb⟩ => ?_
  subst he
  exact ⟨_, rfl, post_law rfl hW' hA1 laidOut (by rw [Try.params4]; exact of_decide_eq_true (by kernel_rfl)) 4 (by kernel_rfl) Try.underlying4 rfl hb⟩

theorem over : Rows.fnRunsRow.holds Try.pinned (OpenSpec.ofChange Rows.fnRunsSpec) :=
  OpenClaim.holds_of_wide 4 Try.f4 rfl rfl rfl rfl rfl rfl rfl ⟨rfl, rfl, rfl, rfl, rfl⟩ rfl rfl rfl rfl rfl (by kernel_rfl) Try.func4 (by kernel_rfl)
    (of_decide_eq_true (by kernel_rfl)) (by unfold Func.isWrapper; first | (rw [if_pos (by decide +kernel)]; kernel_rfl) | (rw [if_neg (by decide +kernel)]; exact ⟨rfl, rfl⟩))
    (fun os started H enc _ => lifted os started H enc)

/-- The statement. -/
theorem proved : Rows.FnRunsSaid :=
  over
#print axioms proved
end Go.Proofs.Ytmbiomekbinplaa.fnRuns
