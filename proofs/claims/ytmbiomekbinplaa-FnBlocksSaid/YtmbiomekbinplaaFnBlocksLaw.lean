/- The law FnBlocks holds at every input. The step from the walk to the row follows the guide's own template. -/
import Derived.Test.YtmbiomekbinplaaMem
import Derived.Test.YtmbiomekbinplaaDr8
import Derived.Test.YtmbiomekbinplaaBo8
import Derived.Test.YtmbiomekbinplaaFr8
import Derived.Test.YtmbiomekbinplaaLe5
import Derived.Test.YtmbiomekbinplaaTakeC
import Derived.Deep.RegionHeld3
import Derived.BigQuiet
namespace Go.Proofs.Ytmbiomekbinplaa.fnBlocks
open Go.ChangeShapes Go.WideShapes Go.ChangeAt Go.RowKit Go.WideMaps Go.WideElems Go.Proofs.Ytmbiomekbinplaa.Mem
open Go.ChangeMaps (open_string shut_string)
set_option linter.unusedVariables false
set_option linter.unusedSimpArgs false

theorem own : ownKnob Try.prog.godebug = none := by kernel_rfl
theorem laidOut : laidOutB Try.prog = true := by kernel_rfl

open Go.Proofs.Ytmbiomekbinplaa.Rw Go.Proofs.Ytmbiomekbinplaa.Tk Go.Proofs.Ytmbiomekbinplaa.Dr8 
open Go.Proofs.Ytmbiomekbinplaa.Rw (owns_below owns_grown owns_base)

set_option maxHeartbeats 4000000 in
set_option maxRecDepth 100000 in
theorem walk (A : Option Addr) (n c : Nat) (bs : List UInt8) (hn : bs.length = n) (hm : n ≤ maxLen) (w : World) (hr : Rd w w.heap.size A (Draw.u8s bs)) :
    Calls Try.prog 3 #[.slice A n c] w fun e w' => e = .returned (.bool true) ∧ Below w.heap.size w w' := by
  have hu : undef = Value.tuple #[] := rfl
  by_cases hbig : (n : Int) ≤ 4096
  · have D := Lib.hid (drawT w A n c bs hn (by omega) hr)
    clear hm
    go_enter Try.func3, Try.ntmps3
    go_wp2_with (go_at_call 8; go_enter Try.func8, Try.ntmps8)
    refine D.out.mono ?_
    rintro e wd0 ⟨zs, q, gZ, cZ, hl, hq, ht, rfl, hR, hB⟩
    have BB := Lib.hid hB
    have Z := Lib.hid (Rd.own hR)
    obtain ⟨m, hm⟩ : ∃ m, (q + 7) / 8 = m := ⟨_, rfl⟩
    obtain ⟨B, hB2⟩ : ∃ B, pd zs = B := ⟨_, rfl⟩
    have hBl : B.length = m * 8 := by rw [← hB2, pd_len, hl, hm]
    have hbv : blV zs = B := by rw [blV_yes ht, hB2]
    have hB8 : B.length / 8 = m := by omega
    have hm24 : m ≤ 3 := by omega
    have htB : tk B = true := tk_yes (by rw [hBl]; omega) (by rw [← hB2]; exact pd_ok (tk_iff.1 ht).2)
    have hBz : B.take q = zs := by rw [← hB2, ← hl]; exact pd_take zs
    have g1 : frG B (q : Int) = true := frG_iff.2 ⟨by omega, by rw [Int.toNat_natCast, hBz]; exact ht⟩
    have f1 : frL B (q : Int) = zs := by rw [frL_yes g1, Int.toNat_natCast, hBz]
    have h8 : (8 * (m : Int)).toNat = m * 8 := by omega
    have hBt : B.take (m * 8) = B := by rw [← hBl]; exact List.take_length
    have g2 : frG B (8 * (m : Int)) = true := frG_iff.2 ⟨by omega, by rw [h8, hBt]; exact htB⟩
    have f2 : frL B (8 * (m : Int)) = B := by rw [frL_yes g2, h8, hBt]
    have g3 : frG B (8 * (m : Int) + 1) = false := frG_no (fun h => by have := h.1.2; omega)
    have f3 := frL_no g3
    have CB := Lib.hid (show ∀ (W : World) (h : Rd W W.heap.size (some ⟨gZ, 0, none⟩) (ints zs)), Calls Try.prog 10 #[.slice (some ⟨gZ, 0, none⟩) q cZ] W (fun e w' => ∃ g c, e = .returned (.slice (some ⟨g, 0, none⟩) m c) ∧ w'.ownsRow W.heap.size 56 8 (.slice (some ⟨g, 0, none⟩) m c) m (ints B) ∧ Below W.heap.size W w') from fun W h => by
      have := Bo8.blocksI (some ⟨gZ, 0, none⟩) q cZ zs W hl (by omega) h
      rw [hbv] at this
      unfold Bo8.RowB at this
      rw [hB8] at this
      exact this)
    have CF := Lib.hid (show ∀ (g c : Nat) (W : World) (h : Rd W W.heap.size (some ⟨g, 0, none⟩) (ints B)), Calls Try.prog 11 #[.slice (some ⟨g, 0, none⟩) m c, .int .i64 q] W (fun e w' => ∃ g c, e = .returned (.tuple #[.slice (some ⟨g, 0, none⟩) q c, .bool true]) ∧ w'.ownsRow W.heap.size 3 1 (.slice (some ⟨g, 0, none⟩) q c) q (ints zs) ∧ Below W.heap.size W w') from fun g c W h => by
      have := Fr8.fromI (some ⟨g, 0, none⟩) m c B q W hBl (by omega) h
      rw [f1, g1] at this
      unfold Fw8.RowP at this
      rw [hl] at this
      exact this)
    have CG := Lib.hid (show ∀ (g c : Nat) (W : World) (h : Rd W W.heap.size (some ⟨g, 0, none⟩) (ints B)), Calls Try.prog 11 #[.slice (some ⟨g, 0, none⟩) m c, .int .i64 (8 * (m : Int))] W (fun e w' => ∃ g c, e = .returned (.tuple #[.slice (some ⟨g, 0, none⟩) (m * 8) c, .bool true]) ∧ w'.ownsRow W.heap.size 3 1 (.slice (some ⟨g, 0, none⟩) (m * 8) c) (m * 8) (ints B) ∧ Below W.heap.size W w') from fun g c W h => by
      have := Fr8.fromI (some ⟨g, 0, none⟩) m c B (8 * (m : Int)) W hBl (by omega) h
      rw [f2, g2] at this
      unfold Fw8.RowP at this
      rw [hBl] at this
      exact this)
    have CH := Lib.hid (show ∀ (g c : Nat) (W : World) (h : Rd W W.heap.size (some ⟨g, 0, none⟩) (ints B)), Calls Try.prog 11 #[.slice (some ⟨g, 0, none⟩) m c, .int .i64 (8 * (m : Int) + 1)] W (fun e w' => ∃ g c, e = .returned (.tuple #[.slice (some ⟨g, 0, none⟩) 0 c, .bool false]) ∧ w'.ownsRow W.heap.size 3 1 (.slice (some ⟨g, 0, none⟩) 0 c) 0 (ints ([] : List Int)) ∧ Below W.heap.size W w') from fun g c W h => by
      have := Fr8.fromI (some ⟨g, 0, none⟩) m c B (8 * (m : Int) + 1) W hBl (by omega) h
      rw [f3, g3] at this
      unfold Fw8.RowP at this
      exact this)
    have HG := Lib.hid (fun (k : Nat) (h1 : q ≤ k) (h2 : k < m * 8) => (by rw [← hB2, pd_get (by rw [hl, hm]; exact h2), hl, show min k (q - 1) = q - 1 by omega] : B[k]? = some (zs.getD (q - 1) 0)))
    have ZG := Lib.hid (fun (h : 0 < q) => (by rw [List.getD_eq_getElem?_getD, List.getElem?_eq_getElem (by omega)]; rfl : zs[q - 1]? = some (zs.getD (q - 1) 0)))
    have HL := Lib.hid hl
    have HBL := Lib.hid hBl
    have d1 : ((q : Int) + 8 - 1).tdiv 8 = (m : Int) := by rw [Int.tdiv_eq_ediv_of_nonneg (by omega)]; omega
    have d2 : ((q : Int) + 8 - 1) / 8 = (m : Int) := by omega
    have d3 : ((m : Int) == (m : Int)) = true := by simp
    have d4 : q ≤ m * 8 := by omega
    clear D hbig hR hB hn hr hl ht hB2 hBl hbv hB8 htB hBz g1 f1 h8 hBt g2 f2 g3 f3
    go_wp2_with fail
    refine (CB.out _ Z.out).mono ?_
    rintro e wx ⟨gY, cY, rfl, ho, hb⟩
    have Y := Lib.hid (Rd.own ho)
    have BB2 := Lib.hid (BB.out.trans (hb.mono BB.out.size))
    clear ho
    have Zn := Lib.hid ((Z.out.below hb).more hb.size)
    clear hb BB Z
    have BB := BB2
    clear BB2
    have Z := Zn
    clear Zn
    go_wp2_with fail
    refine (CF.out _ _ _ Y.out).mono ?_
    rintro e wx ⟨gX, cX, rfl, ho, hb⟩
    have X := Lib.hid (Rd.own ho)
    have BB2 := Lib.hid (BB.out.trans (hb.mono BB.out.size))
    clear ho
    have Zn := Lib.hid ((Z.out.below hb).more hb.size)
    have Yn := Lib.hid ((Y.out.below hb).more hb.size)
    clear hb BB Z Y
    have BB := BB2
    clear BB2
    have Z := Zn
    clear Zn
    have Y := Yn
    clear Yn
    go_wp2_with fail
    refine (Le5.intsL _ _ q _ _ zs _ _ HL.out (by omega) X.out Z.out).mono ?_
    rintro e wz ⟨rfl, m9, rfl⟩
    have hb := below_drewN (Below.refl wx.heap.size wx) m9
    have BB2 := Lib.hid (BB.out.trans (hb.mono BB.out.size))
    have Zn := Lib.hid ((Z.out.below hb).more hb.size)
    have Yn := Lib.hid ((Y.out.below hb).more hb.size)
    clear hb BB Z Y
    have BB := BB2
    clear BB2
    have Z := Zn
    clear Zn
    have Y := Yn
    clear Yn
    go_wp2_with fail
    refine (CG.out _ _ _ Y.out).mono ?_
    rintro e wx ⟨gU, cU, rfl, ho, hb⟩
    have U := Lib.hid (Rd.own ho)
    have BB2 := Lib.hid (BB.out.trans (hb.mono BB.out.size))
    clear ho
    have Zn := Lib.hid ((Z.out.below hb).more hb.size)
    have Yn := Lib.hid ((Y.out.below hb).more hb.size)
    clear hb BB Z Y
    have BB := BB2
    clear BB2
    have Z := Zn
    clear Zn
    have Y := Yn
    clear Yn
    go_wp2_with fail
    refine (CH.out _ _ _ Y.out).mono ?_
    rintro e wx ⟨gV, cV, rfl, ho, hb⟩
    have V := Lib.hid (Rd.own ho)
    have BB2 := Lib.hid (BB.out.trans (hb.mono BB.out.size))
    clear ho
    have Zn := Lib.hid ((Z.out.below hb).more hb.size)
    have Yn := Lib.hid ((Y.out.below hb).more hb.size)
    have Un := Lib.hid ((U.out.below hb).more hb.size)
    clear hb BB Z Y U
    have BB := BB2
    clear BB2
    have Z := Zn
    clear Zn
    have Y := Yn
    clear Yn
    have U := Un
    clear Un
    go_wp2_with fail
    obtain ⟨wo, rfl⟩ : ∃ wo, wo = wx := ⟨_, rfl⟩
    go_loopw [11] (fun i wr => ∃ k m9 : Nat, q ≤ k ∧ k ≤ m * 8 ∧ i = .int .i64 k ∧ wr = wo.drewN m9) (fun i _ => m * 8 - (intOf i).toNat)
    case atStart => exact ⟨q, 0, Nat.le_refl _, d4, rfl, rfl⟩
    case round =>
      obtain ⟨k, m9, hk1, hk2, rfl, rfl⟩ := hrel
      by_cases hlt : k < m * 8
      · have hq0 : 0 < q := by omega
        have y1 := HG.out k hk1 hlt
        have y2 := ZG.out hq0
        obtain ⟨z, hz⟩ : ∃ z, zs.getD (q - 1) 0 = z := ⟨_, rfl⟩
        rw [hz] at y1 y2
        obtain ⟨b1, o1, e1, _, h1⟩ := U.out.get (k := k) (by rw [ints_len, HBL.out]; exact hlt)
        obtain ⟨rfl, rfl⟩ : gU = b1 ∧ 0 = o1 := by cases e1; exact ⟨rfl, rfl⟩
        obtain ⟨b2, o2, e2, _, h2⟩ := Z.out.get (k := q - 1) (by rw [ints_len, HL.out]; omega)
        obtain ⟨rfl, rfl⟩ : gZ = b2 ∧ 0 = o2 := by cases e2; exact ⟨rfl, rfl⟩
        have c1 : wo.cell? ⟨gU, k, none⟩ = some (.int .i64 z) := by have := h1 _ _ (Fw8.ints_at y1); rw [Nat.zero_add] at this; exact this
        have c2 : wo.cell? ⟨gZ, q - 1, none⟩ = some (.int .i64 z) := by have := h2 _ _ (Fw8.ints_at y2); rw [Nat.zero_add] at this; exact this
        have x1 : (k : Int) < ((m * 8 : Nat) : Int) := by omega
        have x2 : (q : Int) - 1 = ((q - 1 : Nat) : Int) := by omega
        have x3 : ((q - 1 : Nat) : Int) < (q : Int) := by omega
        have x4 : q - 1 < q := by omega
        have x5 : decide ((k : Int) < ((m * 8 : Nat) : Int)) = true := decide_eq_true x1
        have hvv : (z == z) = true := by simp
        clear y1 y2 hz h1 h2 e1 e2
        go_wp2_with fail
        go_quiet (fail)
        go_wp2_with fail
        go_roundw
        case rel => exact ⟨k + 1, _, by omega, by omega, by go_num, rfl⟩
        case measure => simp [intOf]; omega
      · have x1 : ¬ (k : Int) < ((m * 8 : Nat) : Int) := by omega
        have x5 : decide ((k : Int) < ((m * 8 : Nat) : Int)) = false := decide_eq_false x1
        go_wp2_with fail
        go_ret
        exact ⟨rfl, below_drewN BB.out _⟩
  · have hd : decide (4096 < n) = true := decide_eq_true (by omega)
    clear hn hm hr
    go_enter Try.func3, Try.ntmps3
    go_wp2_with (go_at_call 8; go_enter Try.func8, Try.ntmps8)
    go_returns
    exact ⟨rfl, Below.refl _ _⟩

set_option maxRecDepth 100000 in
theorem lifted (os : Os) (started : os.Started) (H : Type) (enc : TypeId × Value → H) :
    ReturnsInHanded {} Try.checked os 3 .any (Rows.fnBlocksSpec.pre6 enc Try.prog Try.f3 Rows.fnBlocksRow.domain false) (Rows.fnBlocksSpec.post enc Try.prog Try.f3 false true false false) := by
  refine returnsInHanded_of_change (C := Try.checked) own started (by kernel_rfl) Try.func3
    (ChangeSpec.witness6 (enc := enc) (C := Try.checked) false ⟨#[], #[.slice none 0 0], []⟩ 8 (by kernel_rfl) (by kernel_rfl) (by kernel_rfl) (by kernel_rfl)) ?_
  intro W base args ds gs before hval0 hW hcnd hsz
  have hval : ∀ (j : Nat) t v, Try.f3.params[j]? = some t → args[j]? = some v → Value.okWide Try.prog W .any base t v := hval0
  have hW' := hW
  obtain ⟨p, q, hA0, hV, rfl, hfz, hnd⟩ := hW
  have hA1 := hA0
  have hA : DataW.TrodAll enc Try.prog W 0 (fun _ => true) true Try.f3.params.toList args.toList ds p := hA0
  rw [Try.params3] at hA hval
  obtain ⟨v0, vs0, d0, ds0, p0, q0, hargs, rfl, rfl, h0, r0⟩ := trodAll_cons hA
  obtain ⟨rfl, rfl, rfl⟩ := trodAll_nil r0
  obtain rfl : args = #[v0] := by cases args; simp_all
  obtain ⟨rfl, rfl⟩ := trodVars_none hV
  obtain ⟨A0, n0, c0, a0, rfl, l0, m0, g0⟩ := RampFn.take_bytes Try.underlying22 Try.underlying5 (by kernel_rfl) (hval 0 22 v0 rfl rfl) h0
  clear hA0 hval0
  rw [List.append_nil] at hW'
  refine (walk A0 n0 c0 a0 l0 m0 W g0).mono fun e W' ⟨he, hb⟩ => ?_
  subst he
  exact ⟨_, rfl, post_law rfl hW' hA1 laidOut (by rw [Try.params3]; exact of_decide_eq_true (by kernel_rfl)) 4 (by kernel_rfl) Try.underlying4 rfl hb⟩

theorem over : Rows.fnBlocksRow.holds Try.pinned (OpenSpec.ofChange Rows.fnBlocksSpec) :=
  OpenClaim.holds_of_wide 3 Try.f3 rfl rfl rfl rfl rfl rfl rfl ⟨rfl, rfl, rfl, rfl, rfl⟩ rfl rfl rfl rfl rfl (by kernel_rfl) Try.func3 (by kernel_rfl)
    (of_decide_eq_true (by kernel_rfl)) (by unfold Func.isWrapper; first | (rw [if_pos (by decide +kernel)]; kernel_rfl) | (rw [if_neg (by decide +kernel)]; exact ⟨rfl, rfl⟩))
    (fun os started H enc _ => lifted os started H enc)

/-- The statement. -/
theorem proved : Rows.FnBlocksSaid :=
  over
#print axioms proved
end Go.Proofs.Ytmbiomekbinplaa.fnBlocks
