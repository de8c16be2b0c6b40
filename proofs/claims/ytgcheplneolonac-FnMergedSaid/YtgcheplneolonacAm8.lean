/- AddCue of the model: a cue put into a list of cues where it belongs, of the model. -/
import Derived.Test.YtgcheplneolonacAm7
namespace Go.Proofs.Ytgcheplneolonac.Am8
open Go.RowKit Go.ChangeShapes Go.WideShapes Go.WideElems Go.Deep Go.Proofs.Ytgcheplneolonac.Mem Go.Proofs.Ytgcheplneolonac.Rw Go.Proofs.Ytgcheplneolonac.P2 Go.Proofs.Ytgcheplneolonac.Cd Go.Proofs.Ytgcheplneolonac.Cv Go.Proofs.Ytgcheplneolonac.Cl Go.Proofs.Ytgcheplneolonac.Cs
set_option linter.unusedVariables false
set_option linter.unusedSimpArgs false
open Go.Proofs.Ytgcheplneolonac.Sd Go.Proofs.Ytgcheplneolonac.Oc Go.Proofs.Ytgcheplneolonac.Cr Go.Proofs.Ytgcheplneolonac.Ld Go.Proofs.Ytgcheplneolonac.Hc Go.Proofs.Ytgcheplneolonac.Cq Go.Proofs.Ytgcheplneolonac.Ac Go.Proofs.Ytgcheplneolonac.Sm7
open Go.Proofs.Ytgcheplneolonac.Rw (owns_below owns_grown owns_base)

open Go.Proofs.Ytgcheplneolonac.Am7

set_option maxHeartbeats 2000000 in
set_option maxRecDepth 100000 in
theorem addS (b0 o0 n0 c9 : Nat) (zs : List C) (t : Int) (n : ByteArray) (l r : Int) (w : World) (hn : zs.length = n0) (hb : n0 ≤ 1048576) (hc9 : n0 ≤ c9) (hc8 : c9 ≤ maxLen) (hsz : ∀ z ∈ zs, z.nm.size ≤ 1048576) (hsx : n.size ≤ 1048576) (hr : Rd w w.heap.size (some ⟨b0, o0, none⟩) (dls zs)) :
    Calls Try.prog 41 #[.slice (some ⟨b0, o0, none⟩) n0 c9, va t n l r] w (RowB w (addL zs ⟨t, n, l, r⟩) (addG zs ⟨t, n, l, r⟩)) := by
  have hu : undef = Value.tuple #[] := rfl
  have HN := Lib.hid hn
  have HX := Lib.hid (R4.new w (.int .i64 t) (.string n) (.int .i64 l) (.int .i64 r) 26)
  have B0 := Lib.hid (show Below w.heap.size w (w.alloc (.cells (ca t n l r) 26)) from (Below.refl _ _).alloc (Nat.le_refl _) _)
  have CPT := Lib.hid (putS b0 o0 n0 c9 zs t n l r (w.alloc (.cells (ca t n l r) 26)) hn hb hc9 hc8 ((hr.below B0.out).more B0.out.size))
  have CC := Lib.hid (fun (W : World) (hW : Below w.heap.size w W) => copiesC ⟨b0, o0, none⟩ n0 c9 zs W hn (by omega) ((hr.below hW).more hW.size))
  have CS := Lib.hid (fun (W : World) (hW : Below w.heap.size w W) => scoreS (some ⟨b0, o0, none⟩) n0 c9 zs W hn (by omega) hsz ((hr.below hW).more hW.size))
  have CI := isCueS t n l r hsx
  obtain ⟨sc, hsc⟩ : ∃ b, score zs = b := ⟨_, rfl⟩
  obtain ⟨cb, hcb⟩ : ∃ b, cB ⟨t, n, l, r⟩ = b := ⟨_, rfl⟩
  obtain ⟨fr, hfr⟩ : ∃ b, freeB zs ⟨t, n, l, r⟩ = b := ⟨_, rfl⟩
  have HG := Lib.hid (show addG zs ⟨t, n, l, r⟩ = (sc && (cb && (fr && decide (n0 ≠ 12)))) by unfold addG; rw [hsc, hcb, hfr, hn])
  rw [hsc] at CS
  rw [show cueB t n l r = cb from hcb] at CI
  rw [hfr] at CPT
  have HFR := Lib.hid hfr
  have CI := Lib.hid CI
  obtain ⟨L, hL⟩ : ∃ L, putL zs ⟨t, n, l, r⟩ = L := ⟨_, rfl⟩
  rw [hL] at CPT
  have HL := Lib.hid hL
  clear hr hn hsz hsc hcb hfr hL
  cases sc
  · go_enter Try.func41, Try.ntmps41
    go_wp2_with fail
    refine CPT.out.mono ?_
    rintro e w1 ⟨g1, c1, rfl, ho1, hb1⟩
    have X1 := Lib.hid (HX.out.below hb1)
    have B1 := Lib.hid (B0.out.trans (hb1.mono B0.out.size))
    have O1 := Lib.hid (owns_base ho1 (Nat.le_trans B0.out.size (ho1.lt g1 rfl).1))
    have e0 := X1.out.c0
    have e1 := X1.out.c1
    have e2 := X1.out.c2
    have e3 := X1.out.c3
    clear ho1 hb1
    go_wp2_with fail
    refine (CS.out _ B1.out).mono ?_
    rintro e w2 ⟨rfl, hb2⟩
    have X2 := Lib.hid (X1.out.below hb2)
    have B2 := Lib.hid (B1.out.trans (hb2.mono B1.out.size))
    have O2 := Lib.hid (owns_below O1.out hb2)
    clear hb2 e0 e1 e2 e3 B1 O1 X1
    have e0 := X2.out.c0
    have e1 := X2.out.c1
    have e2 := X2.out.c2
    have e3 := X2.out.c3
    go_wp2_with fail
    refine (CC.out _ B2.out).mono ?_
    rintro e w9 ⟨g, c, rfl, ho, hb9⟩
    have B9 := Lib.hid (B2.out.trans (hb9.mono B2.out.size))
    have RO := Lib.hid (owns_base ho (Nat.le_trans B2.out.size (ho.lt g rfl).1))
    clear ho hb9
    go_wp2_with fail
    go_returns
    have hg : addG zs ⟨t, n, l, r⟩ = false := by rw [HG.out]; rfl
    rw [addL_no hg, hg]
    exact ⟨g, c, rfl, RO.out, B9.out⟩
  cases cb
  · go_enter Try.func41, Try.ntmps41
    go_wp2_with fail
    refine CPT.out.mono ?_
    rintro e w1 ⟨g1, c1, rfl, ho1, hb1⟩
    have X1 := Lib.hid (HX.out.below hb1)
    have B1 := Lib.hid (B0.out.trans (hb1.mono B0.out.size))
    have O1 := Lib.hid (owns_base ho1 (Nat.le_trans B0.out.size (ho1.lt g1 rfl).1))
    have e0 := X1.out.c0
    have e1 := X1.out.c1
    have e2 := X1.out.c2
    have e3 := X1.out.c3
    clear ho1 hb1
    go_wp2_with fail
    refine (CS.out _ B1.out).mono ?_
    rintro e w2 ⟨rfl, hb2⟩
    have X2 := Lib.hid (X1.out.below hb2)
    have B2 := Lib.hid (B1.out.trans (hb2.mono B1.out.size))
    have O2 := Lib.hid (owns_below O1.out hb2)
    clear hb2 e0 e1 e2 e3 B1 O1 X1
    have e0 := X2.out.c0
    have e1 := X2.out.c1
    have e2 := X2.out.c2
    have e3 := X2.out.c3
    go_wp2_with fail
    refine (CI.out _).mono ?_
    rintro e w3 ⟨rfl, rfl⟩
    have B3 := Lib.hid (B2.out.alloc B2.out.size (.cells (ca t n l r) 26))
    have O3 := Lib.hid (O2.out.alloc (.cells (ca t n l r) 26))
    clear e0 e1 e2 e3 B2 O2 X2
    go_wp2_with fail
    refine (CC.out _ B3.out).mono ?_
    rintro e w9 ⟨g, c, rfl, ho, hb9⟩
    have B9 := Lib.hid (B3.out.trans (hb9.mono B3.out.size))
    have RO := Lib.hid (owns_base ho (Nat.le_trans B3.out.size (ho.lt g rfl).1))
    clear ho hb9
    go_wp2_with fail
    go_returns
    have hg : addG zs ⟨t, n, l, r⟩ = false := by rw [HG.out]; rfl
    rw [addL_no hg, hg]
    exact ⟨g, c, rfl, RO.out, B9.out⟩
  cases fr
  · go_enter Try.func41, Try.ntmps41
    go_wp2_with fail
    refine CPT.out.mono ?_
    rintro e w1 ⟨g1, c1, rfl, ho1, hb1⟩
    have X1 := Lib.hid (HX.out.below hb1)
    have B1 := Lib.hid (B0.out.trans (hb1.mono B0.out.size))
    have O1 := Lib.hid (owns_base ho1 (Nat.le_trans B0.out.size (ho1.lt g1 rfl).1))
    have e0 := X1.out.c0
    have e1 := X1.out.c1
    have e2 := X1.out.c2
    have e3 := X1.out.c3
    clear ho1 hb1
    go_wp2_with fail
    refine (CS.out _ B1.out).mono ?_
    rintro e w2 ⟨rfl, hb2⟩
    have X2 := Lib.hid (X1.out.below hb2)
    have B2 := Lib.hid (B1.out.trans (hb2.mono B1.out.size))
    have O2 := Lib.hid (owns_below O1.out hb2)
    clear hb2 e0 e1 e2 e3 B1 O1 X1
    have e0 := X2.out.c0
    have e1 := X2.out.c1
    have e2 := X2.out.c2
    have e3 := X2.out.c3
    go_wp2_with fail
    refine (CI.out _).mono ?_
    rintro e w3 ⟨rfl, rfl⟩
    have B3 := Lib.hid (B2.out.alloc B2.out.size (.cells (ca t n l r) 26))
    have O3 := Lib.hid (O2.out.alloc (.cells (ca t n l r) 26))
    clear e0 e1 e2 e3 B2 O2 X2
    go_wp2_with fail
    refine (CC.out _ B3.out).mono ?_
    rintro e w9 ⟨g, c, rfl, ho, hb9⟩
    have B9 := Lib.hid (B3.out.trans (hb9.mono B3.out.size))
    have RO := Lib.hid (owns_base ho (Nat.le_trans B3.out.size (ho.lt g rfl).1))
    clear ho hb9
    go_wp2_with fail
    go_returns
    have hg : addG zs ⟨t, n, l, r⟩ = false := by rw [HG.out]; rfl
    rw [addL_no hg, hg]
    exact ⟨g, c, rfl, RO.out, B9.out⟩
  by_cases h12 : n0 = 12
  · have g1 : ((n0 : Int) == 12) = true := by simp [h12]
    have HD := Lib.hid h12
    obtain ⟨nn, hnn⟩ : ∃ q : Nat, q = n0 := ⟨_, rfl⟩
    clear hnn nn h12
    go_enter Try.func41, Try.ntmps41
    go_wp2_with fail
    refine CPT.out.mono ?_
    rintro e w1 ⟨g1, c1, rfl, ho1, hb1⟩
    have X1 := Lib.hid (HX.out.below hb1)
    have B1 := Lib.hid (B0.out.trans (hb1.mono B0.out.size))
    have O1 := Lib.hid (owns_base ho1 (Nat.le_trans B0.out.size (ho1.lt g1 rfl).1))
    have e0 := X1.out.c0
    have e1 := X1.out.c1
    have e2 := X1.out.c2
    have e3 := X1.out.c3
    clear ho1 hb1
    go_wp2_with fail
    refine (CS.out _ B1.out).mono ?_
    rintro e w2 ⟨rfl, hb2⟩
    have X2 := Lib.hid (X1.out.below hb2)
    have B2 := Lib.hid (B1.out.trans (hb2.mono B1.out.size))
    have O2 := Lib.hid (owns_below O1.out hb2)
    clear hb2 e0 e1 e2 e3 B1 O1 X1
    have e0 := X2.out.c0
    have e1 := X2.out.c1
    have e2 := X2.out.c2
    have e3 := X2.out.c3
    go_wp2_with fail
    refine (CI.out _).mono ?_
    rintro e w3 ⟨rfl, rfl⟩
    have B3 := Lib.hid (B2.out.alloc B2.out.size (.cells (ca t n l r) 26))
    have O3 := Lib.hid (O2.out.alloc (.cells (ca t n l r) 26))
    clear e0 e1 e2 e3 B2 O2 X2
    go_wp2_with fail
    refine (CC.out _ B3.out).mono ?_
    rintro e w9 ⟨g, c, rfl, ho, hb9⟩
    have B9 := Lib.hid (B3.out.trans (hb9.mono B3.out.size))
    have RO := Lib.hid (owns_base ho (Nat.le_trans B3.out.size (ho.lt g rfl).1))
    clear ho hb9
    go_wp2_with fail
    go_returns
    have hg : addG zs ⟨t, n, l, r⟩ = false := by rw [HG.out]; rw [HD.out]; decide
    rw [addL_no hg, hg]
    exact ⟨g, c, rfl, RO.out, B9.out⟩
  · have g1 : ((n0 : Int) == 12) = false := by simp; omega
    have g2 : ¬ ((n0 : Int) = 12) := by omega
    have HD := Lib.hid h12
    go_enter Try.func41, Try.ntmps41
    go_wp2_with fail
    refine CPT.out.mono ?_
    rintro e w1 ⟨g1, c1, rfl, ho1, hb1⟩
    have X1 := Lib.hid (HX.out.below hb1)
    have B1 := Lib.hid (B0.out.trans (hb1.mono B0.out.size))
    have O1 := Lib.hid (owns_base ho1 (Nat.le_trans B0.out.size (ho1.lt g1 rfl).1))
    have e0 := X1.out.c0
    have e1 := X1.out.c1
    have e2 := X1.out.c2
    have e3 := X1.out.c3
    clear ho1 hb1
    go_wp2_with fail
    refine (CS.out _ B1.out).mono ?_
    rintro e w2 ⟨rfl, hb2⟩
    have X2 := Lib.hid (X1.out.below hb2)
    have B2 := Lib.hid (B1.out.trans (hb2.mono B1.out.size))
    have O2 := Lib.hid (owns_below O1.out hb2)
    clear hb2 e0 e1 e2 e3 B1 O1 X1
    have e0 := X2.out.c0
    have e1 := X2.out.c1
    have e2 := X2.out.c2
    have e3 := X2.out.c3
    go_wp2_with fail
    refine (CI.out _).mono ?_
    rintro e w3 ⟨rfl, rfl⟩
    have B3 := Lib.hid (B2.out.alloc B2.out.size (.cells (ca t n l r) 26))
    have O3 := Lib.hid (O2.out.alloc (.cells (ca t n l r) 26))
    clear e0 e1 e2 e3 B2 O2 X2
    go_wp2_with fail
    go_returns
    have hg : addG zs ⟨t, n, l, r⟩ = true := by rw [HG.out, decide_eq_true HD.out]; rfl
    rw [addL_yes hg, hg, ← putL_yes HFR.out, HL.out]
    exact ⟨g1, c1, rfl, O3.out, B3.out⟩
end Go.Proofs.Ytgcheplneolonac.Am8
