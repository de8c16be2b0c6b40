/- MergeScores and AddCue of the program. -/
import Derived.Test.YtgcheplneolonacSo7
import Derived.Test.YtgcheplneolonacCc7
import Derived.Test.YtgcheplneolonacSi7
namespace Go.Proofs.Ytgcheplneolonac.Mi7
open Go.RowKit Go.ChangeShapes Go.WideShapes Go.WideElems Go.Deep Go.Proofs.Ytgcheplneolonac.Mem Go.Proofs.Ytgcheplneolonac.Rw Go.Proofs.Ytgcheplneolonac.P2 Go.Proofs.Ytgcheplneolonac.Cd Go.Proofs.Ytgcheplneolonac.Cv Go.Proofs.Ytgcheplneolonac.Cl Go.Proofs.Ytgcheplneolonac.Cs
set_option linter.unusedVariables false
set_option linter.unusedSimpArgs false
open Go.Proofs.Ytgcheplneolonac.Sd Go.Proofs.Ytgcheplneolonac.Oc Go.Proofs.Ytgcheplneolonac.Cr Go.Proofs.Ytgcheplneolonac.Cq Go.Proofs.Ytgcheplneolonac.Ac Go.Proofs.Ytgcheplneolonac.Si7 Go.Proofs.Ytgcheplneolonac.Mg Go.Proofs.Ytgcheplneolonac.Cc7 Go.Proofs.Ytgcheplneolonac.So7
open Go.Proofs.Ytgcheplneolonac.Rw (owns_below owns_grown owns_base)

theorem score_one (x : C) : score [x] = cB x := by
  cases h : cB x
  · refine score_no fun hS => ?_
    have := (score_set.1 hS).2.2 x (List.mem_singleton.2 rfl)
    rw [h] at this; cases this
  · exact score_yes (score_set.2 ⟨by simp, List.pairwise_singleton _ _, fun d hd => by rw [List.mem_singleton.1 hd]; exact h⟩)

set_option maxHeartbeats 4000000 in
set_option maxRecDepth 100000 in
theorem mergeI (a b : Addr) (n0 c9 : Nat) (zs : List C) (m0 c8 : Nat) (xs : List C) (w : World) (hn : zs.length = n0) (hm : xs.length = m0) (hb : n0 ≤ 1048576) (hb2 : m0 ≤ 1048576) (hp : 0 < n0 + m0) (hr : Rd w w.heap.size (some a) (dls zs)) (hx : Rd w w.heap.size (some b) (dls xs)) :
    Calls Try.prog 13 #[.slice (some a) n0 c9, .slice (some b) m0 c8] w (RowB w (mgL zs xs) (mgG zs xs)) := by
  have hu : undef = Value.tuple #[] := rfl
  have HN := Lib.hid hn
  have HM := Lib.hid hm
  have R0 := Lib.hid (fun (W : World) (hW : Below w.heap.size w W) => World.ownsRow_lit (base := w.heap.size) (e := 26) (size := 4) W #[] 0 hW.size (Nat.zero_le _) rfl)
  have CS := Lib.hid (fun (W : World) (hW : Below w.heap.size w W) => scoreI (some a) n0 c9 zs W hn (by omega) ((hr.below hW).more hW.size))
  have CX := Lib.hid (fun (W : World) (hW : Below w.heap.size w W) => scoreI (some b) m0 c8 xs W hm (by omega) ((hx.below hW).more hW.size))
  have CO := Lib.hid (fun (W : World) (hW : Below w.heap.size w W) => concatC W.heap.size 0 a b n0 c9 m0 c8 zs xs (W.alloc (.cells #[.slice (some a) n0 c9, .slice (some b) m0 c8] 24)) (cell_here rfl) (cell_here rfl) hn hm (by omega) (by omega) hp ((hr.below (hW.alloc hW.size _)).more (hW.alloc hW.size _).size) ((hx.below (hW.alloc hW.size _)).more (hW.alloc hW.size _).size))
  have HZL := Lib.hid (show (zs ++ xs).length = n0 + m0 by rw [List.length_append, hn, hm])
  obtain ⟨s1, hs1⟩ : ∃ b, score zs = b := ⟨_, rfl⟩
  obtain ⟨s2, hs2⟩ : ∃ b, score xs = b := ⟨_, rfl⟩
  rw [hs1] at CS
  rw [hs2] at CX
  have H1 := Lib.hid hs1
  have H2 := Lib.hid hs2
  clear hr hx hn hm hs1 hs2
  cases s1
  · clear CX CO
    go_enter Try.func13, Try.ntmps13
    go_wp2_with fail
    refine (CS.out _ (Below.refl _ _)).mono ?_
    rintro e w1 ⟨rfl, hb⟩
    have B1 := Lib.hid (hb)
    clear hb
    have R := Lib.hid (R0.out _ B1.out)
    have B := Lib.hid (B1.out.alloc B1.out.size (.cells #[] 26))
    go_wp2_with fail
    go_returns
    have hg : mgG zs xs = false := by unfold mgG; rw [H1.out]; rfl
    rw [mgL_no hg, hg]
    exact ⟨_, _, rfl, R.out, B.out⟩
  cases s2
  · clear CO
    go_enter Try.func13, Try.ntmps13
    go_wp2_with fail
    refine (CS.out _ (Below.refl _ _)).mono ?_
    rintro e w1 ⟨rfl, hb⟩
    have B1 := Lib.hid (hb)
    clear hb
    go_wp2_with fail
    refine (CX.out _ B1.out).mono ?_
    rintro e w2 ⟨rfl, hb⟩
    have B2 := Lib.hid (B1.out.trans (hb.mono B1.out.size))
    clear hb
    have R := Lib.hid (R0.out _ B2.out)
    have B := Lib.hid (B2.out.alloc B2.out.size (.cells #[] 26))
    go_wp2_with fail
    go_returns
    have hg : mgG zs xs = false := by unfold mgG; rw [H1.out, H2.out]; rfl
    rw [mgL_no hg, hg]
    exact ⟨_, _, rfl, R.out, B.out⟩
  go_enter Try.func13, Try.ntmps13
  go_wp2_with fail
  refine (CS.out _ (Below.refl _ _)).mono ?_
  rintro e w1 ⟨rfl, hb⟩
  have B1 := Lib.hid (hb)
  clear hb
  go_wp2_with fail
  refine (CX.out _ B1.out).mono ?_
  rintro e w2 ⟨rfl, hb⟩
  have B2 := Lib.hid (B1.out.trans (hb.mono B1.out.size))
  clear hb
  go_wp2_with fail
  refine (CO.out _ B2.out).mono ?_
  rintro e w3 ⟨g, c, rfl, ho, hb3⟩
  have BA := Lib.hid (B2.out.alloc B2.out.size (.cells #[.slice (some a) n0 c9, .slice (some b) m0 c8] 24))
  have B3 := Lib.hid (BA.out.trans (hb3.mono BA.out.size))
  have o3 := owns_base ho (Nat.le_trans BA.out.size (ho.lt g rfl).1)
  have hgb := (o3.lt g rfl).1
  have SO := Lib.hid (sortC w.heap.size g (n0 + m0) c (zs ++ xs) w3 HZL.out (by omega) o3)
  clear ho hb3 CS CX CO BA o3
  go_wp2_with fail
  refine SO.out.mono ?_
  rintro e w4 ⟨rfl, ys, hperm, hpair, ho, hgr⟩
  have B4 := Lib.hid (B3.out.grown hgr B3.out.size (fun j hj => by cases hj; exact hgb))
  have O4 := Lib.hid ho
  have hyl : ys.length = n0 + m0 := by rw [hperm.length_eq]; exact HZL.out
  obtain ⟨q1, q2⟩ := merge_same H1.out H2.out hperm hpair
  have CY := scoreI (some ⟨g, 0, none⟩) (n0 + m0) c ys w4 hyl (by have q1 := (score_of H1.out).1; have q2 := (score_of H2.out).1; rw [HN.out] at q1; rw [HM.out] at q2; omega) (Rd.own ho)
  have HY := Lib.hid hyl
  have HG := Lib.hid (show mgG zs xs = score ys by rw [q1]; unfold mgG; rw [H1.out, H2.out]; rfl)
  have Q2 := Lib.hid q2
  have Q1 := Lib.hid q1
  obtain ⟨s3, hs3⟩ : ∃ b, score ys = b := ⟨_, rfl⟩
  rw [hs3] at CY
  have H3 := Lib.hid hs3
  replace CY := Lib.hid CY
  clear ho hgr hperm hpair hyl q1 q2 hs3 SO
  cases s3
  · go_wp2_with fail
    refine CY.out.mono ?_
    rintro e w5 ⟨rfl, hb⟩
    have B5 := Lib.hid (B4.out.trans (hb.mono B4.out.size))
    clear hb
    have R := Lib.hid (R0.out _ B5.out)
    have B := Lib.hid (B5.out.alloc B5.out.size (.cells #[] 26))
    go_wp2_with fail
    go_returns
    have hg : mgG zs xs = false := by rw [HG.out, H3.out]
    rw [mgL_no hg, hg]
    exact ⟨_, _, rfl, R.out, B.out⟩
  · go_wp2_with fail
    refine CY.out.mono ?_
    rintro e w5 ⟨rfl, hb⟩
    have B5 := Lib.hid (B4.out.trans (hb.mono B4.out.size))
    have O5 := Lib.hid (owns_below O4.out hb)
    clear hb
    go_wp2_with fail
    go_returns
    have hg : mgG zs xs = true := by rw [HG.out, H3.out]
    have hys : mgL zs xs = ys := by
      rw [mgL_yes hg]
      have := Q1.out
      rw [H3.out] at this
      exact (Q2.out ((Bool.and_eq_true _ _ ▸ this.symm : _ ∧ _).2)).symm
    rw [hys, hg]
    exact ⟨g, c, by rw [HY.out]; rfl, by rw [HY.out]; exact O5.out, B5.out⟩

set_option maxHeartbeats 4000000 in
set_option maxRecDepth 100000 in
theorem addI (a : Addr) (n0 c9 : Nat) (zs : List C) (t : Int) (n : ByteArray) (l r : Int) (w : World) (hn : zs.length = n0) (hb : n0 ≤ 1048576) (hr : Rd w w.heap.size (some a) (dls zs)) :
    Calls Try.prog 7 #[.slice (some a) n0 c9, va t n l r] w (RowB w (addL zs ⟨t, n, l, r⟩) (addG zs ⟨t, n, l, r⟩)) := by
  have hu : undef = Value.tuple #[] := rfl
  have HN := Lib.hid hn
  obtain ⟨m1, m2⟩ := add_merge zs ⟨t, n, l, r⟩ (score_one _)
  have B1 := Lib.hid (show Below w.heap.size w (w.alloc (.cells (ca t n l r) 26)) from (Below.refl _ _).alloc (Nat.le_refl _) _)
  have B2 := Lib.hid (show Below w.heap.size w ((w.alloc (.cells (ca t n l r) 26)).alloc (.cells (ca t n l r) 26)) from B1.out.alloc B1.out.size _)
  have RX : Rd ((w.alloc (.cells (ca t n l r) 26)).alloc (.cells (ca t n l r) 26)) ((w.alloc (.cells (ca t n l r) 26)).alloc (.cells (ca t n l r) 26)).heap.size (some ⟨(w.alloc (.cells (ca t n l r) 26)).heap.size, 0, none⟩) (dls [⟨t, n, l, r⟩]) := by
    refine Or.inr ⟨_, 0, rfl, by simp, fun j v hj => ?_⟩
    match j, hj with
    | 0, hj => simp [dls, dc, cl] at hj; subst hj; exact cell_here rfl
    | 1, hj => simp [dls, dc, cl] at hj; subst hj; exact cell_here rfl
    | 2, hj => simp [dls, dc, cl] at hj; subst hj; exact cell_here rfl
    | 3, hj => simp [dls, dc, cl] at hj; subst hj; exact cell_here rfl
  have MG := mergeI a ⟨(w.alloc (.cells (ca t n l r) 26)).heap.size, 0, none⟩ n0 c9 zs 1 1 [⟨t, n, l, r⟩] ((w.alloc (.cells (ca t n l r) 26)).alloc (.cells (ca t n l r) 26)) hn rfl hb (by omega) (by omega) ((hr.below B2.out).more B2.out.size) RX
  rw [show (w.alloc (.cells (ca t n l r) 26)).heap.size = w.heap.size + 1 by simp] at MG
  have CC := Lib.hid (fun (W : World) (hW : Below w.heap.size w W) => cloneC a n0 c9 zs W hn (by omega) ((hr.below hW).more hW.size))
  obtain ⟨G, hG⟩ : ∃ b, mgG zs [⟨t, n, l, r⟩] = b := ⟨_, rfl⟩
  obtain ⟨L, hL⟩ : ∃ b, mgL zs [⟨t, n, l, r⟩] = b := ⟨_, rfl⟩
  rw [hG, hL] at MG
  rw [hG] at m1 m2
  rw [hL] at m2
  have MG := Lib.hid MG
  have M1 := Lib.hid m1
  have M2 := Lib.hid m2
  clear hr hn m1 m2 RX hG hL
  cases G
  · go_enter Try.func7, Try.ntmps7
    go_wp2_with fail
    refine MG.out.mono ?_
    rintro e w3 ⟨g, c, rfl, ho, hb3⟩
    have B3 := Lib.hid (B2.out.trans (hb3.mono B2.out.size))
    clear ho hb3
    go_wp2_with fail
    refine (CC.out _ B3.out).mono ?_
    rintro e w4 ⟨g4, c4, rfl, ho, hb4⟩
    have B4 := Lib.hid (B3.out.trans (hb4.mono B3.out.size))
    have O4 := Lib.hid (owns_base ho (Nat.le_trans B3.out.size (ho.lt g4 rfl).1))
    clear ho hb4
    go_wp2_with fail
    go_returns
    rw [addL_no M1.out, M1.out]
    exact ⟨g4, c4, rfl, O4.out, B4.out⟩
  · go_enter Try.func7, Try.ntmps7
    go_wp2_with fail
    refine MG.out.mono ?_
    rintro e w3 ⟨g, c, rfl, ho, hb3⟩
    have B3 := Lib.hid (B2.out.trans (hb3.mono B2.out.size))
    have O3 := Lib.hid (owns_base ho (Nat.le_trans B2.out.size (ho.lt g rfl).1))
    clear ho hb3
    go_wp2_with fail
    go_returns
    rw [M2.out (by first | rfl | trivial), M1.out]
    exact ⟨g, c, rfl, O3.out, B3.out⟩
end Go.Proofs.Ytgcheplneolonac.Mi7
