/- MergeScores of the model. -/
import Derived.Test.YtjeibjefpoiidaaAm8
import Derived.Test.YtjeibjefpoiidaaMg
namespace Go.Proofs.Ytjeibjefpoiidaa.Mm7
open Go.RowKit Go.ChangeShapes Go.WideShapes Go.WideElems Go.Deep Go.Proofs.Ytjeibjefpoiidaa.Mem Go.Proofs.Ytjeibjefpoiidaa.Rw Go.Proofs.Ytjeibjefpoiidaa.P2 Go.Proofs.Ytjeibjefpoiidaa.Cd Go.Proofs.Ytjeibjefpoiidaa.Cv Go.Proofs.Ytjeibjefpoiidaa.Cl Go.Proofs.Ytjeibjefpoiidaa.Cs
set_option linter.unusedVariables false
set_option linter.unusedSimpArgs false
open Go.Proofs.Ytjeibjefpoiidaa.Sd Go.Proofs.Ytjeibjefpoiidaa.Oc Go.Proofs.Ytjeibjefpoiidaa.Cr Go.Proofs.Ytjeibjefpoiidaa.Ld Go.Proofs.Ytjeibjefpoiidaa.Hc Go.Proofs.Ytjeibjefpoiidaa.Cq Go.Proofs.Ytjeibjefpoiidaa.Ac Go.Proofs.Ytjeibjefpoiidaa.Sm7 Go.Proofs.Ytjeibjefpoiidaa.Am7 Go.Proofs.Ytjeibjefpoiidaa.Mg
open Go.Proofs.Ytjeibjefpoiidaa.Rw (owns_below owns_grown owns_base)

set_option maxHeartbeats 4000000 in
set_option maxRecDepth 100000 in
theorem mergeS (b0 o0 n0 c9 : Nat) (zs : List C) (b1 o1 m0 c8 : Nat) (xs : List C) (w : World) (hn : zs.length = n0) (hb : n0 ≤ 1048576) (hm : xs.length = m0) (hb2 : m0 ≤ 1048576) (hsz : ∀ z ∈ zs, z.nm.size ≤ 1048576) (hsx : ∀ z ∈ xs, z.nm.size ≤ 1048576) (hr : Rd w w.heap.size (some ⟨b0, o0, none⟩) (dls zs)) (hx : Rd w w.heap.size (some ⟨b1, o1, none⟩) (dls xs)) :
    Calls Try.prog 18 #[.slice (some ⟨b0, o0, none⟩) n0 c9, .slice (some ⟨b1, o1, none⟩) m0 c8] w (RowB w (mgL zs xs) (mgG zs xs)) := by
  have hu : undef = Value.tuple #[] := rfl
  have HN := Lib.hid hn
  have HM := Lib.hid hm
  have HX := Lib.hid hx
  have R0 := Lib.hid (fun (W : World) (hW : Below w.heap.size w W) => World.ownsRow_lit (base := w.heap.size) (e := 31) (size := 4) W #[] 0 hW.size (Nat.zero_le _) rfl)
  have CS := Lib.hid (fun (W : World) (hW : Below w.heap.size w W) => scoreS (some ⟨b0, o0, none⟩) n0 c9 zs W hn (by omega) hsz ((hr.below hW).more hW.size))
  have CX := Lib.hid (fun (W : World) (hW : Below w.heap.size w W) => scoreS (some ⟨b1, o1, none⟩) m0 c8 xs W hm (by omega) hsx ((hx.below hW).more hW.size))
  have CC := fun (W : World) (hW : Below w.heap.size w W) => copiesC ⟨b0, o0, none⟩ n0 c9 zs W hn (by omega) ((hr.below hW).more hW.size)
  unfold RowC at CC
  simp only [hn] at CC
  replace CC := Lib.hid CC
  obtain ⟨s1, hs1⟩ : ∃ b, score zs = b := ⟨_, rfl⟩
  obtain ⟨s2, hs2⟩ : ∃ b, score xs = b := ⟨_, rfl⟩
  rw [hs1] at CS
  rw [hs2] at CX
  have H1 := Lib.hid hs1
  have H2 := Lib.hid hs2
  clear hr hx hn hm hsz hsx hs1 hs2
  cases s1
  · clear CX
    go_enter Try.func18, Try.ntmps18
    go_wp2_with fail
    refine (CS.out _ (Below.refl _ _)).mono ?_
    rintro e w1 ⟨rfl, hb⟩
    have B1 := Lib.hid (hb)
    clear hb
    have R := Lib.hid (R0.out _ B1.out)
    have B := Lib.hid (B1.out.alloc B1.out.size (.cells #[] 31))
    go_wp2_with fail
    go_returns
    have hg : mgG zs xs = false := by unfold mgG; rw [H1.out]; rfl
    rw [mgL_no hg, hg]
    exact ⟨_, _, rfl, R.out, B.out⟩
  cases s2
  · go_enter Try.func18, Try.ntmps18
    go_wp2_with fail
    refine (CS.out _ (Below.refl _ _)).mono ?_
    rintro e w1 ⟨rfl, hb⟩
    have B1 := Lib.hid (hb)
    clear hb
    go_wp2_with fail
    refine (CX.out _ B1.out).mono ?_
    rintro e w2 ⟨rfl, hb⟩
    have B2 := Lib.hid (B1.out.trans (hb.mono B1.out.size))
    clear hb
    have R := Lib.hid (R0.out _ B2.out)
    have B := Lib.hid (B2.out.alloc B2.out.size (.cells #[] 31))
    go_wp2_with fail
    go_returns
    have hg : mgG zs xs = false := by unfold mgG; rw [H1.out, H2.out]; rfl
    rw [mgL_no hg, hg]
    exact ⟨_, _, rfl, R.out, B.out⟩
  by_cases h12 : n0 + m0 ≤ 12
  · have d12 : decide ((12 : Int) < (n0 : Int) + (m0 : Int)) = false := decide_eq_false (by omega)
    have HG := Lib.hid (show mgG zs xs = (mg zs xs).1 by unfold mgG; rw [H1.out, H2.out, HN.out, HM.out, decide_eq_true h12]; rfl)
    go_enter Try.func18, Try.ntmps18
    go_wp2_with fail
    refine (CS.out _ (Below.refl _ _)).mono ?_
    rintro e w1 ⟨rfl, hb⟩
    have B1 := Lib.hid (hb)
    clear hb
    go_wp2_with fail
    refine (CX.out _ B1.out).mono ?_
    rintro e w2 ⟨rfl, hb⟩
    have B2 := Lib.hid (B1.out.trans (hb.mono B1.out.size))
    clear hb
    go_wp2_with fail
    refine (CC.out _ B2.out).mono ?_
    rintro e w3 ⟨g, c, rfl, ho, hb3⟩
    have B3 := Lib.hid (B2.out.trans (hb3.mono B2.out.size))
    have O3 := Lib.hid (owns_base ho (Nat.le_trans B2.out.size (ho.lt g rfl).1))
    clear ho hb3 CS CX CC B1 B2 d12
    go_wp2_with fail
    go_loopw [6, 32] (fun v i wr => ∃ (k : Nat) (acc : List C) (p : Nat), k ≤ m0 ∧ p ≤ n0 + k ∧ i = .int .i64 k ∧ (∃ g c, v = .slice (some ⟨g, 0, none⟩) p c) ∧ Hid (acc.length = p) ∧ Hid (mg acc (xs.drop k) = mg zs xs) ∧ Hid (wr.ownsRow w.heap.size 31 4 v p (dls acc)) ∧ Hid (Below w.heap.size w wr)) (fun _ i _ => m0 - (intOf i).toNat)
    case atStart => exact ⟨0, zs, n0, Nat.zero_le _, by omega, rfl, ⟨_, _, rfl⟩, HN, Lib.hid (by rw [List.drop_zero]), O3, B3⟩
    case round =>
      obtain ⟨k, acc, p, hk, hp, rfl, ⟨gb, gc, rfl⟩, LK, MK, OK, BK⟩ := hrel
      clear O3 B3
      by_cases hlt : k < m0
      · obtain ⟨z, hz⟩ : ∃ z, xs[k]? = some z := ⟨_, List.getElem?_eq_getElem (by rw [HM.out]; exact hlt)⟩
        have XW := Lib.hid (HX.out.below BK.out)
        obtain ⟨t, n, l, r⟩ := z
        obtain ⟨b, o, eA, hbl, hcell⟩ := XW.out.get (k := k * 4) (by rw [dls_len, HM.out]; omega)
        obtain ⟨rfl, rfl⟩ : b1 = b ∧ o1 = o := by cases eA; exact ⟨rfl, rfl⟩
        have zz := dls_get hz
        have c0 := hcell _ _ zz.1
        have c1 := hcell _ _ zz.2.1
        rw [← Nat.add_assoc] at c1
        have c2 := hcell _ _ zz.2.2.1
        rw [← Nat.add_assoc] at c2
        have c3 := hcell _ _ zz.2.2.2
        rw [← Nat.add_assoc] at c3
        have DK := Lib.hid (show xs.drop k = ⟨t, n, l, r⟩ :: xs.drop (k + 1) by
          obtain ⟨h1, h2⟩ := List.getElem?_eq_some_iff.1 hz
          rw [← h2]; exact List.drop_eq_getElem_cons h1)
        have hcap := owns_cap OK.out
        have P1 := Lib.hid (show Below w.heap.size w (wr.alloc (.cells (ca t n l r) 31)) from BK.out.alloc BK.out.size _)
        have Q1 := Lib.hid (OK.out.alloc (.cells (ca t n l r) 31))
        have CP := putS gb 0 p gc acc t n l r (wr.alloc (.cells (ca t n l r) 31)) LK.out (by omega) hcap.1 hcap.2 (Rd.own Q1.out)
        obtain ⟨fr, hfr⟩ : ∃ b, freeB acc ⟨t, n, l, r⟩ = b := ⟨_, rfl⟩
        obtain ⟨L, hL⟩ : ∃ L, putL acc ⟨t, n, l, r⟩ = L := ⟨_, rfl⟩
        obtain ⟨p2, hp2⟩ : ∃ q, L.length = q := ⟨_, rfl⟩
        rw [hL, hfr] at CP
        unfold RowB at CP
        rw [hp2] at CP
        have HFR := Lib.hid hfr
        have HL := Lib.hid hL
        have HP2 := Lib.hid hp2
        have hp3 : p2 ≤ p + 1 := by rw [← hp2, ← hL]; have := putL_len acc ⟨t, n, l, r⟩; rw [LK.out] at this; exact this
        replace CP := Lib.hid CP
        have sz1 : (wr.alloc (.cells (ca t n l r) 31)).heap.size = wr.heap.size + 1 := by simp
        have SZ1 := Lib.hid sz1
        clear hz zz hbl hcell eA hfr hL hp2 hcap sz1
        cases fr
        · go_wp2_with fail
          refine CP.out.mono ?_
          rintro e w4 ⟨g4, c4, rfl, ho, hb4⟩
          have B4 := Lib.hid (P1.out.trans (hb4.mono P1.out.size))
          clear ho hb4
          have R := Lib.hid (R0.out _ B4.out)
          have B := Lib.hid (B4.out.alloc B4.out.size (.cells #[] 31))
          go_wp2_with fail
          go_returns
          have hg : mgG zs xs = false := by rw [HG.out, ← MK.out, DK.out, mg_no HFR.out]
          rw [mgL_no hg, hg]
          exact ⟨_, _, rfl, R.out, B.out⟩
        · go_wp2_with fail
          refine CP.out.mono ?_
          rintro e w4 ⟨g4, c4, rfl, ho, hb4⟩
          have B4 := Lib.hid (P1.out.trans (hb4.mono P1.out.size))
          have O4 := Lib.hid (owns_base ho (Nat.le_trans P1.out.size (ho.lt g4 rfl).1))
          have M4 := Lib.hid (show mg L (xs.drop (k + 1)) = mg zs xs by rw [← MK.out, DK.out, mg_yes HFR.out, ← HL.out, putL_yes HFR.out])
          clear ho hb4 CP P1 Q1 c0 c1 c2 c3
          go_wp2_with fail
          go_roundw
          case rel => first | exact ⟨k + 1, L, p2, by omega, by omega, by go_num, ⟨_, _, rfl⟩, HP2, M4, O4, B4⟩ | ((repeat apply Exists.intro); exact ⟨⟨k + 1, L, p2, by omega, by omega, by go_num, ⟨_, _, rfl⟩, HP2, M4, O4, B4⟩, rfl⟩)
          case measure => simp [intOf]; omega
      · obtain rfl : k = m0 := by omega
        have HE := Lib.hid (show mg zs xs = (true, acc) by rw [← MK.out, List.drop_of_length_le (by rw [HM.out]; exact Nat.le_refl _), mg_nil])
        go_wp2_with fail
        go_returns
        have hg : mgG zs xs = true := by rw [HG.out, HE.out]
        rw [mgL_yes hg, hg, HE.out]
        exact ⟨gb, gc, by rw [show ((true, acc) : Bool × List C).2.length = p from LK.out]; rfl, by rw [show ((true, acc) : Bool × List C).2.length = p from LK.out]; exact OK.out, BK.out⟩
  · have d12 : decide ((12 : Int) < (n0 : Int) + (m0 : Int)) = true := decide_eq_true (by omega)
    go_enter Try.func18, Try.ntmps18
    go_wp2_with fail
    refine (CS.out _ (Below.refl _ _)).mono ?_
    rintro e w1 ⟨rfl, hb⟩
    have B1 := Lib.hid (hb)
    clear hb
    go_wp2_with fail
    refine (CX.out _ B1.out).mono ?_
    rintro e w2 ⟨rfl, hb⟩
    have B2 := Lib.hid (B1.out.trans (hb.mono B1.out.size))
    clear hb
    have R := Lib.hid (R0.out _ B2.out)
    have B := Lib.hid (B2.out.alloc B2.out.size (.cells #[] 31))
    go_wp2_with fail
    go_returns
    have hg : mgG zs xs = false := by unfold mgG; rw [H1.out, H2.out, HN.out, HM.out, decide_eq_false h12]; rfl
    rw [mgL_no hg, hg]
    exact ⟨_, _, rfl, R.out, B.out⟩
end Go.Proofs.Ytjeibjefpoiidaa.Mm7
