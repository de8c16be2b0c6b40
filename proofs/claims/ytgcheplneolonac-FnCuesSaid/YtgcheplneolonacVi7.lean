/- RemoveCue of the program. -/
import Derived.Test.YtgcheplneolonacVd7
import Derived.Test.YtgcheplneolonacSi7
import Derived.Test.YtgcheplneolonacBs
namespace Go.Proofs.Ytgcheplneolonac.Vi7
open Go.RowKit Go.ChangeShapes Go.WideShapes Go.WideElems Go.Deep Go.Proofs.Ytgcheplneolonac.Mem Go.Proofs.Ytgcheplneolonac.Rw Go.Proofs.Ytgcheplneolonac.P2 Go.Proofs.Ytgcheplneolonac.Cd Go.Proofs.Ytgcheplneolonac.Cv Go.Proofs.Ytgcheplneolonac.Cl Go.Proofs.Ytgcheplneolonac.Cs
set_option linter.unusedVariables false
set_option linter.unusedSimpArgs false
open Go.Proofs.Ytgcheplneolonac.Sd Go.Proofs.Ytgcheplneolonac.Oc Go.Proofs.Ytgcheplneolonac.Cr Go.Proofs.Ytgcheplneolonac.Cq Go.Proofs.Ytgcheplneolonac.Vd7 Go.Proofs.Ytgcheplneolonac.Si7 Go.Proofs.Ytgcheplneolonac.Bs
open Go.Proofs.Ytgcheplneolonac.Rw (owns_below owns_grown owns_base)

set_option maxHeartbeats 4000000 in
set_option maxRecDepth 100000 in
theorem removeI (ad : Addr) (n0 c9 : Nat) (zs : List C) (q : Int) (s : ByteArray) (w : World) (hn : zs.length = n0) (hb : n0 ≤ 1048576) (hr : Rd w w.heap.size (some ad) (dls zs)) :
    Calls Try.prog 9 #[.slice (some ad) n0 c9, .int .i64 q, .string s] w (RowB w (rmL zs q s) (rmG zs q s)) := by
  have hu : undef = Value.tuple #[] := rfl
  have HN := Lib.hid hn
  have CC := Lib.hid (cloneC ad n0 c9 zs w hn hb hr)
  have CS := Lib.hid (fun (W : World) (hW : Below w.heap.size w W) => scoreI (some ad) n0 c9 zs W hn hb ((hr.below hW).more hW.size))
  have CB := Lib.hid (fun (W : World) (ho : Ord zs) (hW : Below w.heap.size w W) => search (some ad) n0 c9 zs q s 0 0 W hn hb ho ((hr.below hW).more hW.size))
  obtain ⟨sc, hsc⟩ : ∃ r, score zs = r := ⟨_, rfl⟩
  rw [hsc] at CS
  have HSC := Lib.hid hsc
  clear hr hn hsc
  cases sc
  · have HG := Lib.hid (show rmG zs q s = false by unfold rmG; rw [HSC.out]; rfl)
    have HRL := Lib.hid (rmL_no HG.out)
    go_enter Try.func9, Try.ntmps9
    go_wp2_with fail
    refine CC.out.mono ?_
    rintro e w1 ⟨g, c, rfl, ho, hb1⟩
    have RO := Lib.hid ho
    have B1 := Lib.hid hb1
    clear ho hb1
    go_wp2_with fail
    refine (CS.out _ B1.out).mono ?_
    rintro e w2 ⟨rfl, hb9⟩
    have B2 := Lib.hid (B1.out.trans (hb9.mono B1.out.size))
    have R2 := Lib.hid (owns_below RO.out hb9)
    clear hb9
    go_wp2_with fail
    go_returns
    rw [HRL.out, HG.out]
    exact ⟨g, c, rfl, R2.out, B2.out⟩
  have HO := Lib.hid (score_set.1 (score_of HSC.out)).2.1
  go_enter Try.func9, Try.ntmps9
  go_wp2_with fail
  refine CC.out.mono ?_
  rintro e w1 ⟨g, c, rfl, ho, hb1⟩
  have RO := Lib.hid ho
  have B1 := Lib.hid hb1
  clear ho hb1
  go_wp2_with fail
  refine (CS.out _ B1.out).mono ?_
  rintro e w2 ⟨rfl, hb9⟩
  have B2 := Lib.hid (B1.out.trans (hb9.mono B1.out.size))
  have R2 := Lib.hid (owns_below RO.out hb9)
  clear hb9 RO
  go_wp2_with fail
  refine (CB.out _ HO.out B2.out).mono ?_
  rintro e w3 ⟨k, f, rfl, hp, hf, hb9⟩
  have B3 := Lib.hid (B2.out.trans (hb9.mono B2.out.size))
  have R3 := Lib.hid (owns_below R2.out hb9)
  have HP := Lib.hid hp
  have HF := Lib.hid hf
  clear hb9 R2 hp hf
  cases f
  · have HG := Lib.hid (show rmG zs q s = false by
      unfold rmG; rw [HSC.out, Bool.true_and]
      refine hasT_no (parts_none HO.out HP.out fun d hd e => ?_)
      exact absurd (HF.out.2 ⟨d, hd, e⟩) (by decide))
    have HRL := Lib.hid (rmL_no HG.out)
    go_wp2_with fail
    go_returns
    rw [HRL.out, HG.out]
    exact ⟨g, c, rfl, R3.out, B3.out⟩
  · have HK := Lib.hid (show ∃ d, zs[k]? = some d ∧ isT q s d = true by
      obtain ⟨d, hd, e⟩ := HF.out.1 rfl
      exact ⟨d, hd, same_T.1 e⟩)
    have HG := Lib.hid (show rmG zs q s = true by
      unfold rmG; rw [HSC.out, Bool.true_and]
      obtain ⟨d, hd, e⟩ := HK.out
      exact hasT_yes (List.mem_of_getElem? hd) e)
    have HRL := Lib.hid (show rmL zs q s = cut zs k by
      obtain ⟨d, hd, e⟩ := HK.out
      rw [rmL_yes HG.out]; exact rmP_cut HO.out hd e)
    have hkn : k < n0 := by
      obtain ⟨d, hd, _⟩ := HK.out
      have := (List.getElem?_eq_some_iff.1 hd).1
      rw [HN.out] at this; exact this
    have HM := Lib.hid (show (cut zs k).length = n0 - 1 by rw [← HN.out]; exact cut_len (by rw [HN.out]; exact hkn))
    have R4 := Lib.hid (show w3.ownsRow w.heap.size 26 4 (.slice (some ⟨g, 0, none⟩) n0 c) n0 (dls zs) by have := R3.out; rw [HN.out] at this; exact this)
    rw [HN.out]
    clear R3
    go_wp2_with fail
    refine (deleteC g c n0 k zs w.heap.size _ HN.out hb hkn R4.out).mono ?_
    rintro e w5 ⟨rfl, ho, hg⟩
    have B5 := Lib.hid (B3.out.grown hg B3.out.size (fun j hj => by cases hj; exact (R4.out.lt g rfl).1))
    have R5 := Lib.hid ho
    clear ho hg
    go_wp2_with fail
    go_returns
    rw [HRL.out, HG.out]
    exact ⟨g, c, by rw [HM.out]; first | done | rfl, by rw [HM.out]; exact R5.out, B5.out⟩
end Go.Proofs.Ytgcheplneolonac.Vi7
