/- LaterScore of the program. -/
import Derived.Test.YtdhdmdjahfnicaaTd7
import Derived.Test.YtdhdmdjahfnicaaSi7
namespace Go.Proofs.Ytdhdmdjahfnicaa.Ti7
open Go.RowKit Go.ChangeShapes Go.WideShapes Go.WideElems Go.Deep Go.Proofs.Ytdhdmdjahfnicaa.Mem Go.Proofs.Ytdhdmdjahfnicaa.Rw Go.Proofs.Ytdhdmdjahfnicaa.P2 Go.Proofs.Ytdhdmdjahfnicaa.Cd Go.Proofs.Ytdhdmdjahfnicaa.Cv Go.Proofs.Ytdhdmdjahfnicaa.Cl Go.Proofs.Ytdhdmdjahfnicaa.Cs
set_option linter.unusedVariables false
set_option linter.unusedSimpArgs false
open Go.Proofs.Ytdhdmdjahfnicaa.Sd Go.Proofs.Ytdhdmdjahfnicaa.Oc Go.Proofs.Ytdhdmdjahfnicaa.Ld Go.Proofs.Ytdhdmdjahfnicaa.Td7 Go.Proofs.Ytdhdmdjahfnicaa.Cr Go.Proofs.Ytdhdmdjahfnicaa.Si7 Go.Proofs.Ytdhdmdjahfnicaa.Jt
open Go.Proofs.Ytdhdmdjahfnicaa.Rw (owns_below owns_grown owns_base)

set_option maxHeartbeats 4000000 in
set_option maxRecDepth 100000 in
theorem laterI (ad : Addr) (n0 c9 : Nat) (zs : List C) (q : Int) (w : World) (hn : zs.length = n0) (hb : n0 ≤ 1048576) (wq : (Lit.int .i64 q).wf = true) (hr : Rd w w.heap.size (some ad) (dls zs)) :
    Calls Try.prog 18 #[.slice (some ad) n0 c9, .int .i64 q] w (RowB w (ltL zs q) (ltG zs q)) := by
  have hu : undef = Value.tuple #[] := rfl
  have HN := Lib.hid hn
  have CS := Lib.hid (scoreI (some ad) n0 c9 zs w hn hb hr)
  have CC := Lib.hid (fun (W : World) (hW : Below w.heap.size w W) => cloneC ad n0 c9 zs W hn hb ((hr.below hW).more hW.size))
  obtain ⟨sc, hsc⟩ : ∃ r, score zs = r := ⟨_, rfl⟩
  rw [hsc] at CS
  have HSC := Lib.hid hsc
  obtain ⟨bw, hbw⟩ : ∃ r, iw q 0 64 = r := ⟨_, rfl⟩
  have HBW := Lib.hid hbw
  have CW := Lib.hid (isWithin_of hbw)
  have hq : bw = true → 0 ≤ q ∧ q ≤ 64 := fun h => iw_iff.1 (hbw.trans h)
  clear hr hn hsc hbw
  cases sc
  · have HG := Lib.hid (show ltG zs q = false by unfold ltG; rw [HSC.out]; rfl)
    have HL := Lib.hid (ltL_no HG.out)
    go_enter Try.func18, Try.ntmps18
    go_wp2_with fail
    refine CS.out.mono ?_
    rintro e w2 ⟨rfl, hb9⟩
    have B2 := Lib.hid hb9
    clear hb9
    go_wp2_with fail
    go_returns
    rw [HL.out, HG.out]
    exact ⟨_, _, rfl, World.ownsRow_lit (base := w.heap.size) (e := 47) (size := 4) _ #[] 0 B2.out.size (Nat.zero_le _) rfl, B2.out.alloc B2.out.size _⟩
  cases bw
  · have HG := Lib.hid (show ltG zs q = false by unfold ltG; rw [HSC.out, HBW.out]; rfl)
    have HL := Lib.hid (ltL_no HG.out)
    go_enter Try.func18, Try.ntmps18
    go_wp2_with fail
    refine CS.out.mono ?_
    rintro e w2 ⟨rfl, hb9⟩
    have B2 := Lib.hid hb9
    clear hb9
    go_wp2_with fail
    refine (CW.out _).mono ?_
    rintro e w3 ⟨rfl, rfl⟩
    go_wp2_with fail
    go_returns
    rw [HL.out, HG.out]
    exact ⟨_, _, rfl, World.ownsRow_lit (base := w.heap.size) (e := 47) (size := 4) _ #[] 0 B2.out.size (Nat.zero_le _) rfl, B2.out.alloc B2.out.size _⟩
  have HG := Lib.hid (show ltG zs q = allB q zs by unfold ltG; rw [HSC.out, HBW.out]; rfl)
  have HV := Lib.hid (show ∀ x ∈ zs, cB x = true from score_all HSC.out)
  obtain ⟨q0, q1⟩ := hq rfl
  clear hq
  go_enter Try.func18, Try.ntmps18
  go_wp2_with fail
  refine CS.out.mono ?_
  rintro e w2 ⟨rfl, hb9⟩
  have B2 := Lib.hid hb9
  clear hb9
  go_wp2_with fail
  refine (CW.out _).mono ?_
  rintro e w3 ⟨rfl, rfl⟩
  go_wp2_with fail
  refine (CC.out _ B2.out).mono ?_
  rintro e w3 ⟨g, c, rfl, ho, hb9⟩
  rw [HN.out] at ho ⊢
  have B3 := Lib.hid (B2.out.trans (hb9.mono B2.out.size))
  have hgb : w.heap.size ≤ g := Nat.le_trans B2.out.size (ho.lt g rfl).1
  have R3 := Lib.hid (show w3.ownsRow w.heap.size 47 4 (.slice (some ⟨g, 0, none⟩) n0 c) n0 (dls (prt zs q 0)) by rw [part_zero]; exact owns_base ho hgb)
  clear ho hb9 B2 CC CS CW
  go_wp2_with fail
  go_loopw [21] (fun i wr => ∃ k : Nat, k ≤ n0 ∧ i = .int .i64 k ∧ Hid (wr.ownsRow w.heap.size 47 4 (.slice (some ⟨g, 0, none⟩) n0 c) n0 (dls (prt zs q k))) ∧ Hid (Below w.heap.size w wr)) (fun i _ => n0 - (intOf i).toNat)
  case atStart => exact ⟨0, Nat.zero_le _, rfl, R3, B3⟩
  case round =>
    obtain ⟨k, hk, rfl, RK, BK⟩ := hrel
    clear R3 B3
    by_cases hlt : k < n0
    · obtain ⟨z, hz⟩ : ∃ z, zs[k]? = some z := ⟨_, List.getElem?_eq_getElem (by rw [HN.out]; exact hlt)⟩
      have hcb := cB_in (HV.out z (mem_at hz))
      have hpp := part_put (n := q) hz
      obtain ⟨t, n, l, r⟩ := z
      have c0 : wr.cell? ⟨g, k * 4, none⟩ = some (.int .i64 t) := (RK.out.cellAt (k * 4) (by omega)).trans (dls_get (part_get hz)).1
      have f0 := RK.out.frozenAt (k * 4)
      obtain ⟨r1, g1⟩ := RK.out.stored (k * 4) (.int .i64 (t + q))
      simp only [] at hpp hcb
      rw [hpp] at r1
      have hw : wrap64 (t + q) = t + q := IntWalk.wrap64_in _ (by omega)
      have R6 := Lib.hid r1
      have B6 := Lib.hid (BK.out.grown g1 BK.out.size (fun j hj => by cases hj; exact hgb))
      clear r1 g1 hz hpp hcb RK BK
      go_wp2_with fail
      go_roundw
      case rel => first | exact ⟨k + 1, by omega, by go_num, R6, B6⟩ | ((repeat apply Exists.intro); exact ⟨⟨k + 1, by omega, by go_num, R6, B6⟩, rfl⟩)
      case measure => simp [intOf]; omega
    · obtain rfl : k = n0 := by omega
      have RF := Lib.hid (show wr.ownsRow w.heap.size 47 4 (.slice (some ⟨g, 0, none⟩) k c) k (dls (zs.map (shC q))) by have := RK.out; rw [show prt zs q k = zs.map (shC q) by rw [← HN.out]; exact part_all zs q] at this; exact this)
      have HM := Lib.hid (show (zs.map (shC q)).length = k by rw [List.length_map, HN.out])
      have CT := scoreI (some ⟨g, 0, none⟩) k c (zs.map (shC q)) wr HM.out hb (Rd.own RF.out)
      rw [score_sh HSC.out] at CT
      obtain ⟨r, hr⟩ : ∃ r, allB q zs = r := ⟨_, rfl⟩
      rw [hr] at CT
      have HH := Lib.hid hr
      have CT := Lib.hid CT
      clear RK hr
      cases r
      · have HL := Lib.hid (ltL_no (HG.out.trans HH.out))
        go_wp2_with fail
        refine CT.out.mono ?_
        rintro e w4 ⟨rfl, hb9⟩
        have B4 := Lib.hid (BK.out.trans (hb9.mono BK.out.size))
        clear hb9
        go_wp2_with fail
        go_returns
        rw [HG.out, HH.out, HL.out]
        exact ⟨_, _, rfl, World.ownsRow_lit (base := w.heap.size) (e := 47) (size := 4) _ #[] 0 B4.out.size (Nat.zero_le _) rfl, B4.out.alloc B4.out.size _⟩
      · have HL := Lib.hid (ltL_yes (HG.out.trans HH.out))
        go_wp2_with fail
        refine CT.out.mono ?_
        rintro e w4 ⟨rfl, hb9⟩
        have B4 := Lib.hid (BK.out.trans (hb9.mono BK.out.size))
        have R4 := Lib.hid (owns_below RF.out hb9)
        clear hb9
        go_wp2_with fail
        go_returns
        rw [HG.out, HH.out, HL.out]
        exact ⟨g, c, by rw [HM.out]; first | done | rfl, by rw [HM.out]; exact R4.out, B4.out⟩
end Go.Proofs.Ytdhdmdjahfnicaa.Ti7
