/- AddDevice of the model: a device put into a list of devices where it belongs. -/
import Derived.Test.YtokncfhpmjohdabGreatM9
import Derived.Test.YtokncfhpmjohdabGreatM13
import Derived.Test.YtokncfhpmjohdabGreatBxd
set_option linter.unusedVariables false
set_option linter.unusedSimpArgs false
namespace Go.Proofs.YtokncfhpmjohdabGreat.Ad
open Go.RowKit Go.ChangeShapes Go.WideShapes Go.WideElems Go.Deep Go.Proofs.YtokncfhpmjohdabGreat.Mem Go.Proofs.YtokncfhpmjohdabGreat.Rw Go.Proofs.YtokncfhpmjohdabGreat.Pw Go.Proofs.YtokncfhpmjohdabGreat.P2 Go.Proofs.YtokncfhpmjohdabGreat.Dd Go.Proofs.YtokncfhpmjohdabGreat.Dv Go.Proofs.YtokncfhpmjohdabGreat.Dl Go.Proofs.YtokncfhpmjohdabGreat.Ds Go.Proofs.YtokncfhpmjohdabGreat.Fd Go.Proofs.YtokncfhpmjohdabGreat.Ch Go.Proofs.YtokncfhpmjohdabGreat.Hn Go.Proofs.YtokncfhpmjohdabGreat.Po
set_option linter.unusedVariables false
set_option linter.unusedSimpArgs false
open Go.Proofs.YtokncfhpmjohdabGreat.Ho Go.Proofs.YtokncfhpmjohdabGreat.Pa Go.Proofs.YtokncfhpmjohdabGreat.Di Go.Proofs.YtokncfhpmjohdabGreat.Ig Go.Proofs.YtokncfhpmjohdabGreat.Ir Go.Proofs.YtokncfhpmjohdabGreat.Iq Go.Proofs.YtokncfhpmjohdabGreat.IsName Go.Proofs.YtokncfhpmjohdabGreat.Mo Go.Proofs.YtokncfhpmjohdabGreat.Sg Go.Proofs.YtokncfhpmjohdabGreat.Rm Go.Proofs.YtokncfhpmjohdabGreat.Rz Go.Proofs.YtokncfhpmjohdabGreat.Adn
open Go.Proofs.YtokncfhpmjohdabGreat.Rw (owns_below owns_grown owns_base)
open Go.Proofs.YtokncfhpmjohdabGreat.Bxd

set_option maxHeartbeats 8000000 in
set_option maxRecDepth 100000 in
theorem addS (b0 o0 n0 c9 : Nat) (zs : List D) (n : ByteArray) (q : Int) (l : ByteArray) (x y h t m : Int) (w : World) (hn : zs.length = n0) (hb : n0 ≤ 1048576) (hsz : ∀ z ∈ zs, z.nm.size ≤ 1048576 ∧ z.ln.size ≤ 1048576) (hsn : n.size ≤ 1048576) (hsl : l.size ≤ 1048576) (hr : Rd w w.heap.size (some ⟨b0, o0, none⟩) (dls zs)) :
    Calls Tryz.prog 90 #[.slice (some ⟨b0, o0, none⟩) n0 c9, va n q l x y h t m] w (RowB w (adL zs ⟨n, q, l, x, y, h, t, m⟩) (adG zs ⟨n, q, l, x, y, h, t, m⟩)) := by
  have hu : undef = Value.tuple #[] := rfl
  have HR := Lib.hid hr
  have HN := Lib.hid hn
  have HX0 := Lib.hid (Bx.new w n q l x y h t m)
  have BW := Lib.hid (show Below w.heap.size w (w.alloc (.cells (ca n q l x y h t m) 36)) from (Below.refl _ _).alloc (Nat.le_refl _) _)
  have hs0 : (w.alloc (.cells (ca n q l x y h t m) 36)).heap.size = w.heap.size + 1 := by simp
  have CC := Lib.hid (fun (W : World) (hW : Below w.heap.size w W) => copiesD ⟨b0, o0, none⟩ n0 c9 zs W hn hb ((hr.below hW).more hW.size))
  have CS := Lib.hid (fun (W : World) (hW : Below w.heap.size w W) => rigS (some ⟨b0, o0, none⟩) n0 c9 zs W hn hb hsz ((hr.below hW).more hW.size))
  have CF := Lib.hid (fun (W : World) (hW : Below w.heap.size w W) => findS (some ⟨b0, o0, none⟩) n0 c9 zs n W hn hb ((hr.below hW).more hW.size))
  have CH := Lib.hid (fun (W : World) (hW : Below w.heap.size w W) => hangsS (some ⟨b0, o0, none⟩) n0 c9 zs n q l x y h t m W hn hb ((hr.below hW).more hW.size))
  have CI := isDeviceS n q l x y h t m hsn hsl
  obtain ⟨sc, hsc⟩ : ∃ b, rig zs = b := ⟨_, rfl⟩
  obtain ⟨cb, hcb⟩ : ∃ b, dB ⟨n, q, l, x, y, h, t, m⟩ = b := ⟨_, rfl⟩
  obtain ⟨fk, hfk⟩ : ∃ b, fd zs n = b := ⟨_, rfl⟩
  obtain ⟨hg, hhg⟩ : ∃ b, hgV zs q l = b := ⟨_, rfl⟩
  have HG := Lib.hid (show adG zs ⟨n, q, l, x, y, h, t, m⟩ = (sc && (cb && (decide (fk < 0) && (decide (n0 ≠ 8) && hg)))) by unfold adG; rw [hsc, hcb, hn]; show (sc && (cb && (decide (fd zs n < 0) && (decide (n0 ≠ 8) && hgV zs q l)))) = _; rw [hfk, hhg])
  have HFN := Lib.hid (show fk < 0 → ∀ d ∈ zs, sb d.nm n = false from fun hf => fd_none.1 (by rw [hfk]; exact hf))
  rw [hsc] at CS
  rw [show devB n q l x y h t m = cb from hcb] at CI
  rw [hfk] at CF
  rw [hhg] at CH
  have CI := Lib.hid CI
  clear hr hsc hcb hfk hhg hsz hsn hsl hn
  generalize hW0 : w.alloc (.cells (ca n q l x y h t m) 36) = W0 at *
  have HW0 := Lib.hid hW0
  have HS0 := Lib.hid hs0
  clear hW0 hs0
  cases sc
  · have B0 := Lib.hid (Below.refl (w.heap.size + 1) W0)
    have V0 := Lib.hid BW.out
    have X0 := Lib.hid HX0.out
    have x0 := X0.out.lt
    obtain ⟨e0, e1, e2, e3, e4, e5, e6, e7⟩ := X0.out.c
    go_enter Tryz.func90, Tryz.ntmps90
    go_wp2_with fail
    rw [HW0.out]
    refine (CS.out _ V0.out).mono ?_
    rintro e w1 ⟨rfl, hb9⟩
    clear x0 e0 e1 e2 e3 e4 e5 e6 e7
    have B1 := Lib.hid (B0.out.trans (hb9.mono (by have := B0.out.size; have := HS0.out; omega)))
    have V1 := Lib.hid (BW.out.trans (B1.out.mono (Nat.le_succ _)))
    have X1 := Lib.hid (HX0.out.below B1.out (Nat.lt_succ_self _))
    clear hb9 B0 V0 X0
    have x1 := X1.out.lt
    obtain ⟨e0, e1, e2, e3, e4, e5, e6, e7⟩ := X1.out.c
    go_wp2_with fail
    refine (CC.out _ V1.out).mono ?_
    rintro e w9 ⟨g, c, rfl, ho, hb9⟩
    have B9 := Lib.hid (V1.out.trans (hb9.mono V1.out.size))
    have RO := Lib.hid (owns_base ho (Nat.le_trans V1.out.size (ho.lt g rfl).1))
    clear ho hb9
    go_wp2_with fail
    go_returns
    have hg9 : adG zs ⟨n, q, l, x, y, h, t, m⟩ = false := by rw [HG.out]; rfl
    rw [adL_no hg9, hg9]
    exact ⟨g, c, rfl, RO.out, B9.out⟩
  cases cb
  · have B0 := Lib.hid (Below.refl (w.heap.size + 1) W0)
    have V0 := Lib.hid BW.out
    have X0 := Lib.hid HX0.out
    have x0 := X0.out.lt
    obtain ⟨e0, e1, e2, e3, e4, e5, e6, e7⟩ := X0.out.c
    go_enter Tryz.func90, Tryz.ntmps90
    go_wp2_with fail
    rw [HW0.out]
    refine (CS.out _ V0.out).mono ?_
    rintro e w1 ⟨rfl, hb9⟩
    clear x0 e0 e1 e2 e3 e4 e5 e6 e7
    have B1 := Lib.hid (B0.out.trans (hb9.mono (by have := B0.out.size; have := HS0.out; omega)))
    have V1 := Lib.hid (BW.out.trans (B1.out.mono (Nat.le_succ _)))
    have X1 := Lib.hid (HX0.out.below B1.out (Nat.lt_succ_self _))
    clear hb9 B0 V0 X0
    have x1 := X1.out.lt
    obtain ⟨e0, e1, e2, e3, e4, e5, e6, e7⟩ := X1.out.c
    go_wp2_with fail
    refine (CI.out _).mono ?_
    rintro e w2 ⟨rfl, hb9⟩
    clear x1 e0 e1 e2 e3 e4 e5 e6 e7
    have B2 := Lib.hid (B1.out.trans (hb9.mono (by have := B1.out.size; have := HS0.out; omega)))
    have V2 := Lib.hid (BW.out.trans (B2.out.mono (Nat.le_succ _)))
    have X2 := Lib.hid (HX0.out.below B2.out (Nat.lt_succ_self _))
    clear hb9 B1 V1 X1
    have x2 := X2.out.lt
    obtain ⟨e0, e1, e2, e3, e4, e5, e6, e7⟩ := X2.out.c
    go_wp2_with fail
    refine (CC.out _ V2.out).mono ?_
    rintro e w9 ⟨g, c, rfl, ho, hb9⟩
    have B9 := Lib.hid (V2.out.trans (hb9.mono V2.out.size))
    have RO := Lib.hid (owns_base ho (Nat.le_trans V2.out.size (ho.lt g rfl).1))
    clear ho hb9
    go_wp2_with fail
    go_returns
    have hg9 : adG zs ⟨n, q, l, x, y, h, t, m⟩ = false := by rw [HG.out]; rfl
    rw [adL_no hg9, hg9]
    exact ⟨g, c, rfl, RO.out, B9.out⟩
  by_cases hf : fk < 0
  rotate_left 1
  · have hf2 : 0 ≤ fk := by omega
    have HF := Lib.hid hf
    have B0 := Lib.hid (Below.refl (w.heap.size + 1) W0)
    have V0 := Lib.hid BW.out
    have X0 := Lib.hid HX0.out
    have x0 := X0.out.lt
    obtain ⟨e0, e1, e2, e3, e4, e5, e6, e7⟩ := X0.out.c
    go_enter Tryz.func90, Tryz.ntmps90
    go_wp2_with fail
    rw [HW0.out]
    refine (CS.out _ V0.out).mono ?_
    rintro e w1 ⟨rfl, hb9⟩
    clear x0 e0 e1 e2 e3 e4 e5 e6 e7
    have B1 := Lib.hid (B0.out.trans (hb9.mono (by have := B0.out.size; have := HS0.out; omega)))
    have V1 := Lib.hid (BW.out.trans (B1.out.mono (Nat.le_succ _)))
    have X1 := Lib.hid (HX0.out.below B1.out (Nat.lt_succ_self _))
    clear hb9 B0 V0 X0
    have x1 := X1.out.lt
    obtain ⟨e0, e1, e2, e3, e4, e5, e6, e7⟩ := X1.out.c
    go_wp2_with fail
    refine (CI.out _).mono ?_
    rintro e w2 ⟨rfl, hb9⟩
    clear x1 e0 e1 e2 e3 e4 e5 e6 e7
    have B2 := Lib.hid (B1.out.trans (hb9.mono (by have := B1.out.size; have := HS0.out; omega)))
    have V2 := Lib.hid (BW.out.trans (B2.out.mono (Nat.le_succ _)))
    have X2 := Lib.hid (HX0.out.below B2.out (Nat.lt_succ_self _))
    clear hb9 B1 V1 X1
    have x2 := X2.out.lt
    obtain ⟨e0, e1, e2, e3, e4, e5, e6, e7⟩ := X2.out.c
    go_wp2_with fail
    refine (CF.out _ V2.out).mono ?_
    rintro e w3 ⟨rfl, hb9⟩
    clear x2 e0 e1 e2 e3 e4 e5 e6 e7
    have B3 := Lib.hid (B2.out.trans (hb9.mono (by have := B2.out.size; have := HS0.out; omega)))
    have V3 := Lib.hid (BW.out.trans (B3.out.mono (Nat.le_succ _)))
    have X3 := Lib.hid (HX0.out.below B3.out (Nat.lt_succ_self _))
    clear hb9 B2 V2 X2
    have x3 := X3.out.lt
    obtain ⟨e0, e1, e2, e3, e4, e5, e6, e7⟩ := X3.out.c
    go_wp2_with fail
    refine (CC.out _ V3.out).mono ?_
    rintro e w9 ⟨g, c, rfl, ho, hb9⟩
    have B9 := Lib.hid (V3.out.trans (hb9.mono V3.out.size))
    have RO := Lib.hid (owns_base ho (Nat.le_trans V3.out.size (ho.lt g rfl).1))
    clear ho hb9
    go_wp2_with fail
    go_returns
    have hg9 : adG zs ⟨n, q, l, x, y, h, t, m⟩ = false := by rw [HG.out]; rw [decide_eq_false (show ¬ fk < 0 by have := HF.out; omega)]; simp
    rw [adL_no hg9, hg9]
    exact ⟨g, c, rfl, RO.out, B9.out⟩
  by_cases h8 : n0 = 8
  · have g8 : ((n0 : Int) == 8) = true := by simp [h8]
    have H8 := Lib.hid h8
    clear h8
    have B0 := Lib.hid (Below.refl (w.heap.size + 1) W0)
    have V0 := Lib.hid BW.out
    have X0 := Lib.hid HX0.out
    have x0 := X0.out.lt
    obtain ⟨e0, e1, e2, e3, e4, e5, e6, e7⟩ := X0.out.c
    go_enter Tryz.func90, Tryz.ntmps90
    go_wp2_with fail
    rw [HW0.out]
    refine (CS.out _ V0.out).mono ?_
    rintro e w1 ⟨rfl, hb9⟩
    clear x0 e0 e1 e2 e3 e4 e5 e6 e7
    have B1 := Lib.hid (B0.out.trans (hb9.mono (by have := B0.out.size; have := HS0.out; omega)))
    have V1 := Lib.hid (BW.out.trans (B1.out.mono (Nat.le_succ _)))
    have X1 := Lib.hid (HX0.out.below B1.out (Nat.lt_succ_self _))
    clear hb9 B0 V0 X0
    have x1 := X1.out.lt
    obtain ⟨e0, e1, e2, e3, e4, e5, e6, e7⟩ := X1.out.c
    go_wp2_with fail
    refine (CI.out _).mono ?_
    rintro e w2 ⟨rfl, hb9⟩
    clear x1 e0 e1 e2 e3 e4 e5 e6 e7
    have B2 := Lib.hid (B1.out.trans (hb9.mono (by have := B1.out.size; have := HS0.out; omega)))
    have V2 := Lib.hid (BW.out.trans (B2.out.mono (Nat.le_succ _)))
    have X2 := Lib.hid (HX0.out.below B2.out (Nat.lt_succ_self _))
    clear hb9 B1 V1 X1
    have x2 := X2.out.lt
    obtain ⟨e0, e1, e2, e3, e4, e5, e6, e7⟩ := X2.out.c
    go_wp2_with fail
    refine (CF.out _ V2.out).mono ?_
    rintro e w3 ⟨rfl, hb9⟩
    clear x2 e0 e1 e2 e3 e4 e5 e6 e7
    have B3 := Lib.hid (B2.out.trans (hb9.mono (by have := B2.out.size; have := HS0.out; omega)))
    have V3 := Lib.hid (BW.out.trans (B3.out.mono (Nat.le_succ _)))
    have X3 := Lib.hid (HX0.out.below B3.out (Nat.lt_succ_self _))
    clear hb9 B2 V2 X2
    have x3 := X3.out.lt
    obtain ⟨e0, e1, e2, e3, e4, e5, e6, e7⟩ := X3.out.c
    go_wp2_with fail
    refine (CC.out _ V3.out).mono ?_
    rintro e w9 ⟨g, c, rfl, ho, hb9⟩
    have B9 := Lib.hid (V3.out.trans (hb9.mono V3.out.size))
    have RO := Lib.hid (owns_base ho (Nat.le_trans V3.out.size (ho.lt g rfl).1))
    clear ho hb9
    go_wp2_with fail
    go_returns
    have hg9 : adG zs ⟨n, q, l, x, y, h, t, m⟩ = false := by rw [HG.out]; rw [decide_eq_false (show ¬ n0 ≠ 8 from fun h => h H8.out)]; simp
    rw [adL_no hg9, hg9]
    exact ⟨g, c, rfl, RO.out, B9.out⟩
  have g8 : ((n0 : Int) == 8) = false := by simp; omega
  have H8 := Lib.hid h8
  clear h8
  cases hg
  · have B0 := Lib.hid (Below.refl (w.heap.size + 1) W0)
    have V0 := Lib.hid BW.out
    have X0 := Lib.hid HX0.out
    have x0 := X0.out.lt
    obtain ⟨e0, e1, e2, e3, e4, e5, e6, e7⟩ := X0.out.c
    go_enter Tryz.func90, Tryz.ntmps90
    go_wp2_with fail
    rw [HW0.out]
    refine (CS.out _ V0.out).mono ?_
    rintro e w1 ⟨rfl, hb9⟩
    clear x0 e0 e1 e2 e3 e4 e5 e6 e7
    have B1 := Lib.hid (B0.out.trans (hb9.mono (by have := B0.out.size; have := HS0.out; omega)))
    have V1 := Lib.hid (BW.out.trans (B1.out.mono (Nat.le_succ _)))
    have X1 := Lib.hid (HX0.out.below B1.out (Nat.lt_succ_self _))
    clear hb9 B0 V0 X0
    have x1 := X1.out.lt
    obtain ⟨e0, e1, e2, e3, e4, e5, e6, e7⟩ := X1.out.c
    go_wp2_with fail
    refine (CI.out _).mono ?_
    rintro e w2 ⟨rfl, hb9⟩
    clear x1 e0 e1 e2 e3 e4 e5 e6 e7
    have B2 := Lib.hid (B1.out.trans (hb9.mono (by have := B1.out.size; have := HS0.out; omega)))
    have V2 := Lib.hid (BW.out.trans (B2.out.mono (Nat.le_succ _)))
    have X2 := Lib.hid (HX0.out.below B2.out (Nat.lt_succ_self _))
    clear hb9 B1 V1 X1
    have x2 := X2.out.lt
    obtain ⟨e0, e1, e2, e3, e4, e5, e6, e7⟩ := X2.out.c
    go_wp2_with fail
    refine (CF.out _ V2.out).mono ?_
    rintro e w3 ⟨rfl, hb9⟩
    clear x2 e0 e1 e2 e3 e4 e5 e6 e7
    have B3 := Lib.hid (B2.out.trans (hb9.mono (by have := B2.out.size; have := HS0.out; omega)))
    have V3 := Lib.hid (BW.out.trans (B3.out.mono (Nat.le_succ _)))
    have X3 := Lib.hid (HX0.out.below B3.out (Nat.lt_succ_self _))
    clear hb9 B2 V2 X2
    have x3 := X3.out.lt
    obtain ⟨e0, e1, e2, e3, e4, e5, e6, e7⟩ := X3.out.c
    go_wp2_with fail
    refine (CH.out _ V3.out).mono ?_
    rintro e w4 ⟨rfl, hb9⟩
    clear x3 e0 e1 e2 e3 e4 e5 e6 e7
    have B4 := Lib.hid (B3.out.trans (hb9.mono (by have := B3.out.size; have := HS0.out; omega)))
    have V4 := Lib.hid (BW.out.trans (B4.out.mono (Nat.le_succ _)))
    have X4 := Lib.hid (HX0.out.below B4.out (Nat.lt_succ_self _))
    clear hb9 B3 V3 X3
    have x4 := X4.out.lt
    obtain ⟨e0, e1, e2, e3, e4, e5, e6, e7⟩ := X4.out.c
    go_wp2_with fail
    refine (CC.out _ V4.out).mono ?_
    rintro e w9 ⟨g, c, rfl, ho, hb9⟩
    have B9 := Lib.hid (V4.out.trans (hb9.mono V4.out.size))
    have RO := Lib.hid (owns_base ho (Nat.le_trans V4.out.size (ho.lt g rfl).1))
    clear ho hb9
    go_wp2_with fail
    go_returns
    have hg9 : adG zs ⟨n, q, l, x, y, h, t, m⟩ = false := by rw [HG.out]; simp
    rw [adL_no hg9, hg9]
    exact ⟨g, c, rfl, RO.out, B9.out⟩
  have B0 := Lib.hid (Below.refl (w.heap.size + 1) W0)
  have V0 := Lib.hid BW.out
  have X0 := Lib.hid HX0.out
  have x0 := X0.out.lt
  obtain ⟨e0, e1, e2, e3, e4, e5, e6, e7⟩ := X0.out.c
  go_enter Tryz.func90, Tryz.ntmps90
  go_wp2_with fail
  rw [HW0.out]
  refine (CS.out _ V0.out).mono ?_
  rintro e w1 ⟨rfl, hb9⟩
  clear x0 e0 e1 e2 e3 e4 e5 e6 e7
  have B1 := Lib.hid (B0.out.trans (hb9.mono (by have := B0.out.size; have := HS0.out; omega)))
  have V1 := Lib.hid (BW.out.trans (B1.out.mono (Nat.le_succ _)))
  have X1 := Lib.hid (HX0.out.below B1.out (Nat.lt_succ_self _))
  clear hb9 B0 V0 X0
  have x1 := X1.out.lt
  obtain ⟨e0, e1, e2, e3, e4, e5, e6, e7⟩ := X1.out.c
  go_wp2_with fail
  refine (CI.out _).mono ?_
  rintro e w2 ⟨rfl, hb9⟩
  clear x1 e0 e1 e2 e3 e4 e5 e6 e7
  have B2 := Lib.hid (B1.out.trans (hb9.mono (by have := B1.out.size; have := HS0.out; omega)))
  have V2 := Lib.hid (BW.out.trans (B2.out.mono (Nat.le_succ _)))
  have X2 := Lib.hid (HX0.out.below B2.out (Nat.lt_succ_self _))
  clear hb9 B1 V1 X1
  have x2 := X2.out.lt
  obtain ⟨e0, e1, e2, e3, e4, e5, e6, e7⟩ := X2.out.c
  go_wp2_with fail
  refine (CF.out _ V2.out).mono ?_
  rintro e w3 ⟨rfl, hb9⟩
  clear x2 e0 e1 e2 e3 e4 e5 e6 e7
  have B3 := Lib.hid (B2.out.trans (hb9.mono (by have := B2.out.size; have := HS0.out; omega)))
  have V3 := Lib.hid (BW.out.trans (B3.out.mono (Nat.le_succ _)))
  have X3 := Lib.hid (HX0.out.below B3.out (Nat.lt_succ_self _))
  clear hb9 B2 V2 X2
  have x3 := X3.out.lt
  obtain ⟨e0, e1, e2, e3, e4, e5, e6, e7⟩ := X3.out.c
  go_wp2_with fail
  refine (CH.out _ V3.out).mono ?_
  rintro e w4 ⟨rfl, hb9⟩
  clear x3 e0 e1 e2 e3 e4 e5 e6 e7
  have B4 := Lib.hid (B3.out.trans (hb9.mono (by have := B3.out.size; have := HS0.out; omega)))
  have V4 := Lib.hid (BW.out.trans (B4.out.mono (Nat.le_succ _)))
  have X4 := Lib.hid (HX0.out.below B4.out (Nat.lt_succ_self _))
  clear hb9 B3 V3 X3
  have x4 := X4.out.lt
  obtain ⟨e0, e1, e2, e3, e4, e5, e6, e7⟩ := X4.out.c
  clear x4 e0 e1 e2 e3 e4 e5 e6 e7
  have HGT := Lib.hid (show adG zs ⟨n, q, l, x, y, h, t, m⟩ = true by rw [HG.out, decide_eq_true hf, decide_eq_true H8.out]; rfl)
  have HNN := Lib.hid (HFN.out hf)
  have hsw4 : w.heap.size + 1 ≤ w4.heap.size := by have := B4.out.size; have := HS0.out; omega
  have R0 := Lib.hid (World.ownsRow_lit (base := w.heap.size + 1) (e := 36) (size := 8) w4 #[] 0 hsw4 (Nat.zero_le _) rfl)
  have BA := Lib.hid (B4.out.alloc (by have := HS0.out; omega) (.cells #[] 36))
  obtain ⟨i0, hi, hz0, hz1, hz2⟩ := info_of infoD
  clear hsw4 B4 V4 X4
  go_wp2_with fail
  go_loopw [6, 7, 41] (fun v dv i wr => ∃ (k q2 : Nat) (dn : Bool), k ≤ n0 ∧ i = .int .i64 k ∧ dv = .bool dn ∧ q2 ≤ k + 1 ∧ (∃ g c, v = .slice (some ⟨g, 0, none⟩) q2 c) ∧ Hid (q2 = if dn = true then k + 1 else k) ∧ Hid (Adn.At zs ⟨n, q, l, x, y, h, t, m⟩ k dn) ∧ Hid (wr.ownsRow (w.heap.size + 1) 36 8 v q2 (dls (row zs ⟨n, q, l, x, y, h, t, m⟩ k dn))) ∧ Hid (Below (w.heap.size + 1) W0 wr)) (fun _ _ i _ => n0 - (intOf i).toNat)
  case atStart => exact ⟨0, 0, false, Nat.zero_le _, rfl, rfl, Nat.zero_le _, ⟨_, _, rfl⟩, Lib.hid rfl, Lib.hid (at_zero _ _), R0, BA⟩
  case round =>
    obtain ⟨k, q2, dn, hk, rfl, rfl, hq2, ⟨gb, gc, rfl⟩, QK, AK, RK, BK⟩ := hrel
    clear R0 BA
    have hsw : w.heap.size + 1 ≤ wr.heap.size := by have := BK.out.size; have := HS0.out; omega
    have hx : w.heap.size < wr.heap.size := hsw
    have XK := Lib.hid (HX0.out.below BK.out (Nat.lt_succ_self _))
    by_cases hlt : k < n0
    · obtain ⟨z, hz⟩ : ∃ z, zs[k]? = some z := ⟨_, List.getElem?_eq_getElem (by rw [HN.out]; exact hlt)⟩
      have HZ := Lib.hid hz
      have RW := Lib.hid ((HR.out.below BW.out).below (Below.mono BK.out (Nat.le_succ _)))
      have hsb := HNN.out z (List.mem_of_getElem? hz)
      obtain ⟨bb, hbb⟩ : ∃ r, Ig.lt n z.nm = r := ⟨_, rfl⟩
      have hgt := Ig.run_gtr z.nm n
      rw [show (!(Ig.lt z.nm n || z.nm.toList == n.toList)) = bb from (lt_swap hsb).trans hbb] at hgt
      have HBB := Lib.hid hbb
      have sl1 : Op.bytesLess z.nm.toList n.toList = !bb := by
        have h1 := (lt_swap hsb).trans hbb
        rw [hsb, Bool.or_false] at h1
        rw [← h1, Bool.not_not]; rfl
      have sl2 : (z.nm.toList == n.toList) = false := hsb
      clear hsb hbb
      obtain ⟨n2, k2, l2, x2, y2, h2, t2, m2⟩ := z
      obtain ⟨b, o, eA, hbl, hcell⟩ := (RW.out).get (k := k * 8) (by rw [dls_len, HN.out]; omega)
      obtain ⟨z0, z1, z2, z3, z4, z5, z6, z7⟩ := dls_get hz
      have c0 := hcell (k * 8) _ z0
      have c1 := hcell (k * 8 + 1) _ z1
      rw [← Nat.add_assoc] at c1
      have c2 := hcell (k * 8 + 2) _ z2
      rw [← Nat.add_assoc] at c2
      have c3 := hcell (k * 8 + 3) _ z3
      rw [← Nat.add_assoc] at c3
      have c4 := hcell (k * 8 + 4) _ z4
      rw [← Nat.add_assoc] at c4
      have c5 := hcell (k * 8 + 5) _ z5
      rw [← Nat.add_assoc] at c5
      have c6 := hcell (k * 8 + 6) _ z6
      rw [← Nat.add_assoc] at c6
      have c7 := hcell (k * 8 + 7) _ z7
      rw [← Nat.add_assoc] at c7
      clear hcell z0 z1 z2 z3 z4 z5 z6 z7 hz
      obtain ⟨rfl, rfl⟩ : b0 = b ∧ o0 = o := by injection eA with eA; injection eA with e1 e2; exact ⟨e1, e2⟩
      cases dn
      · cases bb
        · obtain rfl : q2 = k := QK.out
          obtain ⟨a1, a2⟩ := at_not HZ.out AK.out HBB.out
          have A1 := Lib.hid a1
          have A2 := Lib.hid (congrArg dls a2)
          clear a1 a2
          obtain ⟨y0, y1, y2z, y3, y4, y5, y6, y7⟩ := XK.out.c
          have hgb : w.heap.size + 1 ≤ gb ∧ gb < wr.heap.size := RK.out.lt gb rfl
          have XZ := Lib.hid (Bx.new wr n2 k2 l2 x2 y2 h2 t2 m2)
          have hown := (RK.out.alloc (.cells (ca n2 k2 l2 x2 y2 h2 t2 m2) 36)).alloc (.cells (ca n2 k2 l2 x2 y2 h2 t2 m2) 36)
          have hcz := (Bx.new (wr.alloc (.cells (ca n2 k2 l2 x2 y2 h2 t2 m2) 36)) n2 k2 l2 x2 y2 h2 t2 m2).c
          rw [show (wr.alloc (.cells (ca n2 k2 l2 x2 y2 h2 t2 m2) 36)).heap.size = wr.heap.size + 1 by simp] at hcz
          go_wp2_with (at_builtin; refine wpList_append_own _ rfl _ _ 24 rfl (w.heap.size + 1) 36 i0 (.agg #[.string ⟨#[]⟩, .int .i64 0, .string ⟨#[]⟩, .int .i64 0, .int .i64 0, .int .i64 0, .int .i64 0, .int .i64 0]) 8 80 Tryz.underlying24 hi hz0 hz1 hz2 rfl (by decide) _ _ _ rfl (hown) ⟨wr.heap.size + 1, 0, none⟩ 1 1 [.string n2, .int .i64 k2, .string l2, .int .i64 x2, .int .i64 y2, .int .i64 h2, .int .i64 t2, .int .i64 m2] rfl rfl ((by intro j u hj; match j, hj with | 0, hj => (simp at hj; subst hj; simp [Addr.add]) | 1, hj => (simp at hj; subst hj; simp [Addr.add]) | 2, hj => (simp at hj; subst hj; simp [Addr.add]) | 3, hj => (simp at hj; subst hj; simp [Addr.add]) | 4, hj => (simp at hj; subst hj; simp [Addr.add]) | 5, hj => (simp at hj; subst hj; simp [Addr.add]) | 6, hj => (simp at hj; subst hj; simp [Addr.add]) | 7, hj => (simp at hj; subst hj; simp [Addr.add]))) (by intro u hu9; simp at hu9; rcases hu9 with rfl | rfl | rfl | rfl | rfl | rfl | rfl | rfl <;> rfl) (by unfold maxLen; omega) (by omega) (by simp; omega) ?_)
          intro v' w5 hown' hgrow hnil
          rw [show dls (row zs ⟨n, q, l, x, y, h, t, m⟩ q2 false) ++ [.string n2, .int .i64 k2, .string l2, .int .i64 x2, .int .i64 y2, .int .i64 h2, .int .i64 t2, .int .i64 m2] = dls (row zs ⟨n, q, l, x, y, h, t, m⟩ (q2 + 1) false) from (dls_snoc _ ⟨n2, k2, l2, x2, y2, h2, t2, m2⟩).trans A2.out.symm] at hown'
          obtain ⟨g5, cq5, rfl⟩ := own_mk hown'
          have R6 := Lib.hid hown'
          have B6 := Lib.hid (((BK.out.alloc (by have := HS0.out; omega) (.cells (ca n2 k2 l2 x2 y2 h2 t2 m2) 36)).alloc (by have := HS0.out; simp; omega) (.cells (ca n2 k2 l2 x2 y2 h2 t2 m2) 36)).grown hgrow (by have := HS0.out; simp; omega) (fun j hj => by cases hj; exact hgb.1))
          clear hown' hgrow hnil hown hcz y0 y1 y2z y3 y4 y5 y6 y7
          go_wp2_with fail
          go_roundw
          case rel => first | exact ⟨q2 + 1, _, false, by omega, by go_num, rfl, by omega, ⟨_, _, rfl⟩, Lib.hid rfl, A1, R6, B6⟩ | ((repeat apply Exists.intro); exact ⟨⟨q2 + 1, _, false, by omega, by go_num, rfl, by omega, ⟨_, _, rfl⟩, Lib.hid rfl, A1, R6, B6⟩, rfl⟩)
          case measure => simp [intOf]; omega
        · obtain rfl : q2 = k := QK.out
          obtain ⟨a1, a2⟩ := at_now HZ.out AK.out HBB.out
          have A1 := Lib.hid a1
          have A2 := Lib.hid (congrArg dls a2)
          clear a1 a2
          obtain ⟨y0, y1, y2z, y3, y4, y5, y6, y7⟩ := XK.out.c
          have hgb : w.heap.size + 1 ≤ gb ∧ gb < wr.heap.size := RK.out.lt gb rfl
          have XZ := Lib.hid (Bx.new wr n2 k2 l2 x2 y2 h2 t2 m2)
          have hown := (RK.out.alloc (.cells (ca n2 k2 l2 x2 y2 h2 t2 m2) 36)).alloc (.cells (ca n q l x y h t m) 36)
          have hcz := (Bx.new (wr.alloc (.cells (ca n2 k2 l2 x2 y2 h2 t2 m2) 36)) n q l x y h t m).c
          rw [show (wr.alloc (.cells (ca n2 k2 l2 x2 y2 h2 t2 m2) 36)).heap.size = wr.heap.size + 1 by simp] at hcz
          go_wp2_with (at_builtin; refine wpList_append_own _ rfl _ _ 24 rfl (w.heap.size + 1) 36 i0 (.agg #[.string ⟨#[]⟩, .int .i64 0, .string ⟨#[]⟩, .int .i64 0, .int .i64 0, .int .i64 0, .int .i64 0, .int .i64 0]) 8 80 Tryz.underlying24 hi hz0 hz1 hz2 rfl (by decide) _ _ _ rfl (hown) ⟨wr.heap.size + 1, 0, none⟩ 1 1 [.string n, .int .i64 q, .string l, .int .i64 x, .int .i64 y, .int .i64 h, .int .i64 t, .int .i64 m] rfl rfl ((by intro j u hj; match j, hj with | 0, hj => (simp at hj; subst hj; simp [Addr.add]) | 1, hj => (simp at hj; subst hj; simp [Addr.add]) | 2, hj => (simp at hj; subst hj; simp [Addr.add]) | 3, hj => (simp at hj; subst hj; simp [Addr.add]) | 4, hj => (simp at hj; subst hj; simp [Addr.add]) | 5, hj => (simp at hj; subst hj; simp [Addr.add]) | 6, hj => (simp at hj; subst hj; simp [Addr.add]) | 7, hj => (simp at hj; subst hj; simp [Addr.add]))) (by intro u hu9; simp at hu9; rcases hu9 with rfl | rfl | rfl | rfl | rfl | rfl | rfl | rfl <;> rfl) (by unfold maxLen; omega) (by omega) (by simp; omega) ?_)
          intro v' w5 hown' hgrow hnil
          rw [show dls (row zs ⟨n, q, l, x, y, h, t, m⟩ q2 false) ++ [.string n, .int .i64 q, .string l, .int .i64 x, .int .i64 y, .int .i64 h, .int .i64 t, .int .i64 m] = dls (row zs ⟨n, q, l, x, y, h, t, m⟩ q2 false ++ [⟨n, q, l, x, y, h, t, m⟩]) from dls_snoc _ ⟨n, q, l, x, y, h, t, m⟩] at hown'
          obtain ⟨g5, cq5, rfl⟩ := own_mk hown'
          have R6 := Lib.hid hown'
          have B6 := Lib.hid (((BK.out.alloc (by have := HS0.out; omega) (.cells (ca n2 k2 l2 x2 y2 h2 t2 m2) 36)).alloc (by have := HS0.out; simp; omega) (.cells (ca n q l x y h t m) 36)).grown hgrow (by have := HS0.out; simp; omega) (fun j hj => by cases hj; exact hgb.1))
          have X6 := Lib.hid ((XZ.out.alloc (.cells (ca n q l x y h t m) 36)).grown hgrow (fun e => by have e : wr.heap.size = gb := Option.some.inj e; have := hgb.2; omega))
          have hg5 : w.heap.size + 1 ≤ w5.heap.size := by have := B6.out.size; have := HS0.out; omega
          obtain ⟨u0, u1, u2, u3, u4, u5, u6, u7⟩ := X6.out.c
          have hown := R6.out.alloc (.cells (ca n2 k2 l2 x2 y2 h2 t2 m2) 36)
          have hcz := (Bx.new w5 n2 k2 l2 x2 y2 h2 t2 m2).c
          have hg6 : w.heap.size + 1 ≤ g5 := (R6.out.lt g5 rfl).1
          clear hown' hgrow hnil y0 y1 y2z y3 y4 y5 y6 y7 c0 c1 c2 c3 c4 c5 c6 c7
          go_wp2_with (at_builtin; refine wpList_append_own _ rfl _ _ 24 rfl (w.heap.size + 1) 36 i0 (.agg #[.string ⟨#[]⟩, .int .i64 0, .string ⟨#[]⟩, .int .i64 0, .int .i64 0, .int .i64 0, .int .i64 0, .int .i64 0]) 8 80 Tryz.underlying24 hi hz0 hz1 hz2 rfl (by decide) _ _ _ rfl (hown) ⟨w5.heap.size, 0, none⟩ 1 1 [.string n2, .int .i64 k2, .string l2, .int .i64 x2, .int .i64 y2, .int .i64 h2, .int .i64 t2, .int .i64 m2] rfl rfl ((by intro j u hj; match j, hj with | 0, hj => (simp at hj; subst hj; simp [Addr.add]) | 1, hj => (simp at hj; subst hj; simp [Addr.add]) | 2, hj => (simp at hj; subst hj; simp [Addr.add]) | 3, hj => (simp at hj; subst hj; simp [Addr.add]) | 4, hj => (simp at hj; subst hj; simp [Addr.add]) | 5, hj => (simp at hj; subst hj; simp [Addr.add]) | 6, hj => (simp at hj; subst hj; simp [Addr.add]) | 7, hj => (simp at hj; subst hj; simp [Addr.add]))) (by intro u hu9; simp at hu9; rcases hu9 with rfl | rfl | rfl | rfl | rfl | rfl | rfl | rfl <;> rfl) (by unfold maxLen; omega) (by omega) (by simp; omega) ?_)
          intro v' w6 hown' hgrow hnil
          rw [show dls (row zs ⟨n, q, l, x, y, h, t, m⟩ q2 false ++ [⟨n, q, l, x, y, h, t, m⟩]) ++ [.string n2, .int .i64 k2, .string l2, .int .i64 x2, .int .i64 y2, .int .i64 h2, .int .i64 t2, .int .i64 m2] = dls (row zs ⟨n, q, l, x, y, h, t, m⟩ (q2 + 1) true) from (dls_snoc _ ⟨n2, k2, l2, x2, y2, h2, t2, m2⟩).trans A2.out.symm] at hown'
          obtain ⟨g7, c9x, rfl⟩ := own_mk hown'
          have R7 := Lib.hid hown'
          have B7 := Lib.hid ((B6.out.alloc (by have := HS0.out; omega) (.cells (ca n2 k2 l2 x2 y2 h2 t2 m2) 36)).grown hgrow (by have := HS0.out; simp; omega) (fun j hj => by cases hj; exact hg6))
          clear hown' hgrow hnil hown hcz u0 u1 u2 u3 u4 u5 u6 u7
          go_wp2_with fail
          go_roundw
          case rel => first | exact ⟨q2 + 1, _, true, by omega, by go_num, rfl, by omega, ⟨_, _, rfl⟩, Lib.hid rfl, A1, R7, B7⟩ | ((repeat apply Exists.intro); exact ⟨⟨q2 + 1, _, true, by omega, by go_num, rfl, by omega, ⟨_, _, rfl⟩, Lib.hid rfl, A1, R7, B7⟩, rfl⟩)
          case measure => simp [intOf]; omega
      · obtain rfl : q2 = k + 1 := QK.out
        obtain ⟨a1, a2⟩ := at_more HZ.out AK.out
        have A1 := Lib.hid a1
        have A2 := Lib.hid (congrArg dls a2)
        clear a1 a2
        obtain ⟨y0, y1, y2z, y3, y4, y5, y6, y7⟩ := XK.out.c
        have hgb : w.heap.size + 1 ≤ gb ∧ gb < wr.heap.size := RK.out.lt gb rfl
        have XZ := Lib.hid (Bx.new wr n2 k2 l2 x2 y2 h2 t2 m2)
        have hown := (RK.out.alloc (.cells (ca n2 k2 l2 x2 y2 h2 t2 m2) 36)).alloc (.cells (ca n2 k2 l2 x2 y2 h2 t2 m2) 36)
        have hcz := (Bx.new (wr.alloc (.cells (ca n2 k2 l2 x2 y2 h2 t2 m2) 36)) n2 k2 l2 x2 y2 h2 t2 m2).c
        rw [show (wr.alloc (.cells (ca n2 k2 l2 x2 y2 h2 t2 m2) 36)).heap.size = wr.heap.size + 1 by simp] at hcz
        go_wp2_with (at_builtin; refine wpList_append_own _ rfl _ _ 24 rfl (w.heap.size + 1) 36 i0 (.agg #[.string ⟨#[]⟩, .int .i64 0, .string ⟨#[]⟩, .int .i64 0, .int .i64 0, .int .i64 0, .int .i64 0, .int .i64 0]) 8 80 Tryz.underlying24 hi hz0 hz1 hz2 rfl (by decide) _ _ _ rfl (hown) ⟨wr.heap.size + 1, 0, none⟩ 1 1 [.string n2, .int .i64 k2, .string l2, .int .i64 x2, .int .i64 y2, .int .i64 h2, .int .i64 t2, .int .i64 m2] rfl rfl ((by intro j u hj; match j, hj with | 0, hj => (simp at hj; subst hj; simp [Addr.add]) | 1, hj => (simp at hj; subst hj; simp [Addr.add]) | 2, hj => (simp at hj; subst hj; simp [Addr.add]) | 3, hj => (simp at hj; subst hj; simp [Addr.add]) | 4, hj => (simp at hj; subst hj; simp [Addr.add]) | 5, hj => (simp at hj; subst hj; simp [Addr.add]) | 6, hj => (simp at hj; subst hj; simp [Addr.add]) | 7, hj => (simp at hj; subst hj; simp [Addr.add]))) (by intro u hu9; simp at hu9; rcases hu9 with rfl | rfl | rfl | rfl | rfl | rfl | rfl | rfl <;> rfl) (by unfold maxLen; omega) (by omega) (by simp; omega) ?_)
        intro v' w5 hown' hgrow hnil
        rw [show dls (row zs ⟨n, q, l, x, y, h, t, m⟩ k true) ++ [.string n2, .int .i64 k2, .string l2, .int .i64 x2, .int .i64 y2, .int .i64 h2, .int .i64 t2, .int .i64 m2] = dls (row zs ⟨n, q, l, x, y, h, t, m⟩ (k + 1) true) from (dls_snoc _ ⟨n2, k2, l2, x2, y2, h2, t2, m2⟩).trans A2.out.symm] at hown'
        obtain ⟨g5, cq5, rfl⟩ := own_mk hown'
        have R6 := Lib.hid hown'
        have B6 := Lib.hid (((BK.out.alloc (by have := HS0.out; omega) (.cells (ca n2 k2 l2 x2 y2 h2 t2 m2) 36)).alloc (by have := HS0.out; simp; omega) (.cells (ca n2 k2 l2 x2 y2 h2 t2 m2) 36)).grown hgrow (by have := HS0.out; simp; omega) (fun j hj => by cases hj; exact hgb.1))
        clear hown' hgrow hnil hown hcz y0 y1 y2z y3 y4 y5 y6 y7
        go_wp2_with fail
        go_roundw
        case rel => first | exact ⟨k + 1, _, true, by omega, by go_num, rfl, by omega, ⟨_, _, rfl⟩, Lib.hid rfl, A1, R6, B6⟩ | ((repeat apply Exists.intro); exact ⟨⟨k + 1, _, true, by omega, by go_num, rfl, by omega, ⟨_, _, rfl⟩, Lib.hid rfl, A1, R6, B6⟩, rfl⟩)
        case measure => simp [intOf]; omega
    · obtain rfl : k = n0 := by omega
      have EN := Lib.hid (show insD zs ⟨n, q, l, x, y, h, t, m⟩ = _ from at_end dn (by rw [HN.out]; exact AK.out))
      cases dn
      · obtain rfl : q2 = k := QK.out
        obtain ⟨y0, y1, y2z, y3, y4, y5, y6, y7⟩ := XK.out.c
        have hgb : w.heap.size + 1 ≤ gb ∧ gb < wr.heap.size := RK.out.lt gb rfl
        have hown := RK.out.alloc (.cells (ca n q l x y h t m) 36)
        have hcz := (Bx.new wr n q l x y h t m).c
        go_wp2_with (at_builtin; refine wpList_append_own _ rfl _ _ 24 rfl (w.heap.size + 1) 36 i0 (.agg #[.string ⟨#[]⟩, .int .i64 0, .string ⟨#[]⟩, .int .i64 0, .int .i64 0, .int .i64 0, .int .i64 0, .int .i64 0]) 8 80 Tryz.underlying24 hi hz0 hz1 hz2 rfl (by decide) _ _ _ rfl (hown) ⟨wr.heap.size, 0, none⟩ 1 1 [.string n, .int .i64 q, .string l, .int .i64 x, .int .i64 y, .int .i64 h, .int .i64 t, .int .i64 m] rfl rfl ((by intro j u hj; match j, hj with | 0, hj => (simp at hj; subst hj; simp [Addr.add]) | 1, hj => (simp at hj; subst hj; simp [Addr.add]) | 2, hj => (simp at hj; subst hj; simp [Addr.add]) | 3, hj => (simp at hj; subst hj; simp [Addr.add]) | 4, hj => (simp at hj; subst hj; simp [Addr.add]) | 5, hj => (simp at hj; subst hj; simp [Addr.add]) | 6, hj => (simp at hj; subst hj; simp [Addr.add]) | 7, hj => (simp at hj; subst hj; simp [Addr.add]))) (by intro u hu9; simp at hu9; rcases hu9 with rfl | rfl | rfl | rfl | rfl | rfl | rfl | rfl <;> rfl) (by unfold maxLen; omega) (by omega) (by simp; omega) ?_)
        intro v' w5 hown' hgrow hnil
        rw [show dls (row zs ⟨n, q, l, x, y, h, t, m⟩ q2 false) ++ [.string n, .int .i64 q, .string l, .int .i64 x, .int .i64 y, .int .i64 h, .int .i64 t, .int .i64 m] = dls (insD zs ⟨n, q, l, x, y, h, t, m⟩) from (dls_snoc _ ⟨n, q, l, x, y, h, t, m⟩).trans (by rw [EN.out, HN.out]; rfl)] at hown'
        obtain ⟨g5, cq5, rfl⟩ := own_mk hown'
        have R6 := Lib.hid hown'
        have B6 := Lib.hid ((BK.out.alloc (by have := HS0.out; omega) (.cells (ca n q l x y h t m) 36)).grown hgrow (by have := HS0.out; simp; omega) (fun j hj => by cases hj; exact hgb.1))
        have LL := Lib.hid (show (insD zs ⟨n, q, l, x, y, h, t, m⟩).length = q2 + 1 by rw [ins_len, HN.out])
        clear hown' hgrow hnil hown hcz y0 y1 y2z y3 y4 y5 y6 y7
        go_wp2_with fail
        go_returns
        rw [adL_yes HGT.out, HGT.out]
        exact ⟨g5, cq5, by rw [LL.out]; first | done | rfl, by rw [LL.out]; exact owns_base R6.out (Nat.le_trans (Nat.le_succ _) (R6.out.lt g5 rfl).1), BW.out.trans (B6.out.mono (Nat.le_succ _))⟩
      · obtain rfl : q2 = k + 1 := QK.out
        have LL := Lib.hid (show (insD zs ⟨n, q, l, x, y, h, t, m⟩).length = k + 1 by rw [ins_len, HN.out])
        have R6 := Lib.hid (show wr.ownsRow (w.heap.size + 1) 36 8 (.slice (some ⟨gb, 0, none⟩) (k + 1) gc) (k + 1) (dls (insD zs ⟨n, q, l, x, y, h, t, m⟩)) by have := RK.out; rw [EN.out, HN.out]; exact this)
        go_wp2_with fail
        go_returns
        rw [adL_yes HGT.out, HGT.out]
        exact ⟨gb, gc, by rw [LL.out]; first | done | rfl, by rw [LL.out]; exact owns_base R6.out (Nat.le_trans (Nat.le_succ _) (R6.out.lt gb rfl).1), BW.out.trans (BK.out.mono (Nat.le_succ _))⟩

end Go.Proofs.YtokncfhpmjohdabGreat.Ad
