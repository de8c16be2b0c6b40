/- Tracks that are joined, of the program and of the model. -/
import Derived.Test.YtfhjngkcgdkoaaaFx8
import Derived.Test.YtfhjngkcgdkoaaaCc8
namespace Go.Proofs.Ytfhjngkcgdkoaaa.Jn8
open Go.RowKit Go.Proofs.Ytfhjngkcgdkoaaa.Mem Go.Proofs.Ytfhjngkcgdkoaaa.Tk Go.Proofs.Ytfhjngkcgdkoaaa.Ti8 Go.Proofs.Ytfhjngkcgdkoaaa.Rw Go.Proofs.Ytfhjngkcgdkoaaa.Meas Go.Proofs.Ytfhjngkcgdkoaaa.Fw8
set_option linter.unusedVariables false
set_option linter.unusedSimpArgs false

open Go.Proofs.Ytfhjngkcgdkoaaa.Fx8 Go.ChangeShapes Go.WideShapes Go.WideElems
theorem jnG_len64 (a b : List Int) : (jnL a b).length ≤ 64 := by
  cases h : jnG a b
  · rw [jnL_no h]; exact Nat.zero_le _
  · rw [jnL_yes h, List.length_append]; exact (jnG_iff.1 h).2.2
set_option maxHeartbeats 2000000 in
theorem joinI (A : Option Addr) (n c : Nat) (zs : List Int) (A2 : Option Addr) (m c2 : Nat) (xs : List Int) (w : World) (hn : zs.length = n) (hb : n ≤ 1048576) (hm : xs.length = m) (hb2 : m ≤ 1048576) (hr : Rd w w.heap.size A (ints zs)) (hx : Rd w w.heap.size A2 (ints xs)) :
    Calls Try.prog 41 #[.slice A n c, .slice A2 m c2] w (RowP w (jnL zs xs) (jnG zs xs)) := by
  have N := Lib.hid hn
  have M := Lib.hid hm
  have C1N := Lib.hid (fun h => whole_no A n c zs w.heap.size w hn hb hr h)
  have C1Y := Lib.hid (fun h => whole_yes A n c zs w hn hb hr h)
  have C2N := Lib.hid (fun (W : World) (hW : Below w.heap.size w W) h => whole_no A2 m c2 xs W.heap.size W hm hb2 ((hx.below hW).more hW.size) h)
  have C2Y := Lib.hid (fun (W : World) (hW : Below w.heap.size w W) h => whole_yes A2 m c2 xs W hm hb2 ((hx.below hW).more hW.size) h)
  cases h1 : tk zs
  · have FG := Lib.hid (jnG_no (a := zs) (b := xs) (by rw [h1]; intro h; cases h.1))
    rw [jnL_no FG.out, FG.out]
    have D1 := Lib.hid (C1N.out h1)
    cases h2 : tk xs
    · have D2 := Lib.hid (C2N.out w (Below.refl _ _) h2)
      clear hn hm hr hx h1 h2 C1N C1Y C2N C2Y
      go_enter Try.func41, Try.ntmps41
      go_wp2_with fail
      refine D1.out.mono ?_
      rintro e w' ⟨rfl, rfl⟩
      go_wp2_with fail
      refine D2.out.mono ?_
      rintro e w' ⟨rfl, rfl⟩
      go_wp2_with fail
      go_ret2
      exact rowP_nil w
    · have D2 := Lib.hid (C2Y.out w (Below.refl _ _) h2)
      clear hn hm hr hx h1 h2 C1N C1Y C2N C2Y
      go_enter Try.func41, Try.ntmps41
      go_wp2_with fail
      refine D1.out.mono ?_
      rintro e w' ⟨rfl, rfl⟩
      go_wp2_with fail
      refine D2.out.mono ?_
      rintro e w1 ⟨g, rfl, ho, hb1⟩
      rw [M.out]
      have BB := Lib.hid hb1
      clear ho hb1
      go_wp2_with fail
      go_ret2
      exact RowP.from (rowP_nil w1) BB.out
  have D1 := Lib.hid (C1Y.out h1)
  cases h2 : tk xs
  · have FG := Lib.hid (jnG_no (a := zs) (b := xs) (by rw [h2]; intro h; cases h.2.1))
    rw [jnL_no FG.out, FG.out]
    have D2 := Lib.hid (fun W hW => C2N.out W hW h2)
    clear hn hm hr hx h1 h2 C1N C1Y C2N C2Y
    go_enter Try.func41, Try.ntmps41
    go_wp2_with fail
    refine D1.out.mono ?_
    rintro e w1 ⟨g, rfl, ho, hb1⟩
    rw [N.out]
    have BB := Lib.hid hb1
    clear ho hb1
    go_wp2_with fail
    refine (D2.out _ BB.out).mono ?_
    rintro e w' ⟨rfl, rfl⟩
    go_wp2_with fail
    go_ret2
    exact RowP.from (rowP_nil w1) BB.out
  have D2 := Lib.hid (fun W hW => C2Y.out W hW h2)
  have OK := Lib.hid (okM (okT_append.2 ⟨(tk_iff.1 h1).2, (tk_iff.1 h2).2⟩))
  have FN := Lib.hid (show (zs ++ xs).length = n + m by rw [List.length_append, hn, hm])
  by_cases h64 : n + m ≤ 64
  case neg =>
    have FG := Lib.hid (jnG_no (a := zs) (b := xs) (by intro h; omega))
    rw [jnL_no FG.out, FG.out]
    have h65 : 64 < n + m := by omega
    have h66 : (64 : Int) < (n : Int) + (m : Int) := by omega
    clear hn hm hr hx h1 h2 C1N C1Y C2N C2Y h64
    go_enter Try.func41, Try.ntmps41
    go_wp2_with fail
    refine D1.out.mono ?_
    rintro e w1 ⟨g, rfl, ho, hb1⟩
    rw [N.out]
    have BB := Lib.hid hb1
    clear ho hb1
    go_wp2_with fail
    refine (D2.out _ BB.out).mono ?_
    rintro e w2 ⟨g2, rfl, ho, hb2⟩
    rw [M.out]
    have B2 := Lib.hid (BB.out.trans (hb2.mono BB.out.size))
    clear ho hb2
    go_wp2_with fail
    go_ret2
    exact RowP.from (rowP_nil w2) B2.out
  have FG := Lib.hid (jnG_iff.2 ⟨h1, h2, by omega⟩)
  have FL := Lib.hid (jnL_yes FG.out)
  rw [FL.out, FG.out]
  have h66 : ¬ (64 : Int) < (n : Int) + (m : Int) := by omega
  obtain ⟨L, hL⟩ : ∃ L, zs ++ xs = L := ⟨_, rfl⟩
  rw [hL] at FL FN OK ⊢
  have HL := Lib.hid hL
  clear hn hm hr hx h1 h2 C1N C1Y C2N C2Y hL
  go_enter Try.func41, Try.ntmps41
  go_wp2_with fail
  refine D1.out.mono ?_
  rintro e w1 ⟨g, rfl, ho, hb1⟩
  rw [N.out] at ho
  rw [N.out]
  have O1 := Lib.hid ho
  have B1 := Lib.hid hb1
  clear ho hb1
  go_wp2_with fail
  refine (D2.out _ B1.out).mono ?_
  rintro e w2 ⟨g2, rfl, ho, hb2⟩
  rw [M.out] at ho
  rw [M.out]
  have O2 := Lib.hid ho
  have P1 := Lib.hid (owns_below O1.out hb2)
  have B2 := Lib.hid (B1.out.trans (hb2.mono B1.out.size))
  clear ho hb2 O1 B1 D1 D2
  have HP := Lib.hid (show ∀ W, Below w2.heap.size w2 W → Rd W W.heap.size (some ⟨g, 0, none⟩) (fls zs) ∧ Rd W W.heap.size (some ⟨g2, 0, none⟩) (fls xs) from fun W hW => ⟨(Rd.own P1.out).below hW |>.more hW.size, (Rd.own O2.out).below hW |>.more hW.size⟩)
  by_cases hz : n + m = 0
  · obtain rfl : n = 0 := by omega
    obtain rfl : m = 0 := by omega
    have hL0 : L = [] := List.eq_nil_of_length_eq_zero FN.out
    subst hL0
    go_wp2_with fail
    refine (Cc8.concatN w2.heap.size 0 ⟨g, 0, none⟩ ⟨g2, 0, none⟩ 0 0 _ (by go_simp) (by go_simp)).mono ?_
    rintro e w3 ⟨rfl, hb3⟩
    have B3 := Lib.hid (show Below w2.heap.size w2 w3 from by first | exact hb3 | exact Below.trans (by go_grown) (hb3.mono (by simp)))
    clear hb3
    go_wp2_with fail
    refine (toldTrack _ 0 _ [] _ rfl (by omega) (Rd.nil _ _ _) (fun z h => by cases h)).mono ?_
    rintro e w4 ⟨g4, c4, rfl, ho, hb4⟩
    have K := Lib.hid (And.intro ho hb4)
    clear ho hb4
    go_wp2_with fail
    go_ret2
    exact RowP.from ⟨g4, c4, rfl, K.out.1, K.out.2⟩ (B2.out.trans (B3.out.mono B2.out.size))
  · go_wp2_with fail
    refine (Cc8.concatC w2.heap.size 0 ⟨g, 0, none⟩ ⟨g2, 0, none⟩ n n m m zs xs _ (by go_simp) (by go_simp) N.out M.out hb hb2 (by omega) (HP.out _ (by go_grown)).1 (HP.out _ (by go_grown)).2).mono ?_
    rintro e w3 ⟨g3, c3, rfl, ho3, hb3⟩
    rw [HL.out] at ho3
    have B3 := Lib.hid (show Below w2.heap.size w2 w3 from by first | exact hb3 | exact Below.trans (by go_grown) (hb3.mono (by simp)))
    have O3 := Lib.hid (Rd.own ho3)
    clear ho3 hb3 P1 O2 HP
    go_wp2_with fail
    refine (toldTrack _ (n + m) _ L _ FN.out (by omega) O3.out OK.out).mono ?_
    rintro e w4 ⟨g4, c4, rfl, ho, hb4⟩
    have K := Lib.hid (And.intro ho hb4)
    clear ho hb4
    go_wp2_with fail
    go_ret2
    exact RowP.from ⟨g4, c4, rfl, K.out.1, K.out.2⟩ (B2.out.trans (B3.out.mono B2.out.size))

set_option maxHeartbeats 2000000 in
theorem joinS (b0 n c : Nat) (zs : List Int) (b1 m c2 : Nat) (xs : List Int) (w : World) (hn : zs.length = n) (hb : n ≤ 1048576) (hm : xs.length = m) (hb2 : m ≤ 1048576) (hr : Rd w w.heap.size (some ⟨b0, 0, none⟩) (ints zs)) (hx : Rd w w.heap.size (some ⟨b1, 0, none⟩) (ints xs)) :
    Calls Try.prog 40 #[.slice (some ⟨b0, 0, none⟩) n c, .slice (some ⟨b1, 0, none⟩) m c2] w (RowP w (jnL zs xs) (jnG zs xs)) := by
  obtain ⟨i0, hi, hz0, hz1, hz2⟩ := info_of infoI
  have N := Lib.hid hn
  have M := Lib.hid hm
  have R := Lib.hid hr
  have X := Lib.hid hx
  have C1 := Lib.hid (fun (W : World) (hW : Below w.heap.size w W) => trkS (some ⟨b0, 0, none⟩) n c zs w.heap.size W hn hb (hr.below hW))
  have C2 := Lib.hid (fun (W : World) (hW : Below w.heap.size w W) => trkS (some ⟨b1, 0, none⟩) m c2 xs w.heap.size W hm hb2 (hx.below hW))
  have C3 := Lib.hid (fun (W : World) (g9 c9 : Nat) (h : Rd W W.heap.size (some ⟨g9, 0, none⟩) (ints (zs ++ xs))) => trkS2 (some ⟨g9, 0, none⟩) (n + m) c9 (zs ++ xs) W.heap.size W (by rw [List.length_append, hn, hm]) (by omega : n + m ≤ 2097152) h)
  have FN := Lib.hid (show (zs ++ xs).length = n + m by rw [List.length_append, hn, hm])
  have HC := Lib.hid (show ∀ (W : World), Below w.heap.size w W → ∀ j u, (ints zs)[j]? = some u → W.cell? ((⟨b0, 0, none⟩ : Addr).add j) = some u from fun W hW j u hj => by
    obtain ⟨b, o, e, hbl, hc⟩ := (hr.below hW).get (List.getElem?_eq_some_iff.1 hj).1
    injection e with e; injection e with e1 e2; subst e1 e2
    rw [add_plain]; exact hc j u hj)
  have HD := Lib.hid (show ∀ (W : World), Below w.heap.size w W → ∀ j u, (ints xs)[j]? = some u → W.cell? ((⟨b1, 0, none⟩ : Addr).add j) = some u from fun W hW j u hj => by
    obtain ⟨b, o, e, hbl, hc⟩ := (hx.below hW).get (List.getElem?_eq_some_iff.1 hj).1
    injection e with e; injection e with e1 e2; subst e1 e2
    rw [add_plain]; exact hc j u hj)
  have R0 := Lib.hid (World.ownsRow_lit (base := w.heap.size) (e := 3) (size := 1) w #[] 0 (Nat.le_refl _) (Nat.zero_le _) rfl)
  have B0 := Lib.hid (show Below w.heap.size w (w.alloc (.cells #[] 3)) from (Below.refl _ _).alloc (Nat.le_refl _) _)
  have HCW := Lib.hid (HC.out _ B0.out)
  have IA := Lib.hid (show ints zs ++ ints xs = ints (zs ++ xs) by unfold ints; rw [List.map_append])
  have IC := Lib.hid (show ∀ l : List Int, ∀ u ∈ ints l, u.oneCell' = true from fun l u hu => by obtain ⟨z, _, rfl⟩ := List.mem_map.1 hu; rfl)
  obtain ⟨r1, hr1⟩ : ∃ r, tk zs = r := ⟨_, rfl⟩
  obtain ⟨r2, hr2⟩ : ∃ r, tk xs = r := ⟨_, rfl⟩
  obtain ⟨r3, hr3⟩ : ∃ r, tk (zs ++ xs) = r := ⟨_, rfl⟩
  have HG := Lib.hid (show jnG zs xs = (r1 && (r2 && r3)) by
    unfold jnG
    cases h1 : tk zs
    · rw [← hr1, h1]; rfl
    · cases h2 : tk xs
      · rw [← hr1, ← hr2, h1, h2]; rfl
      · rw [← hr3, tk_append h1 h2, ← hr1, ← hr2, h1, h2]; rfl)
  have HL := Lib.hid (show jnL zs xs = bon (r1 && (r2 && r3)) (zs ++ xs) by unfold jnL; rw [HG.out])
  rw [hr1] at C1
  rw [hr2] at C2
  rw [hr3] at C3
  obtain ⟨L, hLL⟩ : ∃ L, zs ++ xs = L := ⟨_, rfl⟩
  rw [hLL] at C3 FN IA HL
  rw [HL.out, HG.out]
  clear hn hm hr hx hr1 hr2 hr3 hLL HG HL
  go_enter Try.func40, Try.ntmps40
  go_wp2_with (at_builtin; refine wpList_append_own _ rfl _ _ 22 rfl w.heap.size 3 i0 (.int .i64 0) 1 8 Try.underlying22 hi hz0 hz1 hz2 rfl (by decide) _ _ _ rfl R0.out ⟨b0, 0, none⟩ n c (ints zs) rfl (by rw [ints_len, N.out, Nat.mul_one]) HCW.out (IC.out zs) (by unfold maxLen; omega) (by omega) (by simp) ?_)
  intro v' w5 hown' hgrow hnil
  have hg : ∃ g c, v' = .slice (some ⟨g, 0, none⟩) n c := by
    rcases hown'.2 with ⟨e1, _⟩ | ⟨g, cap, cur, e1, _⟩
    · exact absurd e1 hnil
    · exact ⟨g, cap, e1⟩
  obtain ⟨g5, c5, rfl⟩ := hg
  have R5 := Lib.hid (show w5.ownsRow w.heap.size 3 1 (.slice (some ⟨g5, 0, none⟩) n c5) n (ints zs) from hown')
  have B5 := Lib.hid (B0.out.grown hgrow B0.out.size (fun k hk => by cases hk; exact Nat.le_refl _))
  have HDW := Lib.hid (HD.out _ B5.out)
  clear hown' hgrow hnil R0 B0 HCW
  go_wp2_with (at_builtin; refine wpList_append_own _ rfl _ _ 22 rfl w.heap.size 3 i0 (.int .i64 0) 1 8 Try.underlying22 hi hz0 hz1 hz2 rfl (by decide) _ _ _ rfl R5.out ⟨b1, 0, none⟩ m c2 (ints xs) rfl (by rw [ints_len, M.out, Nat.mul_one]) HDW.out (IC.out xs) (by unfold maxLen; omega) (by omega) B5.out.size ?_)
  intro v' w6 hown' hgrow hnil
  have hg : ∃ g c, v' = .slice (some ⟨g, 0, none⟩) (n + m) c := by
    rcases hown'.2 with ⟨e1, _⟩ | ⟨g, cap, cur, e1, _⟩
    · exact absurd e1 hnil
    · exact ⟨g, cap, e1⟩
  obtain ⟨g6, c6, rfl⟩ := hg
  rw [IA.out] at hown'
  have R6 := Lib.hid hown'
  have B6 := Lib.hid (B5.out.grown hgrow B5.out.size (fun k hk => by cases hk; exact own_at R5.out))
  clear hown' hgrow hnil R5 B5 HDW
  have D1 := Lib.hid (C1.out _ B6.out)
  have D2 := Lib.hid (C2.out _ B6.out)
  have D3 := Lib.hid (C3.out _ g6 c6 (Rd.own R6.out))
  have RN := Lib.hid (rowP_nil w6)
  clear C1 C2 C3
  cases r1
  · go_wp2_with fail
    refine D1.out.mono ?_
    rintro e w' ⟨rfl, rfl⟩
    go_wp2_with fail
    go_ret2
    exact RowP.from RN.out B6.out
  cases r2
  · go_wp2_with fail
    refine D1.out.mono ?_
    rintro e w' ⟨rfl, rfl⟩
    go_wp2_with fail
    refine D2.out.mono ?_
    rintro e w' ⟨rfl, rfl⟩
    go_wp2_with fail
    go_ret2
    exact RowP.from RN.out B6.out
  cases r3
  · go_wp2_with fail
    refine D1.out.mono ?_
    rintro e w' ⟨rfl, rfl⟩
    go_wp2_with fail
    refine D2.out.mono ?_
    rintro e w' ⟨rfl, rfl⟩
    go_wp2_with fail
    refine D3.out.mono ?_
    rintro e w' ⟨rfl, rfl⟩
    go_wp2_with fail
    go_ret2
    exact RowP.from RN.out B6.out
  · go_wp2_with fail
    refine D1.out.mono ?_
    rintro e w' ⟨rfl, rfl⟩
    go_wp2_with fail
    refine D2.out.mono ?_
    rintro e w' ⟨rfl, rfl⟩
    go_wp2_with fail
    refine D3.out.mono ?_
    rintro e w' ⟨rfl, rfl⟩
    go_wp2_with fail
    go_ret2
    refine ⟨g6, c6, ?_, ?_, B6.out⟩
    · show _ = Ending.returned (.tuple #[.slice (some ⟨g6, 0, none⟩) L.length c6, .bool true])
      rw [FN.out]; rfl
    · show w6.ownsRow _ _ _ (.slice (some ⟨g6, 0, none⟩) L.length c6) L.length (ints L)
      rw [FN.out]; exact R6.out
end Go.Proofs.Ytfhjngkcgdkoaaa.Jn8
