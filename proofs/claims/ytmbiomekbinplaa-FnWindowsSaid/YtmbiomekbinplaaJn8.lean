/- Tracks that are joined, of the program and of the model. -/
import Derived.Test.YtmbiomekbinplaaFx8
import Derived.Test.YtmbiomekbinplaaCc8
namespace Go.Proofs.Ytmbiomekbinplaa.Jn8
open Go.RowKit Go.Proofs.Ytmbiomekbinplaa.Mem Go.Proofs.Ytmbiomekbinplaa.Tk Go.Proofs.Ytmbiomekbinplaa.Ti8 Go.Proofs.Ytmbiomekbinplaa.Rw Go.Proofs.Ytmbiomekbinplaa.Meas Go.Proofs.Ytmbiomekbinplaa.Fw8
set_option linter.unusedVariables false
set_option linter.unusedSimpArgs false

open Go.Proofs.Ytmbiomekbinplaa.Fx8 Go.ChangeShapes Go.WideShapes Go.WideElems
theorem jnG_len64 (a b : List Int) : (jnL a b).length ≤ 64 := by
  cases h : jnG a b
  · rw [jnL_no h]; exact Nat.zero_le _
  · rw [jnL_yes h, List.length_append]; exact (jnG_iff.1 h).2.2
set_option maxHeartbeats 2000000 in
theorem joinI (A : Option Addr) (n c : Nat) (zs : List Int) (A2 : Option Addr) (m c2 : Nat) (xs : List Int) (w : World) (hn : zs.length = n) (hb : n ≤ 1048576) (hm : xs.length = m) (hb2 : m ≤ 1048576) (hr : Rd w w.heap.size A (ints zs)) (hx : Rd w w.heap.size A2 (ints xs)) :
    Calls Try.prog 20 #[.slice A n c, .slice A2 m c2] w (RowP w (jnL zs xs) (jnG zs xs)) := by
  have N := Lib.hid hn
  have M := Lib.hid hm
  have C1N := Lib.hid (fun h => whole_no A n c zs w.heap.size w hn hb hr h)
  have C1Y := Lib.hid (fun h => whole_yes A n c zs w hn hb hr h)
  have C2N := Lib.hid (fun (W : World) (hW : Below w.heap.size w W) h => whole_no A2 m c2 xs W.heap.size W hm hb2 ((hx.below hW).more hW.size) h)
  have C2Y := Lib.hid (fun (W : World) (hW : Below w.heap.size w W) h => whole_yes A2 m c2 xs W hm hb2 ((hx.below hW).more hW.size) h)
  cases h1 : tk zs
  · have FG := Lib.hid (jnG_no (a := zs) (b := xs) (by rw [h1]; intro h; cases h.1))
    rw [jnL_no FG.out, FG.out]
    have D1 := Lib.hid (C1N.out h1)
    cases h2 : tk xs
    · have D2 := Lib.hid (C2N.out w (Below.refl _ _) h2)
      clear hn hm hr hx h1 h2 C1N C1Y C2N C2Y
      go_enter Try.func20, Try.ntmps20
      go_wp2_with fail
      refine D1.out.mono ?_
      rintro e w' ⟨rfl, rfl⟩
      go_wp2_with fail
      refine D2.out.mono ?_
      rintro e w' ⟨rfl, rfl⟩
      go_wp2_with fail
      go_ret2
      exact rowP_nil w
    · have D2 := Lib.hid (C2Y.out w (Below.refl _ _) h2)
      clear hn hm hr hx h1 h2 C1N C1Y C2N C2Y
      go_enter Try.func20, Try.ntmps20
      go_wp2_with fail
      refine D1.out.mono ?_
      rintro e w' ⟨rfl, rfl⟩
      go_wp2_with fail
      refine D2.out.mono ?_
      rintro e w1 ⟨g, rfl, ho, hb1⟩
      rw [M.out]
      have BB := Lib.hid hb1
      clear ho hb1
      go_wp2_with fail
      go_ret2
      exact RowP.from (rowP_nil w1) BB.out
  have D1 := Lib.hid (C1Y.out h1)
  cases h2 : tk xs
  · have FG := Lib.hid (jnG_no (a := zs) (b := xs) (by rw [h2]; intro h; cases h.2.1))
    rw [jnL_no FG.out, FG.out]
    have D2 := Lib.hid (fun W hW => C2N.out W hW h2)
    clear hn hm hr hx h1 h2 C1N C1Y C2N C2Y
    go_enter Try.func20, Try.ntmps20
    go_wp2_with fail
    refine D1.out.mono ?_
    rintro e w1 ⟨g, rfl, ho, hb1⟩
    rw [N.out]
    have BB := Lib.hid hb1
    clear ho hb1
    go_wp2_with fail
    refine (D2.out _ BB.out).mono ?_
    rintro e w' ⟨rfl, rfl⟩
    go_wp2_with fail
    go_ret2
    exact RowP.from (rowP_nil w1) BB.out
  have D2 := Lib.hid (fun W hW => C2Y.out W hW h2)
  have OK := Lib.hid (okM (okT_append.2 ⟨(tk_iff.1 h1).2, (tk_iff.1 h2).2⟩))
  have FN := Lib.hid (show (zs ++ xs).length = n + m by rw [List.length_append, hn, hm])
  by_cases h64 : n + m ≤ 64
  case neg =>
    have FG := Lib.hid (jnG_no (a := zs) (b := xs) (by intro h; omega))
    rw [jnL_no FG.out, FG.out]
    have h65 : 64 < n + m := by omega
    have h66 : (64 : Int) < (n : Int) + (m : Int) := by omega
    clear hn hm hr hx h1 h2 C1N C1Y C2N C2Y h64
    go_enter Try.func20, Try.ntmps20
    go_wp2_with fail
    refine D1.out.mono ?_
    rintro e w1 ⟨g, rfl, ho, hb1⟩
    rw [N.out]
    have BB := Lib.hid hb1
    clear ho hb1
    go_wp2_with fail
    refine (D2.out _ BB.out).mono ?_
    rintro e w2 ⟨g2, rfl, ho, hb2⟩
    rw [M.out]
    have B2 := Lib.hid (BB.out.trans (hb2.mono BB.out.size))
    clear ho hb2
    go_wp2_with fail
    go_ret2
    exact RowP.from (rowP_nil w2) B2.out
  have FG := Lib.hid (jnG_iff.2 ⟨h1, h2, by omega⟩)
  have FL := Lib.hid (jnL_yes FG.out)
  rw [FL.out, FG.out]
  have h66 : ¬ (64 : Int) < (n : Int) + (m : Int) := by omega
  obtain ⟨L, hL⟩ : ∃ L, zs ++ xs = L := ⟨_, rfl⟩
  rw [hL] at FL FN OK ⊢
  have HL := Lib.hid hL
  clear hn hm hr hx h1 h2 C1N C1Y C2N C2Y hL
  go_enter Try.func20, Try.ntmps20
  go_wp2_with fail
  refine D1.out.mono ?_
  rintro e w1 ⟨g, rfl, ho, hb1⟩
  rw [N.out] at ho
  rw [N.out]
  have O1 := Lib.hid ho
  have B1 := Lib.hid hb1
  clear ho hb1
  go_wp2_with fail
  refine (D2.out _ B1.out).mono ?_
  rintro e w2 ⟨g2, rfl, ho, hb2⟩
  rw [M.out] at ho
  rw [M.out]
  have O2 := Lib.hid ho
  have P1 := Lib.hid (owns_below O1.out hb2)
  have B2 := Lib.hid (B1.out.trans (hb2.mono B1.out.size))
  clear ho hb2 O1 B1 D1 D2
  have HP := Lib.hid (show ∀ W, Below w2.heap.size w2 W → Rd W W.heap.size (some ⟨g, 0, none⟩) (fls zs) ∧ Rd W W.heap.size (some ⟨g2, 0, none⟩) (fls xs) from fun W hW => ⟨(Rd.own P1.out).below hW |>.more hW.size, (Rd.own O2.out).below hW |>.more hW.size⟩)
  by_cases hz : n + m = 0
  · obtain rfl : n = 0 := by omega
    obtain rfl : m = 0 := by omega
    have hL0 : L = [] := List.eq_nil_of_length_eq_zero FN.out
    subst hL0
    go_wp2_with fail
    refine (Cc8.concatN w2.heap.size 0 ⟨g, 0, none⟩ ⟨g2, 0, none⟩ 0 0 _ (by go_simp) (by go_simp)).mono ?_
    rintro e w3 ⟨rfl, hb3⟩
    have B3 := Lib.hid (show Below w2.heap.size w2 w3 from by first | exact hb3 | exact Below.trans (by go_grown) (hb3.mono (by simp)))
    clear hb3
    go_wp2_with fail
    refine (toldTrack _ 0 _ [] _ rfl (by omega) (Rd.nil _ _ _) (fun z h => by cases h)).mono ?_
    rintro e w4 ⟨g4, c4, rfl, ho, hb4⟩
    have K := Lib.hid (And.intro ho hb4)
    clear ho hb4
    go_wp2_with fail
    go_ret2
    exact RowP.from ⟨g4, c4, rfl, K.out.1, K.out.2⟩ (B2.out.trans (B3.out.mono B2.out.size))
  · go_wp2_with fail
    refine (Cc8.concatC w2.heap.size 0 ⟨g, 0, none⟩ ⟨g2, 0, none⟩ n n m m zs xs _ (by go_simp) (by go_simp) N.out M.out hb hb2 (by omega) (HP.out _ (by go_grown)).1 (HP.out _ (by go_grown)).2).mono ?_
    rintro e w3 ⟨g3, c3, rfl, ho3, hb3⟩
    rw [HL.out] at ho3
    have B3 := Lib.hid (show Below w2.heap.size w2 w3 from by first | exact hb3 | exact Below.trans (by go_grown) (hb3.mono (by simp)))
    have O3 := Lib.hid (Rd.own ho3)
    clear ho3 hb3 P1 O2 HP
    go_wp2_with fail
    refine (toldTrack _ (n + m) _ L _ FN.out (by omega) O3.out OK.out).mono ?_
    rintro e w4 ⟨g4, c4, rfl, ho, hb4⟩
    have K := Lib.hid (And.intro ho hb4)
    clear ho hb4
    go_wp2_with fail
    go_ret2
    exact RowP.from ⟨g4, c4, rfl, K.out.1, K.out.2⟩ (B2.out.trans (B3.out.mono B2.out.size))

end Go.Proofs.Ytmbiomekbinplaa.Jn8
