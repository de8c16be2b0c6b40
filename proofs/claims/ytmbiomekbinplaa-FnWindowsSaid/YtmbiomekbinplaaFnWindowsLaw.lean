/- The law FnWindows holds at every input. The step from the walk to the row follows the guide's own template. -/
import Derived.Test.YtmbiomekbinplaaMem
import Derived.Test.YtmbiomekbinplaaDr8
import Derived.Test.YtmbiomekbinplaaWn8
import Derived.Test.YtmbiomekbinplaaJn8
import Derived.Test.YtmbiomekbinplaaSm8
import Derived.Test.YtmbiomekbinplaaSt8
import Derived.Test.YtmbiomekbinplaaLe5
import Derived.Test.YtmbiomekbinplaaTakeC
import Derived.Deep.RegionHeld3
import Derived.BigQuiet
namespace Go.Proofs.Ytmbiomekbinplaa.fnWindows
open Go.ChangeShapes Go.WideShapes Go.ChangeAt Go.RowKit Go.WideMaps Go.WideElems Go.Proofs.Ytmbiomekbinplaa.Mem
open Go.ChangeMaps (open_string shut_string)
set_option linter.unusedVariables false
set_option linter.unusedSimpArgs false

theorem own : ownKnob Try.prog.godebug = none := by kernel_rfl
theorem laidOut : laidOutB Try.prog = true := by kernel_rfl

open Go.Proofs.Ytmbiomekbinplaa.Rw Go.Proofs.Ytmbiomekbinplaa.Tk Go.Proofs.Ytmbiomekbinplaa.Dr8 
open Go.Proofs.Ytmbiomekbinplaa.Rw (owns_below owns_grown owns_base)

theorem stp_up (zs : List Int) (k : Nat) : stp zs k ≤ stp zs (k + 1) := by simp only [stp]; omega
theorem stp_mono (zs : List Int) (k : Nat) : ∀ d, stp zs k ≤ stp zs (k + d)
  | 0 => Int.le_refl _
  | d + 1 => Int.le_trans (stp_mono zs k d) (stp_up zs (k + d))
theorem stp_le (zs : List Int) {k m : Nat} (h : k ≤ m) : stp zs k ≤ stp zs m := by
  obtain ⟨d, rfl⟩ := Nat.exists_eq_add_of_le h
  exact stp_mono zs k d
theorem stp_zero (zs : List Int) (k : Nat) : 0 ≤ stp zs k := stp_le zs (k := 0) (Nat.zero_le _)
theorem win_getD (zs : List Int) (i j k : Nat) (h : i + k < j) : ((zs.take j).drop i).getD k 0 = zs.getD (i + k) 0 := by
  rw [List.getD_eq_getElem?_getD, List.getD_eq_getElem?_getD, List.getElem?_drop, List.getElem?_take_of_lt h]
theorem stp_win (zs : List Int) (i j : Nat) : ∀ k, i + k < j → stp ((zs.take j).drop i) k ≤ stp zs (i + k)
  | 0, _ => stp_zero zs _
  | k + 1, h => by
    have h1 := stp_win zs i j k (by omega)
    have h2 := win_getD zs i j k (by omega)
    have h3 := win_getD zs i j (k + 1) h
    rw [← Nat.add_assoc] at h3 ⊢
    simp only [stp]
    rw [h2, h3]
    omega
theorem win_len (zs : List Int) {i j : Nat} (h : j ≤ zs.length) : ((zs.take j).drop i).length = j - i := by rw [List.length_drop, List.length_take]; omega
theorem stp_part (zs : List Int) {i j : Nat} (h1 : i ≤ j) (h2 : j ≤ zs.length) : stp ((zs.take j).drop i) (((zs.take j).drop i).length - 1) ≤ stp zs (zs.length - 1) := by
  rw [win_len zs h2]
  by_cases h : i = j
  · subst h
    rw [Nat.sub_self]
    exact stp_zero zs _
  · exact Int.le_trans (stp_win zs i j (j - i - 1) (by omega)) (stp_le zs (by omega))
theorem win_two (zs : List Int) {i j : Nat} (h : i ≤ j) : zs.take i ++ (zs.take j).drop i = zs.take j := by
  have := List.take_append_drop i (zs.take j)
  rwa [List.take_take, Nat.min_eq_left h] at this
theorem win_tot (zs : List Int) {i j : Nat} (h : i ≤ j) : tot (zs.take i) + tot ((zs.take j).drop i) + tot (zs.drop j) = tot zs := by
  rw [← tot_append, win_two zs h, ← tot_append, List.take_append_drop]
theorem tk_take {zs : List Int} (h : tk zs = true) (i : Nat) : tk (zs.take i) = true := tk_yes (by have := (tk_iff.1 h).1; rw [List.length_take]; omega) (okT_take (tk_iff.1 h).2 i)
theorem tk_drop {zs : List Int} (h : tk zs = true) (i : Nat) : tk (zs.drop i) = true := tk_yes (by have := (tk_iff.1 h).1; rw [List.length_drop]; omega) (fun z hz => (tk_iff.1 h).2 z (List.mem_of_mem_drop hz))

set_option maxHeartbeats 4000000 in
set_option maxRecDepth 100000 in
theorem walk (A : Option Addr) (n c : Nat) (bs : List UInt8) (hn : bs.length = n) (hm : n ≤ maxLen) (w : World) (hr : Rd w w.heap.size A (Draw.u8s bs)) :
    Calls Try.prog 5 #[.slice A n c] w fun e w' => e = .returned (.bool true) ∧ Below w.heap.size w w' := by
  have hu : undef = Value.tuple #[] := rfl
  by_cases hbig : (n : Int) ≤ 4096
  · have D := Lib.hid (drawW w A n c bs hn (by omega) hr)
    clear hm
    go_enter Try.func5, Try.ntmps5
    go_wp2_with (go_at_call 8; go_enter Try.func8, Try.ntmps8)
    refine D.out.mono ?_
    rintro e wd0 ⟨zs, q, gZ, cZ, a, b, hl, hq, wa, wb, rfl, hR, hB⟩
    cases ht : tk zs
    · have hr9 : wnG zs a b = false := wnG_no (fun h => by rw [ht] at h; cases h.1)
      have BB := Lib.hid hB
      have Z := Lib.hid (Rd.own hR)
      obtain ⟨H, hH⟩ : ∃ H, wnL zs a b = H := ⟨_, rfl⟩
      obtain ⟨N, hHl⟩ : ∃ N, H.length = N := ⟨_, rfl⟩
      have hHle : N ≤ 65 := by have := wnL_len zs a b; rw [hH, hHl] at this; omega
      have CT := Lib.hid (fun (W : World) (h : Rd W W.heap.size (some ⟨gZ, 0, none⟩) (ints zs)) => ht ▸ Ti8.trkI (some ⟨gZ, 0, none⟩) q cZ zs W.heap.size W hl (by omega) h)
      have CW1 := Lib.hid (show ∀ (W : World) (h : Rd W W.heap.size (some ⟨gZ, 0, none⟩) (ints zs)), Calls Try.prog 17 #[.slice (some ⟨gZ, 0, none⟩) q cZ, .int .i64 a, .int .i64 b] W (fun e w' => ∃ g c, e = .returned (.tuple #[.slice (some ⟨g, 0, none⟩) N c, .bool false]) ∧ w'.ownsRow W.heap.size 3 1 (.slice (some ⟨g, 0, none⟩) N c) N (ints H) ∧ Below W.heap.size W w') from fun W h => by
        have := Wn8.windowI (some ⟨gZ, 0, none⟩) q cZ zs a b W hl (by omega) h
        rw [hH, hr9] at this
        unfold Fw8.RowP at this
        rw [hHl] at this
        exact this)
      have CW2 := Lib.hid (show ∀ (W : World) (h : Rd W W.heap.size (some ⟨gZ, 0, none⟩) (ints zs)), Calls Try.prog 18 #[.slice (some ⟨gZ, 0, none⟩) q cZ, .int .i64 a, .int .i64 b] W (fun e w' => ∃ g c, e = .returned (.tuple #[.slice (some ⟨g, 0, none⟩) N c, .bool false]) ∧ w'.ownsRow W.heap.size 3 1 (.slice (some ⟨g, 0, none⟩) N c) N (ints H) ∧ Below W.heap.size W w') from fun W h => by
        have := Wn8.windowS gZ q cZ zs a b W hl (by omega) (row_cap hR).1 h
        rw [hH, hr9] at this
        unfold Fw8.RowP at this
        rw [hHl] at this
        exact this)
      clear D hbig hR hB hn hr hH hHl hl hr9 ht
      go_wp2_with fail
      refine (CW1.out _ Z.out).mono ?_
      rintro e wx ⟨gX, cX, rfl, ho, hb⟩
      have X := Lib.hid (Rd.own ho)
      have BB2 := Lib.hid (BB.out.trans (hb.mono BB.out.size))
      clear ho
      have Zn := Lib.hid ((Z.out.below hb).more hb.size)
      clear hb BB Z
      have BB := BB2
      clear BB2
      have Z := Zn
      clear Zn
      go_wp2_with fail
      refine (CW2.out _ Z.out).mono ?_
      rintro e wx ⟨gY, cY, rfl, ho, hb⟩
      have Y := Lib.hid (Rd.own ho)
      have BB2 := Lib.hid (BB.out.trans (hb.mono BB.out.size))
      clear ho
      have Zn := Lib.hid ((Z.out.below hb).more hb.size)
      have Xn := Lib.hid ((X.out.below hb).more hb.size)
      clear hb BB Z X
      have BB := BB2
      clear BB2
      have Z := Zn
      clear Zn
      have X := Xn
      clear Xn
      go_wp2_with fail
      refine (CT.out _ Z.out).mono ?_
      rintro e wz ⟨rfl, rfl⟩
      go_wp2_with fail
      go_ret
      exact ⟨rfl, BB.out⟩
    · cases hr9 : wnG zs a b
      · have h9 : ¬ (0 ≤ a ∧ a ≤ b ∧ b ≤ (q : Int)) := fun h => by
          have := wnG_iff.2 ⟨ht, h.1, h.2.1, by rw [hl]; exact h.2.2⟩
          rw [hr9] at this; cases this
        have BB := Lib.hid hB
        have Z := Lib.hid (Rd.own hR)
        obtain ⟨H, hH⟩ : ∃ H, wnL zs a b = H := ⟨_, rfl⟩
        obtain ⟨N, hHl⟩ : ∃ N, H.length = N := ⟨_, rfl⟩
        have hHle : N ≤ 65 := by have := wnL_len zs a b; rw [hH, hHl] at this; omega
        have CT := Lib.hid (fun (W : World) (h : Rd W W.heap.size (some ⟨gZ, 0, none⟩) (ints zs)) => ht ▸ Ti8.trkI (some ⟨gZ, 0, none⟩) q cZ zs W.heap.size W hl (by omega) h)
        have CW1 := Lib.hid (show ∀ (W : World) (h : Rd W W.heap.size (some ⟨gZ, 0, none⟩) (ints zs)), Calls Try.prog 17 #[.slice (some ⟨gZ, 0, none⟩) q cZ, .int .i64 a, .int .i64 b] W (fun e w' => ∃ g c, e = .returned (.tuple #[.slice (some ⟨g, 0, none⟩) N c, .bool false]) ∧ w'.ownsRow W.heap.size 3 1 (.slice (some ⟨g, 0, none⟩) N c) N (ints H) ∧ Below W.heap.size W w') from fun W h => by
          have := Wn8.windowI (some ⟨gZ, 0, none⟩) q cZ zs a b W hl (by omega) h
          rw [hH, hr9] at this
          unfold Fw8.RowP at this
          rw [hHl] at this
          exact this)
        have CW2 := Lib.hid (show ∀ (W : World) (h : Rd W W.heap.size (some ⟨gZ, 0, none⟩) (ints zs)), Calls Try.prog 18 #[.slice (some ⟨gZ, 0, none⟩) q cZ, .int .i64 a, .int .i64 b] W (fun e w' => ∃ g c, e = .returned (.tuple #[.slice (some ⟨g, 0, none⟩) N c, .bool false]) ∧ w'.ownsRow W.heap.size 3 1 (.slice (some ⟨g, 0, none⟩) N c) N (ints H) ∧ Below W.heap.size W w') from fun W h => by
          have := Wn8.windowS gZ q cZ zs a b W hl (by omega) (row_cap hR).1 h
          rw [hH, hr9] at this
          unfold Fw8.RowP at this
          rw [hHl] at this
          exact this)
        clear D hbig hR hB hn hr hH hHl hl hr9 ht
        go_wp2_with fail
        refine (CW1.out _ Z.out).mono ?_
        rintro e wx ⟨gX, cX, rfl, ho, hb⟩
        have X := Lib.hid (Rd.own ho)
        have BB2 := Lib.hid (BB.out.trans (hb.mono BB.out.size))
        clear ho
        have Zn := Lib.hid ((Z.out.below hb).more hb.size)
        clear hb BB Z
        have BB := BB2
        clear BB2
        have Z := Zn
        clear Zn
        go_wp2_with fail
        refine (CW2.out _ Z.out).mono ?_
        rintro e wx ⟨gY, cY, rfl, ho, hb⟩
        have Y := Lib.hid (Rd.own ho)
        have BB2 := Lib.hid (BB.out.trans (hb.mono BB.out.size))
        clear ho
        have Zn := Lib.hid ((Z.out.below hb).more hb.size)
        have Xn := Lib.hid ((X.out.below hb).more hb.size)
        clear hb BB Z X
        have BB := BB2
        clear BB2
        have Z := Zn
        clear Zn
        have X := Xn
        clear Xn
        go_wp2_with fail
        refine (CT.out _ Z.out).mono ?_
        rintro e wz ⟨rfl, rfl⟩
        by_cases ha : a < 0
        · have x1 : decide (a < 0) = true := decide_eq_true ha
          go_wp2_with fail
          go_ret
          exact ⟨rfl, BB.out⟩
        · have x1 : decide (a < 0) = false := decide_eq_false ha
          by_cases hb : b < a
          · have x2 : decide (b < a) = true := decide_eq_true hb
            go_wp2_with fail
            go_ret
            exact ⟨rfl, BB.out⟩
          · have x2 : decide (b < a) = false := decide_eq_false hb
            have hc : (q : Int) < b := by omega
            have x3 : decide ((q : Int) < b) = true := decide_eq_true hc
            go_wp2_with fail
            go_ret
            exact ⟨rfl, BB.out⟩
      · obtain ⟨_, ha0, hab, hbl⟩ := wnG_iff.1 hr9
        rw [hl] at hbl
        obtain ⟨i, rfl⟩ := Int.eq_ofNat_of_zero_le ha0
        obtain ⟨j, rfl⟩ := Int.eq_ofNat_of_zero_le (show 0 ≤ b from by omega)
        have hij : i ≤ j := by omega
        have hjq : j ≤ q := by omega
        have BB := Lib.hid hB
        have Z := Lib.hid (Rd.own hR)
        obtain ⟨H, hH⟩ : ∃ H, wnL zs (i : Int) (j : Int) = H := ⟨_, rfl⟩
        obtain ⟨N, hHl⟩ : ∃ N, H.length = N := ⟨_, rfl⟩
        have hHle : N ≤ 65 := by have := wnL_len zs (i : Int) (j : Int); rw [hH, hHl] at this; omega
        have CT := Lib.hid (fun (W : World) (h : Rd W W.heap.size (some ⟨gZ, 0, none⟩) (ints zs)) => ht ▸ Ti8.trkI (some ⟨gZ, 0, none⟩) q cZ zs W.heap.size W hl (by omega) h)
        have hHw : H = (zs.take j).drop i := by rw [← hH, wnL_yes hr9, Int.toNat_natCast, Int.toNat_natCast]
        have hq64 : q ≤ 64 := by rw [← hl]; exact (tk_iff.1 ht).1
        obtain ⟨X, hX⟩ : ∃ X, zs.take i = X := ⟨_, rfl⟩
        obtain ⟨Y, hY⟩ : ∃ Y, zs.drop j = Y := ⟨_, rfl⟩
        obtain ⟨P, hP⟩ : ∃ P, zs.take j = P := ⟨_, rfl⟩
        have hXl : X.length = i := by rw [← hX, List.length_take]; omega
        have hYl : Y.length = q - j := by rw [← hY, List.length_drop]; omega
        have hPl : P.length = j := by rw [← hP, List.length_take]; omega
        have hN : N = j - i := by rw [← hHl, hHw]; rw [win_len zs (by omega)]
        have tX : tk X = true := by rw [← hX]; exact tk_take ht i
        have tY : tk Y = true := by rw [← hY]; exact tk_drop ht j
        have tP : tk P = true := by rw [← hP]; exact tk_take ht j
        have tH : tk H = true := by rw [hHw]; exact tk_drop (tk_take ht j) i
        have g1 : wnG zs 0 (i : Int) = true := wnG_iff.2 ⟨ht, by omega, by omega, by omega⟩
        have l1 : wnL zs 0 (i : Int) = X := by rw [wnL_yes g1, Int.toNat_natCast, ← hX]; rfl
        have g2 : wnG zs (j : Int) (q : Int) = true := wnG_iff.2 ⟨ht, by omega, by omega, by omega⟩
        have l2 : wnL zs (j : Int) (q : Int) = Y := by rw [wnL_yes g2, Int.toNat_natCast, Int.toNat_natCast, ← hl, List.take_length, hY]
        have g3 : jnG X H = true := jnG_iff.2 ⟨tX, tH, by omega⟩
        have l3 : jnL X H = P := by rw [jnL_yes g3, ← hX, hHw, win_two zs hij, hP]
        have g4 : jnG P Y = true := jnG_iff.2 ⟨tP, tY, by omega⟩
        have l4 : jnL P Y = zs := by rw [jnL_yes g4, ← hP, ← hY, List.take_append_drop]
        obtain ⟨sx, hsx⟩ : ∃ v, smV X = v := ⟨_, rfl⟩
        obtain ⟨sw, hsw⟩ : ∃ v, smV H = v := ⟨_, rfl⟩
        obtain ⟨sy, hsy⟩ : ∃ v, smV Y = v := ⟨_, rfl⟩
        obtain ⟨st, hst⟩ : ∃ v, smV zs = v := ⟨_, rfl⟩
        obtain ⟨pw, hpw⟩ : ∃ v, stV H = v := ⟨_, rfl⟩
        obtain ⟨pl, hpl⟩ : ∃ v, stV zs = v := ⟨_, rfl⟩
        have bx := hsx ▸ smV_bound X
        have bw := hsw ▸ smV_bound H
        have by9 := hsy ▸ smV_bound Y
        have hsum : sx + sw + sy = st := by
          rw [← hsx, ← hsw, ← hsy, ← hst, smV_yes tX, smV_yes tH, smV_yes tY, smV_yes ht, hHw, ← hX, ← hY]
          exact win_tot zs hij
        have hstp : pw ≤ pl := by
          rw [← hpw, ← hpl, stV_yes tH, stV_yes ht, hHw]
          exact stp_part zs hij (by omega)
        have CW1 := Lib.hid (show ∀ (W : World) (h : Rd W W.heap.size (some ⟨gZ, 0, none⟩) (ints zs)), Calls Try.prog 17 #[.slice (some ⟨gZ, 0, none⟩) q cZ, .int .i64 (i : Int), .int .i64 (j : Int)] W (fun e w' => ∃ g c, e = .returned (.tuple #[.slice (some ⟨g, 0, none⟩) N c, .bool true]) ∧ w'.ownsRow W.heap.size 3 1 (.slice (some ⟨g, 0, none⟩) N c) N (ints H) ∧ Below W.heap.size W w') from fun W h => by
          have := Wn8.windowI (some ⟨gZ, 0, none⟩) q cZ zs (i : Int) (j : Int) W hl (by omega) h
          rw [hH, hr9] at this
          unfold Fw8.RowP at this
          rw [hHl] at this
          exact this)
        have CW2 := Lib.hid (show ∀ (W : World) (h : Rd W W.heap.size (some ⟨gZ, 0, none⟩) (ints zs)), Calls Try.prog 18 #[.slice (some ⟨gZ, 0, none⟩) q cZ, .int .i64 (i : Int), .int .i64 (j : Int)] W (fun e w' => ∃ g c, e = .returned (.tuple #[.slice (some ⟨g, 0, none⟩) N c, .bool true]) ∧ w'.ownsRow W.heap.size 3 1 (.slice (some ⟨g, 0, none⟩) N c) N (ints H) ∧ Below W.heap.size W w') from fun W h => by
          have := Wn8.windowS gZ q cZ zs (i : Int) (j : Int) W hl (by omega) (row_cap hR).1 h
          rw [hH, hr9] at this
          unfold Fw8.RowP at this
          rw [hHl] at this
          exact this)
        have CW3 := Lib.hid (show ∀ (W : World) (h : Rd W W.heap.size (some ⟨gZ, 0, none⟩) (ints zs)), Calls Try.prog 17 #[.slice (some ⟨gZ, 0, none⟩) q cZ, .int .i64 0, .int .i64 i] W (fun e w' => ∃ g c, e = .returned (.tuple #[.slice (some ⟨g, 0, none⟩) i c, .bool true]) ∧ w'.ownsRow W.heap.size 3 1 (.slice (some ⟨g, 0, none⟩) i c) i (ints X) ∧ Below W.heap.size W w') from fun W h => by
          have := Wn8.windowI (some ⟨gZ, 0, none⟩) q cZ zs 0 (i : Int) W hl (by omega) h
          rw [l1, g1] at this
          unfold Fw8.RowP at this
          rw [hXl] at this
          exact this)
        have CW4 := Lib.hid (show ∀ (W : World) (h : Rd W W.heap.size (some ⟨gZ, 0, none⟩) (ints zs)), Calls Try.prog 17 #[.slice (some ⟨gZ, 0, none⟩) q cZ, .int .i64 j, .int .i64 q] W (fun e w' => ∃ g c, e = .returned (.tuple #[.slice (some ⟨g, 0, none⟩) (q - j) c, .bool true]) ∧ w'.ownsRow W.heap.size 3 1 (.slice (some ⟨g, 0, none⟩) (q - j) c) (q - j) (ints Y) ∧ Below W.heap.size W w') from fun W h => by
          have := Wn8.windowI (some ⟨gZ, 0, none⟩) q cZ zs (j : Int) (q : Int) W hl (by omega) h
          rw [l2, g2] at this
          unfold Fw8.RowP at this
          rw [hYl] at this
          exact this)
        have CJ1 := Lib.hid (show ∀ (g c g2 c2 : Nat) (W : World) (h : Rd W W.heap.size (some ⟨g, 0, none⟩) (ints X)) (h2 : Rd W W.heap.size (some ⟨g2, 0, none⟩) (ints H)), Calls Try.prog 20 #[.slice (some ⟨g, 0, none⟩) i c, .slice (some ⟨g2, 0, none⟩) N c2] W (fun e w' => ∃ g9 c9, e = .returned (.tuple #[.slice (some ⟨g9, 0, none⟩) j c9, .bool true]) ∧ w'.ownsRow W.heap.size 3 1 (.slice (some ⟨g9, 0, none⟩) j c9) j (ints P) ∧ Below W.heap.size W w') from fun g c g2 c2 W h h2 => by
          have := Jn8.joinI (some ⟨g, 0, none⟩) i c X (some ⟨g2, 0, none⟩) N c2 H W hXl (by omega) hHl (by omega) h h2
          rw [l3, g3] at this
          unfold Fw8.RowP at this
          rw [hPl] at this
          exact this)
        have CJ2 := Lib.hid (show ∀ (g c g2 c2 : Nat) (W : World) (h : Rd W W.heap.size (some ⟨g, 0, none⟩) (ints P)) (h2 : Rd W W.heap.size (some ⟨g2, 0, none⟩) (ints Y)), Calls Try.prog 20 #[.slice (some ⟨g, 0, none⟩) j c, .slice (some ⟨g2, 0, none⟩) (q - j) c2] W (fun e w' => ∃ g9 c9, e = .returned (.tuple #[.slice (some ⟨g9, 0, none⟩) q c9, .bool true]) ∧ w'.ownsRow W.heap.size 3 1 (.slice (some ⟨g9, 0, none⟩) q c9) q (ints zs) ∧ Below W.heap.size W w') from fun g c g2 c2 W h h2 => by
          have := Jn8.joinI (some ⟨g, 0, none⟩) j c P (some ⟨g2, 0, none⟩) (q - j) c2 Y W hPl (by omega) hYl (by omega) h h2
          rw [l4, g4] at this
          unfold Fw8.RowP at this
          rw [hl] at this
          exact this)
        have CS1 := Lib.hid (show ∀ (g c : Nat) (W : World) (h : Rd W W.heap.size (some ⟨g, 0, none⟩) (ints X)), Calls Try.prog 21 #[.slice (some ⟨g, 0, none⟩) i c] W (fun e w' => e = .returned (.int .i64 sx) ∧ Below W.heap.size W w') from fun g c W h => by
          have := Sm8.sumI (some ⟨g, 0, none⟩) i c X W hXl (by omega) h
          rw [hsx] at this
          exact this)
        have CS2 := Lib.hid (show ∀ (g c : Nat) (W : World) (h : Rd W W.heap.size (some ⟨g, 0, none⟩) (ints H)), Calls Try.prog 21 #[.slice (some ⟨g, 0, none⟩) N c] W (fun e w' => e = .returned (.int .i64 sw) ∧ Below W.heap.size W w') from fun g c W h => by
          have := Sm8.sumI (some ⟨g, 0, none⟩) N c H W hHl (by omega) h
          rw [hsw] at this
          exact this)
        have CS3 := Lib.hid (show ∀ (g c : Nat) (W : World) (h : Rd W W.heap.size (some ⟨g, 0, none⟩) (ints Y)), Calls Try.prog 21 #[.slice (some ⟨g, 0, none⟩) (q - j) c] W (fun e w' => e = .returned (.int .i64 sy) ∧ Below W.heap.size W w') from fun g c W h => by
          have := Sm8.sumI (some ⟨g, 0, none⟩) (q - j) c Y W hYl (by omega) h
          rw [hsy] at this
          exact this)
        have CS4 := Lib.hid (show ∀ (g c : Nat) (W : World) (h : Rd W W.heap.size (some ⟨g, 0, none⟩) (ints zs)), Calls Try.prog 21 #[.slice (some ⟨g, 0, none⟩) q c] W (fun e w' => e = .returned (.int .i64 st) ∧ Below W.heap.size W w') from fun g c W h => by
          have := Sm8.sumI (some ⟨g, 0, none⟩) q c zs W hl (by omega) h
          rw [hst] at this
          exact this)
        have CS5 := Lib.hid (show ∀ (g c : Nat) (W : World) (h : Rd W W.heap.size (some ⟨g, 0, none⟩) (ints H)), Calls Try.prog 22 #[.slice (some ⟨g, 0, none⟩) N c] W (fun e w' => e = .returned (.int .i64 pw) ∧ Below W.heap.size W w') from fun g c W h => by
          have := St8.stepI (some ⟨g, 0, none⟩) N c H W hHl (by omega) h
          rw [hpw] at this
          exact this)
        have CS6 := Lib.hid (show ∀ (g c : Nat) (W : World) (h : Rd W W.heap.size (some ⟨g, 0, none⟩) (ints zs)), Calls Try.prog 22 #[.slice (some ⟨g, 0, none⟩) q c] W (fun e w' => e = .returned (.int .i64 pl) ∧ Below W.heap.size W w') from fun g c W h => by
          have := St8.stepI (some ⟨g, 0, none⟩) q c zs W hl (by omega) h
          rw [hpl] at this
          exact this)
        have HL := Lib.hid hl
        have SS := Lib.hid hsum
        have d1 : (st == st) = true := by simp
        have d2 : decide (pw ≤ pl) = true := decide_eq_true hstp
        clear D hbig hR hB hn hr hH hHl hl hr9 ht hHw hX hY hP hXl hYl hPl hN tX tY tP tH g1 l1 g2 l2 g3 l3 g4 l4 hsx hsw hsy hst hpw hpl hsum ha0 hab hbl
        go_wp2_with fail
        refine (CW1.out _ Z.out).mono ?_
        rintro e wx ⟨gX, cX, rfl, ho, hb⟩
        have X := Lib.hid (Rd.own ho)
        have BB2 := Lib.hid (BB.out.trans (hb.mono BB.out.size))
        clear ho
        have Zn := Lib.hid ((Z.out.below hb).more hb.size)
        clear hb BB Z
        have BB := BB2
        clear BB2
        have Z := Zn
        clear Zn
        go_wp2_with fail
        refine (CW2.out _ Z.out).mono ?_
        rintro e wx ⟨gY, cY, rfl, ho, hb⟩
        have Y := Lib.hid (Rd.own ho)
        have BB2 := Lib.hid (BB.out.trans (hb.mono BB.out.size))
        clear ho
        have Zn := Lib.hid ((Z.out.below hb).more hb.size)
        have Xn := Lib.hid ((X.out.below hb).more hb.size)
        clear hb BB Z X
        have BB := BB2
        clear BB2
        have Z := Zn
        clear Zn
        have X := Xn
        clear Xn
        go_wp2_with fail
        refine (CT.out _ Z.out).mono ?_
        rintro e wz ⟨rfl, rfl⟩
        go_wp2_with fail
        refine (CW3.out _ Z.out).mono ?_
        rintro e wx ⟨gU, cU, rfl, ho, hb⟩
        have U := Lib.hid (Rd.own ho)
        have BB2 := Lib.hid (BB.out.trans (hb.mono BB.out.size))
        clear ho
        have Zn := Lib.hid ((Z.out.below hb).more hb.size)
        have Xn := Lib.hid ((X.out.below hb).more hb.size)
        clear hb BB Z X
        have BB := BB2
        clear BB2
        have Z := Zn
        clear Zn
        have X := Xn
        clear Xn
        go_wp2_with fail
        refine (CW4.out _ Z.out).mono ?_
        rintro e wx ⟨gV, cV, rfl, ho, hb⟩
        have V := Lib.hid (Rd.own ho)
        have BB2 := Lib.hid (BB.out.trans (hb.mono BB.out.size))
        clear ho
        have Zn := Lib.hid ((Z.out.below hb).more hb.size)
        have Xn := Lib.hid ((X.out.below hb).more hb.size)
        have Un := Lib.hid ((U.out.below hb).more hb.size)
        clear hb BB Z X U
        have BB := BB2
        clear BB2
        have Z := Zn
        clear Zn
        have X := Xn
        clear Xn
        have U := Un
        clear Un
        go_wp2_with fail
        refine (CJ1.out _ _ _ _ _ U.out X.out).mono ?_
        rintro e wx ⟨gP, cP, rfl, ho, hb⟩
        have P1 := Lib.hid (Rd.own ho)
        have BB2 := Lib.hid (BB.out.trans (hb.mono BB.out.size))
        clear ho
        have Zn := Lib.hid ((Z.out.below hb).more hb.size)
        have Xn := Lib.hid ((X.out.below hb).more hb.size)
        have Un := Lib.hid ((U.out.below hb).more hb.size)
        have Vn := Lib.hid ((V.out.below hb).more hb.size)
        clear hb BB Z X U V
        have BB := BB2
        clear BB2
        have Z := Zn
        clear Zn
        have X := Xn
        clear Xn
        have U := Un
        clear Un
        have V := Vn
        clear Vn
        go_wp2_with fail
        refine (CJ2.out _ _ _ _ _ P1.out V.out).mono ?_
        rintro e wx ⟨gQ, cQ, rfl, ho, hb⟩
        have Q1 := Lib.hid (Rd.own ho)
        have BB2 := Lib.hid (BB.out.trans (hb.mono BB.out.size))
        clear ho
        have Zn := Lib.hid ((Z.out.below hb).more hb.size)
        have Xn := Lib.hid ((X.out.below hb).more hb.size)
        have Un := Lib.hid ((U.out.below hb).more hb.size)
        have Vn := Lib.hid ((V.out.below hb).more hb.size)
        clear hb BB Z X U V
        have BB := BB2
        clear BB2
        have Z := Zn
        clear Zn
        have X := Xn
        clear Xn
        have U := Un
        clear Un
        have V := Vn
        clear Vn
        go_wp2_with fail
        refine (Le5.intsL _ _ q _ _ zs _ _ HL.out (by omega) Q1.out Z.out).mono ?_
        rintro e wz ⟨rfl, m9, rfl⟩
        have hb := below_drewN (Below.refl wx.heap.size wx) m9
        have BB2 := Lib.hid (BB.out.trans (hb.mono BB.out.size))
        have Zn := Lib.hid ((Z.out.below hb).more hb.size)
        have Xn := Lib.hid ((X.out.below hb).more hb.size)
        have Un := Lib.hid ((U.out.below hb).more hb.size)
        have Vn := Lib.hid ((V.out.below hb).more hb.size)
        clear hb BB Z X U V
        have BB := BB2
        clear BB2
        have Z := Zn
        clear Zn
        have X := Xn
        clear Xn
        have U := Un
        clear Un
        have V := Vn
        clear Vn
        obtain ⟨wa9, hwa⟩ : ∃ wa9, World.drewN wx m9 = wa9 := ⟨_, rfl⟩
        rw [hwa] at Z U X V BB ⊢
        clear hwa Q1
        go_wp2_with fail
        refine (CS1.out _ _ _ U.out).mono ?_
        rintro e wx ⟨rfl, hb⟩
        have BB2 := Lib.hid (BB.out.trans (hb.mono BB.out.size))
        have Zn := Lib.hid ((Z.out.below hb).more hb.size)
        have Xn := Lib.hid ((X.out.below hb).more hb.size)
        have Vn := Lib.hid ((V.out.below hb).more hb.size)
        clear hb BB Z X V
        have BB := BB2
        clear BB2
        have Z := Zn
        clear Zn
        have X := Xn
        clear Xn
        have V := Vn
        clear Vn
        go_wp2_with fail
        refine (CS2.out _ _ _ X.out).mono ?_
        rintro e wx ⟨rfl, hb⟩
        have BB2 := Lib.hid (BB.out.trans (hb.mono BB.out.size))
        have Zn := Lib.hid ((Z.out.below hb).more hb.size)
        have Xn := Lib.hid ((X.out.below hb).more hb.size)
        have Vn := Lib.hid ((V.out.below hb).more hb.size)
        clear hb BB Z X V
        have BB := BB2
        clear BB2
        have Z := Zn
        clear Zn
        have X := Xn
        clear Xn
        have V := Vn
        clear Vn
        go_wp2_with fail
        refine (CS3.out _ _ _ V.out).mono ?_
        rintro e wx ⟨rfl, hb⟩
        have BB2 := Lib.hid (BB.out.trans (hb.mono BB.out.size))
        have Zn := Lib.hid ((Z.out.below hb).more hb.size)
        have Xn := Lib.hid ((X.out.below hb).more hb.size)
        clear hb BB Z X
        have BB := BB2
        clear BB2
        have Z := Zn
        clear Zn
        have X := Xn
        clear Xn
        go_wp2_with fail
        refine (CS4.out _ _ _ Z.out).mono ?_
        rintro e wx ⟨rfl, hb⟩
        have BB2 := Lib.hid (BB.out.trans (hb.mono BB.out.size))
        have Zn := Lib.hid ((Z.out.below hb).more hb.size)
        have Xn := Lib.hid ((X.out.below hb).more hb.size)
        clear hb BB Z X
        have BB := BB2
        clear BB2
        have Z := Zn
        clear Zn
        have X := Xn
        clear Xn
        have e9 := SS.out
        go_wp2_with fail
        refine (CS5.out _ _ _ X.out).mono ?_
        rintro e wx ⟨rfl, hb⟩
        have BB2 := Lib.hid (BB.out.trans (hb.mono BB.out.size))
        have Zn := Lib.hid ((Z.out.below hb).more hb.size)
        clear hb BB Z
        have BB := BB2
        clear BB2
        have Z := Zn
        clear Zn
        go_wp2_with fail
        refine (CS6.out _ _ _ Z.out).mono ?_
        rintro e wx ⟨rfl, hb⟩
        have BB2 := Lib.hid (BB.out.trans (hb.mono BB.out.size))
        have Zn := Lib.hid ((Z.out.below hb).more hb.size)
        clear hb BB Z
        have BB := BB2
        clear BB2
        have Z := Zn
        clear Zn
        go_wp2_with fail
        go_ret
        exact ⟨rfl, BB.out⟩
  · have hd : decide (4096 < n) = true := decide_eq_true (by omega)
    clear hn hm hr
    go_enter Try.func5, Try.ntmps5
    go_wp2_with (go_at_call 8; go_enter Try.func8, Try.ntmps8)
    go_returns
    exact ⟨rfl, Below.refl _ _⟩

set_option maxRecDepth 100000 in
theorem lifted (os : Os) (started : os.Started) (H : Type) (enc : TypeId × Value → H) :
    ReturnsInHanded {} Try.checked os 5 .any (Rows.fnWindowsSpec.pre6 enc Try.prog Try.f5 Rows.fnWindowsRow.domain false) (Rows.fnWindowsSpec.post enc Try.prog Try.f5 false true false false) := by
  refine returnsInHanded_of_change (C := Try.checked) own started (by kernel_rfl) Try.func5
    (ChangeSpec.witness6 (enc := enc) (C := Try.checked) false ⟨#[], #[.slice none 0 0], []⟩ 8 (by kernel_rfl) (by kernel_rfl) (by kernel_rfl) (by kernel_rfl)) ?_
  intro W base args ds gs before hval0 hW hcnd hsz
  have hval : ∀ (j : Nat) t v, Try.f5.params[j]? = some t → args[j]? = some v → Value.okWide Try.prog W .any base t v := hval0
  have hW' := hW
  obtain ⟨p, q, hA0, hV, rfl, hfz, hnd⟩ := hW
  have hA1 := hA0
  have hA : DataW.TrodAll enc Try.prog W 0 (fun _ => true) true Try.f5.params.toList args.toList ds p := hA0
  rw [Try.params5] at hA hval
  obtain ⟨v0, vs0, d0, ds0, p0, q0, hargs, rfl, rfl, h0, r0⟩ := trodAll_cons hA
  obtain ⟨rfl, rfl, rfl⟩ := trodAll_nil r0
  obtain rfl : args = #[v0] := by cases args; simp_all
  obtain ⟨rfl, rfl⟩ := trodVars_none hV
  obtain ⟨A0, n0, c0, a0, rfl, l0, m0, g0⟩ := RampFn.take_bytes Try.underlying22 Try.underlying5 (by kernel_rfl) (hval 0 22 v0 rfl rfl) h0
  clear hA0 hval0
  rw [List.append_nil] at hW'
  refine (walk A0 n0 c0 a0 l0 m0 W g0).mono fun e W' ⟨he, hb⟩ => ?_
  subst he
  exact ⟨_, rfl, post_law rfl hW' hA1 laidOut (by rw [Try.params5]; exact of_decide_eq_true (by kernel_rfl)) 4 (by kernel_rfl) Try.underlying4 rfl hb⟩

theorem over : Rows.fnWindowsRow.holds Try.pinned (OpenSpec.ofChange Rows.fnWindowsSpec) :=
  OpenClaim.holds_of_wide 5 Try.f5 rfl rfl rfl rfl rfl rfl rfl ⟨rfl, rfl, rfl, rfl, rfl⟩ rfl rfl rfl rfl rfl (by kernel_rfl) Try.func5 (by kernel_rfl)
    (of_decide_eq_true (by kernel_rfl)) (by unfold Func.isWrapper; first | (rw [if_pos (by decide +kernel)]; kernel_rfl) | (rw [if_neg (by decide +kernel)]; exact ⟨rfl, rfl⟩))
    (fun os started H enc _ => lifted os started H enc)

/-- The statement. -/
theorem proved : Rows.FnWindowsSaid :=
  over
#print axioms proved
end Go.Proofs.Ytmbiomekbinplaa.fnWindows
