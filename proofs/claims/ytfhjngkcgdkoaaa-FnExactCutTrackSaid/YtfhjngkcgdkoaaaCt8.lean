/- A track that is cut, of the program and of the model. -/
import Derived.Test.YtfhjngkcgdkoaaaFx8
namespace Go.Proofs.Ytfhjngkcgdkoaaa.Ct8
open Go.RowKit Go.Proofs.Ytfhjngkcgdkoaaa.Mem Go.Proofs.Ytfhjngkcgdkoaaa.Tk Go.Proofs.Ytfhjngkcgdkoaaa.Ti8 Go.Proofs.Ytfhjngkcgdkoaaa.Rw Go.Proofs.Ytfhjngkcgdkoaaa.Meas Go.Proofs.Ytfhjngkcgdkoaaa.Fw8
set_option linter.unusedVariables false
set_option linter.unusedSimpArgs false

open Go.Proofs.Ytfhjngkcgdkoaaa.Fx8
set_option maxHeartbeats 1000000 in
theorem cutI (A : Option Addr) (n c : Nat) (zs : List Int) (m : Int) (w : World) (hn : zs.length = n) (hb : n ≤ 1048576) (hr : Rd w w.heap.size A (ints zs)) :
    Calls Try.prog 45 #[.slice A n c, .int .i64 m] w (RowI w (ctV zs m)) := by
  have N := Lib.hid hn
  cases ht : tk zs
  · have C := Lib.hid (whole_no A n c zs w.heap.size w hn hb hr ht)
    have FG := Lib.hid (ctV_no (zs := zs) (m := m) (by rw [ht]; intro h; cases h.1))
    clear hn hr ht
    go_enter Try.func45, Try.ntmps45
    go_wp2_with fail
    refine C.out.mono ?_
    rintro e w' ⟨rfl, rfl⟩
    go_wp2_with fail
    go_ret
    rw [FG.out]; exact row_nil w
  have C := Lib.hid (whole_yes A n c zs w hn hb hr ht)
  by_cases hm : m < 0
  · have FG := Lib.hid (ctV_no (zs := zs) (m := m) (fun c => by omega))
    clear hn hr ht
    go_enter Try.func45, Try.ntmps45
    go_wp2_with fail
    refine C.out.mono ?_
    rintro e w1 ⟨g, rfl, ho, hb1⟩
    rw [N.out]
    have BB := Lib.hid hb1
    clear ho hb1
    go_wp2_with fail
    go_ret
    rw [FG.out]; exact RowI.from (row_nil w1) BB.out
  have hm0 : 0 ≤ m := by omega
  have D := Lib.hid (tk_iff.1 ht).2
  have CN := Lib.hid (fun l => (ct_len zs l).trans hn)
  by_cases hm32 : 32 < m
  · have FL := Lib.hid (show ctV zs m = ct zs 32 by rw [ctV_yes ht hm0, ct_32 D.out, show min m 32 = 32 by omega])
    have OKC := Lib.hid (okM (ct_ok (m := 32) D.out (by omega)))
    have HL := Lib.hid (show (fls zs).length = (fls (ct zs 32)).length by rw [fls_len, fls_len, ct_len])
    have CW := Lib.hid (fun v => wholesOf 32 (by omega) v)
    have CN := Lib.hid (show (ct zs 32).length = n from (ct_len zs 32).trans hn)
    clear hn hr ht
    go_enter Try.func45, Try.ntmps45
    go_wp2_with fail
    refine C.out.mono ?_
    rintro e w1 ⟨g, rfl, ho, hb1⟩
    rw [N.out] at ho
    rw [N.out]
    have WG := Lib.hid (own_at ho)
    have R0 := Lib.hid (show w1.ownsRow w.heap.size 62 1 (.slice (some ⟨g, 0, none⟩) n n) n (mixed (fls (ct zs 32)) (fls zs) 0) by rw [mixed_zero]; exact ho)
    have B0 := Lib.hid hb1
    clear ho hb1 C
    go_wp2_with fail
    refine (CW.out _).mono ?_
    rintro e w' ⟨rfl, rfl⟩
    go_wp2_with fail
    go_loopw [27] (fun i wr => ∃ k : Nat, k ≤ n ∧ i = .int .i64 k ∧ Hid (wr.ownsRow w.heap.size 62 1 (.slice (some ⟨g, 0, none⟩) n n) n (mixed (fls (ct zs 32)) (fls zs) k)) ∧ Hid (Below w.heap.size w wr)) (fun i _ => n - (intOf i).toNat)
    case atStart => exact ⟨0, Nat.zero_le _, rfl, R0, B0⟩
    case round =>
      obtain ⟨k, hk, rfl, RK, BK⟩ := hrel
      by_cases hlt : k < n
      · obtain ⟨z, hz⟩ : ∃ z, zs[k]? = some z := ⟨_, List.getElem?_eq_getElem (by rw [N.out]; exact hlt)⟩
        have hz3 := okT_get D.out hz
        have c1 := (RK.out.cellAt k (by omega)).trans (mixed_at HL.out (Nat.le_refl _) (fls_get hz))
        have f1 := RK.out.frozenAt k
        have M := min32 Try.prog z 32 (by omega) (by omega)
        have hy := fls_get (ct_get (m := 32) hz)
        obtain ⟨r1, r2⟩ := RK.out.stored k (.float .f32 (f32 (min z 32)))
        rw [mixed_put HL.out hy] at r1
        have R1 := Lib.hid r1
        have B1 := Lib.hid (BK.out.grown r2 (by exact BK.out.size) (fun g hg => by cases hg; exact WG.out))
        generalize min z 32 = mz at *
        clear r1 r2 hy RK BK hz R0 B0 hz3
        go_wp2_with fail
        go_roundw
        case rel => exact ⟨k + 1, by omega, by go_num, R1, B1⟩
        case measure => simp [intOf]; omega
      · obtain rfl : k = n := by omega
        have OF := Lib.hid (show wr.ownsRow w.heap.size 62 1 (.slice (some ⟨g, 0, none⟩) k k) k (fls (ct zs 32)) by
          have := RK.out
          rw [show k = (fls (ct zs 32)).length by rw [fls_len, ct_len, N.out], mixed_all HL.out] at this
          rw [show k = (fls (ct zs 32)).length by rw [fls_len, ct_len, N.out]]; exact this)
        have BF := Lib.hid BK.out
        clear RK BK R0 B0
        go_wp2_with fail
        with_reducible refine (toldTrack _ _ _ (ct zs 32) _ (by rw [ct_len]; exact N.out) hb (Rd.own OF.out) OKC.out).mono ?_
        rintro e w2 ⟨g2, c2, rfl, ho, hb2⟩
        rw [CN.out] at ho
        rw [CN.out]
        have K := Lib.hid (And.intro ho hb2)
        clear ho hb2
        go_wp2_with fail
        go_ret
        rw [FL.out]
        exact RowI.from ⟨g2, c2, by rw [CN.out]; rfl, by rw [CN.out]; exact K.out.1, K.out.2⟩ BF.out
  · have FL := Lib.hid (show ctV zs m = ct zs m by rw [ctV_yes ht hm0, ct_32 D.out, show min m 32 = m by omega])
    have OKC := Lib.hid (okM (ct_ok (m := m) D.out (by omega)))
    have HL := Lib.hid (show (fls zs).length = (fls (ct zs m)).length by rw [fls_len, fls_len, ct_len])
    have CW := Lib.hid (fun v => wholesOf m (by omega) v)
    have CN := Lib.hid (show (ct zs m).length = n from (ct_len zs m).trans hn)
    clear hn hr ht
    go_enter Try.func45, Try.ntmps45
    go_wp2_with fail
    refine C.out.mono ?_
    rintro e w1 ⟨g, rfl, ho, hb1⟩
    rw [N.out] at ho
    rw [N.out]
    have WG := Lib.hid (own_at ho)
    have R0 := Lib.hid (show w1.ownsRow w.heap.size 62 1 (.slice (some ⟨g, 0, none⟩) n n) n (mixed (fls (ct zs m)) (fls zs) 0) by rw [mixed_zero]; exact ho)
    have B0 := Lib.hid hb1
    clear ho hb1 C
    go_wp2_with fail
    refine (CW.out _).mono ?_
    rintro e w' ⟨rfl, rfl⟩
    go_wp2_with fail
    go_loopw [27] (fun i wr => ∃ k : Nat, k ≤ n ∧ i = .int .i64 k ∧ Hid (wr.ownsRow w.heap.size 62 1 (.slice (some ⟨g, 0, none⟩) n n) n (mixed (fls (ct zs m)) (fls zs) k)) ∧ Hid (Below w.heap.size w wr)) (fun i _ => n - (intOf i).toNat)
    case atStart => exact ⟨0, Nat.zero_le _, rfl, R0, B0⟩
    case round =>
      obtain ⟨k, hk, rfl, RK, BK⟩ := hrel
      by_cases hlt : k < n
      · obtain ⟨z, hz⟩ : ∃ z, zs[k]? = some z := ⟨_, List.getElem?_eq_getElem (by rw [N.out]; exact hlt)⟩
        have hz3 := okT_get D.out hz
        have c1 := (RK.out.cellAt k (by omega)).trans (mixed_at HL.out (Nat.le_refl _) (fls_get hz))
        have f1 := RK.out.frozenAt k
        have M := min32 Try.prog z m (by omega) (by omega)
        have hy := fls_get (ct_get (m := m) hz)
        obtain ⟨r1, r2⟩ := RK.out.stored k (.float .f32 (f32 (min z m)))
        rw [mixed_put HL.out hy] at r1
        have R1 := Lib.hid r1
        have B1 := Lib.hid (BK.out.grown r2 (by exact BK.out.size) (fun g hg => by cases hg; exact WG.out))
        generalize min z m = mz at *
        clear r1 r2 hy RK BK hz R0 B0 hz3
        go_wp2_with fail
        go_roundw
        case rel => exact ⟨k + 1, by omega, by go_num, R1, B1⟩
        case measure => simp [intOf]; omega
      · obtain rfl : k = n := by omega
        have OF := Lib.hid (show wr.ownsRow w.heap.size 62 1 (.slice (some ⟨g, 0, none⟩) k k) k (fls (ct zs m)) by
          have := RK.out
          rw [show k = (fls (ct zs m)).length by rw [fls_len, ct_len, N.out], mixed_all HL.out] at this
          rw [show k = (fls (ct zs m)).length by rw [fls_len, ct_len, N.out]]; exact this)
        have BF := Lib.hid BK.out
        clear RK BK R0 B0
        go_wp2_with fail
        with_reducible refine (toldTrack _ _ _ (ct zs m) _ (by rw [ct_len]; exact N.out) hb (Rd.own OF.out) OKC.out).mono ?_
        rintro e w2 ⟨g2, c2, rfl, ho, hb2⟩
        rw [CN.out] at ho
        rw [CN.out]
        have K := Lib.hid (And.intro ho hb2)
        clear ho hb2
        go_wp2_with fail
        go_ret
        rw [FL.out]
        exact RowI.from ⟨g2, c2, by rw [CN.out]; rfl, by rw [CN.out]; exact K.out.1, K.out.2⟩ BF.out

set_option maxHeartbeats 1000000 in
theorem cutS (A : Option Addr) (n c : Nat) (zs : List Int) (m : Int) (w : World) (hn : zs.length = n) (hb : n ≤ 1048576) (hr : Rd w w.heap.size A (ints zs)) :
    Calls Try.prog 44 #[.slice A n c, .int .i64 m] w (RowI w (ctV zs m)) := by
  obtain ⟨i0, hi, hz0, hz1, hz2⟩ := info_of infoI
  have N := Lib.hid hn
  have R := Lib.hid hr
  have CT := Lib.hid (fun (W : World) (hW : Below w.heap.size w W) => trkS A n c zs w.heap.size W hn hb (hr.below hW))
  have O1 := Lib.hid (World.ownsRow_lit (base := w.heap.size) (e := 3) (size := 1) w #[] 0 (Nat.le_refl _) (Nat.zero_le _) rfl)
  have B1 := Lib.hid (show Below w.heap.size w (w.alloc (.cells #[] 3)) from (Below.refl _ _).alloc (Nat.le_refl _) _)
  by_cases hg : tk zs = true ∧ 0 ≤ m
  case neg =>
    have FG := Lib.hid (ctV_no hg)
    obtain ⟨r, hrr⟩ : ∃ r, tk zs = r := ⟨_, rfl⟩
    rw [hrr] at CT hg
    have h3 : r = false ∨ r = true ∧ m < 0 := by
      cases r
      · exact Or.inl rfl
      · exact Or.inr ⟨rfl, by have : ¬ 0 ≤ m := fun c => hg ⟨rfl, c⟩; omega⟩
    clear hn hr hg hrr
    rcases h3 with rfl | ⟨rfl, h⟩
    all_goals
      go_enter Try.func44, Try.ntmps44
      go_wp2_with fail
      go_loopw [5, 11] (fun v i wr => ∃ k : Nat, k ≤ n ∧ i = .int .i64 k ∧ v = .slice (some ⟨w.heap.size, 0, none⟩) 0 0 ∧ Hid (wr.ownsRow w.heap.size 3 1 (.slice (some ⟨w.heap.size, 0, none⟩) 0 0) 0 []) ∧ Hid (Below w.heap.size w wr)) (fun _ i _ => n - (intOf i).toNat)
      case atStart => exact ⟨0, Nat.zero_le _, rfl, rfl, O1, B1⟩
      case round =>
        obtain ⟨k, hk, rfl, rfl, OK, BK⟩ := hrel
        by_cases hlt : k < n
        · obtain ⟨z, hz⟩ : ∃ z, zs[k]? = some z := ⟨_, List.getElem?_eq_getElem (by rw [N.out]; exact hlt)⟩
          obtain ⟨b1, o1, eA, hb1, c1⟩ := rd_i (R.out.below BK.out) hz
          clear hz hb1 O1 B1
          subst eA
          go_wp2_with fail
          refine (CT.out _ BK.out).mono ?_
          rintro e w' ⟨rfl, rfl⟩
          go_wp2_with fail
          go_roundw
          case rel => exact ⟨k + 1, by omega, by go_num, rfl, OK, BK⟩
          case measure => simp [intOf]; omega
        · obtain rfl : k = n := by omega
          clear O1 B1
          go_wp2_with fail
          go_ret
          rw [FG.out]; exact ⟨_, _, rfl, OK.out, BK.out⟩
  obtain ⟨ht, hm⟩ := hg
  rw [ht] at CT
  have FL := Lib.hid (ctV_yes ht hm)
  have hm1 : ¬ m < 0 := by omega
  clear hn hr ht
  go_enter Try.func44, Try.ntmps44
  go_wp2_with fail
  go_loopw [5, 11] (fun v i wr => ∃ k : Nat, k ≤ n ∧ i = .int .i64 k ∧ (∃ b d, v = .slice (some ⟨b, 0, none⟩) k d) ∧ Hid (wr.ownsRow w.heap.size 3 1 v k (ints ((ct zs m).take k))) ∧ Hid (Below w.heap.size w wr)) (fun _ i _ => n - (intOf i).toNat)
  case atStart => exact ⟨0, Nat.zero_le _, rfl, ⟨_, _, rfl⟩, O1, B1⟩
  case round =>
    obtain ⟨k, hk, rfl, ⟨bb, dd, rfl⟩, OK, BK⟩ := hrel
    by_cases hlt : k < n
    · obtain ⟨z, hz⟩ : ∃ z, zs[k]? = some z := ⟨_, List.getElem?_eq_getElem (by rw [N.out]; exact hlt)⟩
      obtain ⟨b1, o1, eA, hb1, c0⟩ := rd_i R.out hz
      have c1 : wr.cell? ⟨b1, o1 + k, none⟩ = some (.int .i64 z) := (BK.out.cell (p := ⟨b1, o1 + k, none⟩) hb1).trans c0
      have CK := Lib.hid (CT.out wr BK.out)
      obtain ⟨x, hx⟩ : ∃ x, min z m = x := ⟨_, rfl⟩
      have E := Lib.hid (show ints ((ct zs m).take k) ++ [.int .i64 x] = ints ((ct zs m).take (k + 1)) by
        rw [← hx]
        obtain ⟨hk9, e9⟩ := List.getElem?_eq_some_iff.1 (ct_get (m := m) hz)
        rw [List.take_succ_eq_append_getElem hk9, e9]; simp [ints])
      have C := Lib.hid (fun v => hx ▸ l1Min z m v)
      have hown := OK.out.alloc
      have HS := Lib.hid (own_base OK.out)
      have HW := Lib.hid BK.out.size
      clear c0 hb1 hz hx O1 B1
      subst eA
      go_wp2_with fail
      refine CK.out.mono ?_
      rintro e w' ⟨rfl, rfl⟩
      go_wp2_with fail
      refine (C.out _).mono ?_
      rintro e w' ⟨rfl, rfl⟩
      go_wp2_with (at_builtin; refine wpList_append_own _ rfl _ _ 22 rfl w.heap.size 3 i0 (.int .i64 0) 1 8 Try.underlying22 hi hz0 hz1 hz2 rfl (by decide) _ _ _ rfl (hown _) ⟨wr.heap.size, 0, none⟩ 1 1 [.int .i64 x] rfl rfl (by intro j u hj; match j, hj with | 0, hj => simp at hj; subst hj; simp [Addr.add]) (by intro u hu; simp at hu; subst hu; rfl) (by unfold maxLen; omega) (by omega) (by have := HW.out; simp; omega) ?_)
      intro v' w5 hown' hgrow hnil
      rw [E.out] at hown'
      have hsh := own_mk hown'
      have OO := Lib.hid hown'
      have BB := Lib.hid ((BK.out.alloc BK.out.size _).grown hgrow (by have := HW.out; simp; omega) (fun j hj => HS.out j hj))
      clear hown' hgrow hnil OK BK HS HW hown E C CK
      go_wp2_with fail
      go_roundw
      case rel => exact ⟨k + 1, by omega, by go_num, hsh, OO, BB⟩
      case measure => simp [intOf]; omega
    · obtain rfl : k = n := by omega
      have hl : (ct zs m).length = k := by rw [ct_len, N.out]
      have OF := Lib.hid (show wr.ownsRow w.heap.size 3 1 (.slice (some ⟨bb, 0, none⟩) k dd) k (ints (ct zs m)) by have := OK.out; rwa [← hl, List.take_length, hl] at this)
      have HL := Lib.hid hl
      clear hl OK O1 B1
      go_wp2_with fail
      go_ret
      rw [FL.out]
      refine ⟨bb, dd, ?_, ?_, BK.out⟩
      · rw [HL.out]; rfl
      · rw [HL.out]; exact OF.out
end Go.Proofs.Ytfhjngkcgdkoaaa.Ct8
