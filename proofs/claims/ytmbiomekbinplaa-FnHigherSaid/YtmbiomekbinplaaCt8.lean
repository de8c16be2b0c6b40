/- A track that is cut, of the program and of the model. -/
import Derived.Test.YtmbiomekbinplaaFx8
namespace Go.Proofs.Ytmbiomekbinplaa.Ct8
open Go.RowKit Go.Proofs.Ytmbiomekbinplaa.Mem Go.Proofs.Ytmbiomekbinplaa.Tk Go.Proofs.Ytmbiomekbinplaa.Ti8 Go.Proofs.Ytmbiomekbinplaa.Rw Go.Proofs.Ytmbiomekbinplaa.Meas Go.Proofs.Ytmbiomekbinplaa.Fw8
set_option linter.unusedVariables false
set_option linter.unusedSimpArgs false

open Go.Proofs.Ytmbiomekbinplaa.Fx8
set_option maxHeartbeats 1000000 in
theorem cutI (A : Option Addr) (n c : Nat) (zs : List Int) (m : Int) (w : World) (hn : zs.length = n) (hb : n ≤ 1048576) (hr : Rd w w.heap.size A (ints zs)) :
    Calls Try.prog 26 #[.slice A n c, .int .i64 m] w (RowI w (ctV zs m)) := by
  have N := Lib.hid hn
  cases ht : tk zs
  · have C := Lib.hid (whole_no A n c zs w.heap.size w hn hb hr ht)
    have FG := Lib.hid (ctV_no (zs := zs) (m := m) (by rw [ht]; intro h; cases h.1))
    clear hn hr ht
    go_enter Try.func26, Try.ntmps26
    go_wp2_with fail
    refine C.out.mono ?_
    rintro e w' ⟨rfl, rfl⟩
    go_wp2_with fail
    go_ret
    rw [FG.out]; exact row_nil w
  have C := Lib.hid (whole_yes A n c zs w hn hb hr ht)
  by_cases hm : m < 0
  · have FG := Lib.hid (ctV_no (zs := zs) (m := m) (fun c => by omega))
    clear hn hr ht
    go_enter Try.func26, Try.ntmps26
    go_wp2_with fail
    refine C.out.mono ?_
    rintro e w1 ⟨g, rfl, ho, hb1⟩
    rw [N.out]
    have BB := Lib.hid hb1
    clear ho hb1
    go_wp2_with fail
    go_ret
    rw [FG.out]; exact RowI.from (row_nil w1) BB.out
  have hm0 : 0 ≤ m := by omega
  have D := Lib.hid (tk_iff.1 ht).2
  have CN := Lib.hid (fun l => (ct_len zs l).trans hn)
  by_cases hm32 : 32 < m
  · have FL := Lib.hid (show ctV zs m = ct zs 32 by rw [ctV_yes ht hm0, ct_32 D.out, show min m 32 = 32 by omega])
    have OKC := Lib.hid (okM (ct_ok (m := 32) D.out (by omega)))
    have HL := Lib.hid (show (fls zs).length = (fls (ct zs 32)).length by rw [fls_len, fls_len, ct_len])
    have CW := Lib.hid (fun v => wholesOf 32 (by omega) v)
    have CN := Lib.hid (show (ct zs 32).length = n from (ct_len zs 32).trans hn)
    clear hn hr ht
    go_enter Try.func26, Try.ntmps26
    go_wp2_with fail
    refine C.out.mono ?_
    rintro e w1 ⟨g, rfl, ho, hb1⟩
    rw [N.out] at ho
    rw [N.out]
    have WG := Lib.hid (own_at ho)
    have R0 := Lib.hid (show w1.ownsRow w.heap.size 58 1 (.slice (some ⟨g, 0, none⟩) n n) n (mixed (fls (ct zs 32)) (fls zs) 0) by rw [mixed_zero]; exact ho)
    have B0 := Lib.hid hb1
    clear ho hb1 C
    go_wp2_with fail
    refine (CW.out _).mono ?_
    rintro e w' ⟨rfl, rfl⟩
    go_wp2_with fail
    go_loopw [27] (fun i wr => ∃ k : Nat, k ≤ n ∧ i = .int .i64 k ∧ Hid (wr.ownsRow w.heap.size 58 1 (.slice (some ⟨g, 0, none⟩) n n) n (mixed (fls (ct zs 32)) (fls zs) k)) ∧ Hid (Below w.heap.size w wr)) (fun i _ => n - (intOf i).toNat)
    case atStart => exact ⟨0, Nat.zero_le _, rfl, R0, B0⟩
    case round =>
      obtain ⟨k, hk, rfl, RK, BK⟩ := hrel
      by_cases hlt : k < n
      · obtain ⟨z, hz⟩ : ∃ z, zs[k]? = some z := ⟨_, List.getElem?_eq_getElem (by rw [N.out]; exact hlt)⟩
        have hz3 := okT_get D.out hz
        have c1 := (RK.out.cellAt k (by omega)).trans (mixed_at HL.out (Nat.le_refl _) (fls_get hz))
        have f1 := RK.out.frozenAt k
        have M := min32 Try.prog z 32 (by omega) (by omega)
        have hy := fls_get (ct_get (m := 32) hz)
        obtain ⟨r1, r2⟩ := RK.out.stored k (.float .f32 (f32 (min z 32)))
        rw [mixed_put HL.out hy] at r1
        have R1 := Lib.hid r1
        have B1 := Lib.hid (BK.out.grown r2 (by exact BK.out.size) (fun g hg => by cases hg; exact WG.out))
        generalize min z 32 = mz at *
        clear r1 r2 hy RK BK hz R0 B0 hz3
        go_wp2_with fail
        go_roundw
        case rel => exact ⟨k + 1, by omega, by go_num, R1, B1⟩
        case measure => simp [intOf]; omega
      · obtain rfl : k = n := by omega
        have OF := Lib.hid (show wr.ownsRow w.heap.size 58 1 (.slice (some ⟨g, 0, none⟩) k k) k (fls (ct zs 32)) by
          have := RK.out
          rw [show k = (fls (ct zs 32)).length by rw [fls_len, ct_len, N.out], mixed_all HL.out] at this
          rw [show k = (fls (ct zs 32)).length by rw [fls_len, ct_len, N.out]]; exact this)
        have BF := Lib.hid BK.out
        clear RK BK R0 B0
        go_wp2_with fail
        with_reducible refine (toldTrack _ _ _ (ct zs 32) _ (by rw [ct_len]; exact N.out) hb (Rd.own OF.out) OKC.out).mono ?_
        rintro e w2 ⟨g2, c2, rfl, ho, hb2⟩
        rw [CN.out] at ho
        rw [CN.out]
        have K := Lib.hid (And.intro ho hb2)
        clear ho hb2
        go_wp2_with fail
        go_ret
        rw [FL.out]
        exact RowI.from ⟨g2, c2, by rw [CN.out]; rfl, by rw [CN.out]; exact K.out.1, K.out.2⟩ BF.out
  · have FL := Lib.hid (show ctV zs m = ct zs m by rw [ctV_yes ht hm0, ct_32 D.out, show min m 32 = m by omega])
    have OKC := Lib.hid (okM (ct_ok (m := m) D.out (by omega)))
    have HL := Lib.hid (show (fls zs).length = (fls (ct zs m)).length by rw [fls_len, fls_len, ct_len])
    have CW := Lib.hid (fun v => wholesOf m (by omega) v)
    have CN := Lib.hid (show (ct zs m).length = n from (ct_len zs m).trans hn)
    clear hn hr ht
    go_enter Try.func26, Try.ntmps26
    go_wp2_with fail
    refine C.out.mono ?_
    rintro e w1 ⟨g, rfl, ho, hb1⟩
    rw [N.out] at ho
    rw [N.out]
    have WG := Lib.hid (own_at ho)
    have R0 := Lib.hid (show w1.ownsRow w.heap.size 58 1 (.slice (some ⟨g, 0, none⟩) n n) n (mixed (fls (ct zs m)) (fls zs) 0) by rw [mixed_zero]; exact ho)
    have B0 := Lib.hid hb1
    clear ho hb1 C
    go_wp2_with fail
    refine (CW.out _).mono ?_
    rintro e w' ⟨rfl, rfl⟩
    go_wp2_with fail
    go_loopw [27] (fun i wr => ∃ k : Nat, k ≤ n ∧ i = .int .i64 k ∧ Hid (wr.ownsRow w.heap.size 58 1 (.slice (some ⟨g, 0, none⟩) n n) n (mixed (fls (ct zs m)) (fls zs) k)) ∧ Hid (Below w.heap.size w wr)) (fun i _ => n - (intOf i).toNat)
    case atStart => exact ⟨0, Nat.zero_le _, rfl, R0, B0⟩
    case round =>
      obtain ⟨k, hk, rfl, RK, BK⟩ := hrel
      by_cases hlt : k < n
      · obtain ⟨z, hz⟩ : ∃ z, zs[k]? = some z := ⟨_, List.getElem?_eq_getElem (by rw [N.out]; exact hlt)⟩
        have hz3 := okT_get D.out hz
        have c1 := (RK.out.cellAt k (by omega)).trans (mixed_at HL.out (Nat.le_refl _) (fls_get hz))
        have f1 := RK.out.frozenAt k
        have M := min32 Try.prog z m (by omega) (by omega)
        have hy := fls_get (ct_get (m := m) hz)
        obtain ⟨r1, r2⟩ := RK.out.stored k (.float .f32 (f32 (min z m)))
        rw [mixed_put HL.out hy] at r1
        have R1 := Lib.hid r1
        have B1 := Lib.hid (BK.out.grown r2 (by exact BK.out.size) (fun g hg => by cases hg; exact WG.out))
        generalize min z m = mz at *
        clear r1 r2 hy RK BK hz R0 B0 hz3
        go_wp2_with fail
        go_roundw
        case rel => exact ⟨k + 1, by omega, by go_num, R1, B1⟩
        case measure => simp [intOf]; omega
      · obtain rfl : k = n := by omega
        have OF := Lib.hid (show wr.ownsRow w.heap.size 58 1 (.slice (some ⟨g, 0, none⟩) k k) k (fls (ct zs m)) by
          have := RK.out
          rw [show k = (fls (ct zs m)).length by rw [fls_len, ct_len, N.out], mixed_all HL.out] at this
          rw [show k = (fls (ct zs m)).length by rw [fls_len, ct_len, N.out]]; exact this)
        have BF := Lib.hid BK.out
        clear RK BK R0 B0
        go_wp2_with fail
        with_reducible refine (toldTrack _ _ _ (ct zs m) _ (by rw [ct_len]; exact N.out) hb (Rd.own OF.out) OKC.out).mono ?_
        rintro e w2 ⟨g2, c2, rfl, ho, hb2⟩
        rw [CN.out] at ho
        rw [CN.out]
        have K := Lib.hid (And.intro ho hb2)
        clear ho hb2
        go_wp2_with fail
        go_ret
        rw [FL.out]
        exact RowI.from ⟨g2, c2, by rw [CN.out]; rfl, by rw [CN.out]; exact K.out.1, K.out.2⟩ BF.out

end Go.Proofs.Ytmbiomekbinplaa.Ct8
