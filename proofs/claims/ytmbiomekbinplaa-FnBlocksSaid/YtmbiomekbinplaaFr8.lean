/- The first levels of blocks, of the program and of the model. -/
import Derived.Test.YtmbiomekbinplaaFx8
namespace Go.Proofs.Ytmbiomekbinplaa.Fr8
open Go.RowKit Go.Proofs.Ytmbiomekbinplaa.Mem Go.Proofs.Ytmbiomekbinplaa.Tk Go.Proofs.Ytmbiomekbinplaa.Ti8 Go.Proofs.Ytmbiomekbinplaa.Rw Go.Proofs.Ytmbiomekbinplaa.Meas Go.Proofs.Ytmbiomekbinplaa.Fw8
set_option linter.unusedVariables false
set_option linter.unusedSimpArgs false

open Go.Proofs.Ytmbiomekbinplaa.Fx8
theorem frL_len64 (bs : List Int) (n : Int) : (frL bs n).length ≤ 64 := by
  cases h : frG bs n
  · rw [frL_no h]; exact Nat.zero_le _
  · rw [frL_yes h]; exact (tk_iff.1 (frG_iff.1 h).2).1
theorem take_snoc {zs : List Int} {k : Nat} {z : Int} (h : zs[k]? = some z) : ints (zs.take k) ++ [.int .i64 z] = ints (zs.take (k + 1)) := by
  obtain ⟨hk, rfl⟩ := List.getElem?_eq_some_iff.1 h
  rw [List.take_succ_eq_append_getElem hk]; unfold ints; rw [List.map_append]; rfl
theorem filled_take {zs : List Int} {p : Nat} (hp : p ≤ zs.length) : (ints (zs.take p)).length = p := by rw [ints_len, List.length_take]; omega
theorem split8 (o k : Nat) : o + k / 8 * 8 + k % 8 = o + k := by omega

set_option maxHeartbeats 1000000 in
theorem fromI (A : Option Addr) (n c : Nat) (zs : List Int) (x : Int) (w : World) (hn : zs.length = n * 8) (hb : n ≤ 1048576) (hr : Rd w w.heap.size A (ints zs)) :
    Calls Try.prog 11 #[.slice A n c, .int .i64 x] w (RowP w (frL zs x) (frG zs x)) := by
  have N := Lib.hid hn
  have R := Lib.hid hr
  by_cases hx : 0 ≤ x ∧ x ≤ (n : Int) * 8
  case neg =>
    have C := Lib.hid (fun v => isWithin_of (iw_no (x := x) (a := 0) (b := (n : Int) * 8) (by omega)) v)
    have FG := Lib.hid (frG_no (bs := zs) (n := x) (fun c => by rw [hn] at c; omega))
    rw [frL_no FG.out, FG.out]
    clear hn hr hx
    go_enter Try.func11, Try.ntmps11
    go_wp2_with fail
    refine (C.out _).mono ?_
    rintro e w' ⟨rfl, rfl⟩
    go_wp2_with fail
    go_ret2
    exact rowP_nil w
  have C := Lib.hid (fun v => isWithin_of (iw_yes hx) v)
  obtain ⟨p, rfl⟩ := Int.eq_ofNat_of_zero_le hx.1
  obtain ⟨i0, hi, hz0, hz1, hz2⟩ := info_of infoI
  have hp : p ≤ n * 8 := by omega
  have hp2 : p ≤ 8388608 := by omega
  have HP := Lib.hid (filled_take (zs := zs) (p := p) (by omega))
  obtain ⟨r, hrr⟩ : ∃ r, tk (zs.take p) = r := ⟨_, rfl⟩
  have CT := Lib.hid (fun (W : World) (g9 c9 : Nat) (h : Rd W W.heap.size (some ⟨g9, 0, none⟩) (ints (zs.take p))) => hrr ▸ trkI2 (some ⟨g9, 0, none⟩) p c9 (zs.take p) W.heap.size W (by rw [List.length_take]; omega) hp2 h)
  have FG := Lib.hid (show frG zs (p : Int) = r by
    unfold frG
    rw [decide_eq_true (by omega), Bool.true_and]; exact hrr)
  have FL := Lib.hid (show frL zs (p : Int) = bon r (zs.take p) by unfold frL; rw [FG.out]; rfl)
  rw [FL.out, FG.out]
  clear hn hr hx hrr
  go_enter Try.func11, Try.ntmps11
  go_wp2_with fail
  refine (C.out _).mono ?_
  rintro e w' ⟨rfl, rfl⟩
  go_wp2_with (at_make; refine wpList_make_full _ rfl _ _ 24 rfl w.heap.size 3 i0 (.int .i64 0) 1 Try.underlying24 hi hz0 hz1 .i64 .i64 p p p rfl rfl rfl rfl (by rw [hz2]; omega) (by unfold maxLen; omega) (Nat.le_refl _) ?_; intro w1 hown hgrow; clear hi hz0 hz1 hz2)
  have R0 := Lib.hid (show w1.ownsRow w.heap.size 3 1 (.slice (some ⟨w.heap.size, 0, none⟩) p p) p (filled (ints (zs.take p)) (.int .i64 0) 0) by
    rw [filled_zero, HP.out]; rw [made_one _ rfl] at hown; exact hown)
  have B0 := Lib.hid (show Below w.heap.size w w1 from (Below.refl _ _).grown hgrow (Nat.le_refl _) (fun k hk => by cases hk))
  clear hown hgrow C
  go_loopw [19] (fun i wr => ∃ k : Nat, k ≤ p ∧ i = .int .i64 k ∧ Hid (wr.ownsRow w.heap.size 3 1 (.slice (some ⟨w.heap.size, 0, none⟩) p p) p (filled (ints (zs.take p)) (.int .i64 0) k)) ∧ Hid (Below w.heap.size w wr)) (fun i _ => p - (intOf i).toNat)
  case atStart => exact ⟨0, Nat.zero_le _, rfl, R0, B0⟩
  case round =>
    obtain ⟨k, hk, rfl, RK, BK⟩ := hrel
    clear R0 B0
    by_cases hlt : k < p
    · obtain ⟨z, hz⟩ : ∃ z, zs[k]? = some z := ⟨_, List.getElem?_eq_getElem (by rw [N.out]; omega)⟩
      obtain ⟨b1, o1, eA, hb1, c0⟩ := rd_i R.out hz
      have c1 : wr.cell? ⟨b1, o1 + k / 8 * 8 + k % 8, none⟩ = some (.int .i64 z) := by rw [split8]; exact (BK.out.cell (p := ⟨b1, o1 + k, none⟩) hb1).trans c0
      have hy : (ints (zs.take p))[k]? = some (.int .i64 z) := Fw8.ints_at (by rw [List.getElem?_take_of_lt hlt]; exact hz)
      have c2 := (RK.out.cellAt k (by omega)).trans (filled_get (z := .int .i64 0) (List.getElem?_eq_some_iff.1 hy).1)
      have f2 := RK.out.frozenAt k
      obtain ⟨r1, r2⟩ := RK.out.stored k (.int .i64 z)
      rw [filled_put hy] at r1
      have R1 := Lib.hid r1
      have B1 := Lib.hid (BK.out.grown r2 (by exact BK.out.size) (fun g hg => by cases hg; exact Nat.le_refl _))
      have q1 : k / 8 < n := by omega
      have q2 : k % 8 < 8 := by omega
      have q3 : (k : Int).tdiv 8 = ((k / 8 : Nat) : Int) := rfl
      have q4 : (k : Int).tmod 8 = ((k % 8 : Nat) : Int) := rfl
      clear r1 r2 hy RK BK c0 hb1 hz
      subst eA
      go_wp2_with fail
      go_roundw
      case rel => exact ⟨k + 1, by omega, by go_num, R1, B1⟩
      case measure => simp [intOf]; omega
    · obtain rfl : k = p := by omega
      have OF := Lib.hid (show wr.ownsRow w.heap.size 3 1 (.slice (some ⟨w.heap.size, 0, none⟩) k k) k (ints (zs.take k)) by
        have := RK.out
        have h9 := filled_all (ints (zs.take k)) (.int .i64 0)
        rw [HP.out] at h9
        rw [h9] at this; exact this)
      have D := Lib.hid (CT.out wr _ k (Rd.own OF.out))
      have RN := Lib.hid (rowP_nil wr)
      clear RK
      cases r
      · go_wp2_with fail
        refine D.out.mono ?_
        rintro e w' ⟨rfl, rfl⟩
        go_wp2_with fail
        go_ret2
        exact RowP.from RN.out BK.out
      · go_wp2_with fail
        refine D.out.mono ?_
        rintro e w' ⟨rfl, rfl⟩
        go_wp2_with fail
        go_ret2
        have HL := HP.out
        rw [ints_len] at HL
        refine ⟨w.heap.size, k, ?_, ?_, BK.out⟩
        · show _ = Ending.returned (.tuple #[.slice (some ⟨w.heap.size, 0, none⟩) (zs.take k).length k, .bool true])
          rw [HL]; rfl
        · show wr.ownsRow _ _ _ (.slice (some ⟨w.heap.size, 0, none⟩) (zs.take k).length k) (zs.take k).length (ints (zs.take k))
          rw [HL]; exact OF.out

end Go.Proofs.Ytmbiomekbinplaa.Fr8
