/- The sum of a track, of the program and of the model. -/
import Derived.Test.YtfhjngkcgdkoaaaFw8
import Derived.Test.YtfhjngkcgdkoaaaSum
namespace Go.Proofs.Ytfhjngkcgdkoaaa.Sm8
open Go.RowKit Go.Proofs.Ytfhjngkcgdkoaaa.Mem Go.Proofs.Ytfhjngkcgdkoaaa.Tk Go.Proofs.Ytfhjngkcgdkoaaa.Ti8 Go.Proofs.Ytfhjngkcgdkoaaa.Rw Go.Proofs.Ytfhjngkcgdkoaaa.Meas Go.Proofs.Ytfhjngkcgdkoaaa.Fw8
set_option linter.unusedVariables false
set_option linter.unusedSimpArgs false

theorem tot_same : ∀ zs : List Int, Sum.tot zs = Tk.tot zs
  | [] => rfl
  | z :: zs => by show z + Sum.tot zs = z + Tk.tot zs; rw [tot_same zs]
theorem sum_yes {zs : List Int} (h : tk zs = true) : Sum.goodB zs = true ∧ Sum.val zs = Tk.tot zs := by
  have h1 := tot_take_bound h zs.length
  rw [List.take_length] at h1
  have := Sum.good_yes (zs := zs) (fun z hz => by have := (tk_iff.1 h).2 z hz; omega) (by rw [tot_same]; omega) (by rw [tot_same]; omega)
  exact ⟨this.1, this.2.trans (tot_same zs)⟩
theorem sumI (A : Option Addr) (n c : Nat) (zs : List Int) (w : World) (hn : zs.length = n) (hb : n ≤ 1048576) (hr : Rd w w.heap.size A (ints zs)) :
    Calls Try.prog 49 #[.slice A n c] w fun e w' => e = .returned (.int .i64 (smV zs)) ∧ Below w.heap.size w w' := by
  cases ht : tk zs
  · have C := Lib.hid (trkI_of ht A n c w.heap.size w hn hb hr)
    have FG := Lib.hid (smV_no ht)
    clear hn hr ht
    go_enter Try.func49, Try.ntmps49
    go_wp2_with fail
    refine C.out.mono ?_
    rintro e w' ⟨rfl, rfl⟩
    go_wp2_with fail
    go_ret
    exact ⟨ret_int FG.out.symm, Below.refl _ _⟩
  · have C := Lib.hid (trkI_of ht A n c w.heap.size w hn hb hr)
    have FG := Lib.hid (smV_yes ht)
    have S := Lib.hid (Sum.impl A n c zs w hn hb hr)
    have G := Lib.hid (sum_yes ht)
    clear hn hr ht
    go_enter Try.func49, Try.ntmps49
    go_wp2_with fail
    refine C.out.mono ?_
    rintro e w' ⟨rfl, rfl⟩
    go_wp2_with fail
    refine S.out.mono ?_
    rintro e w1 ⟨rfl, hb1⟩
    rw [G.out.1, G.out.2]
    have BB := Lib.hid hb1
    clear hb1
    go_wp2_with fail
    go_ret
    exact ⟨ret_int FG.out.symm, BB.out⟩
theorem l5Sum (A : Option Addr) (n c : Nat) (zs : List Int) (B : Nat) (w : World) (hn : zs.length = n) (ht : tk zs = true) (hr : Rd w B A (ints zs)) :
    Calls Try.prog 67 #[.slice A n c] w fun e w' => e = .returned (.int .i64 (Tk.tot zs)) ∧ w = w' := by
  have HR := Lib.hid hr
  have HN := Lib.hid hn
  have HD := Lib.hid (tk_iff.1 ht).2
  have HT := Lib.hid (tot_take_bound ht)
  have hb8 : n ≤ 64 := by have := (tk_iff.1 ht).1; omega
  clear hr hn ht
  go_enter Try.func67, Try.ntmps67
  go_wp2_with fail
  go_loop [3, 8] (fun t i => ∃ k : Nat, k ≤ n ∧ i = .int .i64 k ∧ ∃ x : Int, t = .int .i64 x ∧ Hid (x = Tk.tot (zs.take k))) (fun _ i => n - (intOf i).toNat)
  case atStart => exact ⟨0, Nat.zero_le _, rfl, 0, rfl, Lib.hid rfl⟩
  case round =>
    obtain ⟨k, hk, rfl, x, rfl, HX⟩ := hrel
    have hx : 0 ≤ x ∧ x ≤ 2048 := by have := HT.out k; rw [← HX.out] at this; exact this
    by_cases hlt : k < n
    · obtain ⟨z, hz⟩ : ∃ z, zs[k]? = some z := ⟨_, List.getElem?_eq_getElem (by rw [HN.out]; exact hlt)⟩
      obtain ⟨b1, o1, eA, hb1, c1⟩ := rd_i HR.out hz
      have hz3 := okT_get HD.out hz
      obtain ⟨hx1, hx2⟩ := hx
      obtain ⟨hz4, hz5⟩ := hz3
      have K := Lib.hid (show x + z = Tk.tot (zs.take (k + 1)) by rw [Tk.tot_take hz, ← HX.out])
      clear hz hb1
      subst eA
      go_wp2_with fail
      go_round
      case rel => exact ⟨k + 1, by omega, by go_num, x + z, rfl, K⟩
      case measure => simp [intOf]; omega
    · obtain rfl : k = n := by omega
      have F := Lib.hid (show x = Tk.tot zs by rw [HX.out, ← HN.out, List.take_length])
      clear hx
      go_wp2_with fail
      go_ret
      exact ⟨ret_int F.out, rfl⟩
theorem sumS (A : Option Addr) (n c : Nat) (zs : List Int) (w : World) (hn : zs.length = n) (hb : n ≤ 1048576) (hr : Rd w w.heap.size A (ints zs)) :
    Calls Try.prog 48 #[.slice A n c] w fun e w' => e = .returned (.int .i64 (smV zs)) ∧ Below w.heap.size w w' := by
  cases ht : tk zs
  · have C := Lib.hid (trkS_of ht A n c w.heap.size w hn hb hr)
    have FG := Lib.hid (smV_no ht)
    clear hn hr ht
    go_enter Try.func48, Try.ntmps48
    go_wp2_with fail
    refine C.out.mono ?_
    rintro e w' ⟨rfl, rfl⟩
    go_wp2_with fail
    go_ret
    exact ⟨ret_int FG.out.symm, Below.refl _ _⟩
  · have C := Lib.hid (trkS_of ht A n c w.heap.size w hn hb hr)
    have FG := Lib.hid (smV_yes ht)
    have S := Lib.hid (l5Sum A n c zs w.heap.size w hn ht hr)
    clear hn hr ht
    go_enter Try.func48, Try.ntmps48
    go_wp2_with fail
    refine C.out.mono ?_
    rintro e w' ⟨rfl, rfl⟩
    go_wp2_with fail
    refine S.out.mono ?_
    rintro e w' ⟨rfl, rfl⟩
    go_wp2_with fail
    go_ret
    exact ⟨ret_int FG.out.symm, Below.refl _ _⟩
end Go.Proofs.Ytfhjngkcgdkoaaa.Sm8
