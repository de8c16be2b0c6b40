/- The sum of a track, of the program and of the model. -/
import Derived.Test.YtmbiomekbinplaaFw8
import Derived.Test.YtmbiomekbinplaaSum
namespace Go.Proofs.Ytmbiomekbinplaa.Sm8
open Go.RowKit Go.Proofs.Ytmbiomekbinplaa.Mem Go.Proofs.Ytmbiomekbinplaa.Tk Go.Proofs.Ytmbiomekbinplaa.Ti8 Go.Proofs.Ytmbiomekbinplaa.Rw Go.Proofs.Ytmbiomekbinplaa.Meas Go.Proofs.Ytmbiomekbinplaa.Fw8
set_option linter.unusedVariables false
set_option linter.unusedSimpArgs false

theorem tot_same : ∀ zs : List Int, Sum.tot zs = Tk.tot zs
  | [] => rfl
  | z :: zs => by show z + Sum.tot zs = z + Tk.tot zs; rw [tot_same zs]
theorem sum_yes {zs : List Int} (h : tk zs = true) : Sum.goodB zs = true ∧ Sum.val zs = Tk.tot zs := by
  have h1 := tot_take_bound h zs.length
  rw [List.take_length] at h1
  have := Sum.good_yes (zs := zs) (fun z hz => by have := (tk_iff.1 h).2 z hz; omega) (by rw [tot_same]; omega) (by rw [tot_same]; omega)
  exact ⟨this.1, this.2.trans (tot_same zs)⟩
theorem sumI (A : Option Addr) (n c : Nat) (zs : List Int) (w : World) (hn : zs.length = n) (hb : n ≤ 1048576) (hr : Rd w w.heap.size A (ints zs)) :
    Calls Try.prog 21 #[.slice A n c] w fun e w' => e = .returned (.int .i64 (smV zs)) ∧ Below w.heap.size w w' := by
  cases ht : tk zs
  · have C := Lib.hid (trkI_of ht A n c w.heap.size w hn hb hr)
    have FG := Lib.hid (smV_no ht)
    clear hn hr ht
    go_enter Try.func21, Try.ntmps21
    go_wp2_with fail
    refine C.out.mono ?_
    rintro e w' ⟨rfl, rfl⟩
    go_wp2_with fail
    go_ret
    exact ⟨ret_int FG.out.symm, Below.refl _ _⟩
  · have C := Lib.hid (trkI_of ht A n c w.heap.size w hn hb hr)
    have FG := Lib.hid (smV_yes ht)
    have S := Lib.hid (Sum.impl A n c zs w hn hb hr)
    have G := Lib.hid (sum_yes ht)
    clear hn hr ht
    go_enter Try.func21, Try.ntmps21
    go_wp2_with fail
    refine C.out.mono ?_
    rintro e w' ⟨rfl, rfl⟩
    go_wp2_with fail
    refine S.out.mono ?_
    rintro e w1 ⟨rfl, hb1⟩
    rw [G.out.1, G.out.2]
    have BB := Lib.hid hb1
    clear hb1
    go_wp2_with fail
    go_ret
    exact ⟨ret_int FG.out.symm, BB.out⟩
end Go.Proofs.Ytmbiomekbinplaa.Sm8
