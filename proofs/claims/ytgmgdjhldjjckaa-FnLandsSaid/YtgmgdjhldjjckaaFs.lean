/- The peak of a jet, of the model and of the program, and how far it reaches. -/
import Derived.Test.YtgmgdjhldjjckaaFr
import Derived.Test.YtgmgdjhldjjckaaTimes
namespace Go.Proofs.Ytgmgdjhldjjckaa.Dp
open Go.RowKit Go.Proofs.Ytgmgdjhldjjckaa.Cx Go.Proofs.Ytgmgdjhldjjckaa.Cm Go.Proofs.Ytgmgdjhldjjckaa.Pl Go.Proofs.Ytgmgdjhldjjckaa.Str Go.Proofs.Ytgmgdjhldjjckaa.Pw Go.Proofs.Ytgmgdjhldjjckaa.P2 Go.Proofs.Ytgmgdjhldjjckaa.Hd Go.Proofs.Ytgmgdjhldjjckaa.Sf Go.Proofs.Ytgmgdjhldjjckaa.Jt
set_option linter.unusedVariables false
set_option linter.unusedSimpArgs false

theorem hg_up {l : Int} {m : Nat} (h : 2 * (m : Int) < l) : hg l m < hg l (m + 1) := by
  rw [← hg_succ]; omega
theorem hg_diff (l : Int) (k m : Nat) : hg l k - hg l m = ((k : Int) - m) * (l + 1 - k - m) := by
  unfold hg
  generalize (k : Int) = a
  generalize (m : Int) = b
  have e1 : (a - b) * (l + 1 - a - b) = a * (l + 1 - a - b) - b * (l + 1 - a - b) := Int.sub_mul ..
  have e2 : a * (l + 1 - a - b) = a * (l + 1 - a) - a * b := Int.mul_sub ..
  have e3 : b * (l + 1 - a - b) = b * (l + 1 - b) - b * a := by rw [show l + 1 - a - b = (l + 1 - b) - a by omega, Int.mul_sub]
  have e4 := Int.mul_comm a b
  omega
theorem hg_down {l : Int} {k m : Nat} (h1 : m ≤ k) (h2 : l + 1 ≤ (k : Int) + m) : ¬ hg l m < hg l k := by
  have e := hg_diff l k m
  have : ((k : Int) - m) * (l + 1 - k - m) ≤ 0 := Int.mul_nonpos_of_nonneg_of_nonpos (by omega) (by omega)
  omega
theorem ha_in {x y h t l : Int} {k : Nat} (hj : jt x y h t l = true) (hk : (k : Int) ≤ l + 1) : ha x y h t l k = hg l k := by
  unfold ha
  rw [if_pos (inF_iff.2 ⟨hj, by omega, hk⟩), Int.toNat_natCast]

/-- The tick of the peak. -/
def pk (x y h t l : Int) : Nat := if jt x y h t l then ((l + 1) / 2).toNat else 0
def peakV (x y h t l : Int) : Value := .tuple #[.int .i64 (pk x y h t l), .int .i64 (ha x y h t l (pk x y h t l))]
theorem pk_yes {x y h t l : Int} (hj : jt x y h t l = true) : pk x y h t l = ((l + 1) / 2).toNat := by unfold pk; rw [hj]; rfl
theorem pk_no {x y h t l : Int} (hj : jt x y h t l = false) : pk x y h t l = 0 := by unfold pk; rw [hj]; rfl
theorem ret_2 {a b c d : Int} (h1 : a = c) (h2 : b = d) : Ending.returned (.tuple #[.int .i64 a, .int .i64 b]) = .returned (.tuple #[.int .i64 c, .int .i64 d]) := by rw [h1, h2]

set_option maxHeartbeats 2000000 in
theorem peakI (x y h t l : Int) (w : World) : Calls Try.prog 19 #[jv x y h t l] w fun e w' => e = .returned (peakV x y h t l) ∧ Below w.heap.size w w' := by
  unfold peakV
  cases hj : jt x y h t l
  · have C := Lib.hid (isJetI_of hj)
    have e : ha x y h t l (pk x y h t l) = 0 := by unfold ha; rw [inF_no (Or.inl hj)]; rfl
    rw [e, pk_no hj]
    clear hj e
    go_enter Try.func19, Try.ntmps19
    go_wp2_with fail
    refine (C.out _).mono ?_
    rintro e w' ⟨rfl, rfl⟩
    go_wp2_with fail
    go_returns
    exact ⟨rfl, by go_grown⟩
  · have C := Lib.hid (isJetI_of hj)
    have hl := (jt_iff.1 hj).2.2.2.2
    have D := Lib.hid (newDrop hj)
    have O := Lib.hid (ok_of hj)
    have hN : ((pk x y h t l : Nat) : Int) = (l + 1) / 2 := by rw [pk_yes hj]; omega
    rw [ha_in hj (by omega)]
    generalize pk x y h t l = N at *
    have HN := Lib.hid hN
    have hN2 := Lib.hid (show (N : Int) ≤ l + 1 by omega)
    have T := Lib.hid (fun w' b (h : At w' b x y (tx h.toNat t 0) (ty h.toNat t 0) l N) => toldHeight O.out hN2.out h)
    clear hj hN
    generalize hg l N = r at *
    go_enter Try.func19, Try.ntmps19
    go_wp2_with fail
    refine (C.out _).mono ?_
    rintro e w' ⟨rfl, rfl⟩
    go_wp2_with fail
    refine (D.out _).mono ?_
    rintro e w1 ⟨b, rfl, hb, hA, hB⟩
    have HB := Lib.hid (show Below w.heap.size w w1 from Below.trans (by go_grown) (hB.mono (by go_size)))
    have hb2 : w.heap.size ≤ b := Nat.le_trans (by go_size) hb
    have HA := Lib.hid hA
    clear hA hB hb
    go_wp2_with fail
    refine (until_risesNoMore O.out HN.out HA.out).mono ?_
    rintro e w2 ⟨rfl, h2, g2⟩
    have G := Lib.hid g2
    have H2 := Lib.hid h2
    clear h2 g2
    go_wp2_with fail
    refine (T.out _ _ H2.out).mono ?_
    rintro e w' ⟨rfl, rfl⟩
    go_wp2_with fail
    go_returns
    exact ⟨rfl, grown_below HB.out hb2 G.out⟩

end Go.Proofs.Ytgmgdjhldjjckaa.Dp
