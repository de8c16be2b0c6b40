/- What the program answers for a jet: its flight, its heights and places at a tick, its peak. -/
import Derived.Test.YtokncfhpmjohdaaGreatM15
set_option linter.unusedVariables false
set_option linter.unusedSimpArgs false
namespace Go.Proofs.YtokncfhpmjohdaaGreat.Dp
open Go.RowKit Go.Proofs.YtokncfhpmjohdaaGreat.Cx Go.Proofs.YtokncfhpmjohdaaGreat.Cm Go.Proofs.YtokncfhpmjohdaaGreat.Pl Go.Proofs.YtokncfhpmjohdaaGreat.Str Go.Proofs.YtokncfhpmjohdaaGreat.Pw Go.Proofs.YtokncfhpmjohdaaGreat.P2 Go.Proofs.YtokncfhpmjohdaaGreat.Hd Go.Proofs.YtokncfhpmjohdaaGreat.Sf Go.Proofs.YtokncfhpmjohdaaGreat.Jt
set_option linter.unusedVariables false
set_option linter.unusedSimpArgs false

/-- The flight of a jet. -/
def fl (x y h t l : Int) : Int := if jt x y h t l then l + 1 else 0
theorem fl_yes {x y h t l : Int} (hj : jt x y h t l = true) : fl x y h t l = l + 1 := by unfold fl; rw [hj]; rfl
theorem fl_no {x y h t l : Int} (hj : jt x y h t l = false) : fl x y h t l = 0 := by unfold fl; rw [hj]; rfl

theorem grown_below {w w1 w2 : World} {b : Nat} (h : Below w.heap.size w w1) (hb : w.heap.size ≤ b) (g : w1.grownBy w2 (some b)) : Below w.heap.size w w2 :=
  h.grown g h.size (fun k e => by injection e with e; omega)

set_option maxHeartbeats 1000000 in
theorem flightI (x y h t l : Int) (w : World) : Calls Tryz.prog 132 #[jv x y h t l] w fun e w' => e = .returned (.int .i64 (fl x y h t l)) ∧ Below w.heap.size w w' := by
  cases hj : jt x y h t l
  · rw [fl_no hj]
    have C := Lib.hid (isJetI_of hj)
    clear hj
    go_enter Tryz.func132, Tryz.ntmps132
    go_wp2_with fail
    refine (C.out _).mono ?_
    rintro e w' ⟨rfl, rfl⟩
    go_wp2_with fail
    go_returns
    exact ⟨rfl, by go_grown⟩
  · rw [fl_yes hj]
    obtain ⟨N, hN⟩ : ∃ N : Nat, (N : Int) = l + 1 := ⟨(l + 1).toNat, by have := (jt_iff.1 hj).2.2.2.2; omega⟩
    rw [← hN]
    have O := Lib.hid (ok_of hj)
    have C := Lib.hid (isJetI_of hj)
    have D := Lib.hid (newDrop hj)
    have HN := Lib.hid hN
    clear hj hN
    go_enter Tryz.func132, Tryz.ntmps132
    go_wp2_with fail
    refine (C.out _).mono ?_
    rintro e w' ⟨rfl, rfl⟩
    go_wp2_with fail
    refine (D.out _).mono ?_
    rintro e w1 ⟨b, rfl, hb, hA, hB⟩
    have HB := Lib.hid (show Below w.heap.size w w1 from Below.trans (by go_grown) (hB.mono (by go_size)))
    have hb2 : w.heap.size ≤ b := Nat.le_trans (by go_size) hb
    have HA := Lib.hid hA
    clear hA hB hb
    go_wp2_with fail
    refine (until_isDown O.out HN.out HA.out).mono ?_
    rintro e w2 ⟨rfl, h2, g2⟩
    have G := Lib.hid g2
    clear h2 g2
    go_wp2_with fail
    go_returns
    exact ⟨rfl, grown_below HB.out hb2 G.out⟩

/-- Whether the tick n is in the flight. -/
def inF (x y h t l n : Int) : Bool := jt x y h t l && iw n 0 (l + 1)
theorem inF_iff {x y h t l n : Int} : inF x y h t l n = true ↔ jt x y h t l = true ∧ 0 ≤ n ∧ n ≤ l + 1 := by unfold inF; rw [Bool.and_eq_true, iw_iff]

set_option maxHeartbeats 1000000 in
theorem inFlightI {x y h t l n : Int} {c : Bool} (hc : inF x y h t l n = c) (w : World) : Calls Tryz.prog 188 #[jv x y h t l, .int .i64 n] w fun e w' => e = .returned (.bool c) ∧ Below w.heap.size w w' := by
  subst hc
  unfold inF
  cases hj : jt x y h t l
  · have C := Lib.hid (isJetI_of hj)
    clear hj
    go_enter Tryz.func188, Tryz.ntmps188
    go_wp2_with fail
    refine (C.out _).mono ?_
    rintro e w' ⟨rfl, rfl⟩
    go_wp2_with fail
    go_returns
    exact ⟨rfl, by go_grown⟩
  · have C := Lib.hid (isJetI_of hj)
    have F := flightI x y h t l
    rw [fl_yes hj] at F
    replace F := Lib.hid F
    have I := isWithin n 0 (l + 1)
    generalize iw n 0 (l + 1) = r at *
    replace I := Lib.hid I
    clear hj
    go_enter Tryz.func188, Tryz.ntmps188
    go_wp2_with fail
    refine (C.out _).mono ?_
    rintro e w' ⟨rfl, rfl⟩
    go_wp2_with fail
    refine (F.out _).mono ?_
    rintro e w1 ⟨rfl, hb⟩
    have HB := Lib.hid (show Below w.heap.size w w1 from Below.trans (by go_grown) (hb.mono (by go_size)))
    clear hb
    go_wp2_with fail
    refine (I.out _).mono ?_
    rintro e w' ⟨rfl, rfl⟩
    go_wp2_with fail
    go_returns
    exact ⟨rfl, HB.out⟩

set_option maxHeartbeats 1000000 in
theorem dropAt {x y h t l : Int} {N : Nat} (hj : jt x y h t l = true) (hN : (N : Int) ≤ l + 1) (w : World) :
    Calls Tryz.prog 189 #[jv x y h t l, .int .i64 N] w (Born w x y (tx h.toNat t 0) (ty h.toNat t 0) l N) := by
  have O := Lib.hid (ok_of hj)
  have D := Lib.hid (newDrop hj)
  have HN := Lib.hid hN
  clear hj hN
  go_enter Tryz.func189, Tryz.ntmps189
  go_wp2_with fail
  refine (D.out _).mono ?_
  rintro e w1 ⟨b, rfl, hb, hA, hB⟩
  have HB := Lib.hid (show Below w.heap.size w w1 from Below.trans (by go_grown) (hB.mono (by go_size)))
  have hb2 : w.heap.size ≤ b := Nat.le_trans (by go_size) hb
  have HA := Lib.hid hA
  clear hA hB hb
  go_wp2_with fail
  refine (repeatTick O.out HN.out HA.out).mono ?_
  rintro e w2 ⟨rfl, h2, g2⟩
  have H2 := Lib.hid h2
  have G := Lib.hid g2
  clear h2 g2
  go_wp2_with fail
  go_returns
  exact ⟨b, rfl, hb2, H2.out, grown_below HB.out hb2 G.out⟩

/-- The height at the tick n. -/
def ha (x y h t l n : Int) : Int := if inF x y h t l n then hg l n.toNat else 0

end Go.Proofs.YtokncfhpmjohdaaGreat.Dp
