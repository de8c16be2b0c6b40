/- What the program answers for a jet: its flight, its heights and places at a tick, its peak. -/
import Derived.Test.YtokncfhpmjohdabGreatM11
set_option linter.unusedVariables false
set_option linter.unusedSimpArgs false
namespace Go.Proofs.YtokncfhpmjohdabGreat.Dp
open Go.RowKit Go.Proofs.YtokncfhpmjohdabGreat.Cx Go.Proofs.YtokncfhpmjohdabGreat.Cm Go.Proofs.YtokncfhpmjohdabGreat.Pl Go.Proofs.YtokncfhpmjohdabGreat.Str Go.Proofs.YtokncfhpmjohdabGreat.Pw Go.Proofs.YtokncfhpmjohdabGreat.P2 Go.Proofs.YtokncfhpmjohdabGreat.Hd Go.Proofs.YtokncfhpmjohdabGreat.Sf Go.Proofs.YtokncfhpmjohdabGreat.Jt
set_option linter.unusedVariables false
set_option linter.unusedSimpArgs false

/-- The flight of a jet. -/
def fl (x y h t l : Int) : Int := if jt x y h t l then l + 1 else 0
theorem fl_yes {x y h t l : Int} (hj : jt x y h t l = true) : fl x y h t l = l + 1 := by unfold fl; rw [hj]; rfl
theorem fl_no {x y h t l : Int} (hj : jt x y h t l = false) : fl x y h t l = 0 := by unfold fl; rw [hj]; rfl

theorem grown_below {w w1 w2 : World} {b : Nat} (h : Below w.heap.size w w1) (hb : w.heap.size ≤ b) (g : w1.grownBy w2 (some b)) : Below w.heap.size w w2 :=
  h.grown g h.size (fun k e => by injection e with e; omega)

set_option maxHeartbeats 1000000 in
theorem flightI (x y h t l : Int) (w : World) : Calls Tryz.prog 113 #[jv x y h t l] w fun e w' => e = .returned (.int .i64 (fl x y h t l)) ∧ Below w.heap.size w w' := by
  cases hj : jt x y h t l
  · rw [fl_no hj]
    have C := Lib.hid (isJetI_of hj)
    clear hj
    go_enter Tryz.func113, Tryz.ntmps113
    go_wp2_with fail
    refine (C.out _).mono ?_
    rintro e w' ⟨rfl, rfl⟩
    go_wp2_with fail
    go_returns
    exact ⟨rfl, by go_grown⟩
  · rw [fl_yes hj]
    obtain ⟨N, hN⟩ : ∃ N : Nat, (N : Int) = l + 1 := ⟨(l + 1).toNat, by have := (jt_iff.1 hj).2.2.2.2; omega⟩
    rw [← hN]
    have O := Lib.hid (ok_of hj)
    have C := Lib.hid (isJetI_of hj)
    have D := Lib.hid (newDrop hj)
    have HN := Lib.hid hN
    clear hj hN
    go_enter Tryz.func113, Tryz.ntmps113
    go_wp2_with fail
    refine (C.out _).mono ?_
    rintro e w' ⟨rfl, rfl⟩
    go_wp2_with fail
    refine (D.out _).mono ?_
    rintro e w1 ⟨b, rfl, hb, hA, hB⟩
    have HB := Lib.hid (show Below w.heap.size w w1 from Below.trans (by go_grown) (hB.mono (by go_size)))
    have hb2 : w.heap.size ≤ b := Nat.le_trans (by go_size) hb
    have HA := Lib.hid hA
    clear hA hB hb
    go_wp2_with fail
    refine (until_isDown O.out HN.out HA.out).mono ?_
    rintro e w2 ⟨rfl, h2, g2⟩
    have G := Lib.hid g2
    clear h2 g2
    go_wp2_with fail
    go_returns
    exact ⟨rfl, grown_below HB.out hb2 G.out⟩

/-- Whether the tick n is in the flight. -/
def inF (x y h t l n : Int) : Bool := jt x y h t l && iw n 0 (l + 1)
theorem inF_iff {x y h t l n : Int} : inF x y h t l n = true ↔ jt x y h t l = true ∧ 0 ≤ n ∧ n ≤ l + 1 := by unfold inF; rw [Bool.and_eq_true, iw_iff]

set_option maxHeartbeats 1000000 in
theorem inFlightI {x y h t l n : Int} {c : Bool} (hc : inF x y h t l n = c) (w : World) : Calls Tryz.prog 126 #[jv x y h t l, .int .i64 n] w fun e w' => e = .returned (.bool c) ∧ Below w.heap.size w w' := by
  subst hc
  unfold inF
  cases hj : jt x y h t l
  · have C := Lib.hid (isJetI_of hj)
    clear hj
    go_enter Tryz.func126, Tryz.ntmps126
    go_wp2_with fail
    refine (C.out _).mono ?_
    rintro e w' ⟨rfl, rfl⟩
    go_wp2_with fail
    go_returns
    exact ⟨rfl, by go_grown⟩
  · have C := Lib.hid (isJetI_of hj)
    have F := flightI x y h t l
    rw [fl_yes hj] at F
    replace F := Lib.hid F
    have I := isWithin n 0 (l + 1)
    generalize iw n 0 (l + 1) = r at *
    replace I := Lib.hid I
    clear hj
    go_enter Tryz.func126, Tryz.ntmps126
    go_wp2_with fail
    refine (C.out _).mono ?_
    rintro e w' ⟨rfl, rfl⟩
    go_wp2_with fail
    refine (F.out _).mono ?_
    rintro e w1 ⟨rfl, hb⟩
    have HB := Lib.hid (show Below w.heap.size w w1 from Below.trans (by go_grown) (hb.mono (by go_size)))
    clear hb
    go_wp2_with fail
    refine (I.out _).mono ?_
    rintro e w' ⟨rfl, rfl⟩
    go_wp2_with fail
    go_returns
    exact ⟨rfl, HB.out⟩

set_option maxHeartbeats 1000000 in
theorem dropAt {x y h t l : Int} {N : Nat} (hj : jt x y h t l = true) (hN : (N : Int) ≤ l + 1) (w : World) :
    Calls Tryz.prog 127 #[jv x y h t l, .int .i64 N] w (Born w x y (tx h.toNat t 0) (ty h.toNat t 0) l N) := by
  have O := Lib.hid (ok_of hj)
  have D := Lib.hid (newDrop hj)
  have HN := Lib.hid hN
  clear hj hN
  go_enter Tryz.func127, Tryz.ntmps127
  go_wp2_with fail
  refine (D.out _).mono ?_
  rintro e w1 ⟨b, rfl, hb, hA, hB⟩
  have HB := Lib.hid (show Below w.heap.size w w1 from Below.trans (by go_grown) (hB.mono (by go_size)))
  have hb2 : w.heap.size ≤ b := Nat.le_trans (by go_size) hb
  have HA := Lib.hid hA
  clear hA hB hb
  go_wp2_with fail
  refine (repeatTick O.out HN.out HA.out).mono ?_
  rintro e w2 ⟨rfl, h2, g2⟩
  have H2 := Lib.hid h2
  have G := Lib.hid g2
  clear h2 g2
  go_wp2_with fail
  go_returns
  exact ⟨b, rfl, hb2, H2.out, grown_below HB.out hb2 G.out⟩

theorem toldHeight {w : World} {b : Nat} {X Y P Q l : Int} {N : Nat} (o : Ok X Y P Q l) (hN : (N : Int) ≤ l + 1) (h : At w b X Y P Q l N) :
    Calls Tryz.prog 52 #[.pointer (some ⟨b, 0, none⟩)] w fun e w' => e = .returned (.int .i64 (hg l N)) ∧ w = w' := by
  have b3 := hg_le hN o.l.2
  have b4 := hg_nonneg hN
  obtain ⟨x, y, p, q, h, s, hD, i1, i2, i3, i4, i5, i6⟩ := h
  have c2 := hD.c2
  have T := told (by omega) i5
  rw [ms_yes (by omega) (by omega), if_pos rfl] at T
  generalize hg l N = r at *
  replace T := Lib.hid T
  clear hD i1 i2 i3 i4 i5 i6 b3 b4 hN o
  go_enter Tryz.func52, Tryz.ntmps52
  go_wp2_with fail
  refine (T.out _).mono ?_
  rintro e w' ⟨rfl, rfl⟩
  go_wp2_with fail
  go_returns
  exact ⟨rfl, rfl⟩

/-- The height at the tick n. -/
def ha (x y h t l n : Int) : Int := if inF x y h t l n then hg l n.toNat else 0

set_option maxHeartbeats 1000000 in
theorem heightI (x y h t l n : Int) (w : World) : Calls Tryz.prog 84 #[jv x y h t l, .int .i64 n] w fun e w' => e = .returned (.int .i64 (ha x y h t l n)) ∧ Below w.heap.size w w' := by
  unfold ha
  cases hc : inF x y h t l n
  · have C := Lib.hid (inFlightI hc)
    rw [if_neg (by decide)]
    clear hc
    go_enter Tryz.func84, Tryz.ntmps84
    go_wp2_with fail
    refine (C.out _).mono ?_
    rintro e w1 ⟨rfl, hb⟩
    have HB := Lib.hid (show Below w.heap.size w w1 from Below.trans (by go_grown) (hb.mono (by go_size)))
    clear hb
    go_wp2_with fail
    go_returns
    exact ⟨rfl, HB.out⟩
  · have C := Lib.hid (inFlightI hc)
    obtain ⟨hj, h1, h2⟩ := inF_iff.1 hc
    obtain ⟨N, rfl⟩ : ∃ N : Nat, n = N := ⟨n.toNat, by omega⟩
    rw [if_pos rfl, Int.toNat_natCast]
    have D := Lib.hid (dropAt hj h2)
    have T := Lib.hid (fun w' b => toldHeight (w := w') (b := b) (ok_of hj) h2)
    generalize hg l N = r at *
    clear hc hj h1 h2
    go_enter Tryz.func84, Tryz.ntmps84
    go_wp2_with fail
    refine (C.out _).mono ?_
    rintro e w1 ⟨rfl, hb⟩
    have m0 : w1.cell? ⟨w.heap.size, 0, none⟩ = some (.int .i64 x) := cell_below hb (by simp [go_sem])
    have m1 : w1.cell? ⟨w.heap.size, 1, none⟩ = some (.int .i64 y) := cell_below hb (by simp [go_sem])
    have m2 : w1.cell? ⟨w.heap.size, 2, none⟩ = some (.int .i64 h) := cell_below hb (by simp [go_sem])
    have m3 : w1.cell? ⟨w.heap.size, 3, none⟩ = some (.int .i64 t) := cell_below hb (by simp [go_sem])
    have m4 : w1.cell? ⟨w.heap.size, 4, none⟩ = some (.int .i64 l) := cell_below hb (by simp [go_sem])
    have HB := Lib.hid (show Below w.heap.size w w1 from Below.trans (by go_grown) (hb.mono (by go_size)))
    clear hb
    go_wp2_with fail
    refine (D.out _).mono ?_
    rintro e w2 ⟨b, rfl, hb, hA, hB⟩
    have HB2 := Lib.hid (HB.out.trans (hB.mono HB.out.size))
    have HA := Lib.hid hA
    clear hA hB hb m0 m1 m2 m3 m4
    go_wp2_with fail
    refine (T.out _ _ HA.out).mono ?_
    rintro e w' ⟨rfl, rfl⟩
    go_wp2_with fail
    go_returns
    exact ⟨rfl, HB2.out⟩

end Go.Proofs.YtokncfhpmjohdabGreat.Dp
