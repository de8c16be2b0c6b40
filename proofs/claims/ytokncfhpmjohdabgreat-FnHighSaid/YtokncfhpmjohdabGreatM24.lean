/- What the model answers for a jet: its flight, its heights. -/
import Derived.Test.YtokncfhpmjohdabGreatFf
import Derived.Test.YtokncfhpmjohdabGreatM4
set_option linter.unusedVariables false
set_option linter.unusedSimpArgs false
namespace Go.Proofs.YtokncfhpmjohdabGreat.Dp
open Go.RowKit Go.Proofs.YtokncfhpmjohdabGreat.Cx Go.Proofs.YtokncfhpmjohdabGreat.Cm Go.Proofs.YtokncfhpmjohdabGreat.Pl Go.Proofs.YtokncfhpmjohdabGreat.Str Go.Proofs.YtokncfhpmjohdabGreat.Pw Go.Proofs.YtokncfhpmjohdabGreat.P2 Go.Proofs.YtokncfhpmjohdabGreat.Hd Go.Proofs.YtokncfhpmjohdabGreat.Sf Go.Proofs.YtokncfhpmjohdabGreat.Jt
set_option linter.unusedVariables false
set_option linter.unusedSimpArgs false

theorem hg_one (l : Int) : hg l 1 = l := by unfold hg; simp

set_option maxHeartbeats 1000000 in
theorem flightS (x y h t l : Int) (w : World) : Calls Tryz.prog 79 #[jv x y h t l] w fun e w' => e = .returned (.int .i64 (fl x y h t l)) ∧ Below w.heap.size w w' := by
  cases hj : jt x y h t l
  · rw [fl_no hj]
    have C := Lib.hid (isJetS_of hj)
    clear hj
    go_enter Tryz.func79, Tryz.ntmps79
    go_wp2_with fail
    refine (C.out _).mono ?_
    rintro e w' ⟨rfl, rfl⟩
    go_wp2_with fail
    go_returns
    exact ⟨rfl, by go_grown⟩
  · rw [fl_yes hj]
    have hl := (jt_iff.1 hj).2.2.2.2
    have C := Lib.hid (isJetS_of hj)
    have H1 := Lib.hid (hg_one l)
    clear hj
    go_enter Tryz.func79, Tryz.ntmps79
    go_wp2_with fail
    refine (C.out _).mono ?_
    rintro e w' ⟨rfl, rfl⟩
    go_wp2_with fail
    go_loop [3, 4, 5] (fun a b c => ∃ (k : Nat) (H s : Int), 1 ≤ k ∧ (k : Int) ≤ l + 1 ∧ a = .int .i64 k ∧ b = .int .i64 H ∧ c = .int .i64 s ∧ Hid (H = hg l k) ∧ Hid (s = l - 2 * k)) (fun a _ _ => (l + 1 - intOf a).toNat)
    case atStart => exact ⟨1, l, l - 2, by omega, by omega, rfl, rfl, rfl, Lib.hid H1.out.symm, Lib.hid (by omega)⟩
    case round =>
      obtain ⟨k, H, s, k1, k2, rfl, rfl, rfl, HH, HS⟩ := hrel
      have b3 := hg_le (k := k) k2 hl.2
      have b4 := hg_nonneg (l := l) (k := k) k2
      rw [← HH.out] at b3 b4
      have b5 : -66 ≤ s ∧ s ≤ 32 := by have := HS.out; omega
      have NX := Lib.hid (show H + s = hg l (k + 1) by rw [HH.out, HS.out, hg_succ])
      have NS := Lib.hid (show s - 2 = l - 2 * ((k + 1 : Nat) : Int) by rw [HS.out]; omega)
      by_cases hlt : (k : Int) ≤ l
      · have hpos : 0 < H := by have := hg_pos (l := l) k1 hlt; rw [← HH.out] at this; exact this
        go_wp2_with fail
        go_round
        case rel => exact ⟨k + 1, H + s, s - 2, by omega, by omega, by go_num, rfl, rfl, NX, NS⟩
        case measure => simp [intOf]; omega
      · have hz : ¬ 0 < H := by have := hg_end (l := l) (k := k) (by omega); rw [← HH.out] at this; omega
        have RI := Lib.hid (ret_i (show (k : Int) = l + 1 by omega))
        go_wp2_with fail
        go_returns
        exact ⟨RI.out, by go_grown⟩

end Go.Proofs.YtokncfhpmjohdabGreat.Dp
namespace Go.Proofs.YtokncfhpmjohdabGreat.Dp
open Go.RowKit Go.Proofs.YtokncfhpmjohdabGreat.Cx Go.Proofs.YtokncfhpmjohdabGreat.Cm Go.Proofs.YtokncfhpmjohdabGreat.Pl Go.Proofs.YtokncfhpmjohdabGreat.Str Go.Proofs.YtokncfhpmjohdabGreat.Pw Go.Proofs.YtokncfhpmjohdabGreat.P2 Go.Proofs.YtokncfhpmjohdabGreat.Hd Go.Proofs.YtokncfhpmjohdabGreat.Sf Go.Proofs.YtokncfhpmjohdabGreat.Jt
set_option linter.unusedVariables false
set_option linter.unusedSimpArgs false

end Go.Proofs.YtokncfhpmjohdabGreat.Dp
namespace Go.Proofs.YtokncfhpmjohdabGreat.Dp
open Go.RowKit Go.Proofs.YtokncfhpmjohdabGreat.Cx Go.Proofs.YtokncfhpmjohdabGreat.Cm Go.Proofs.YtokncfhpmjohdabGreat.Pl Go.Proofs.YtokncfhpmjohdabGreat.Str Go.Proofs.YtokncfhpmjohdabGreat.Pw Go.Proofs.YtokncfhpmjohdabGreat.P2 Go.Proofs.YtokncfhpmjohdabGreat.Hd Go.Proofs.YtokncfhpmjohdabGreat.Sf Go.Proofs.YtokncfhpmjohdabGreat.Jt
set_option linter.unusedVariables false
set_option linter.unusedSimpArgs false

theorem inF_no {x y h t l n : Int} (k : jt x y h t l = false ∨ n < 0 ∨ l + 1 < n) : inF x y h t l n = false := by
  rw [← Bool.not_eq_true, inF_iff]
  rintro ⟨h1, h2, h3⟩
  rcases k with k | k | k
  · rw [k] at h1; cases h1
  · omega
  · omega

/-- A result of two cells in a block that is old by now. -/
structure R2 (w : World) (b : Nat) : Prop where
  c0 : w.cell? ⟨b, 0, none⟩ = some (.int .i64 0)
  c1 : w.cell? ⟨b, 1, none⟩ = some (.int .i64 0)
  f0 : w.frozen? ⟨b, 0, none⟩ = false
  f1 : w.frozen? ⟨b, 1, none⟩ = false
theorem R2.below {w w' : World} {b : Nat} (k : R2 w b) (hb : Below w.heap.size w w') : R2 w' b :=
  ⟨cell_below hb k.c0, cell_below hb k.c1, (hb.frozen (World.block_lt_of_cell? w _ k.c0)).trans k.f0, (hb.frozen (World.block_lt_of_cell? w _ k.c1)).trans k.f1⟩
theorem R2.alloc {w : World} {b : Nat} {o : Obj} (k : R2 w b) : R2 (w.alloc o) b := k.below (by go_grown)
theorem R2.drew {w : World} {b : Nat} (k : R2 w b) : R2 w.drew b := ⟨k.c0, k.c1, k.f0, k.f1⟩
theorem R2.new (w : World) : R2 (w.alloc (.cells #[.int .i64 0, .int .i64 0] 34)) w.heap.size := by constructor <;> simp [go_sem]
theorem R2.lt {w : World} {b : Nat} (k : R2 w b) : b < w.heap.size := World.block_lt_of_cell? w _ k.c0

end Go.Proofs.YtokncfhpmjohdabGreat.Dp
namespace Go.Proofs.YtokncfhpmjohdabGreat.Dp
open Go.RowKit Go.Proofs.YtokncfhpmjohdabGreat.Cx Go.Proofs.YtokncfhpmjohdabGreat.Cm Go.Proofs.YtokncfhpmjohdabGreat.Pl Go.Proofs.YtokncfhpmjohdabGreat.Str Go.Proofs.YtokncfhpmjohdabGreat.Pw Go.Proofs.YtokncfhpmjohdabGreat.P2 Go.Proofs.YtokncfhpmjohdabGreat.Hd Go.Proofs.YtokncfhpmjohdabGreat.Sf Go.Proofs.YtokncfhpmjohdabGreat.Jt
set_option linter.unusedVariables false
set_option linter.unusedSimpArgs false

end Go.Proofs.YtokncfhpmjohdabGreat.Dp
namespace Go.Proofs.YtokncfhpmjohdabGreat.Dp
open Go.RowKit Go.Proofs.YtokncfhpmjohdabGreat.Cx Go.Proofs.YtokncfhpmjohdabGreat.Cm Go.Proofs.YtokncfhpmjohdabGreat.Pl Go.Proofs.YtokncfhpmjohdabGreat.Str Go.Proofs.YtokncfhpmjohdabGreat.Pw Go.Proofs.YtokncfhpmjohdabGreat.P2 Go.Proofs.YtokncfhpmjohdabGreat.Hd Go.Proofs.YtokncfhpmjohdabGreat.Sf Go.Proofs.YtokncfhpmjohdabGreat.Jt
set_option linter.unusedVariables false
set_option linter.unusedSimpArgs false

theorem hg_up {l : Int} {m : Nat} (h : 2 * (m : Int) < l) : hg l m < hg l (m + 1) := by
  rw [← hg_succ]; omega
theorem hg_diff (l : Int) (k m : Nat) : hg l k - hg l m = ((k : Int) - m) * (l + 1 - k - m) := by
  unfold hg
  generalize (k : Int) = a
  generalize (m : Int) = b
  have e1 : (a - b) * (l + 1 - a - b) = a * (l + 1 - a - b) - b * (l + 1 - a - b) := Int.sub_mul ..
  have e2 : a * (l + 1 - a - b) = a * (l + 1 - a) - a * b := Int.mul_sub ..
  have e3 : b * (l + 1 - a - b) = b * (l + 1 - b) - b * a := by rw [show l + 1 - a - b = (l + 1 - b) - a by omega, Int.mul_sub]
  have e4 := Int.mul_comm a b
  omega
theorem hg_down {l : Int} {k m : Nat} (h1 : m ≤ k) (h2 : l + 1 ≤ (k : Int) + m) : ¬ hg l m < hg l k := by
  have e := hg_diff l k m
  have : ((k : Int) - m) * (l + 1 - k - m) ≤ 0 := Int.mul_nonpos_of_nonneg_of_nonpos (by omega) (by omega)
  omega
theorem ha_in {x y h t l : Int} {k : Nat} (hj : jt x y h t l = true) (hk : (k : Int) ≤ l + 1) : ha x y h t l k = hg l k := by
  unfold ha
  rw [if_pos (inF_iff.2 ⟨hj, by omega, hk⟩), Int.toNat_natCast]

/-- The tick of the peak. -/
def pk (x y h t l : Int) : Nat := if jt x y h t l then ((l + 1) / 2).toNat else 0
def peakV (x y h t l : Int) : Value := .tuple #[.int .i64 (pk x y h t l), .int .i64 (ha x y h t l (pk x y h t l))]
theorem pk_yes {x y h t l : Int} (hj : jt x y h t l = true) : pk x y h t l = ((l + 1) / 2).toNat := by unfold pk; rw [hj]; rfl
theorem pk_no {x y h t l : Int} (hj : jt x y h t l = false) : pk x y h t l = 0 := by unfold pk; rw [hj]; rfl
set_option maxHeartbeats 2000000 in
theorem peakI (x y h t l : Int) (w : World) : Calls Tryz.prog 20 #[jv x y h t l] w fun e w' => e = .returned (peakV x y h t l) ∧ Below w.heap.size w w' := by
  unfold peakV
  cases hj : jt x y h t l
  · have C := Lib.hid (isJetI_of hj)
    have e : ha x y h t l (pk x y h t l) = 0 := by unfold ha; rw [inF_no (Or.inl hj)]; rfl
    rw [e, pk_no hj]
    clear hj e
    go_enter Tryz.func20, Tryz.ntmps20
    go_wp2_with fail
    refine (C.out _).mono ?_
    rintro e w' ⟨rfl, rfl⟩
    go_wp2_with fail
    go_returns
    exact ⟨rfl, by go_grown⟩
  · have C := Lib.hid (isJetI_of hj)
    have hl := (jt_iff.1 hj).2.2.2.2
    have D := Lib.hid (newDrop hj)
    have O := Lib.hid (ok_of hj)
    have hN : ((pk x y h t l : Nat) : Int) = (l + 1) / 2 := by rw [pk_yes hj]; omega
    rw [ha_in hj (by omega)]
    generalize pk x y h t l = N at *
    have HN := Lib.hid hN
    have hN2 := Lib.hid (show (N : Int) ≤ l + 1 by omega)
    have T := Lib.hid (fun w' b (h : At w' b x y (tx h.toNat t 0) (ty h.toNat t 0) l N) => toldHeight O.out hN2.out h)
    clear hj hN
    generalize hg l N = r at *
    go_enter Tryz.func20, Tryz.ntmps20
    go_wp2_with fail
    refine (C.out _).mono ?_
    rintro e w' ⟨rfl, rfl⟩
    go_wp2_with fail
    refine (D.out _).mono ?_
    rintro e w1 ⟨b, rfl, hb, hA, hB⟩
    have HB := Lib.hid (show Below w.heap.size w w1 from Below.trans (by go_grown) (hB.mono (by go_size)))
    have hb2 : w.heap.size ≤ b := Nat.le_trans (by go_size) hb
    have HA := Lib.hid hA
    clear hA hB hb
    go_wp2_with fail
    refine (until_risesNoMore O.out HN.out HA.out).mono ?_
    rintro e w2 ⟨rfl, h2, g2⟩
    have G := Lib.hid g2
    have H2 := Lib.hid h2
    clear h2 g2
    go_wp2_with fail
    refine (T.out _ _ H2.out).mono ?_
    rintro e w' ⟨rfl, rfl⟩
    go_wp2_with fail
    go_returns
    exact ⟨rfl, grown_below HB.out hb2 G.out⟩

end Go.Proofs.YtokncfhpmjohdabGreat.Dp
namespace Go.Proofs.YtokncfhpmjohdabGreat.Dp
open Go.RowKit Go.Proofs.YtokncfhpmjohdabGreat.Cx Go.Proofs.YtokncfhpmjohdabGreat.Cm Go.Proofs.YtokncfhpmjohdabGreat.Pl Go.Proofs.YtokncfhpmjohdabGreat.Str Go.Proofs.YtokncfhpmjohdabGreat.Pw Go.Proofs.YtokncfhpmjohdabGreat.P2 Go.Proofs.YtokncfhpmjohdabGreat.Hd Go.Proofs.YtokncfhpmjohdabGreat.Sf Go.Proofs.YtokncfhpmjohdabGreat.Jt
set_option linter.unusedVariables false
set_option linter.unusedSimpArgs false

set_option maxHeartbeats 1000000 in
theorem heightS (x y h t l n : Int) (hn : n ≤ 9223372036854775807) (hn2 : -9223372036854775808 ≤ n) (w : World) : Calls Tryz.prog 80 #[jv x y h t l, .int .i64 n] w fun e w' => e = .returned (.int .i64 (ha x y h t l n)) ∧ Below w.heap.size w w' := by
  have F := flightS x y h t l
  by_cases c1 : fl x y h t l < n
  · have e : ha x y h t l n = 0 := by
      unfold ha
      rw [if_neg]
      intro hc
      obtain ⟨hj, h1, h2⟩ := inF_iff.1 hc
      rw [fl_yes hj] at c1
      omega
    rw [e]
    generalize fl x y h t l = f at *
    replace F := Lib.hid F
    clear e
    go_enter Tryz.func80, Tryz.ntmps80
    go_wp2_with fail
    refine (F.out _).mono ?_
    rintro e w1 ⟨rfl, hb⟩
    have HB := Lib.hid (show Below w.heap.size w w1 from Below.trans (by go_grown) (hb.mono (by go_size)))
    clear hb
    go_wp2_with fail
    go_returns
    exact ⟨rfl, HB.out⟩
  by_cases c2 : n ≤ 0
  · have e : ha x y h t l n = 0 := by
      unfold ha
      split
      · rename_i hc
        obtain ⟨hj, h1, h2⟩ := inF_iff.1 hc
        rw [show n.toNat = 0 by omega, hg_zero]
      · rfl
    rw [e]
    generalize fl x y h t l = f at *
    replace F := Lib.hid F
    clear e
    go_enter Tryz.func80, Tryz.ntmps80
    go_wp2_with fail
    refine (F.out _).mono ?_
    rintro e w1 ⟨rfl, hb⟩
    have HB := Lib.hid (show Below w.heap.size w w1 from Below.trans (by go_grown) (hb.mono (by go_size)))
    clear hb
    go_wp2_with fail
    refine wp_loop_rounds 1 ?_
    repeat any_goals (rw [rounds_succ]; go_wp2_with fail)
    go_returns
    exact ⟨rfl, HB.out⟩
  · have hj : jt x y h t l = true := by
      cases hj : jt x y h t l
      · rw [fl_no hj] at c1; omega
      · rfl
    rw [fl_yes hj] at F c1
    obtain ⟨N, rfl⟩ : ∃ N : Nat, n = N := ⟨n.toNat, by omega⟩
    have hl := (jt_iff.1 hj).2.2.2.2
    have e : ha x y h t l N = hg l N := by
      unfold ha
      rw [if_pos (inF_iff.2 ⟨hj, by omega, by omega⟩), Int.toNat_natCast]
    rw [e]
    replace F := Lib.hid F
    clear hj e
    go_enter Tryz.func80, Tryz.ntmps80
    go_wp2_with fail
    refine (F.out _).mono ?_
    rintro e w1 ⟨rfl, hb⟩
    have m4 : w1.cell? ⟨w.heap.size, 4, none⟩ = some (.int .i64 l) := cell_below hb (by simp [go_sem])
    have HB := Lib.hid (show Below w.heap.size w w1 from Below.trans (by go_grown) (hb.mono (by go_size)))
    clear hb
    go_wp2_with fail
    go_loop [5, 6] (fun b a => ∃ (k : Nat) (H : Int), k ≤ N ∧ a = .int .i64 k ∧ b = .int .i64 H ∧ Hid (H = hg l k)) (fun _ a => N - (intOf a).toNat)
    case atStart => exact ⟨0, 0, by omega, rfl, rfl, Lib.hid (hg_zero l).symm⟩
    case round =>
      obtain ⟨k, H, k2, rfl, rfl, HH⟩ := hrel
      have b3 := hg_le (l := l) (k := k) (by omega) hl.2
      have b4 := hg_nonneg (l := l) (k := k) (by omega)
      rw [← HH.out] at b3 b4
      by_cases hlt : k < N
      · have NX := Lib.hid (show H + l - 2 * (k : Int) = hg l (k + 1) by rw [← hg_succ, HH.out]; omega)
        go_wp2_with fail
        go_round
        case rel => exact ⟨k + 1, _, by omega, by go_num, rfl, NX⟩
        case measure => simp [intOf]; omega
      · have RI := Lib.hid (show H = hg l N by rw [HH.out, show k = N by omega])
        go_wp2_with fail
        go_returns
        exact ⟨ret_i RI.out, HB.out⟩

end Go.Proofs.YtokncfhpmjohdabGreat.Dp
namespace Go.Proofs.YtokncfhpmjohdabGreat.Dp
open Go.RowKit Go.Proofs.YtokncfhpmjohdabGreat.Cx Go.Proofs.YtokncfhpmjohdabGreat.Cm Go.Proofs.YtokncfhpmjohdabGreat.Pl Go.Proofs.YtokncfhpmjohdabGreat.Str Go.Proofs.YtokncfhpmjohdabGreat.Pw Go.Proofs.YtokncfhpmjohdabGreat.P2 Go.Proofs.YtokncfhpmjohdabGreat.Hd Go.Proofs.YtokncfhpmjohdabGreat.Sf Go.Proofs.YtokncfhpmjohdabGreat.Jt
set_option linter.unusedVariables false
set_option linter.unusedSimpArgs false

set_option maxHeartbeats 4000000 in
set_option maxRecDepth 100000 in
theorem peakS (x y h t l : Int) (w : World) : Calls Tryz.prog 40 #[jv x y h t l] w fun e w' => e = .returned (peakV x y h t l) ∧ Below w.heap.size w w' := by
  have F := flightS x y h t l
  obtain ⟨f, hf⟩ : ∃ f : Nat, fl x y h t l = f := by
    cases hj : jt x y h t l
    · exact ⟨0, fl_no hj⟩
    · exact ⟨(l + 1).toNat, by rw [fl_yes hj]; have := (jt_iff.1 hj).2.2.2.2; omega⟩
  rw [hf] at F
  have hf2 : f ≠ 0 → jt x y h t l = true ∧ (f : Int) = l + 1 ∧ 1 ≤ l ∧ l ≤ 32 := by
    intro h0
    cases hj : jt x y h t l
    · rw [fl_no hj] at hf; omega
    · rw [fl_yes hj] at hf; exact ⟨rfl, hf.symm, (jt_iff.1 hj).2.2.2.2⟩
  have hf0 : f ≤ 33 := by
    by_cases c : f = 0
    · omega
    · have := hf2 c; omega
  obtain ⟨M, hM⟩ : ∃ M : Nat, M = ((l + 1) / 2).toNat := ⟨_, rfl⟩
  have EP := Lib.hid (show pk x y h t l = min f M by
    cases hj : jt x y h t l
    · rw [pk_no hj]; rw [fl_no hj] at hf; omega
    · rw [pk_yes hj]; rw [fl_yes hj] at hf; omega)
  replace F := Lib.hid F
  have HM0 := Lib.hid hM
  have HF2 := Lib.hid hf2
  clear hf hf2 hM
  go_enter Tryz.func40, Tryz.ntmps40
  go_wp2_with fail
  go_loopw [4, 5] (fun a s wr => ∃ k m : Nat, 1 ≤ k ∧ k ≤ f + 1 ∧ a = .int .i64 m ∧ s = .int .i64 k ∧ Hid (m = min (k - 1) M) ∧ Hid (J5 wr w.heap.size x y h t l) ∧ Hid (Below w.heap.size w wr)) (fun _ s _ => f + 1 - (intOf s).toNat)
  case atStart => exact ⟨1, 0, by omega, by omega, rfl, rfl, Lib.hid (by omega), Lib.hid (J5.new w x y h t l 47), Lib.hid (by go_grown)⟩
  case round =>
    obtain ⟨k, m, k1, k2, rfl, rfl, HM, HJ, HB⟩ := hrel
    obtain ⟨j0, j1, j2, j3, j4⟩ := HJ.out
    by_cases hlt : k ≤ f
    · obtain ⟨hj, hl0, hl1, hl2⟩ := HF2.out (by omega)
      have hM := HM0.out
      by_cases hup : k ≤ M
      · clear j0
        have j0 := HJ.out.1
        have hd : (ha x y h t l m < ha x y h t l k) := by
          have e := HM.out
          rw [ha_in hj (by omega), ha_in hj (by omega)]
          have e2 : k = m + 1 := by omega
          rw [e2]; exact hg_up (by omega)
        have HK := heightS x y h t l (k : Int) (by omega) (by omega)
        have HMM := heightS x y h t l (m : Int) (by have := HM.out; omega) (by omega)
        generalize ha x y h t l (k : Int) = A at *
        generalize ha x y h t l (m : Int) = B at *
        replace HK := Lib.hid HK
        replace HMM := Lib.hid HMM
        have NX := Lib.hid (show k = min (k + 1 - 1) M by omega)
        clear hj
        go_wp2_with fail
        refine (F.out _).mono ?_
        rintro e v1 ⟨rfl, hb⟩
        have hJ := J5.below HJ.out hb
        have HB1 := Lib.hid (HB.out.trans (hb.mono HB.out.size))
        clear hb
        go_wp2_with fail
        go_region_held3 (fun w' => w'.cell? ⟨w.heap.size, 0, none⟩ = some (.int .i64 x) ∧ w'.cell? ⟨w.heap.size, 1, none⟩ = some (.int .i64 y) ∧ w'.cell? ⟨w.heap.size, 2, none⟩ = some (.int .i64 h) ∧ w'.cell? ⟨w.heap.size, 3, none⟩ = some (.int .i64 t) ∧ w'.cell? ⟨w.heap.size, 4, none⟩ = some (.int .i64 l)) ((first | (with_reducible exact hJ) | (with_reducible exact hJ2) | (with_reducible exact hJ3) | exact J5.drew hJ))
          (first
            | (go_at_call 80; ((with_reducible refine (HK.out _).mono ?_); rintro e v2 ⟨rfl, hb⟩; have hJ2 := J5.below (J5.drew hJ) hb; have HB2 := Lib.hid (HB1.out.trans (Below.trans (show Below w.heap.size v1 v1.drew from (Below.refl _ _).drew) (hb.mono HB1.out.size))); clear hb))
            | (go_at_call 80; ((with_reducible refine (HMM.out _).mono ?_); rintro e v3 ⟨rfl, hb⟩; have hJ3 := J5.below hJ2 hb; have HB3 := Lib.hid (HB2.out.trans (hb.mono HB2.out.size)); clear hb)))
        have HJ3 := Lib.hid hJ3
        clear hJ hJ2 hJ3
        go_wp2_with fail
        go_roundw
        case rel => exact ⟨k + 1, k, by omega, by omega, rfl, by go_num, NX, HJ3, HB3⟩
        case measure => simp [intOf]; omega
      · clear j0
        have j0 := HJ.out.1
        have hd : ¬ (ha x y h t l m < ha x y h t l k) := by
          have e := HM.out
          rw [ha_in hj (by omega), ha_in hj (by omega)]
          have e2 : m = M := by omega
          rw [e2]; exact hg_down (by omega) (by omega)
        have HK := heightS x y h t l (k : Int) (by omega) (by omega)
        have HMM := heightS x y h t l (m : Int) (by have := HM.out; omega) (by omega)
        generalize ha x y h t l (k : Int) = A at *
        generalize ha x y h t l (m : Int) = B at *
        replace HK := Lib.hid HK
        replace HMM := Lib.hid HMM
        have NX := Lib.hid (show m = min (k + 1 - 1) M by have := HM.out; omega)
        clear hj
        go_wp2_with fail
        refine (F.out _).mono ?_
        rintro e v1 ⟨rfl, hb⟩
        have hJ := J5.below HJ.out hb
        have HB1 := Lib.hid (HB.out.trans (hb.mono HB.out.size))
        clear hb
        go_wp2_with fail
        go_region_held3 (fun w' => w'.cell? ⟨w.heap.size, 0, none⟩ = some (.int .i64 x) ∧ w'.cell? ⟨w.heap.size, 1, none⟩ = some (.int .i64 y) ∧ w'.cell? ⟨w.heap.size, 2, none⟩ = some (.int .i64 h) ∧ w'.cell? ⟨w.heap.size, 3, none⟩ = some (.int .i64 t) ∧ w'.cell? ⟨w.heap.size, 4, none⟩ = some (.int .i64 l)) ((first | (with_reducible exact hJ) | (with_reducible exact hJ2) | (with_reducible exact hJ3) | exact J5.drew hJ))
          (first
            | (go_at_call 80; ((with_reducible refine (HK.out _).mono ?_); rintro e v2 ⟨rfl, hb⟩; have hJ2 := J5.below (J5.drew hJ) hb; have HB2 := Lib.hid (HB1.out.trans (Below.trans (show Below w.heap.size v1 v1.drew from (Below.refl _ _).drew) (hb.mono HB1.out.size))); clear hb))
            | (go_at_call 80; ((with_reducible refine (HMM.out _).mono ?_); rintro e v3 ⟨rfl, hb⟩; have hJ3 := J5.below hJ2 hb; have HB3 := Lib.hid (HB2.out.trans (hb.mono HB2.out.size)); clear hb)))
        have HJ3 := Lib.hid hJ3
        clear hJ hJ2 hJ3
        go_wp2_with fail
        go_roundw
        case rel => exact ⟨k + 1, m, by omega, by omega, rfl, by go_num, NX, HJ3, HB3⟩
        case measure => simp [intOf]; omega
    · have HMM := heightS x y h t l (m : Int) (by have := HM.out; omega) (by omega)
      have e := HM.out
      have em := EP.out
      have hm2 : m = pk x y h t l := by rw [em, e]; omega
      rw [hm2] at HMM
      have RP := Lib.hid (show Ending.returned (.tuple #[.int .i64 (pk x y h t l), .int .i64 (ha x y h t l (pk x y h t l))]) = .returned (peakV x y h t l) from rfl)
      subst hm2
      clear e em
      generalize pk x y h t l = m at *
      generalize ha x y h t l (m : Int) = B at *
      replace HMM := Lib.hid HMM
      go_wp2_with fail
      refine (F.out _).mono ?_
      rintro e v1 ⟨rfl, hb⟩
      have HB1 := Lib.hid (HB.out.trans (hb.mono HB.out.size))
      obtain ⟨i0, i1, i2, i3, i4⟩ := J5.below HJ.out hb
      clear hb j0 j1 j2 j3 j4
      go_wp2_with fail
      refine (HMM.out _).mono ?_
      rintro e v2 ⟨rfl, hb⟩
      have HB2 := Lib.hid (HB1.out.trans (hb.mono HB1.out.size))
      clear hb
      go_wp2_with fail
      go_returns
      exact ⟨RP.out, HB2.out⟩

end Go.Proofs.YtokncfhpmjohdabGreat.Dp
