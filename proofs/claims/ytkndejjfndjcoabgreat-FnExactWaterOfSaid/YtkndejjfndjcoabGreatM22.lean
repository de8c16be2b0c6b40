/- What the model answers for a jet: its flight, its heights. -/
import Derived.Test.YtkndejjfndjcoabGreatFf
import Derived.Test.YtkndejjfndjcoabGreatM15
namespace Go.Proofs.YtkndejjfndjcoabGreat.Dp
open Go.RowKit Go.Proofs.YtkndejjfndjcoabGreat.Cx Go.Proofs.YtkndejjfndjcoabGreat.Cm Go.Proofs.YtkndejjfndjcoabGreat.Pl Go.Proofs.YtkndejjfndjcoabGreat.Str Go.Proofs.YtkndejjfndjcoabGreat.Pw Go.Proofs.YtkndejjfndjcoabGreat.P2 Go.Proofs.YtkndejjfndjcoabGreat.Hd Go.Proofs.YtkndejjfndjcoabGreat.Sf Go.Proofs.YtkndejjfndjcoabGreat.Jt
set_option linter.unusedVariables false
set_option linter.unusedSimpArgs false

theorem hg_one (l : Int) : hg l 1 = l := by unfold hg; simp

set_option maxHeartbeats 1000000 in
theorem flightS (x y h t l : Int) (w : World) : Calls Tryz.prog 41 #[jv x y h t l] w fun e w' => e = .returned (.int .i64 (fl x y h t l)) ∧ Below w.heap.size w w' := by
  cases hj : jt x y h t l
  · rw [fl_no hj]
    have C := Lib.hid (isJetS_of hj)
    clear hj
    go_enter Tryz.func41, Tryz.ntmps41
    go_wp2_with fail
    refine (C.out _).mono ?_
    rintro e w' ⟨rfl, rfl⟩
    go_wp2_with fail
    go_returns
    exact ⟨rfl, by go_grown⟩
  · rw [fl_yes hj]
    have hl := (jt_iff.1 hj).2.2.2.2
    have C := Lib.hid (isJetS_of hj)
    have H1 := Lib.hid (hg_one l)
    clear hj
    go_enter Tryz.func41, Tryz.ntmps41
    go_wp2_with fail
    refine (C.out _).mono ?_
    rintro e w' ⟨rfl, rfl⟩
    go_wp2_with fail
    go_loop [3, 4, 5] (fun a b c => ∃ (k : Nat) (H s : Int), 1 ≤ k ∧ (k : Int) ≤ l + 1 ∧ a = .int .i64 k ∧ b = .int .i64 H ∧ c = .int .i64 s ∧ Hid (H = hg l k) ∧ Hid (s = l - 2 * k)) (fun a _ _ => (l + 1 - intOf a).toNat)
    case atStart => exact ⟨1, l, l - 2, by omega, by omega, rfl, rfl, rfl, Lib.hid H1.out.symm, Lib.hid (by omega)⟩
    case round =>
      obtain ⟨k, H, s, k1, k2, rfl, rfl, rfl, HH, HS⟩ := hrel
      have b3 := hg_le (k := k) k2 hl.2
      have b4 := hg_nonneg (l := l) (k := k) k2
      rw [← HH.out] at b3 b4
      have b5 : -66 ≤ s ∧ s ≤ 32 := by have := HS.out; omega
      have NX := Lib.hid (show H + s = hg l (k + 1) by rw [HH.out, HS.out, hg_succ])
      have NS := Lib.hid (show s - 2 = l - 2 * ((k + 1 : Nat) : Int) by rw [HS.out]; omega)
      by_cases hlt : (k : Int) ≤ l
      · have hpos : 0 < H := by have := hg_pos (l := l) k1 hlt; rw [← HH.out] at this; exact this
        go_wp2_with fail
        go_round
        case rel => exact ⟨k + 1, H + s, s - 2, by omega, by omega, by go_num, rfl, rfl, NX, NS⟩
        case measure => simp [intOf]; omega
      · have hz : ¬ 0 < H := by have := hg_end (l := l) (k := k) (by omega); rw [← HH.out] at this; omega
        have RI := Lib.hid (ret_i (show (k : Int) = l + 1 by omega))
        go_wp2_with fail
        go_returns
        exact ⟨RI.out, by go_grown⟩

end Go.Proofs.YtkndejjfndjcoabGreat.Dp
namespace Go.Proofs.YtkndejjfndjcoabGreat.Dp
open Go.RowKit Go.Proofs.YtkndejjfndjcoabGreat.Cx Go.Proofs.YtkndejjfndjcoabGreat.Cm Go.Proofs.YtkndejjfndjcoabGreat.Pl Go.Proofs.YtkndejjfndjcoabGreat.Str Go.Proofs.YtkndejjfndjcoabGreat.Pw Go.Proofs.YtkndejjfndjcoabGreat.P2 Go.Proofs.YtkndejjfndjcoabGreat.Hd Go.Proofs.YtkndejjfndjcoabGreat.Sf Go.Proofs.YtkndejjfndjcoabGreat.Jt
set_option linter.unusedVariables false
set_option linter.unusedSimpArgs false

theorem tx_mul (k : Nat) (n t : Int) : tx k (n * t) 0 = n * tx k t 0 := by
  unfold tx; split <;> simp [Int.mul_neg]
theorem ty_mul (k : Nat) (n t : Int) : ty k (n * t) 0 = n * ty k t 0 := by
  unfold ty; split <;> simp [Int.mul_neg]

theorem mul_le {N : Nat} {P : Int} (hN : N ≤ 33) (hP : -16 ≤ P ∧ P ≤ 16) : -528 ≤ (N : Int) * P ∧ (N : Int) * P ≤ 528 := by
  have h1 : (N : Int) * P ≤ (N : Int) * 16 := Int.mul_le_mul_of_nonneg_left hP.2 (by omega)
  have h2 : (N : Int) * (-16) ≤ (N : Int) * P := Int.mul_le_mul_of_nonneg_left hP.1 (by omega)
  omega

abbrev agg2 (x y : Int) : Value := .agg #[.int .i64 x, .int .i64 y]

set_option maxHeartbeats 2000000 in
set_option maxRecDepth 100000 in
theorem l3Place {x y h t l : Int} {N : Nat} (hj : jt x y h t l = true) (hN : (N : Int) ≤ l + 1) (w : World) :
    Calls Tryz.prog 84 #[jv x y h t l, .int .i64 N] w fun e w' => e = .returned (agg2 (wy x (tx h.toNat t 0) N) (wy y (ty h.toNat t 0) N)) ∧ Below w.heap.size w w' := by
  obtain ⟨hx, hy, hh, ht, hl⟩ := jt_iff.1 hj
  have o := ok_of hj
  have bt := mul_le (N := N) (P := t) (by omega) (by omega)
  have bp := mul_le (N := N) (by omega) o.p
  have bq := mul_le (N := N) (by omega) o.q
  have m1 : IntKind.i64.wrap ((N : Int) * t) = (N : Int) * t := IntWalk.i64_in _ (by omega)
  have LT := l2Turn h (x := (N : Int) * t) (y := 0) (by omega) (by omega)
  rw [show h % 4 = h by omega, tx_mul, ty_mul] at LT
  unfold wy
  generalize (N : Int) * tx h.toNat t 0 = X at *
  generalize (N : Int) * ty h.toNat t 0 = Y at *
  have LA := Lib.hid (l2Add x y X Y (IntWalk.wrap64_in _ (by omega)) (IntWalk.wrap64_in _ (by omega)))
  have m2 : wrap64 ((N : Int) * t) = (N : Int) * t := IntWalk.wrap64_in _ (by omega)
  replace LT := Lib.hid LT
  clear hj hN hx hy hh ht hl o bt bp bq
  go_enter Tryz.func84, Tryz.ntmps84
  go_wp2_with fail
  go_region_held3 (fun w' => w'.cell? ⟨w.heap.size, 0, none⟩ = some (.int .i64 x) ∧ w'.cell? ⟨w.heap.size, 1, none⟩ = some (.int .i64 y) ∧ w'.cell? ⟨w.heap.size, 2, none⟩ = some (.int .i64 h) ∧ w'.cell? ⟨w.heap.size, 3, none⟩ = some (.int .i64 t) ∧ w'.cell? ⟨w.heap.size, 4, none⟩ = some (.int .i64 l)) ((repeat (first | (with_reducible exact J5.new _ _ _ _ _ _ _) | (with_reducible refine J5.drew ?_) | (with_reducible refine J5.alloc ?_))))
    (first
      | (go_at_call 115; ((with_reducible refine (LT.out _).mono ?_); rintro e w' ⟨rfl, rfl⟩))
      | (go_at_call 83; ((with_reducible refine (LA.out _).mono ?_); rintro e w' ⟨rfl, rfl⟩)))
  all_goals go_wp2_with fail
  all_goals go_returns
  all_goals exact ⟨rfl, by go_grown⟩

end Go.Proofs.YtkndejjfndjcoabGreat.Dp
namespace Go.Proofs.YtkndejjfndjcoabGreat.Dp
open Go.RowKit Go.Proofs.YtkndejjfndjcoabGreat.Cx Go.Proofs.YtkndejjfndjcoabGreat.Cm Go.Proofs.YtkndejjfndjcoabGreat.Pl Go.Proofs.YtkndejjfndjcoabGreat.Str Go.Proofs.YtkndejjfndjcoabGreat.Pw Go.Proofs.YtkndejjfndjcoabGreat.P2 Go.Proofs.YtkndejjfndjcoabGreat.Hd Go.Proofs.YtkndejjfndjcoabGreat.Sf Go.Proofs.YtkndejjfndjcoabGreat.Jt
set_option linter.unusedVariables false
set_option linter.unusedSimpArgs false

theorem told2_no {c : Bool} {a b : Int} (h : c = false) : told2 c a b = .tuple #[.agg #[.int .i64 0, .int .i64 0], .bool false] := by subst h; rfl
theorem told2_yes {c : Bool} {a b : Int} (h : c = true) : told2 c a b = .tuple #[.agg #[.int .i64 a, .int .i64 b], .bool true] := by subst h; rfl
theorem inF_no {x y h t l n : Int} (k : jt x y h t l = false ∨ n < 0 ∨ l + 1 < n) : inF x y h t l n = false := by
  rw [← Bool.not_eq_true, inF_iff]
  rintro ⟨h1, h2, h3⟩
  rcases k with k | k | k
  · rw [k] at h1; cases h1
  · omega
  · omega

/-- A result of two cells in a block that is old by now. -/
structure R2 (w : World) (b : Nat) : Prop where
  c0 : w.cell? ⟨b, 0, none⟩ = some (.int .i64 0)
  c1 : w.cell? ⟨b, 1, none⟩ = some (.int .i64 0)
  f0 : w.frozen? ⟨b, 0, none⟩ = false
  f1 : w.frozen? ⟨b, 1, none⟩ = false
theorem R2.below {w w' : World} {b : Nat} (k : R2 w b) (hb : Below w.heap.size w w') : R2 w' b :=
  ⟨cell_below hb k.c0, cell_below hb k.c1, (hb.frozen (World.block_lt_of_cell? w _ k.c0)).trans k.f0, (hb.frozen (World.block_lt_of_cell? w _ k.c1)).trans k.f1⟩
theorem R2.alloc {w : World} {b : Nat} {o : Obj} (k : R2 w b) : R2 (w.alloc o) b := k.below (by go_grown)
theorem R2.drew {w : World} {b : Nat} (k : R2 w b) : R2 w.drew b := ⟨k.c0, k.c1, k.f0, k.f1⟩
theorem R2.s0 {w : World} {b : Nat} (k : R2 w b) (P Q : Value) : ((w.setCell ⟨b, 0, none⟩ P).setCell ⟨b, 1, none⟩ Q).cell? ⟨b, 0, none⟩ = some P := set2_0 (by rw [k.c0]; rfl)
theorem R2.s1 {w : World} {b : Nat} (k : R2 w b) (P Q : Value) : ((w.setCell ⟨b, 0, none⟩ P).setCell ⟨b, 1, none⟩ Q).cell? ⟨b, 1, none⟩ = some Q := set2_1 (by rw [k.c1]; rfl)
theorem R2.new (w : World) : R2 (w.alloc (.cells #[.int .i64 0, .int .i64 0] 51)) w.heap.size := by constructor <;> simp [go_sem]
theorem R2.lt {w : World} {b : Nat} (k : R2 w b) : b < w.heap.size := World.block_lt_of_cell? w _ k.c0

abbrev jw (w : World) (x y h t l : Int) : World := (w.alloc (.cells (jc x y h t l) 53)).alloc (.cells #[.int .i64 0, .int .i64 0] 51)
theorem jw_r (w : World) (x y h t l : Int) : R2 (jw w x y h t l) (w.heap.size + 1) := by
  have := R2.new (w.alloc (.cells (jc x y h t l) 53))
  rw [World.size_alloc] at this; exact this

theorem toldAt {w : World} {b : Nat} {X Y P Q l : Int} {N : Nat} (o : Ok X Y P Q l) (hN : (N : Int) ≤ l + 1) (h : At w b X Y P Q l N) :
    ∃ re im, w.cell? ⟨b, 0, none⟩ = some (.complex .f32 re im) ∧ ∀ w, Calls Tryz.prog 119 #[.complex .f32 re im] w fun e w' => e = .returned (.tuple #[agg2 (wy X P N) (wy Y Q N), .bool true]) ∧ w' = w.alloc (.cells #[.int .i64 (wy X P N), .int .i64 (wy Y Q N)] 51) := by
  have hl := o.l
  have b1 := wy_le (k := N) o.x o.p (by omega)
  have b2 := wy_le (k := N) o.y o.q (by omega)
  obtain ⟨x, y, p, q, g, s, hD, i1, i2, i3, i4, i5, i6⟩ := h
  exact ⟨x, y, hD.c0, toldYes (by omega) (by omega) i1 i2⟩

end Go.Proofs.YtkndejjfndjcoabGreat.Dp
namespace Go.Proofs.YtkndejjfndjcoabGreat.Dp
open Go.RowKit Go.Proofs.YtkndejjfndjcoabGreat.Cx Go.Proofs.YtkndejjfndjcoabGreat.Cm Go.Proofs.YtkndejjfndjcoabGreat.Pl Go.Proofs.YtkndejjfndjcoabGreat.Str Go.Proofs.YtkndejjfndjcoabGreat.Pw Go.Proofs.YtkndejjfndjcoabGreat.P2 Go.Proofs.YtkndejjfndjcoabGreat.Hd Go.Proofs.YtkndejjfndjcoabGreat.Sf Go.Proofs.YtkndejjfndjcoabGreat.Jt
set_option linter.unusedVariables false
set_option linter.unusedSimpArgs false

/-- Where the drop lands, and whether it does. -/
def landV (x y h t l : Int) : Value := told2 (inF x y h t l (fl x y h t l)) (wy x (tx h.toNat t 0) (fl x y h t l).toNat) (wy y (ty h.toNat t 0) (fl x y h t l).toNat)
theorem J5.set2 {w : World} {b b' i j : Nat} {u v : Value} {x y h t l : Int} (e : b' ≠ b) (k : J5 w b x y h t l) : J5 ((w.setCell ⟨b', i, none⟩ u).setCell ⟨b', j, none⟩ v) b x y h t l :=
  have f : ∀ o c, w.cell? ⟨b, o, none⟩ = some c → ((w.setCell ⟨b', i, none⟩ u).setCell ⟨b', j, none⟩ v).cell? ⟨b, o, none⟩ = some c := fun o c h => (World.cell?_setCell_other _ _ _ _ (by simp [e])).trans ((World.cell?_setCell_other _ _ _ _ (by simp [e])).trans h)
  ⟨f _ _ k.1, f _ _ k.2.1, f _ _ k.2.2.1, f _ _ k.2.2.2.1, f _ _ k.2.2.2.2⟩
theorem fl_le (x y h t l : Int) : -9223372036854775808 ≤ fl x y h t l ∧ fl x y h t l ≤ 9223372036854775807 := by
  cases hj : jt x y h t l
  · rw [fl_no hj]; omega
  · have := (jt_iff.1 hj).2.2.2.2
    rw [fl_yes hj]; omega

end Go.Proofs.YtkndejjfndjcoabGreat.Dp
namespace Go.Proofs.YtkndejjfndjcoabGreat.Dp
open Go.RowKit Go.Proofs.YtkndejjfndjcoabGreat.Cx Go.Proofs.YtkndejjfndjcoabGreat.Cm Go.Proofs.YtkndejjfndjcoabGreat.Pl Go.Proofs.YtkndejjfndjcoabGreat.Str Go.Proofs.YtkndejjfndjcoabGreat.Pw Go.Proofs.YtkndejjfndjcoabGreat.P2 Go.Proofs.YtkndejjfndjcoabGreat.Hd Go.Proofs.YtkndejjfndjcoabGreat.Sf Go.Proofs.YtkndejjfndjcoabGreat.Jt
set_option linter.unusedVariables false
set_option linter.unusedSimpArgs false

theorem hg_up {l : Int} {m : Nat} (h : 2 * (m : Int) < l) : hg l m < hg l (m + 1) := by
  rw [← hg_succ]; omega
theorem hg_diff (l : Int) (k m : Nat) : hg l k - hg l m = ((k : Int) - m) * (l + 1 - k - m) := by
  unfold hg
  generalize (k : Int) = a
  generalize (m : Int) = b
  have e1 : (a - b) * (l + 1 - a - b) = a * (l + 1 - a - b) - b * (l + 1 - a - b) := Int.sub_mul ..
  have e2 : a * (l + 1 - a - b) = a * (l + 1 - a) - a * b := Int.mul_sub ..
  have e3 : b * (l + 1 - a - b) = b * (l + 1 - b) - b * a := by rw [show l + 1 - a - b = (l + 1 - b) - a by omega, Int.mul_sub]
  have e4 := Int.mul_comm a b
  omega
theorem hg_down {l : Int} {k m : Nat} (h1 : m ≤ k) (h2 : l + 1 ≤ (k : Int) + m) : ¬ hg l m < hg l k := by
  have e := hg_diff l k m
  have : ((k : Int) - m) * (l + 1 - k - m) ≤ 0 := Int.mul_nonpos_of_nonneg_of_nonpos (by omega) (by omega)
  omega
theorem ha_in {x y h t l : Int} {k : Nat} (hj : jt x y h t l = true) (hk : (k : Int) ≤ l + 1) : ha x y h t l k = hg l k := by
  unfold ha
  rw [if_pos (inF_iff.2 ⟨hj, by omega, hk⟩), Int.toNat_natCast]

/-- The tick of the peak. -/
def pk (x y h t l : Int) : Nat := if jt x y h t l then ((l + 1) / 2).toNat else 0
def peakV (x y h t l : Int) : Value := .tuple #[.int .i64 (pk x y h t l), .int .i64 (ha x y h t l (pk x y h t l))]
theorem pk_yes {x y h t l : Int} (hj : jt x y h t l = true) : pk x y h t l = ((l + 1) / 2).toNat := by unfold pk; rw [hj]; rfl
theorem pk_no {x y h t l : Int} (hj : jt x y h t l = false) : pk x y h t l = 0 := by unfold pk; rw [hj]; rfl
theorem ret_2 {a b c d : Int} (h1 : a = c) (h2 : b = d) : Ending.returned (.tuple #[.int .i64 a, .int .i64 b]) = .returned (.tuple #[.int .i64 c, .int .i64 d]) := by rw [h1, h2]

set_option maxHeartbeats 2000000 in
theorem peakI (x y h t l : Int) (w : World) : Calls Tryz.prog 46 #[jv x y h t l] w fun e w' => e = .returned (peakV x y h t l) ∧ Below w.heap.size w w' := by
  unfold peakV
  cases hj : jt x y h t l
  · have C := Lib.hid (isJetI_of hj)
    have e : ha x y h t l (pk x y h t l) = 0 := by unfold ha; rw [inF_no (Or.inl hj)]; rfl
    rw [e, pk_no hj]
    clear hj e
    go_enter Tryz.func46, Tryz.ntmps46
    go_wp2_with fail
    refine (C.out _).mono ?_
    rintro e w' ⟨rfl, rfl⟩
    go_wp2_with fail
    go_returns
    exact ⟨rfl, by go_grown⟩
  · have C := Lib.hid (isJetI_of hj)
    have hl := (jt_iff.1 hj).2.2.2.2
    have D := Lib.hid (newDrop hj)
    have O := Lib.hid (ok_of hj)
    have hN : ((pk x y h t l : Nat) : Int) = (l + 1) / 2 := by rw [pk_yes hj]; omega
    rw [ha_in hj (by omega)]
    generalize pk x y h t l = N at *
    have HN := Lib.hid hN
    have hN2 := Lib.hid (show (N : Int) ≤ l + 1 by omega)
    have T := Lib.hid (fun w' b (h : At w' b x y (tx h.toNat t 0) (ty h.toNat t 0) l N) => toldHeight O.out hN2.out h)
    clear hj hN
    generalize hg l N = r at *
    go_enter Tryz.func46, Tryz.ntmps46
    go_wp2_with fail
    refine (C.out _).mono ?_
    rintro e w' ⟨rfl, rfl⟩
    go_wp2_with fail
    refine (D.out _).mono ?_
    rintro e w1 ⟨b, rfl, hb, hA, hB⟩
    have HB := Lib.hid (show Below w.heap.size w w1 from Below.trans (by go_grown) (hB.mono (by go_size)))
    have hb2 : w.heap.size ≤ b := Nat.le_trans (by go_size) hb
    have HA := Lib.hid hA
    clear hA hB hb
    go_wp2_with fail
    refine (until_risesNoMore O.out HN.out HA.out).mono ?_
    rintro e w2 ⟨rfl, h2, g2⟩
    have G := Lib.hid g2
    have H2 := Lib.hid h2
    clear h2 g2
    go_wp2_with fail
    refine (T.out _ _ H2.out).mono ?_
    rintro e w' ⟨rfl, rfl⟩
    go_wp2_with fail
    go_returns
    exact ⟨rfl, grown_below HB.out hb2 G.out⟩

end Go.Proofs.YtkndejjfndjcoabGreat.Dp
namespace Go.Proofs.YtkndejjfndjcoabGreat.Dp
open Go.RowKit Go.Proofs.YtkndejjfndjcoabGreat.Cx Go.Proofs.YtkndejjfndjcoabGreat.Cm Go.Proofs.YtkndejjfndjcoabGreat.Pl Go.Proofs.YtkndejjfndjcoabGreat.Str Go.Proofs.YtkndejjfndjcoabGreat.Pw Go.Proofs.YtkndejjfndjcoabGreat.P2 Go.Proofs.YtkndejjfndjcoabGreat.Hd Go.Proofs.YtkndejjfndjcoabGreat.Sf Go.Proofs.YtkndejjfndjcoabGreat.Jt
set_option linter.unusedVariables false
set_option linter.unusedSimpArgs false

set_option maxHeartbeats 1000000 in
theorem heightS (x y h t l n : Int) (hn : n ≤ 9223372036854775807) (hn2 : -9223372036854775808 ≤ n) (w : World) : Calls Tryz.prog 72 #[jv x y h t l, .int .i64 n] w fun e w' => e = .returned (.int .i64 (ha x y h t l n)) ∧ Below w.heap.size w w' := by
  have F := flightS x y h t l
  by_cases c1 : fl x y h t l < n
  · have e : ha x y h t l n = 0 := by
      unfold ha
      rw [if_neg]
      intro hc
      obtain ⟨hj, h1, h2⟩ := inF_iff.1 hc
      rw [fl_yes hj] at c1
      omega
    rw [e]
    generalize fl x y h t l = f at *
    replace F := Lib.hid F
    clear e
    go_enter Tryz.func72, Tryz.ntmps72
    go_wp2_with fail
    refine (F.out _).mono ?_
    rintro e w1 ⟨rfl, hb⟩
    have HB := Lib.hid (show Below w.heap.size w w1 from Below.trans (by go_grown) (hb.mono (by go_size)))
    clear hb
    go_wp2_with fail
    go_returns
    exact ⟨rfl, HB.out⟩
  by_cases c2 : n ≤ 0
  · have e : ha x y h t l n = 0 := by
      unfold ha
      split
      · rename_i hc
        obtain ⟨hj, h1, h2⟩ := inF_iff.1 hc
        rw [show n.toNat = 0 by omega, hg_zero]
      · rfl
    rw [e]
    generalize fl x y h t l = f at *
    replace F := Lib.hid F
    clear e
    go_enter Tryz.func72, Tryz.ntmps72
    go_wp2_with fail
    refine (F.out _).mono ?_
    rintro e w1 ⟨rfl, hb⟩
    have HB := Lib.hid (show Below w.heap.size w w1 from Below.trans (by go_grown) (hb.mono (by go_size)))
    clear hb
    go_wp2_with fail
    refine wp_loop_rounds 1 ?_
    repeat any_goals (rw [rounds_succ]; go_wp2_with fail)
    go_returns
    exact ⟨rfl, HB.out⟩
  · have hj : jt x y h t l = true := by
      cases hj : jt x y h t l
      · rw [fl_no hj] at c1; omega
      · rfl
    rw [fl_yes hj] at F c1
    obtain ⟨N, rfl⟩ : ∃ N : Nat, n = N := ⟨n.toNat, by omega⟩
    have hl := (jt_iff.1 hj).2.2.2.2
    have e : ha x y h t l N = hg l N := by
      unfold ha
      rw [if_pos (inF_iff.2 ⟨hj, by omega, by omega⟩), Int.toNat_natCast]
    rw [e]
    replace F := Lib.hid F
    clear hj e
    go_enter Tryz.func72, Tryz.ntmps72
    go_wp2_with fail
    refine (F.out _).mono ?_
    rintro e w1 ⟨rfl, hb⟩
    have m4 : w1.cell? ⟨w.heap.size, 4, none⟩ = some (.int .i64 l) := cell_below hb (by simp [go_sem])
    have HB := Lib.hid (show Below w.heap.size w w1 from Below.trans (by go_grown) (hb.mono (by go_size)))
    clear hb
    go_wp2_with fail
    go_loop [5, 6] (fun b a => ∃ (k : Nat) (H : Int), k ≤ N ∧ a = .int .i64 k ∧ b = .int .i64 H ∧ Hid (H = hg l k)) (fun _ a => N - (intOf a).toNat)
    case atStart => exact ⟨0, 0, by omega, rfl, rfl, Lib.hid (hg_zero l).symm⟩
    case round =>
      obtain ⟨k, H, k2, rfl, rfl, HH⟩ := hrel
      have b3 := hg_le (l := l) (k := k) (by omega) hl.2
      have b4 := hg_nonneg (l := l) (k := k) (by omega)
      rw [← HH.out] at b3 b4
      by_cases hlt : k < N
      · have NX := Lib.hid (show H + l - 2 * (k : Int) = hg l (k + 1) by rw [← hg_succ, HH.out]; omega)
        go_wp2_with fail
        go_round
        case rel => exact ⟨k + 1, _, by omega, by go_num, rfl, NX⟩
        case measure => simp [intOf]; omega
      · have RI := Lib.hid (show H = hg l N by rw [HH.out, show k = N by omega])
        go_wp2_with fail
        go_returns
        exact ⟨ret_i RI.out, HB.out⟩

end Go.Proofs.YtkndejjfndjcoabGreat.Dp
