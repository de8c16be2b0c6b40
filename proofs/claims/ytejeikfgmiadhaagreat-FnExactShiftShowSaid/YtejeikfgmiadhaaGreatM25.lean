/- What the model answers for a jet: its flight, its heights. -/
import Derived.Test.YtejeikfgmiadhaaGreatFf
import Derived.Test.YtejeikfgmiadhaaGreatM21
import Derived.Deep.DeepCutAuto
import Derived.Handy
import Derived.Deep.RegionWith
import Derived.ProofKit
namespace Go.Proofs.YtejeikfgmiadhaaGreat.Dp
open Go.RowKit Go.Proofs.YtejeikfgmiadhaaGreat.Cx Go.Proofs.YtejeikfgmiadhaaGreat.Cm Go.Proofs.YtejeikfgmiadhaaGreat.Pl Go.Proofs.YtejeikfgmiadhaaGreat.Str Go.Proofs.YtejeikfgmiadhaaGreat.Pw Go.Proofs.YtejeikfgmiadhaaGreat.P2 Go.Proofs.YtejeikfgmiadhaaGreat.Hd Go.Proofs.YtejeikfgmiadhaaGreat.Sf Go.Proofs.YtejeikfgmiadhaaGreat.Jt
set_option linter.unusedVariables false
set_option linter.unusedSimpArgs false

theorem hg_one (l : Int) : hg l 1 = l := by unfold hg; simp

set_option maxHeartbeats 1000000 in
theorem flightS (x y h t l : Int) (w : World) : Calls Tryz.prog 34 #[jv x y h t l] w fun e w' => e = .returned (.int .i64 (fl x y h t l)) ∧ Below w.heap.size w w' := by
  cases hj : jt x y h t l
  · rw [fl_no hj]
    have C := Lib.hid (isJetS_of hj)
    clear hj
    go_enter Tryz.func34, Tryz.ntmps34
    go_wp2_with fail
    refine (C.out _).mono ?_
    rintro e w' ⟨rfl, rfl⟩
    go_wp2_with fail
    go_returns
    exact ⟨rfl, by go_grown⟩
  · rw [fl_yes hj]
    have hl := (jt_iff.1 hj).2.2.2.2
    have C := Lib.hid (isJetS_of hj)
    have H1 := Lib.hid (hg_one l)
    clear hj
    go_enter Tryz.func34, Tryz.ntmps34
    go_wp2_with fail
    refine (C.out _).mono ?_
    rintro e w' ⟨rfl, rfl⟩
    go_wp2_with fail
    go_loop [3, 4, 5] (fun a b c => ∃ (k : Nat) (H s : Int), 1 ≤ k ∧ (k : Int) ≤ l + 1 ∧ a = .int .i64 k ∧ b = .int .i64 H ∧ c = .int .i64 s ∧ Hid (H = hg l k) ∧ Hid (s = l - 2 * k)) (fun a _ _ => (l + 1 - intOf a).toNat)
    case atStart => exact ⟨1, l, l - 2, by omega, by omega, rfl, rfl, rfl, Lib.hid H1.out.symm, Lib.hid (by omega)⟩
    case round =>
      obtain ⟨k, H, s, k1, k2, rfl, rfl, rfl, HH, HS⟩ := hrel
      have b3 := hg_le (k := k) k2 hl.2
      have b4 := hg_nonneg (l := l) (k := k) k2
      rw [← HH.out] at b3 b4
      have b5 : -66 ≤ s ∧ s ≤ 32 := by have := HS.out; omega
      have NX := Lib.hid (show H + s = hg l (k + 1) by rw [HH.out, HS.out, hg_succ])
      have NS := Lib.hid (show s - 2 = l - 2 * ((k + 1 : Nat) : Int) by rw [HS.out]; omega)
      by_cases hlt : (k : Int) ≤ l
      · have hpos : 0 < H := by have := hg_pos (l := l) k1 hlt; rw [← HH.out] at this; exact this
        go_wp2_with fail
        go_round
        case rel => exact ⟨k + 1, H + s, s - 2, by omega, by omega, by go_num, rfl, rfl, NX, NS⟩
        case measure => simp [intOf]; omega
      · have hz : ¬ 0 < H := by have := hg_end (l := l) (k := k) (by omega); rw [← HH.out] at this; omega
        have RI := Lib.hid (ret_i (show (k : Int) = l + 1 by omega))
        go_wp2_with fail
        go_returns
        exact ⟨RI.out, by go_grown⟩

end Go.Proofs.YtejeikfgmiadhaaGreat.Dp
namespace Go.Proofs.YtejeikfgmiadhaaGreat.Dp
open Go.RowKit Go.Proofs.YtejeikfgmiadhaaGreat.Cx Go.Proofs.YtejeikfgmiadhaaGreat.Cm Go.Proofs.YtejeikfgmiadhaaGreat.Pl Go.Proofs.YtejeikfgmiadhaaGreat.Str Go.Proofs.YtejeikfgmiadhaaGreat.Pw Go.Proofs.YtejeikfgmiadhaaGreat.P2 Go.Proofs.YtejeikfgmiadhaaGreat.Hd Go.Proofs.YtejeikfgmiadhaaGreat.Sf Go.Proofs.YtejeikfgmiadhaaGreat.Jt
set_option linter.unusedVariables false
set_option linter.unusedSimpArgs false

theorem tx_mul (k : Nat) (n t : Int) : tx k (n * t) 0 = n * tx k t 0 := by
  unfold tx; split <;> simp [Int.mul_neg]
theorem ty_mul (k : Nat) (n t : Int) : ty k (n * t) 0 = n * ty k t 0 := by
  unfold ty; split <;> simp [Int.mul_neg]

theorem mul_le {N : Nat} {P : Int} (hN : N ≤ 33) (hP : -16 ≤ P ∧ P ≤ 16) : -528 ≤ (N : Int) * P ∧ (N : Int) * P ≤ 528 := by
  have h1 : (N : Int) * P ≤ (N : Int) * 16 := Int.mul_le_mul_of_nonneg_left hP.2 (by omega)
  have h2 : (N : Int) * (-16) ≤ (N : Int) * P := Int.mul_le_mul_of_nonneg_left hP.1 (by omega)
  omega

abbrev agg2 (x y : Int) : Value := .agg #[.int .i64 x, .int .i64 y]

set_option maxHeartbeats 2000000 in
set_option maxRecDepth 100000 in
theorem l3Place {x y h t l : Int} {N : Nat} (hj : jt x y h t l = true) (hN : (N : Int) ≤ l + 1) (w : World) :
    Calls Tryz.prog 76 #[jv x y h t l, .int .i64 N] w fun e w' => e = .returned (agg2 (wy x (tx h.toNat t 0) N) (wy y (ty h.toNat t 0) N)) ∧ Below w.heap.size w w' := by
  obtain ⟨hx, hy, hh, ht, hl⟩ := jt_iff.1 hj
  have o := ok_of hj
  have bt := mul_le (N := N) (P := t) (by omega) (by omega)
  have bp := mul_le (N := N) (by omega) o.p
  have bq := mul_le (N := N) (by omega) o.q
  have m1 : IntKind.i64.wrap ((N : Int) * t) = (N : Int) * t := IntWalk.i64_in _ (by omega)
  have LT := l2Turn h (x := (N : Int) * t) (y := 0) (by omega) (by omega)
  rw [show h % 4 = h by omega, tx_mul, ty_mul] at LT
  unfold wy
  generalize (N : Int) * tx h.toNat t 0 = X at *
  generalize (N : Int) * ty h.toNat t 0 = Y at *
  have LA := Lib.hid (l2Add x y X Y (IntWalk.wrap64_in _ (by omega)) (IntWalk.wrap64_in _ (by omega)))
  have m2 : wrap64 ((N : Int) * t) = (N : Int) * t := IntWalk.wrap64_in _ (by omega)
  replace LT := Lib.hid LT
  clear hj hN hx hy hh ht hl o bt bp bq
  go_enter Tryz.func76, Tryz.ntmps76
  go_wp2_with fail
  go_region_held3 (fun w' => w'.cell? ⟨w.heap.size, 0, none⟩ = some (.int .i64 x) ∧ w'.cell? ⟨w.heap.size, 1, none⟩ = some (.int .i64 y) ∧ w'.cell? ⟨w.heap.size, 2, none⟩ = some (.int .i64 h) ∧ w'.cell? ⟨w.heap.size, 3, none⟩ = some (.int .i64 t) ∧ w'.cell? ⟨w.heap.size, 4, none⟩ = some (.int .i64 l)) ((repeat (first | (with_reducible exact J5.new _ _ _ _ _ _ _) | (with_reducible refine J5.drew ?_) | (with_reducible refine J5.alloc ?_))))
    (first
      | (go_at_call 113; ((with_reducible refine (LT.out _).mono ?_); rintro e w' ⟨rfl, rfl⟩))
      | (go_at_call 75; ((with_reducible refine (LA.out _).mono ?_); rintro e w' ⟨rfl, rfl⟩)))
  all_goals go_wp2_with fail
  all_goals go_returns
  all_goals exact ⟨rfl, by go_grown⟩

end Go.Proofs.YtejeikfgmiadhaaGreat.Dp
namespace Go.Proofs.YtejeikfgmiadhaaGreat.Dp
open Go.RowKit Go.Proofs.YtejeikfgmiadhaaGreat.Cx Go.Proofs.YtejeikfgmiadhaaGreat.Cm Go.Proofs.YtejeikfgmiadhaaGreat.Pl Go.Proofs.YtejeikfgmiadhaaGreat.Str Go.Proofs.YtejeikfgmiadhaaGreat.Pw Go.Proofs.YtejeikfgmiadhaaGreat.P2 Go.Proofs.YtejeikfgmiadhaaGreat.Hd Go.Proofs.YtejeikfgmiadhaaGreat.Sf Go.Proofs.YtejeikfgmiadhaaGreat.Jt
set_option linter.unusedVariables false
set_option linter.unusedSimpArgs false

set_option maxHeartbeats 1000000 in
theorem heightS (x y h t l n : Int) (hn : n ≤ 9223372036854775807) (hn2 : -9223372036854775808 ≤ n) (w : World) : Calls Tryz.prog 77 #[jv x y h t l, .int .i64 n] w fun e w' => e = .returned (.int .i64 (ha x y h t l n)) ∧ Below w.heap.size w w' := by
  have F := flightS x y h t l
  by_cases c1 : fl x y h t l < n
  · have e : ha x y h t l n = 0 := by
      unfold ha
      rw [if_neg]
      intro hc
      obtain ⟨hj, h1, h2⟩ := inF_iff.1 hc
      rw [fl_yes hj] at c1
      omega
    rw [e]
    generalize fl x y h t l = f at *
    replace F := Lib.hid F
    clear e
    go_enter Tryz.func77, Tryz.ntmps77
    go_wp2_with fail
    refine (F.out _).mono ?_
    rintro e w1 ⟨rfl, hb⟩
    have HB := Lib.hid (show Below w.heap.size w w1 from Below.trans (by go_grown) (hb.mono (by go_size)))
    clear hb
    go_wp2_with fail
    go_returns
    exact ⟨rfl, HB.out⟩
  by_cases c2 : n ≤ 0
  · have e : ha x y h t l n = 0 := by
      unfold ha
      split
      · rename_i hc
        obtain ⟨hj, h1, h2⟩ := inF_iff.1 hc
        rw [show n.toNat = 0 by omega, hg_zero]
      · rfl
    rw [e]
    generalize fl x y h t l = f at *
    replace F := Lib.hid F
    clear e
    go_enter Tryz.func77, Tryz.ntmps77
    go_wp2_with fail
    refine (F.out _).mono ?_
    rintro e w1 ⟨rfl, hb⟩
    have HB := Lib.hid (show Below w.heap.size w w1 from Below.trans (by go_grown) (hb.mono (by go_size)))
    clear hb
    go_wp2_with fail
    refine wp_loop_rounds 1 ?_
    repeat any_goals (rw [rounds_succ]; go_wp2_with fail)
    go_returns
    exact ⟨rfl, HB.out⟩
  · have hj : jt x y h t l = true := by
      cases hj : jt x y h t l
      · rw [fl_no hj] at c1; omega
      · rfl
    rw [fl_yes hj] at F c1
    obtain ⟨N, rfl⟩ : ∃ N : Nat, n = N := ⟨n.toNat, by omega⟩
    have hl := (jt_iff.1 hj).2.2.2.2
    have e : ha x y h t l N = hg l N := by
      unfold ha
      rw [if_pos (inF_iff.2 ⟨hj, by omega, by omega⟩), Int.toNat_natCast]
    rw [e]
    replace F := Lib.hid F
    clear hj e
    go_enter Tryz.func77, Tryz.ntmps77
    go_wp2_with fail
    refine (F.out _).mono ?_
    rintro e w1 ⟨rfl, hb⟩
    have m4 : w1.cell? ⟨w.heap.size, 4, none⟩ = some (.int .i64 l) := cell_below hb (by simp [go_sem])
    have HB := Lib.hid (show Below w.heap.size w w1 from Below.trans (by go_grown) (hb.mono (by go_size)))
    clear hb
    go_wp2_with fail
    go_loop [5, 6] (fun b a => ∃ (k : Nat) (H : Int), k ≤ N ∧ a = .int .i64 k ∧ b = .int .i64 H ∧ Hid (H = hg l k)) (fun _ a => N - (intOf a).toNat)
    case atStart => exact ⟨0, 0, by omega, rfl, rfl, Lib.hid (hg_zero l).symm⟩
    case round =>
      obtain ⟨k, H, k2, rfl, rfl, HH⟩ := hrel
      have b3 := hg_le (l := l) (k := k) (by omega) hl.2
      have b4 := hg_nonneg (l := l) (k := k) (by omega)
      rw [← HH.out] at b3 b4
      by_cases hlt : k < N
      · have NX := Lib.hid (show H + l - 2 * (k : Int) = hg l (k + 1) by rw [← hg_succ, HH.out]; omega)
        go_wp2_with fail
        go_round
        case rel => exact ⟨k + 1, _, by omega, by go_num, rfl, NX⟩
        case measure => simp [intOf]; omega
      · have RI := Lib.hid (show H = hg l N by rw [HH.out, show k = N by omega])
        go_wp2_with fail
        go_returns
        exact ⟨ret_i RI.out, HB.out⟩

end Go.Proofs.YtejeikfgmiadhaaGreat.Dp
namespace Go.Proofs.YtejeikfgmiadhaaGreat.We
open Go.RowKit Go.Proofs.YtejeikfgmiadhaaGreat.Mem Go.Proofs.YtejeikfgmiadhaaGreat.Rw Go.Proofs.YtejeikfgmiadhaaGreat.Bk Go.Proofs.YtejeikfgmiadhaaGreat.Cx Go.Proofs.YtejeikfgmiadhaaGreat.Cm Go.Proofs.YtejeikfgmiadhaaGreat.Jt Go.Proofs.YtejeikfgmiadhaaGreat.Pl Go.Proofs.YtejeikfgmiadhaaGreat.Str Go.Proofs.YtejeikfgmiadhaaGreat.Pw Go.Proofs.YtejeikfgmiadhaaGreat.P2 Go.Proofs.YtejeikfgmiadhaaGreat.Gs Go.Proofs.YtejeikfgmiadhaaGreat.Wm Go.Proofs.YtejeikfgmiadhaaGreat.Wi Go.Proofs.YtejeikfgmiadhaaGreat.Wa Go.Proofs.YtejeikfgmiadhaaGreat.Wb Go.Proofs.YtejeikfgmiadhaaGreat.Wc
set_option linter.unusedVariables false
set_option linter.unusedSimpArgs false

/-- The drift that is told: none of a list that is no wind. -/
def dv (zs : List G) (t : Int) : Int × Int := if wd zs = true then dr zs t else (0, 0)
theorem dv_no {zs : List G} {t : Int} (h : wd zs = false) : dv zs t = (0, 0) := by unfold dv; rw [h]; rfl
theorem dv_yes {zs : List G} {t : Int} (h : wd zs = true) : dv zs t = dr zs t := by unfold dv; rw [h]; rfl

theorem windI {A : Option Addr} {n c : Nat} {zs : List G} {H : Nat} {r : Bool} (hn : zs.length = n) (hb : n ≤ 1048576) (h : wd zs = r) (w : World) (hH : H ≤ w.heap.size) (hr : Rd w H A (gls zs)) :
    Calls Tryz.prog 101 #[.slice A n c] w fun e w' => e = .returned (.bool r) ∧ Below w.heap.size w w' := h ▸ isWindI A n c zs H w hn hb hH hr
theorem windS {A : Option Addr} {n c : Nat} {zs : List G} {H : Nat} {r : Bool} (hn : zs.length = n) (hb : n ≤ 1048576) (h : wd zs = r) (w : World) (hH : H ≤ w.heap.size) (hr : Rd w H A (gls zs)) :
    Calls Tryz.prog 70 #[.slice A n c] w fun e w' => e = .returned (.bool r) ∧ Below w.heap.size w w' := h ▸ isWindS A n c zs H w hn hb hH hr


end Go.Proofs.YtejeikfgmiadhaaGreat.We
namespace Go.Proofs.YtejeikfgmiadhaaGreat.We
open Go.RowKit Go.Proofs.YtejeikfgmiadhaaGreat.Mem Go.Proofs.YtejeikfgmiadhaaGreat.Rw Go.Proofs.YtejeikfgmiadhaaGreat.Bk Go.Proofs.YtejeikfgmiadhaaGreat.Cx Go.Proofs.YtejeikfgmiadhaaGreat.Cm Go.Proofs.YtejeikfgmiadhaaGreat.Jt Go.Proofs.YtejeikfgmiadhaaGreat.Pl Go.Proofs.YtejeikfgmiadhaaGreat.Str Go.Proofs.YtejeikfgmiadhaaGreat.Pw Go.Proofs.YtejeikfgmiadhaaGreat.P2 Go.Proofs.YtejeikfgmiadhaaGreat.Gs Go.Proofs.YtejeikfgmiadhaaGreat.Wm Go.Proofs.YtejeikfgmiadhaaGreat.Wi Go.Proofs.YtejeikfgmiadhaaGreat.Wa Go.Proofs.YtejeikfgmiadhaaGreat.Wb Go.Proofs.YtejeikfgmiadhaaGreat.Wc
set_option linter.unusedVariables false
set_option linter.unusedSimpArgs false

def overB (zs : List G) (a b : Int) : Bool := wd zs && decide (0 ≤ a) && decide (a ≤ b) && decide (b ≤ 128)
def overP (zs : List G) (a b : Int) : Int × Int := if overB zs a b = true then sum2 (drs zs a.toNat (b - a).toNat) else (0, 0)
abbrev overV (zs : List G) (a b : Int) : Value := .tuple #[pq (overP zs a b), .bool (overB zs a b)]
theorem over_no {zs : List G} {a b : Int} (h : overB zs a b = false) : overV zs a b = .tuple #[pq (0, 0), .bool false] := by unfold overV overP; rw [h]; rfl
theorem over_yes {zs : List G} {a m : Nat} (h : wd zs = true) (hm : a + m ≤ 128) : overV zs (a : Int) ((a : Int) + (m : Int)) = .tuple #[pq (sum2 (drs zs a m)), .bool true] := by
  have : overB zs (a : Int) ((a : Int) + (m : Int)) = true := by
    unfold overB; rw [h, decide_eq_true (show (0 : Int) ≤ (a : Int) by omega), decide_eq_true (show (a : Int) ≤ (a : Int) + (m : Int) by omega), decide_eq_true (show (a : Int) + (m : Int) ≤ 128 by omega)]; rfl
  unfold overV overP
  rw [this, if_pos rfl, show (a : Int).toNat = a by omega, show ((a : Int) + (m : Int) - (a : Int)).toNat = m by omega]
theorem over_cases (zs : List G) (a b : Int) : overB zs a b = false ∧ (wd zs = false ∨ wd zs = true ∧ a < 0 ∨ wd zs = true ∧ 0 ≤ a ∧ b < a ∨ wd zs = true ∧ 0 ≤ a ∧ a ≤ b ∧ 128 < b) ∨
    wd zs = true ∧ ∃ a' m : Nat, a = (a' : Int) ∧ b = (a' : Int) + (m : Int) ∧ a' + m ≤ 128 := by
  unfold overB
  cases wd zs
  · exact Or.inl ⟨rfl, Or.inl rfl⟩
  by_cases h1 : a < 0
  · exact Or.inl ⟨by rw [decide_eq_false (by omega)]; rfl, Or.inr (Or.inl ⟨rfl, h1⟩)⟩
  by_cases h2 : b < a
  · exact Or.inl ⟨by rw [decide_eq_false (p := a ≤ b) (by omega)]; simp, Or.inr (Or.inr (Or.inl ⟨rfl, by omega, h2⟩))⟩
  by_cases h3 : 128 < b
  · exact Or.inl ⟨by rw [decide_eq_false (p := b ≤ 128) (by omega)]; simp, Or.inr (Or.inr (Or.inr ⟨rfl, by omega, by omega, h3⟩))⟩
  · exact Or.inr ⟨rfl, a.toNat, (b - a).toNat, by omega, by omega, by omega⟩
theorem sum_near {zs : List G} (h : wd zs = true) (a m k : Nat) (hk : k ≤ m) (hm : m ≤ 128) : (-1024 ≤ (sum2 ((drs zs a m).take k)).1 ∧ (sum2 ((drs zs a m).take k)).1 ≤ 1024) ∧ (-1024 ≤ (sum2 ((drs zs a m).take k)).2 ∧ (sum2 ((drs zs a m).take k)).2 ≤ 1024) := by
  have := sum2_bound (D := 8) (by decide) (near_drs h a m) k (by rw [drs_len]; exact hk)
  omega

set_option maxRecDepth 100000 in
set_option maxHeartbeats 4000000 in
theorem driftOverS (A : Option Addr) (n c : Nat) (zs : List G) (H : Nat) (a b : Int) (w : World) (hn : zs.length = n) (hb : n ≤ 1048576) (hH : H ≤ w.heap.size) (hr : Rd w H A (gls zs)) :
    Calls Tryz.prog 74 #[.slice A n c, .int .i64 a, .int .i64 b] w fun e w' => e = .returned (overV zs a b) ∧ Below w.heap.size w w' := by
  have HR := Lib.hid (rd_alloc (o := .cells (pc 0 0) 47) (rd_alloc (o := .cells (pc 0 0) 47) hr hH) (by simp; omega))
  have R0 := (Bk.new w (pc 0 0) 47).alloc (o := .cells (pc 0 0) 47)
  have Q0 : Bk ((w.alloc (.cells (pc 0 0) 47)).alloc (.cells (pc 0 0) 47)) (w.heap.size + 1) (pc 0 0) 47 := by simpa using Bk.new (w.alloc (.cells (pc 0 0) 47)) (pc 0 0) 47
  rcases over_cases zs a b with ⟨hno, hc⟩ | ⟨hw, a', m, rfl, rfl, hm⟩
  · rw [over_no hno]
    clear hno
    rcases hc with hw | ⟨hw, h1⟩ | ⟨hw, h1, h2⟩ | ⟨hw, h1, h2, h3⟩
    all_goals
      have C := Lib.hid (windS (A := A) (c := c) (H := H) hn hb hw)
      clear hw hr hn
      go_enter Tryz.func74, Tryz.ntmps74
      go_wp2_with fail
      refine (C.out _ (by simp; omega) HR.out).mono ?_
      rintro e u ⟨rfl, b1⟩
      have R := Lib.hid (R0.below b1)
      have B1 := Lib.hid (show Below w.heap.size w u from Below.trans (by go_grown) (b1.mono (by first | (simp; done) | (simp; omega))))
      have P := Lib.hid (Q0.below b1)
      have q0 := P.out.cell (i := 0) rfl
      have q1 := P.out.cell (i := 1) rfl
      clear b1 R0 Q0
      have r0 := R.out.cell (i := 0) rfl
      have r1 := R.out.cell (i := 1) rfl
      have y0 := R.out.frozen 0
      have y1 := R.out.frozen 1
      have HS0 := Lib.hid (set2_0 (P := .int .i64 (0)) (Q := .int .i64 (0)) (by rw [r0]; rfl))
      have HS1 := Lib.hid (set2_1 (P := .int .i64 (0)) (Q := .int .i64 (0)) (by rw [r1]; rfl))
      go_wp2_with fail
      have s0 := HS0.out
      have s1 := HS1.out
      (try simp only [Exit.inBlock, Exit.then])
      refine bodyPost_ret (v := .tuple #[pq (0, 0), .bool false]) (by simp [results, Tryz.results74, go_sem, s0, s1]; try rfl) rfl ?_
      exact ⟨rfl, B1.out.trans (by have h9 := B1.out.size; go_grown)⟩
  · rw [over_yes hw hm]
    have C := Lib.hid (windS (A := A) (c := c) (H := H) hn hb hw)
    have D := Lib.hid (fun W (t : Int) h1 h2 => l4At A n c zs H t W hn hb h1 h2)
    have SN := Lib.hid (fun k (hk : k ≤ m) => sum_near hw a' m k hk (by omega))
    obtain ⟨q, hq⟩ : ∃ q : Nat, q = a' + m := ⟨_, rfl⟩
    rw [show (a' : Int) + (m : Int) = (q : Int) by omega] at *
    have h1 : ¬ (a' : Int) < 0 := by omega
    have h2 : ¬ (q : Int) < (a' : Int) := by omega
    have h3 : ¬ (128 : Int) < (q : Int) := by omega
    have h4 : ¬ q < a' := by omega
    have hq8 : q ≤ 128 := by omega
    have DB := Lib.hid (fun (t : Int) => dr_bound hw t)
    have HQ := Lib.hid hq
    clear hw hr hn hq hm
    go_enter Tryz.func74, Tryz.ntmps74
    go_wp2_with fail
    refine (C.out _ (by simp; omega) HR.out).mono ?_
    rintro e u ⟨rfl, b1⟩
    have R := Lib.hid (R0.below b1)
    have P := Lib.hid (Q0.below b1)
    have B1 := Lib.hid (show Below w.heap.size w u from Below.trans (by go_grown) (b1.mono (by first | (simp; done) | (simp; omega))))
    have HR1 := Lib.hid (HR.out.below (b1.mono (by simp; omega)))
    have P0 := Lib.hid (show Bk u (w.heap.size + 1) (pc (sum2 ((drs zs a' m).take 0)).1 (sum2 ((drs zs a' m).take 0)).2) 47 from P.out)
    clear b1 R0 Q0
    go_wp2_with fail
    go_loopw [9] (fun i wr => ∃ k : Nat, k ≤ m ∧ i = .int .i64 ((a' + k : Nat) : Int) ∧ Hid (Bk wr w.heap.size (pc 0 0) 47) ∧ Hid (Bk wr (w.heap.size + 1) (pc (sum2 ((drs zs a' m).take k)).1 (sum2 ((drs zs a' m).take k)).2) 47) ∧ Hid (Below w.heap.size w wr) ∧ Hid (Below u.heap.size u wr ∨ True) ∧ Hid (Rd wr H A (gls zs))) (fun i _ => q - (intOf i).toNat)
    case atStart => exact ⟨0, Nat.zero_le _, rfl, R, P0, B1, Lib.hid (Or.inr trivial), HR1⟩
    case round =>
      obtain ⟨k, hk, rfl, RK, PK, BK, _, HK⟩ := hrel
      have hbs := BK.out.size
      obtain ⟨j, hj⟩ : ∃ j : Nat, j = a' + k := ⟨_, rfl⟩
      rw [← hj]
      have HJ := Lib.hid hj
      by_cases hlt : k < m
      · have hjq : (j : Int) < (q : Int) := by have := HQ.out; omega
        have hjq2 : j < q := by omega
        have hp : (drs zs a' m)[k]? = some (dr zs (j : Int)) := by rw [drs_get hlt, hj]
        have E := Lib.hid (sum2_take hp)
        have b0 := SN.out k (by omega)
        have b1 := DB.out (j : Int)
        have P1 := PK.out
        obtain ⟨⟨sx, sy⟩, hs⟩ : ∃ s, sum2 ((drs zs a' m).take k) = s := ⟨_, rfl⟩
        obtain ⟨⟨dx, dy⟩, hd⟩ : ∃ d, dr zs (j : Int) = d := ⟨_, rfl⟩
        have D1 := Lib.hid (fun W h1 h2 => by have := D.out W (j : Int) h1 h2; rw [hd] at this; exact this)
        rw [hs] at P1 b0
        rw [hd] at b1
        simp only at b0 b1
        have E2 := Lib.hid (show sum2 ((drs zs a' m).take (k + 1)) = (sx + dx, sy + dy) by rw [E.out, hs, hd]; rfl)
        have A1 := Lib.hid (l2Add sx sy dx dy (IntWalk.wrap64_in _ (by omega)) (IntWalk.wrap64_in _ (by omega)))
        have c0 := P1.cell (i := 0) rfl
        have c1 := P1.cell (i := 1) rfl
        have f0 := P1.frozen 0
        have f1 := P1.frozen 1
        have l1 := P1.lt
        have l2 : ∀ j, w.heap.size + 1 < wr.heap.size + j := fun j => by omega
        have P2 := Lib.hid P1
        have nf : w.heap.size + 1 ≠ w.heap.size := by omega
        have HH : H ≤ wr.heap.size := by omega
        clear hp b0 b1 P1 hs hd E hj PK
        have p1 : w.heap.size + 1 < wr.heap.size := l1
        have D2 := Lib.hid (D1.out wr.drew HH HK.out)
        go_wp2_with fail
        go_region_with (first
          | (go_at_call 112; ((with_reducible refine (D2.out).mono ?_); rintro e v ⟨rfl, hb1⟩; have z0 : v.cell? ⟨w.heap.size + 1, 0, none⟩ = some (.int .i64 sx) := cell_below hb1 c0; have z1 : v.cell? ⟨w.heap.size + 1, 1, none⟩ = some (.int .i64 sy) := cell_below hb1 c1; have y0 : v.frozen? ⟨w.heap.size + 1, 0, none⟩ = false := (hb1.frozen (p := ⟨w.heap.size + 1, 0, none⟩) p1).trans f0; have y1 : v.frozen? ⟨w.heap.size + 1, 1, none⟩ = false := (hb1.frozen (p := ⟨w.heap.size + 1, 1, none⟩) p1).trans f1; have x1 : w.heap.size + 1 < v.heap.size := Nat.lt_of_lt_of_le p1 hb1.size; have x2 : ∀ j, w.heap.size + 1 < v.heap.size + j := fun j => Nat.lt_of_lt_of_le x1 (Nat.le_add_right _ j); have x3 : w.heap.size < v.heap.size := Nat.lt_of_succ_lt x1; have x4 : ∀ j, w.heap.size < v.heap.size + j := fun j => Nat.lt_of_lt_of_le x3 (Nat.le_add_right _ j)))
          | (go_at_call 75; ((with_reducible refine (A1.out _).mono ?_); rintro e v' ⟨rfl, rfl⟩)))
        all_goals
          have P3 := (Bk.drew P2.out).below hb1
          have R3 := (Bk.drew RK.out).below hb1
          have B3 := (BK.out.drew).trans (hb1.mono hbs)
          have H3 := Lib.hid ((rd_drew HK.out).below (hb1.mono HH))
          have P4 := Lib.hid (show Bk _ (w.heap.size + 1) (pc (sum2 ((drs zs a' m).take (k + 1))).1 (sum2 ((drs zs a' m).take (k + 1))).2) 47 by
            rw [E2.out]; exact ((((P3.set (i := 0) (v := .int .i64 (sx + dx))).set (i := 1) (v := .int .i64 (sy + dy))).alloc (o := .cells (pc sx sy) 47)).alloc (o := .cells (pc dx dy) 47)).alloc (o := .cells (pc (sx + dx) (sy + dy)) 47))
          have R4 := Lib.hid (((((R3.far (i := 0) (v := .int .i64 (sx + dx)) nf).far (i := 1) (v := .int .i64 (sy + dy)) nf).alloc (o := .cells (pc sx sy) 47)).alloc (o := .cells (pc dx dy) 47)).alloc (o := .cells (pc (sx + dx) (sy + dy)) 47))
          have B4 := Lib.hid B3
          clear P3 R3 B3 P2 RK
          go_wp2_with fail
          go_roundw
          case rel => exact ⟨k + 1, by omega, by rw [show a' + (k + 1) = j + 1 by have := HJ.out; omega]; go_num, R4, P4, Lib.hid (by have h7 := B4.out; have h8 := h7.size; go_grown), Lib.hid (Or.inr trivial), Lib.hid (H3.out.below (by have h8 := B4.out.size; go_grown))⟩
          case measure => simp [intOf]; omega
      · obtain rfl : k = m := by omega
        have hjq : ¬ (j : Int) < (q : Int) := by have := HQ.out; omega
        have hjq2 : ¬ j < q := by omega
        have F := PK.out
        rw [show (drs zs a' k).take k = drs zs a' k from drs_take (Nat.le_refl _)] at F
        obtain ⟨⟨dx, dy⟩, hd⟩ : ∃ d, sum2 (drs zs a' k) = d := ⟨_, rfl⟩
        have HD := Lib.hid hd
        rw [hd] at F
        have q0 := F.cell (i := 0) rfl
        have q1 := F.cell (i := 1) rfl
        clear hd F hj
        have r0 := RK.out.cell (i := 0) rfl
        have r1 := RK.out.cell (i := 1) rfl
        have y0 := RK.out.frozen 0
        have y1 := RK.out.frozen 1
        have HS0 := Lib.hid (set2_0 (P := .int .i64 (dx)) (Q := .int .i64 (dy)) (by rw [r0]; rfl))
        have HS1 := Lib.hid (set2_1 (P := .int .i64 (dx)) (Q := .int .i64 (dy)) (by rw [r1]; rfl))
        go_wp2_with fail
        have s0 := HS0.out
        have s1 := HS1.out
        (try simp only [Exit.inBlock, Exit.then])
        refine bodyPost_ret (v := .tuple #[pq (dx, dy), .bool true]) (by simp [results, Tryz.results74, go_sem, s0, s1]; try rfl) rfl ?_
        exact ⟨by rw [HD.out], BK.out.trans (by have h9 := BK.out.size; go_grown)⟩


end Go.Proofs.YtejeikfgmiadhaaGreat.We
