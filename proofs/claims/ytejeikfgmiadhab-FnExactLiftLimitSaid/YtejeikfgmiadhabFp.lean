/- The place of a jet's drop at a tick, of the model. -/
import Derived.Test.YtejeikfgmiadhabFm
set_option linter.unusedVariables false
set_option linter.unusedSimpArgs false
namespace Go.Proofs.Ytejeikfgmiadhab.Dp
open Go.RowKit Go.Proofs.Ytejeikfgmiadhab.Cx Go.Proofs.Ytejeikfgmiadhab.Cm Go.Proofs.Ytejeikfgmiadhab.Pl Go.Proofs.Ytejeikfgmiadhab.Str Go.Proofs.Ytejeikfgmiadhab.Pw Go.Proofs.Ytejeikfgmiadhab.P2 Go.Proofs.Ytejeikfgmiadhab.Hd Go.Proofs.Ytejeikfgmiadhab.Sf Go.Proofs.Ytejeikfgmiadhab.Jt
set_option linter.unusedVariables false
set_option linter.unusedSimpArgs false

theorem tx_mul (k : Nat) (n t : Int) : tx k (n * t) 0 = n * tx k t 0 := by
  unfold tx; split <;> simp [Int.mul_neg]
theorem ty_mul (k : Nat) (n t : Int) : ty k (n * t) 0 = n * ty k t 0 := by
  unfold ty; split <;> simp [Int.mul_neg]

theorem mul_le {N : Nat} {P : Int} (hN : N ≤ 33) (hP : -16 ≤ P ∧ P ≤ 16) : -528 ≤ (N : Int) * P ∧ (N : Int) * P ≤ 528 := by
  have h1 : (N : Int) * P ≤ (N : Int) * 16 := Int.mul_le_mul_of_nonneg_left hP.2 (by omega)
  have h2 : (N : Int) * (-16) ≤ (N : Int) * P := Int.mul_le_mul_of_nonneg_left hP.1 (by omega)
  omega

abbrev agg2 (x y : Int) : Value := .agg #[.int .i64 x, .int .i64 y]

set_option maxHeartbeats 2000000 in
set_option maxRecDepth 100000 in
theorem l3Place {x y h t l : Int} {N : Nat} (hj : jt x y h t l = true) (hN : (N : Int) ≤ l + 1) (w : World) :
    Calls Try.prog 60 #[jv x y h t l, .int .i64 N] w fun e w' => e = .returned (agg2 (wy x (tx h.toNat t 0) N) (wy y (ty h.toNat t 0) N)) ∧ Below w.heap.size w w' := by
  obtain ⟨hx, hy, hh, ht, hl⟩ := jt_iff.1 hj
  have o := ok_of hj
  have bt := mul_le (N := N) (P := t) (by omega) (by omega)
  have bp := mul_le (N := N) (by omega) o.p
  have bq := mul_le (N := N) (by omega) o.q
  have m1 : IntKind.i64.wrap ((N : Int) * t) = (N : Int) * t := IntWalk.i64_in _ (by omega)
  have LT := l2Turn h (x := (N : Int) * t) (y := 0) (by omega) (by omega)
  rw [show h % 4 = h by omega, tx_mul, ty_mul] at LT
  unfold wy
  generalize (N : Int) * tx h.toNat t 0 = X at *
  generalize (N : Int) * ty h.toNat t 0 = Y at *
  have LA := Lib.hid (l2Add x y X Y (IntWalk.wrap64_in _ (by omega)) (IntWalk.wrap64_in _ (by omega)))
  have m2 : wrap64 ((N : Int) * t) = (N : Int) * t := IntWalk.wrap64_in _ (by omega)
  replace LT := Lib.hid LT
  clear hj hN hx hy hh ht hl o bt bp bq
  go_enter Try.func60, Try.ntmps60
  go_wp2_with fail
  go_region_held3 (fun w' => w'.cell? ⟨w.heap.size, 0, none⟩ = some (.int .i64 x) ∧ w'.cell? ⟨w.heap.size, 1, none⟩ = some (.int .i64 y) ∧ w'.cell? ⟨w.heap.size, 2, none⟩ = some (.int .i64 h) ∧ w'.cell? ⟨w.heap.size, 3, none⟩ = some (.int .i64 t) ∧ w'.cell? ⟨w.heap.size, 4, none⟩ = some (.int .i64 l)) ((repeat (first | (with_reducible exact J5.new _ _ _ _ _ _ _) | (with_reducible refine J5.drew ?_) | (with_reducible refine J5.alloc ?_))))
    (first
      | (go_at_call 74; ((with_reducible refine (LT.out _).mono ?_); rintro e w' ⟨rfl, rfl⟩))
      | (go_at_call 32; ((with_reducible refine (LA.out _).mono ?_); rintro e w' ⟨rfl, rfl⟩)))
  all_goals go_wp2_with fail
  all_goals go_returns
  all_goals exact ⟨rfl, by go_grown⟩

end Go.Proofs.Ytejeikfgmiadhab.Dp
