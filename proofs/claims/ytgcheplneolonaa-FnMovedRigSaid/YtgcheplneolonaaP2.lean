/- What AddPlaces answers, of the program, and that it leaves all old memory as it was. -/
import Derived.Test.YtgcheplneolonaaPb
namespace Go.Proofs.Ytgcheplneolonaa.P2
open Go.RowKit Go.Proofs.Ytgcheplneolonaa.Cm Go.Proofs.Ytgcheplneolonaa.Pl Go.Proofs.Ytgcheplneolonaa.Str Go.Proofs.Ytgcheplneolonaa.Pw
set_option linter.unusedVariables false

set_option maxHeartbeats 2000000 in
set_option maxRecDepth 100000 in
theorem addI (x y a b : Int) {b1 b2 b3 : Bool} (h1 : (ms x && ms y) = b1) (h2 : (ms a && ms b) = b2) (h3 : (ms (x + a) && ms (y + b)) = b3) (w : World) :
    Calls Try.prog 90 #[.agg #[.int .i64 x, .int .i64 y], .agg #[.int .i64 a, .int .i64 b]] w fun e w' => e = .returned (told2 (b1 && b2 && b3) (x + a) (y + b)) ∧ Below w.heap.size w w' := by
  have C1 := Lib.hid (isPlaceI_of h1)
  have C2 := Lib.hid (isPlaceI_of h2)
  cases b1
  · clear h1 h2 h3
    go_enter Try.func90, Try.ntmps90
    go_wp2_with fail
    refine (C1.out _).mono ?_
    rintro e w' ⟨rfl, rfl⟩
    go_wp2_with fail
    go_returns
    exact ⟨rfl, by go_grown⟩
  cases b2
  · clear h1 h2 h3
    go_enter Try.func90, Try.ntmps90
    go_wp2_with fail
    refine (C1.out _).mono ?_
    rintro e w' ⟨rfl, rfl⟩
    go_wp2_with fail
    refine (C2.out _).mono ?_
    rintro e w' ⟨rfl, rfl⟩
    go_wp2_with fail
    go_returns
    exact ⟨rfl, by go_grown⟩
  · have ⟨hx, hy⟩ := pl_yes h1
    have ⟨ha, hb⟩ := pl_yes h2
    obtain ⟨re, im, hs, i1, i2⟩ := csum (P := Try.prog) .add 1 (Or.inl ⟨rfl, rfl⟩) (by omega) (by omega) (by omega) (by omega) (i32_f32 x) (i32_f32 y) (i32_f32 a) (i32_f32 b)
    rw [Int.one_mul] at i1 i2
    have D := Lib.hid (toldOf (by omega) (by omega) h3 i1 i2)
    have CC := Lib.hid (show ∀ p q, (p = x ∧ q = y ∨ p = a ∧ q = b) → ∀ w, Calls Try.prog 92 #[.agg #[.int .i64 p, .int .i64 q]] w fun e w' => e = .returned (.complex .f32 (Meas.f32 p) (Meas.f32 q)) ∧ w' = (w.alloc (.cells #[.int .i64 p, .int .i64 q] 29)).drew from fun p q h => complexOf p q (by omega) (by omega))
    clear h1 h2 h3 hx hy ha hb i1 i2
    cases b3
    all_goals
      go_enter Try.func90, Try.ntmps90
      go_wp2_with fail
      refine (C1.out _).mono ?_
      rintro e w' ⟨rfl, rfl⟩
      go_wp2_with fail
      refine (C2.out _).mono ?_
      rintro e w' ⟨rfl, rfl⟩
      go_wp2_with fail
      go_region_held3 (fun w' => w'.cell? ⟨w.heap.size, 0, none⟩ = some (.int .i64 x) ∧ w'.cell? ⟨w.heap.size, 1, none⟩ = some (.int .i64 y) ∧ w'.cell? ⟨w.heap.size + 1, 0, none⟩ = some (.int .i64 a) ∧ w'.cell? ⟨w.heap.size + 1, 1, none⟩ = some (.int .i64 b)) (simp [go_sem, *])
        (first
          | (go_at_call 92; refine (CC.out _ _ ?_ _).mono ?_; (first | exact Or.inl ⟨rfl, rfl⟩ | exact Or.inr ⟨rfl, rfl⟩); rintro e w' ⟨rfl, rfl⟩)
          | (go_at_call 91; refine (D.out _).mono ?_; rintro e w' ⟨rfl, rfl⟩))
      all_goals go_wp2_with fail
      all_goals go_returns
      all_goals exact ⟨rfl, by go_grown⟩

end Go.Proofs.Ytgcheplneolonaa.P2
