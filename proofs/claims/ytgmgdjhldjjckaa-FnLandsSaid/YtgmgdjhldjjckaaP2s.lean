/- What AddPlaces answers of the model, and of both. -/
import Derived.Test.YtgmgdjhldjjckaaP2
namespace Go.Proofs.Ytgmgdjhldjjckaa.P2
open Go.RowKit Go.Proofs.Ytgmgdjhldjjckaa.Cm Go.Proofs.Ytgmgdjhldjjckaa.Pl Go.Proofs.Ytgmgdjhldjjckaa.Str Go.Proofs.Ytgmgdjhldjjckaa.Pw
set_option linter.unusedVariables false

set_option maxHeartbeats 2000000 in
set_option maxRecDepth 100000 in
theorem addS (x y a b : Int) {b1 b2 b3 : Bool} (h1 : (ms x && ms y) = b1) (h2 : (ms a && ms b) = b2) (h3 : (ms (x + a) && ms (y + b)) = b3) (w : World) :
    Calls Try.prog 54 #[.agg #[.int .i64 x, .int .i64 y], .agg #[.int .i64 a, .int .i64 b]] w fun e w' => e = .returned (told2 (b1 && b2 && b3) (x + a) (y + b)) ∧ Below w.heap.size w w' := by
  have C1 := Lib.hid (isPlaceS_of h1)
  have C2 := Lib.hid (isPlaceS_of h2)
  have C3 := Lib.hid (isPlaceS_of h3)
  cases b1
  · clear h1 h2 h3
    go_enter Try.func54, Try.ntmps54
    go_wp2_with fail
    refine (C1.out _).mono ?_
    rintro e w' ⟨rfl, rfl⟩
    go_wp2_with fail
    go_returns
    exact ⟨rfl, by go_grown⟩
  cases b2
  · clear h1 h2 h3
    go_enter Try.func54, Try.ntmps54
    go_wp2_with fail
    refine (C1.out _).mono ?_
    rintro e w' ⟨rfl, rfl⟩
    go_wp2_with fail
    refine (C2.out _).mono ?_
    rintro e w' ⟨rfl, rfl⟩
    go_wp2_with fail
    go_returns
    exact ⟨rfl, by go_grown⟩
  · have ⟨hx, hy⟩ := pl_yes h1
    have ⟨ha, hb⟩ := pl_yes h2
    have L := Lib.hid (l2Add x y a b (IntWalk.wrap64_in _ (by omega)) (IntWalk.wrap64_in _ (by omega)))
    clear h1 h2 h3 hx hy ha hb
    cases b3
    · go_enter Try.func54, Try.ntmps54
      go_wp2_with fail
      refine (C1.out _).mono ?_
      rintro e w' ⟨rfl, rfl⟩
      go_wp2_with fail
      refine (C2.out _).mono ?_
      rintro e w' ⟨rfl, rfl⟩
      go_wp2_with fail
      refine (L.out _).mono ?_
      rintro e w' ⟨rfl, rfl⟩
      go_wp2_with fail
      refine (C3.out _).mono ?_
      rintro e w' ⟨rfl, rfl⟩
      go_wp2_with fail
      go_returns
      exact ⟨rfl, by go_grown⟩
    · go_enter Try.func54, Try.ntmps54
      go_wp2_with fail
      refine (C1.out _).mono ?_
      rintro e w' ⟨rfl, rfl⟩
      go_wp2_with fail
      refine (C2.out _).mono ?_
      rintro e w' ⟨rfl, rfl⟩
      go_wp2_with fail
      refine (L.out _).mono ?_
      rintro e w' ⟨rfl, rfl⟩
      go_wp2_with fail
      refine (C3.out _).mono ?_
      rintro e w' ⟨rfl, rfl⟩
      go_wp2_with fail
      refine (L.out _).mono ?_
      rintro e w' ⟨rfl, rfl⟩
      go_wp2_with fail
      go_returns
      exact ⟨rfl, by go_grown⟩

theorem addBoth (x y a b : Int) : ∃ X Y B, (∀ w, Calls Try.prog 54 #[.agg #[.int .i64 x, .int .i64 y], .agg #[.int .i64 a, .int .i64 b]] w fun e w' => e = .returned (.tuple #[.agg #[.int .i64 X, .int .i64 Y], .bool B]) ∧ Below w.heap.size w w') ∧
    (∀ w, Calls Try.prog 56 #[.agg #[.int .i64 x, .int .i64 y], .agg #[.int .i64 a, .int .i64 b]] w fun e w' => e = .returned (.tuple #[.agg #[.int .i64 X, .int .i64 Y], .bool B]) ∧ Below w.heap.size w w') :=
  ⟨_, _, _, addS x y a b rfl rfl rfl, addI x y a b rfl rfl rfl⟩

end Go.Proofs.Ytgmgdjhldjjckaa.P2
