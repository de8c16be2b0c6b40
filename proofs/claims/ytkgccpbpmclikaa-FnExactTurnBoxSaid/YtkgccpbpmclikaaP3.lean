/- What TurnAbout and StepFrom answer, of the program and of the model. -/
import Derived.Test.YtkgccpbpmclikaaP2
namespace Go.Proofs.Ytkgccpbpmclikaa.P3
open Go.RowKit Go.Proofs.Ytkgccpbpmclikaa.Cm Go.Proofs.Ytkgccpbpmclikaa.Pl Go.Proofs.Ytkgccpbpmclikaa.Str Go.Proofs.Ytkgccpbpmclikaa.Pw Go.Proofs.Ytkgccpbpmclikaa.P2
set_option linter.unusedVariables false

set_option maxHeartbeats 4000000 in
set_option maxRecDepth 100000 in
theorem aboutS (x y a b n : Int) {b1 b2 b3 : Bool} (h1 : (ms x && ms y) = b1) (h2 : (ms a && ms b) = b2) (h3 : (ms (a + tx (n % 4).toNat (x - a) (y - b)) && ms (b + ty (n % 4).toNat (x - a) (y - b))) = b3) (w : World) :
    Calls Try.prog 25 #[.agg #[.int .i64 x, .int .i64 y], .agg #[.int .i64 a, .int .i64 b], .int .i64 n] w fun e w' => e = .returned (told2 (b1 && b2 && b3) (a + tx (n % 4).toNat (x - a) (y - b)) (b + ty (n % 4).toNat (x - a) (y - b))) ∧ Below w.heap.size w w' := by
  have C1 := Lib.hid (isPlaceS_of h1)
  have C2 := Lib.hid (isPlaceS_of h2)
  have C3 := isPlaceS_of h3
  cases b1
  · clear h1 h2 h3 C3
    go_enter Try.func25, Try.ntmps25
    go_wp2_with fail
    refine (C1.out _).mono ?_
    rintro e w' ⟨rfl, rfl⟩
    go_wp2_with fail
    go_returns
    exact ⟨rfl, by go_grown⟩
  cases b2
  · clear h1 h2 h3 C3
    go_enter Try.func25, Try.ntmps25
    go_wp2_with fail
    refine (C1.out _).mono ?_
    rintro e w' ⟨rfl, rfl⟩
    go_wp2_with fail
    refine (C2.out _).mono ?_
    rintro e w' ⟨rfl, rfl⟩
    go_wp2_with fail
    go_returns
    exact ⟨rfl, by go_grown⟩
  · have ⟨hx, hy⟩ := pl_yes h1
    have ⟨ha, hb⟩ := pl_yes h2
    have L := l2Turn n (x := x - a) (y := y - b) (by omega) (by omega)
    have bx := txle (k := (n % 4).toNat) (x := x - a) (y := y - b) (B := 8192) (by omega) (by omega)
    have b_y := tyle (k := (n % 4).toNat) (x := x - a) (y := y - b) (B := 8192) (by omega) (by omega)
    have s1 : wrap64 (x - a) = x - a := IntWalk.wrap64_in _ (by omega)
    have s2 : wrap64 (y - b) = y - b := IntWalk.wrap64_in _ (by omega)
    have s3 : IntKind.i64.wrap (x - a) = x - a := IntWalk.i64_in _ (by omega)
    have s4 : IntKind.i64.wrap (y - b) = y - b := IntWalk.i64_in _ (by omega)
    generalize tx (n % 4).toNat (x - a) (y - b) = X at *
    generalize ty (n % 4).toNat (x - a) (y - b) = Y at *
    replace L := Lib.hid L
    replace C3 := Lib.hid C3
    have M := Lib.hid (l2Add a b X Y (IntWalk.wrap64_in _ (by omega)) (IntWalk.wrap64_in _ (by omega)))
    clear h1 h2 h3 hx hy ha hb bx b_y
    cases b3
    all_goals
      go_enter Try.func25, Try.ntmps25
      go_wp2_with fail
      refine (C1.out _).mono ?_
      rintro e w' ⟨rfl, rfl⟩
      go_wp2_with fail
      refine (C2.out _).mono ?_
      rintro e w' ⟨rfl, rfl⟩
      go_wp2_with fail
      go_region_held3 (fun w' => w'.cell? ⟨w.heap.size, 0, none⟩ = some (.int .i64 x) ∧ w'.cell? ⟨w.heap.size, 1, none⟩ = some (.int .i64 y) ∧ w'.cell? ⟨w.heap.size + 1, 0, none⟩ = some (.int .i64 a) ∧ w'.cell? ⟨w.heap.size + 1, 1, none⟩ = some (.int .i64 b)) (simp [go_sem, *])
        (first
          | (go_at_call 50; refine (L.out _).mono ?_; rintro e w' ⟨rfl, rfl⟩)
          | (go_at_call 54; refine (M.out _).mono ?_; rintro e w' ⟨rfl, rfl⟩))
      all_goals go_wp2_with (go_at_call 15; refine (C3.out _).mono ?_; rintro e w' ⟨rfl, rfl⟩)
      all_goals go_returns
      all_goals exact ⟨rfl, by go_grown⟩

set_option maxHeartbeats 4000000 in
set_option maxRecDepth 100000 in
theorem aboutI (x y a b n : Int) {b1 b2 b3 : Bool} (h1 : (ms x && ms y) = b1) (h2 : (ms a && ms b) = b2) (h3 : (ms (a + tx (n % 4).toNat (x - a) (y - b)) && ms (b + ty (n % 4).toNat (x - a) (y - b))) = b3) (w : World) :
    Calls Try.prog 26 #[.agg #[.int .i64 x, .int .i64 y], .agg #[.int .i64 a, .int .i64 b], .int .i64 n] w fun e w' => e = .returned (told2 (b1 && b2 && b3) (a + tx (n % 4).toNat (x - a) (y - b)) (b + ty (n % 4).toNat (x - a) (y - b))) ∧ Below w.heap.size w w' := by
  have C1 := Lib.hid (isPlaceI_of h1)
  have C2 := Lib.hid (isPlaceI_of h2)
  cases b1
  · clear h1 h2 h3
    go_enter Try.func26, Try.ntmps26
    go_wp2_with fail
    refine (C1.out _).mono ?_
    rintro e w' ⟨rfl, rfl⟩
    go_wp2_with fail
    go_returns
    exact ⟨rfl, by go_grown⟩
  cases b2
  · clear h1 h2 h3
    go_enter Try.func26, Try.ntmps26
    go_wp2_with fail
    refine (C1.out _).mono ?_
    rintro e w' ⟨rfl, rfl⟩
    go_wp2_with fail
    refine (C2.out _).mono ?_
    rintro e w' ⟨rfl, rfl⟩
    go_wp2_with fail
    go_returns
    exact ⟨rfl, by go_grown⟩
  · have ⟨hx, hy⟩ := pl_yes h1
    have ⟨ha, hb⟩ := pl_yes h2
    obtain ⟨re0, im0, hsub, i1, i2⟩ := csum (P := Try.prog) .sub (-1) (Or.inr ⟨rfl, rfl⟩) (by omega) (by omega) (by omega) (by omega) (i32_f32 x) (i32_f32 y) (i32_f32 a) (i32_f32 b)
    rw [show x + -1 * a = x - a by omega] at i1
    rw [show y + -1 * b = y - b by omega] at i2
    have T := turned (n := n) (by omega) (by omega) i1 i2
    have bx := txle (k := (n % 4).toNat) (x := x - a) (y := y - b) (B := 8192) (by omega) (by omega)
    have b_y := tyle (k := (n % 4).toNat) (x := x - a) (y := y - b) (B := 8192) (by omega) (by omega)
    generalize tx (n % 4).toNat (x - a) (y - b) = X at *
    generalize ty (n % 4).toNat (x - a) (y - b) = Y at *
    replace T := Lib.hid T
    have SUM := Lib.hid (fun re im (j1 : I32 X re) (j2 : I32 Y im) => csum (P := Try.prog) .add 1 (Or.inl ⟨rfl, rfl⟩) (by omega) (by omega) (by omega) (by omega) (i32_f32 a) (i32_f32 b) j1 j2)
    have D := Lib.hid (fun re im (j1 : I32 (a + 1 * X) re) (j2 : I32 (b + 1 * Y) im) => toldOf (a := a + X) (b := b + Y) (by omega) (by omega) h3 (by rw [Int.one_mul] at j1; exact j1) (by rw [Int.one_mul] at j2; exact j2))
    have CA := Lib.hid (complexOf a b (by omega) (by omega))
    have CX := Lib.hid (complexOf x y (by omega) (by omega))
    clear h1 h2 h3 hx hy ha hb bx b_y i1 i2
    cases b3
    all_goals
      go_enter Try.func26, Try.ntmps26
      go_wp2_with fail
      refine (C1.out _).mono ?_
      rintro e w' ⟨rfl, rfl⟩
      go_wp2_with fail
      refine (C2.out _).mono ?_
      rintro e w' ⟨rfl, rfl⟩
      go_wp2_with fail
      refine (CA.out _).mono ?_
      rintro e w' ⟨rfl, rfl⟩
      go_wp2_with fail
      refine (CX.out _).mono ?_
      rintro e w' ⟨rfl, rfl⟩
      go_wp2_with fail
      refine (T.out _).mono ?_
      rintro e w' ⟨re, im, rfl, rfl, j1, j2⟩
      obtain ⟨re2, im2, hadd, k1, k2⟩ := SUM.out re im j1 j2
      go_wp2_with fail
      refine (D.out _ _ k1 k2 _).mono ?_
      rintro e w' ⟨rfl, rfl⟩
      go_wp2_with fail
      go_returns
      exact ⟨rfl, by go_grown⟩

theorem aboutBoth (x y a b n : Int) : ∃ X Y B, (∀ w, Calls Try.prog 25 #[.agg #[.int .i64 x, .int .i64 y], .agg #[.int .i64 a, .int .i64 b], .int .i64 n] w fun e w' => e = .returned (.tuple #[.agg #[.int .i64 X, .int .i64 Y], .bool B]) ∧ Below w.heap.size w w') ∧
    (∀ w, Calls Try.prog 26 #[.agg #[.int .i64 x, .int .i64 y], .agg #[.int .i64 a, .int .i64 b], .int .i64 n] w fun e w' => e = .returned (.tuple #[.agg #[.int .i64 X, .int .i64 Y], .bool B]) ∧ Below w.heap.size w w') :=
  ⟨_, _, _, aboutS x y a b n rfl rfl rfl, aboutI x y a b n rfl rfl rfl⟩

end Go.Proofs.Ytkgccpbpmclikaa.P3
