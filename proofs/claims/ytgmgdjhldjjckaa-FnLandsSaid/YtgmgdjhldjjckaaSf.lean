/- What a step from a place answers, of the program and of the model. -/
import Derived.Test.YtgmgdjhldjjckaaP2
import Derived.Test.YtgmgdjhldjjckaaP2s
import Derived.Test.YtgmgdjhldjjckaaUn
import Derived.Test.YtgmgdjhldjjckaaHd
namespace Go.Proofs.Ytgmgdjhldjjckaa.Sf
open Go.RowKit Go.Proofs.Ytgmgdjhldjjckaa.Cm Go.Proofs.Ytgmgdjhldjjckaa.Pl Go.Proofs.Ytgmgdjhldjjckaa.Str Go.Proofs.Ytgmgdjhldjjckaa.Pw Go.Proofs.Ytgmgdjhldjjckaa.P2 Go.Proofs.Ytgmgdjhldjjckaa.Hd
set_option linter.unusedVariables false

set_option maxHeartbeats 4000000 in
set_option maxRecDepth 100000 in
theorem stepS_yes {x y h k : Int} {b : Bool} (hp : (ms x && ms y) = true) (hh : hd h = true) (hk : ms k = true) (hb : (ms (x + tx (h % 4).toNat k 0) && ms (y + ty (h % 4).toNat k 0)) = b) (w : World) :
    Calls Try.prog 58 #[.agg #[.int .i64 x, .int .i64 y], .int .i64 h, .int .i64 k] w fun e w' => e = .returned (told2 b (x + tx (h % 4).toNat k 0) (y + ty (h % 4).toNat k 0)) ∧ Below w.heap.size w w' := by
  have ⟨k1, k2⟩ := ms_iff.1 hk
  have C1 := Lib.hid (isPlaceS_of hp)
  have C2 := Lib.hid (isHeadingS_of hh)
  have C3 := Lib.hid (show ∀ w, Calls Try.prog 100 #[.int .i64 k] w fun e w' => e = .returned (.bool true) ∧ w = w' from hk ▸ isMeasureS k)
  have L := l2Turn h (x := k) (y := 0) (by omega) (by omega)
  have bx := txle (k := (h % 4).toNat) (x := k) (y := 0) (B := 4096) (by omega) (by omega)
  have b_y := tyle (k := (h % 4).toNat) (x := k) (y := 0) (B := 4096) (by omega) (by omega)
  generalize tx (h % 4).toNat k 0 = X at *
  generalize ty (h % 4).toNat k 0 = Y at *
  replace L := Lib.hid L
  have A := addS x y X Y hp (pl_mk bx b_y) hb
  simp only [Bool.true_and] at A
  replace A := Lib.hid A
  clear hp hh hk hb k1 k2 bx b_y
  all_goals
    go_enter Try.func58, Try.ntmps58
    go_wp2_with fail
    refine (C1.out _).mono ?_
    rintro e w' ⟨rfl, rfl⟩
    go_wp2_with fail
    refine (C2.out _).mono ?_
    rintro e w' ⟨rfl, rfl⟩
    go_wp2_with fail
    refine (C3.out _).mono ?_
    rintro e w' ⟨rfl, rfl⟩
    go_wp2_with fail
    go_region_held3 (fun w' => w'.cell? ⟨w.heap.size, 0, none⟩ = some (.int .i64 x) ∧ w'.cell? ⟨w.heap.size, 1, none⟩ = some (.int .i64 y)) (first | (simp [go_sem, *]; done) | (refine ⟨?_, ?_⟩ <;> (refine cell_alloc ?_) <;> (simp [go_sem, *]; done)))
      (first
        | (go_at_call 90; refine (L.out _).mono ?_; rintro e w' ⟨rfl, rfl⟩)
        | (go_at_call 54; refine (A.out _).mono ?_; rintro e w' ⟨rfl, hb⟩; obtain ⟨hc, hf, l1, l2, n1, n2, n3, n4⟩ := open_below hb; have hB : Below w.heap.size w w' := Below.trans (by go_grown) (hb.mono (by go_size)); have hsz := hB.size; have z0 : (w'.cell? ⟨w.heap.size + 1, 0, none⟩).isSome = true := (by rw [hc _ (by simp)]; simp [go_sem]); have z1 : (w'.cell? ⟨w.heap.size + 1, 1, none⟩).isSome = true := (by rw [hc _ (by simp)]; simp [go_sem]); have s0 : ∀ P Q, ((w'.setCell ⟨w.heap.size + 1, 0, none⟩ P).setCell ⟨w.heap.size + 1, 1, none⟩ Q).cell? ⟨w.heap.size + 1, 0, none⟩ = some P := (fun P Q => set2_0 z0); have s1 : ∀ P Q, ((w'.setCell ⟨w.heap.size + 1, 0, none⟩ P).setCell ⟨w.heap.size + 1, 1, none⟩ Q).cell? ⟨w.heap.size + 1, 1, none⟩ = some Q := (fun P Q => set2_1 z1); clear hb))
    all_goals go_wp2_with fail
    all_goals (try simp only [Exit.inBlock, Exit.then])
    all_goals refine bodyPost_ret (by simp [results, Try.results58, go_sem, z0, z1, s0, s1]; try rfl) rfl ?_
    all_goals exact ⟨rfl, by go_grown⟩

set_option maxHeartbeats 4000000 in
set_option maxRecDepth 100000 in
theorem stepI_yes {x y h k : Int} {b : Bool} (hp : (ms x && ms y) = true) (hh : hd h = true) (hk : ms k = true) (hb : (ms (x + tx (h % 4).toNat k 0) && ms (y + ty (h % 4).toNat k 0)) = b) (w : World) :
    Calls Try.prog 22 #[.agg #[.int .i64 x, .int .i64 y], .int .i64 h, .int .i64 k] w fun e w' => e = .returned (told2 b (x + tx (h % 4).toNat k 0) (y + ty (h % 4).toNat k 0)) ∧ Below w.heap.size w w' := by
  have ⟨k1, k2⟩ := ms_iff.1 hk
  have ⟨p1, p2⟩ := pl_yes hp
  have ⟨h1, h2⟩ := hd_yes hh
  have C1 := Lib.hid (isPlaceI_of hp)
  have C2 := Lib.hid (isHeadingI_of hh)
  have C3 := Lib.hid (show ∀ w, Calls Try.prog 72 #[.int .i64 k] w fun e w' => e = .returned (.bool true) ∧ w = w' from hk ▸ isMeasureI k)
  have C4 := Lib.hid (Meas.wholesOf k (by omega))
  have C5 := Lib.hid (complexOf x y (by omega) (by omega))
  have U := Lib.hid units
  have bx := txle (k := (h % 4).toNat) (x := k) (y := 0) (B := 4096) (by omega) (by omega)
  have b_y := tyle (k := (h % 4).toNat) (x := k) (y := 0) (B := 4096) (by omega) (by omega)
  have D := Lib.hid (fun re im (j1 : I32 (x + 1 * tx (h % 4).toNat k 0) re) (j2 : I32 (y + 1 * ty (h % 4).toNat k 0) im) => toldOf (a := x + tx (h % 4).toNat k 0) (b := y + ty (h % 4).toNat k 0) (by omega) (by omega) hb (by rw [Int.one_mul] at j1; exact j1) (by rw [Int.one_mul] at j2; exact j2))
  have SUM := Lib.hid (fun re im (j1 : I32 (tx (h % 4).toNat k 0) re) (j2 : I32 (ty (h % 4).toNat k 0) im) => csum (P := Try.prog) .add 1 (Or.inl ⟨rfl, rfl⟩) (by omega) (by omega) (by omega) (by omega) (i32_f32 x) (i32_f32 y) j1 j2)
  have hm : ∃ u v re im, ((h = 0 ∧ u = 1065353216 ∧ v = 0) ∨ (h = 1 ∧ u = 0 ∧ v = 1065353216) ∨ (h = 2 ∧ u = 3212836864 ∧ v = 0) ∨ (h = 3 ∧ u = 0 ∧ v = 3212836864)) ∧ (∀ t w, (binOp .mul t (.complex .f32 u v) (.complex .f32 (Meas.f32 k) 0)).run Try.prog w = .ok (.complex .f32 re im) w) ∧ I32 (tx (h % 4).toNat k 0) re ∧ I32 (ty (h % 4).toNat k 0) im := by
    have go : ∀ (c d : Int) (u v : Nat), c.natAbs < 2 → d.natAbs < 2 → U32 c u → U32 d v → ∃ re im, (∀ t w, (binOp .mul t (.complex .f32 u v) (.complex .f32 (Meas.f32 k) 0)).run Try.prog w = .ok (.complex .f32 re im) w) ∧ I32 (c * k - d * 0) re ∧ I32 (c * 0 + d * k) im :=
      fun c d u v h1 h2 h3 h4 => cmulU (P := Try.prog) (by omega) (by decide) h1 h2 (i32_f32 k) i32_0 h3 h4
    rcases (by omega : h = 0 ∨ h = 1 ∨ h = 2 ∨ h = 3) with rfl | rfl | rfl | rfl
    · obtain ⟨re, im, e1, e2, e3⟩ := go 1 0 _ _ (by decide) (by decide) u32_1 u32_0
      exact ⟨_, _, re, im, Or.inl ⟨rfl, rfl, rfl⟩, e1, by simpa [tx] using e2, by simpa [ty] using e3⟩
    · obtain ⟨re, im, e1, e2, e3⟩ := go 0 1 _ _ (by decide) (by decide) u32_0 u32_1
      exact ⟨_, _, re, im, Or.inr (Or.inl ⟨rfl, rfl, rfl⟩), e1, by simpa [tx] using e2, by simpa [ty] using e3⟩
    · obtain ⟨re, im, e1, e2, e3⟩ := go (-1) 0 _ _ (by decide) (by decide) u32_m1 u32_0
      exact ⟨_, _, re, im, Or.inr (Or.inr (Or.inl ⟨rfl, rfl, rfl⟩)), e1, by simpa [tx, Int.neg_one_mul] using e2, by simpa [ty] using e3⟩
    · obtain ⟨re, im, e1, e2, e3⟩ := go 0 (-1) _ _ (by decide) (by decide) u32_0 u32_m1
      exact ⟨_, _, re, im, Or.inr (Or.inr (Or.inr ⟨rfl, rfl, rfl⟩)), e1, by simpa [tx] using e2, by simpa [ty, Int.neg_one_mul] using e3⟩
  obtain ⟨u, v, re, im, hcase, hmul, i1, i2⟩ := hm
  generalize tx (h % 4).toNat k 0 = X at *
  generalize ty (h % 4).toNat k 0 = Y at *
  obtain ⟨re2, im2, hadd, j1, j2⟩ := SUM.out re im i1 i2
  have D := Lib.hid (D.out re2 im2 j1 j2)
  clear hp hh hk hb k1 k2 bx b_y p1 p2 h1 h2 SUM i1 i2 j1 j2
  rcases hcase with ⟨rfl, rfl, rfl⟩ | ⟨rfl, rfl, rfl⟩ | ⟨rfl, rfl, rfl⟩ | ⟨rfl, rfl, rfl⟩
  all_goals
    all_goals
      go_enter Try.func22, Try.ntmps22
      go_wp2_with fail
      refine (C1.out _).mono ?_
      rintro e w' ⟨rfl, rfl⟩
      go_wp2_with fail
      refine (C2.out _).mono ?_
      rintro e w' ⟨rfl, rfl⟩
      go_wp2_with fail
      refine (C3.out _).mono ?_
      rintro e w' ⟨rfl, rfl⟩
      go_wp2_with fail
      go_region_with
        (first
          | (go_at_call 73; refine (U.out _).mono ?_; rintro e w' ⟨rfl, rfl⟩)
          | (go_at_call 74; refine (C4.out _).mono ?_; rintro e w' ⟨rfl, rfl⟩))
      all_goals go_wp2_with (first
        | (go_at_call 76; refine (C5.out _).mono ?_; rintro e w' ⟨rfl, rfl⟩)
        | (go_at_call 75; refine (D.out _).mono ?_; rintro e w' ⟨rfl, rfl⟩))
      all_goals go_returns
      all_goals exact ⟨rfl, by go_grown⟩

set_option maxRecDepth 100000 in
theorem stepS_no1 {x y h k : Int} (hp : (ms x && ms y) = false) (w : World) :
    Calls Try.prog 58 #[.agg #[.int .i64 x, .int .i64 y], .int .i64 h, .int .i64 k] w fun e w' => e = .returned (.tuple #[.agg #[.int .i64 0, .int .i64 0], .bool false]) ∧ Below w.heap.size w w' := by
  have C1 := Lib.hid (isPlaceS_of hp)
  clear hp
  go_enter Try.func58, Try.ntmps58
  go_wp2_with fail
  refine (C1.out _).mono ?_
  rintro e w' ⟨rfl, rfl⟩
  go_wp2_with fail
  go_returns
  exact ⟨rfl, by go_grown⟩

set_option maxRecDepth 100000 in
theorem stepS_no2 {x y h k : Int} (hp : (ms x && ms y) = true) (hh : hd h = false) (w : World) :
    Calls Try.prog 58 #[.agg #[.int .i64 x, .int .i64 y], .int .i64 h, .int .i64 k] w fun e w' => e = .returned (.tuple #[.agg #[.int .i64 0, .int .i64 0], .bool false]) ∧ Below w.heap.size w w' := by
  have C1 := Lib.hid (isPlaceS_of hp)
  have C2 := Lib.hid (isHeadingS_of hh)
  clear hp hh
  go_enter Try.func58, Try.ntmps58
  go_wp2_with fail
  refine (C1.out _).mono ?_
  rintro e w' ⟨rfl, rfl⟩
  go_wp2_with fail
  refine (C2.out _).mono ?_
  rintro e w' ⟨rfl, rfl⟩
  go_wp2_with fail
  go_returns
  exact ⟨rfl, by go_grown⟩

set_option maxRecDepth 100000 in
theorem stepS_no3 {x y h k : Int} (hp : (ms x && ms y) = true) (hh : hd h = true) (hk : ms k = false) (w : World) :
    Calls Try.prog 58 #[.agg #[.int .i64 x, .int .i64 y], .int .i64 h, .int .i64 k] w fun e w' => e = .returned (.tuple #[.agg #[.int .i64 0, .int .i64 0], .bool false]) ∧ Below w.heap.size w w' := by
  have C1 := Lib.hid (isPlaceS_of hp)
  have C2 := Lib.hid (isHeadingS_of hh)
  have C3 := Lib.hid (show ∀ w, Calls Try.prog 100 #[.int .i64 k] w fun e w' => e = .returned (.bool false) ∧ w = w' from hk ▸ isMeasureS k)
  clear hp hh hk
  go_enter Try.func58, Try.ntmps58
  go_wp2_with fail
  refine (C1.out _).mono ?_
  rintro e w' ⟨rfl, rfl⟩
  go_wp2_with fail
  refine (C2.out _).mono ?_
  rintro e w' ⟨rfl, rfl⟩
  go_wp2_with fail
  refine (C3.out _).mono ?_
  rintro e w' ⟨rfl, rfl⟩
  go_wp2_with fail
  go_returns
  exact ⟨rfl, by go_grown⟩

set_option maxRecDepth 100000 in
theorem stepI_no1 {x y h k : Int} (hp : (ms x && ms y) = false) (w : World) :
    Calls Try.prog 22 #[.agg #[.int .i64 x, .int .i64 y], .int .i64 h, .int .i64 k] w fun e w' => e = .returned (.tuple #[.agg #[.int .i64 0, .int .i64 0], .bool false]) ∧ Below w.heap.size w w' := by
  have C1 := Lib.hid (isPlaceI_of hp)
  clear hp
  go_enter Try.func22, Try.ntmps22
  go_wp2_with fail
  refine (C1.out _).mono ?_
  rintro e w' ⟨rfl, rfl⟩
  go_wp2_with fail
  go_returns
  exact ⟨rfl, by go_grown⟩

set_option maxRecDepth 100000 in
theorem stepI_no2 {x y h k : Int} (hp : (ms x && ms y) = true) (hh : hd h = false) (w : World) :
    Calls Try.prog 22 #[.agg #[.int .i64 x, .int .i64 y], .int .i64 h, .int .i64 k] w fun e w' => e = .returned (.tuple #[.agg #[.int .i64 0, .int .i64 0], .bool false]) ∧ Below w.heap.size w w' := by
  have C1 := Lib.hid (isPlaceI_of hp)
  have C2 := Lib.hid (isHeadingI_of hh)
  clear hp hh
  go_enter Try.func22, Try.ntmps22
  go_wp2_with fail
  refine (C1.out _).mono ?_
  rintro e w' ⟨rfl, rfl⟩
  go_wp2_with fail
  refine (C2.out _).mono ?_
  rintro e w' ⟨rfl, rfl⟩
  go_wp2_with fail
  go_returns
  exact ⟨rfl, by go_grown⟩

set_option maxRecDepth 100000 in
theorem stepI_no3 {x y h k : Int} (hp : (ms x && ms y) = true) (hh : hd h = true) (hk : ms k = false) (w : World) :
    Calls Try.prog 22 #[.agg #[.int .i64 x, .int .i64 y], .int .i64 h, .int .i64 k] w fun e w' => e = .returned (.tuple #[.agg #[.int .i64 0, .int .i64 0], .bool false]) ∧ Below w.heap.size w w' := by
  have C1 := Lib.hid (isPlaceI_of hp)
  have C2 := Lib.hid (isHeadingI_of hh)
  have C3 := Lib.hid (show ∀ w, Calls Try.prog 72 #[.int .i64 k] w fun e w' => e = .returned (.bool false) ∧ w = w' from hk ▸ isMeasureI k)
  clear hp hh hk
  go_enter Try.func22, Try.ntmps22
  go_wp2_with fail
  refine (C1.out _).mono ?_
  rintro e w' ⟨rfl, rfl⟩
  go_wp2_with fail
  refine (C2.out _).mono ?_
  rintro e w' ⟨rfl, rfl⟩
  go_wp2_with fail
  refine (C3.out _).mono ?_
  rintro e w' ⟨rfl, rfl⟩
  go_wp2_with fail
  go_returns
  exact ⟨rfl, by go_grown⟩

theorem stepBoth (x y h k : Int) : ∃ X Y B, (∀ w, Calls Try.prog 58 #[.agg #[.int .i64 x, .int .i64 y], .int .i64 h, .int .i64 k] w fun e w' => e = .returned (.tuple #[.agg #[.int .i64 X, .int .i64 Y], .bool B]) ∧ Below w.heap.size w w') ∧
    (∀ w, Calls Try.prog 22 #[.agg #[.int .i64 x, .int .i64 y], .int .i64 h, .int .i64 k] w fun e w' => e = .returned (.tuple #[.agg #[.int .i64 X, .int .i64 Y], .bool B]) ∧ Below w.heap.size w w') := by
  cases hp : (ms x && ms y)
  · exact ⟨_, _, _, stepS_no1 hp, stepI_no1 hp⟩
  cases hh : hd h
  · exact ⟨_, _, _, stepS_no2 hp hh, stepI_no2 hp hh⟩
  cases hk : ms k
  · exact ⟨_, _, _, stepS_no3 hp hh hk, stepI_no3 hp hh hk⟩
  · exact ⟨_, _, _, stepS_yes hp hh hk rfl, stepI_yes hp hh hk rfl⟩

end Go.Proofs.Ytgmgdjhldjjckaa.Sf
