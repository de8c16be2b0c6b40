/- What the program's functions between places and complex numbers answer, and the model's turns, with the memory that they make. -/
import Derived.Test.YtejeikfgmiadhabPl
import Derived.Test.YtejeikfgmiadhabStr
import Derived.Deep.RegionHeld3
set_option linter.unusedVariables false
set_option linter.unusedSimpArgs false
namespace Go.Proofs.Ytejeikfgmiadhab.Pw
open Go.RowKit Go.Proofs.Ytejeikfgmiadhab.Cm Go.Proofs.Ytejeikfgmiadhab.Pl Go.Proofs.Ytejeikfgmiadhab.Str
set_option linter.unusedVariables false

/-- The memory of a place that a call has laid. -/
abbrev cell2 (x y : Int) : Obj := .cells #[.int .i64 x, .int .i64 y] 32

set_option maxRecDepth 100000 in
theorem complexOf (x y : Int) (hx : x.natAbs < 16777216) (hy : y.natAbs < 16777216) (w : World) :
    Calls Try.prog 56 #[.agg #[.int .i64 x, .int .i64 y]] w fun e w' => e = .returned (.complex .f32 (Meas.f32 x) (Meas.f32 y)) ∧ w' = (w.alloc (.cells #[.int .i64 x, .int .i64 y] 32)).drew := by
  have c1 := Lib.hid (Meas.wholesOf x hx)
  have c2 := Lib.hid (Meas.wholesOf y hy)
  clear hx hy
  go_enter Try.func56, Try.ntmps56
  go_wp2_with fail
  go_region_held3 (fun w' => w'.cell? ⟨w.heap.size, 0, none⟩ = some (.int .i64 x) ∧ w'.cell? ⟨w.heap.size, 1, none⟩ = some (.int .i64 y)) (go_keep)
    (first
      | (go_at_call 67; refine (c1.out _).mono ?_; rintro e w' ⟨rfl, rfl⟩)
      | (go_at_call 67; refine (c2.out _).mono ?_; rintro e w' ⟨rfl, rfl⟩))
  go_wp2_with fail
  go_returns
  exact ⟨rfl, rfl⟩

theorem toldPlace {a b : Int} {re im : Nat} (ha : a.natAbs < 16777216) (hb : b.natAbs < 16777216) (h1 : I32 a re) (h2 : I32 b im) (w : World) :
    Calls Try.prog 76 #[.complex .f32 re im] w fun e w' => e = .returned (.tuple #[.agg #[.int .i64 (if ms a && ms b then a else 0), .int .i64 (if ms a && ms b then b else 0)], .bool (ms a && ms b)]) ∧ w' = w.alloc (.cells #[.int .i64 (if ms a && ms b then a else 0), .int .i64 (if ms a && ms b then b else 0)] 32) := by
  have c1 := told ha h1
  have c2 := told hb h2
  generalize ms a = p at *
  generalize ms b = q at *
  obtain ⟨x, hx⟩ : ∃ x, (if p = true then a else 0) = x := ⟨_, rfl⟩
  obtain ⟨y, hy⟩ : ∃ y, (if q = true then b else 0) = y := ⟨_, rfl⟩
  rw [hx] at c1
  rw [hy] at c2
  have c1 := Lib.hid c1
  have c2 := Lib.hid c2
  clear ha hb h1 h2
  have key : Calls Try.prog 76 #[.complex .f32 re im] w fun e w' => e = .returned (.tuple #[.agg #[.int .i64 (if p && q then x else 0), .int .i64 (if p && q then y else 0)], .bool (p && q)]) ∧ w' = w.alloc (.cells #[.int .i64 (if p && q then x else 0), .int .i64 (if p && q then y else 0)] 32) := by
    clear hx hy
    cases p <;> cases q
    all_goals
      go_enter Try.func76, Try.ntmps76
      go_wp2_with fail
      refine (c1.out _).mono ?_
      rintro e w' ⟨rfl, rfl⟩
      go_wp2_with fail
      refine (c2.out _).mono ?_
      rintro e w' ⟨rfl, rfl⟩
      go_wp2_with fail
      go_returns
      exact ⟨rfl, rfl⟩
  cases p <;> cases q <;> simp at hx hy <;> subst hx hy <;> exact key

theorem isPlaceI (x y : Int) (w : World) : Calls Try.prog 39 #[.agg #[.int .i64 x, .int .i64 y]] w fun e w' => e = .returned (.bool (ms x && ms y)) ∧ w' = w.alloc (.cells #[.int .i64 x, .int .i64 y] 32) := by
  go_enter Try.func39, Try.ntmps39
  go_wp2_with (go_at_call 53; refine (isMeasureI _ _).mono ?_; rintro e w' ⟨rfl, rfl⟩)
  all_goals go_returns
  all_goals refine ⟨?_, rfl⟩
  all_goals simp [*]

theorem isPlaceS (x y : Int) (w : World) : Calls Try.prog 28 #[.agg #[.int .i64 x, .int .i64 y]] w fun e w' => e = .returned (.bool (ms x && ms y)) ∧ w' = w.alloc (.cells #[.int .i64 x, .int .i64 y] 32) := by
  go_enter Try.func28, Try.ntmps28
  go_wp2_with (go_at_call 44; refine (isMeasureS _ _).mono ?_; rintro e w' ⟨rfl, rfl⟩)
  all_goals go_returns
  all_goals refine ⟨?_, rfl⟩
  all_goals simp [*]

theorem l2Turn {x y : Int} (n : Int) (hx : x.natAbs < 4611686018427387904) (hy : y.natAbs < 4611686018427387904) (w : World) :
    Calls Try.prog 74 #[.agg #[.int .i64 x, .int .i64 y], .int .i64 n] w fun e w' => e = .returned (.agg #[.int .i64 (tx (n % 4).toNat x y), .int .i64 (ty (n % 4).toNat x y)]) ∧ w' = (w.alloc (.cells #[.int .i64 (tx (n % 4).toNat x y), .int .i64 (ty (n % 4).toNat x y)] 32)).alloc (.cells #[.int .i64 (tx (n % 4).toNat x y), .int .i64 (ty (n % 4).toNat x y)] 32) := by
  have q := Lib.hid (l2Mod n)
  have key : ∀ k : Int, k = 0 ∨ k = 1 ∨ k = 2 ∨ k = 3 → (∀ w, Calls Try.prog 78 #[.int .i64 n] w fun e w' => e = .returned (.int .i64 k) ∧ w = w') →
      Calls Try.prog 74 #[.agg #[.int .i64 x, .int .i64 y], .int .i64 n] w fun e w' => e = .returned (.agg #[.int .i64 (tx k.toNat x y), .int .i64 (ty k.toNat x y)]) ∧ w' = (w.alloc (.cells #[.int .i64 (tx k.toNat x y), .int .i64 (ty k.toNat x y)] 32)).alloc (.cells #[.int .i64 (tx k.toNat x y), .int .i64 (ty k.toNat x y)] 32) := by
    intro k hk hq
    have Q := Lib.hid hq
    clear hq q
    have n1 : wrap64 (-x) = -x := IntWalk.wrap64_in _ (by omega)
    have n2 : wrap64 (-y) = -y := IntWalk.wrap64_in _ (by omega)
    have n3 : wrap64 x = x := IntWalk.wrap64_in _ (by omega)
    have n4 : wrap64 y = y := IntWalk.wrap64_in _ (by omega)
    clear hx hy
    rcases hk with rfl | rfl | rfl | rfl
    all_goals
      go_enter Try.func74, Try.ntmps74
      go_wp2_with (first
        | (go_at_call 78; refine (Q.out _).mono ?_; rintro e w' ⟨rfl, rfl⟩)
        | go_rounds 4)
      all_goals go_returns
      exact ⟨rfl, rfl⟩
  exact key _ (mod4_cases n) (fun w => q.out w)

theorem toPlace (x y : Int) (w : World) : Calls Try.prog 17 #[.agg #[.int .i64 x, .int .i64 y]] w fun e w' => e = .returned (.agg #[.int .i64 x, .int .i64 y]) ∧ w' = ((w.alloc (.cells #[.int .i64 x, .int .i64 y] 23)).alloc (.cells #[.int .i64 x, .int .i64 y] 32)).alloc (.cells #[.int .i64 x, .int .i64 y] 32) := by
  go_enter Try.func17, Try.ntmps17
  go_wp2
  go_returns
  exact ⟨rfl, rfl⟩

theorem eqPlace (x y : Int) (w : World) : Calls Try.prog 23 #[.agg #[.int .i64 x, .int .i64 y], .agg #[.int .i64 x, .int .i64 y]] w fun e w' => e = .returned (.bool true) ∧ w' = (w.alloc (.cells #[.int .i64 x, .int .i64 y] 32)).alloc (.cells #[.int .i64 x, .int .i64 y] 32) := by
  go_enter Try.func23, Try.ntmps23
  go_wp2
  all_goals go_returns
  exact ⟨rfl, rfl⟩

theorem txle {k : Nat} {x y B : Int} (hx : -B ≤ x ∧ x ≤ B) (hy : -B ≤ y ∧ y ≤ B) : -B ≤ tx k x y ∧ tx k x y ≤ B := by
  unfold tx; split <;> omega
theorem tyle {k : Nat} {x y B : Int} (hx : -B ≤ x ∧ x ≤ B) (hy : -B ≤ y ∧ y ≤ B) : -B ≤ ty k x y ∧ ty k x y ≤ B := by
  unfold ty; split <;> omega

/-- impl.toldPlace at words of a valid place. -/
theorem toldYes {a b : Int} {re im : Nat} (ha : -4096 ≤ a ∧ a ≤ 4096) (hb : -4096 ≤ b ∧ b ≤ 4096) (h1 : I32 a re) (h2 : I32 b im) (w : World) :
    Calls Try.prog 76 #[.complex .f32 re im] w fun e w' => e = .returned (.tuple #[.agg #[.int .i64 a, .int .i64 b], .bool true]) ∧ w' = w.alloc (.cells #[.int .i64 a, .int .i64 b] 32) := by
  have h := toldPlace (by omega) (by omega) h1 h2 w
  rw [ms_yes ha.1 ha.2, ms_yes hb.1 hb.2] at h
  exact h
/-- impl.toldPlace at words that tell no valid place. -/
theorem toldNot {a b : Int} {re im : Nat} (ha : a.natAbs < 16777216) (hb : b.natAbs < 16777216) (hn : (ms a && ms b) = false) (h1 : I32 a re) (h2 : I32 b im) (w : World) :
    Calls Try.prog 76 #[.complex .f32 re im] w fun e w' => e = .returned (.tuple #[.agg #[.int .i64 0, .int .i64 0], .bool false]) ∧ w' = w.alloc (.cells #[.int .i64 0, .int .i64 0] 32) := by
  have h := toldPlace ha hb h1 h2 w
  rw [hn] at h
  exact h

theorem pl_yes {x y : Int} (h : (ms x && ms y) = true) : (-4096 ≤ x ∧ x ≤ 4096) ∧ (-4096 ≤ y ∧ y ≤ 4096) := by
  rw [Bool.and_eq_true, ms_iff, ms_iff] at h
  exact h
theorem pl_mk {x y : Int} (hx : -4096 ≤ x ∧ x ≤ 4096) (hy : -4096 ≤ y ∧ y ≤ 4096) : (ms x && ms y) = true := by rw [ms_yes hx.1 hx.2, ms_yes hy.1 hy.2]; rfl

/-- IsPlace of both, at a known answer. -/
theorem isPlaceI_of {x y : Int} {b : Bool} (h : (ms x && ms y) = b) (w : World) : Calls Try.prog 39 #[.agg #[.int .i64 x, .int .i64 y]] w fun e w' => e = .returned (.bool b) ∧ w' = w.alloc (.cells #[.int .i64 x, .int .i64 y] 32) := h ▸ isPlaceI x y w
theorem isPlaceS_of {x y : Int} {b : Bool} (h : (ms x && ms y) = b) (w : World) : Calls Try.prog 28 #[.agg #[.int .i64 x, .int .i64 y]] w fun e w' => e = .returned (.bool b) ∧ w' = w.alloc (.cells #[.int .i64 x, .int .i64 y] 32) := h ▸ isPlaceS x y w

end Go.Proofs.Ytejeikfgmiadhab.Pw
