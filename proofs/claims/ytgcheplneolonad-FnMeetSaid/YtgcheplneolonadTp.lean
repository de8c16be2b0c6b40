/- What TurnPlace answers, and IsPlace, with nothing said of the memory but that old memory is as it was. -/
import Derived.Test.YtgcheplneolonadP2
namespace Go.Proofs.Ytgcheplneolonad.Tp
open Go.RowKit Go.Proofs.Ytgcheplneolonad.Cm Go.Proofs.Ytgcheplneolonad.Pl Go.Proofs.Ytgcheplneolonad.Str Go.Proofs.Ytgcheplneolonad.Pw Go.Proofs.Ytgcheplneolonad.P2
set_option linter.unusedVariables false

theorem placeI {x y : Int} {b : Bool} (h : (ms x && ms y) = b) (w : World) : Calls Try.prog 16 #[.agg #[.int .i64 x, .int .i64 y]] w fun e w' => e = .returned (.bool b) ∧ Below w.heap.size w w' :=
  (isPlaceI_of h w).mono fun e w' k => ⟨k.1, by rw [k.2]; go_grown⟩
theorem placeS {x y : Int} {b : Bool} (h : (ms x && ms y) = b) (w : World) : Calls Try.prog 51 #[.agg #[.int .i64 x, .int .i64 y]] w fun e w' => e = .returned (.bool b) ∧ Below w.heap.size w w' :=
  (isPlaceS_of h w).mono fun e w' k => ⟨k.1, by rw [k.2]; go_grown⟩

set_option maxHeartbeats 1000000 in
theorem turnI_no {x y : Int} (n : Int) (h : (ms x && ms y) = false) (w : World) : Calls Try.prog 23 #[.agg #[.int .i64 x, .int .i64 y], .int .i64 n] w fun e w' => e = .returned (.agg #[.int .i64 0, .int .i64 0]) ∧ Below w.heap.size w w' := by
  have CI := Lib.hid (isPlaceI_of h)
  clear h
  go_enter Try.func23, Try.ntmps23
  go_wp2_with fail
  refine (CI.out _).mono ?_
  rintro e w' ⟨rfl, rfl⟩
  go_wp2_with fail
  go_returns
  exact ⟨rfl, by go_grown⟩

set_option maxHeartbeats 1000000 in
theorem turnI {x y : Int} (n : Int) (h : (ms x && ms y) = true) (w : World) : Calls Try.prog 23 #[.agg #[.int .i64 x, .int .i64 y], .int .i64 n] w fun e w' => e = .returned (.agg #[.int .i64 (tx (n % 4).toNat x y), .int .i64 (ty (n % 4).toNat x y)]) ∧ Below w.heap.size w w' := by
  obtain ⟨hx, hy⟩ := pl_yes h
  have CI := Lib.hid (isPlaceI_of h)
  have C := Lib.hid (complexOf x y (by omega) (by omega))
  have T := turned (n := n) (by omega) (by omega) (i32_f32 x) (i32_f32 y)
  have bx := txle (k := (n % 4).toNat) hx hy
  have b_y := tyle (k := (n % 4).toNat) hx hy
  generalize tx (n % 4).toNat x y = X at *
  generalize ty (n % 4).toNat x y = Y at *
  replace T := Lib.hid T
  have D := Lib.hid (fun re im => toldYes (re := re) (im := im) bx b_y)
  clear h hx hy bx b_y
  go_enter Try.func23, Try.ntmps23
  go_wp2_with (first
    | (go_at_call 16; refine (CI.out _).mono ?_; rintro e w' ⟨rfl, rfl⟩)
    | (go_at_call 53; refine (C.out _).mono ?_; rintro e w' ⟨rfl, rfl⟩)
    | (go_at_call 52; refine (T.out _).mono ?_; rintro e w' ⟨re, im, rfl, rfl, i1, i2⟩)
    | (go_at_call 35; refine (D.out _ _ (by assumption) (by assumption) _).mono ?_; rintro e w' ⟨rfl, rfl⟩))
  all_goals go_returns
  all_goals exact ⟨rfl, by go_grown⟩

/-- Turned back. -/
theorem back_tx (n x y : Int) : tx ((4 - n.tmod 4) % 4).toNat (tx (n % 4).toNat x y) (ty (n % 4).toNat x y) = x ∧ ty ((4 - n.tmod 4) % 4).toNat (tx (n % 4).toNat x y) (ty (n % 4).toNat x y) = y := by
  have t := tmod4 n
  have e : (4 - n.tmod 4) % 4 = (4 - n % 4) % 4 := by split at t <;> omega
  rw [e]
  rcases mod4_cases n with h | h | h | h <;> rw [h] <;> simp [tx, ty]

theorem tmod_range (n : Int) : -3 ≤ n.tmod 4 ∧ n.tmod 4 ≤ 3 := by
  have t := tmod4 n
  split at t <;> omega

/-- Block b's first two cells hold the place x, y. -/
def CB (w : World) (b : Nat) (x y : Int) : Prop := w.cell? ⟨b, 0, none⟩ = some (.int .i64 x) ∧ w.cell? ⟨b, 1, none⟩ = some (.int .i64 y)
theorem CB.c0 {w : World} {b : Nat} {x y : Int} (h : CB w b x y) : w.cell? ⟨b, 0, none⟩ = some (.int .i64 x) := h.1
theorem CB.c1 {w : World} {b : Nat} {x y : Int} (h : CB w b x y) : w.cell? ⟨b, 1, none⟩ = some (.int .i64 y) := h.2
theorem CB.lt {w : World} {b : Nat} {x y : Int} (h : CB w b x y) : b < w.heap.size := World.block_lt_of_cell? w _ h.1
theorem CB.alloc {w : World} {b : Nat} {x y : Int} (h : CB w b x y) (o : Obj) : CB (w.alloc o) b x y := ⟨cell_alloc h.1, cell_alloc h.2⟩
theorem CB.below {w w' : World} {b : Nat} {x y : Int} (h : CB w b x y) (hb : Below w.heap.size w w') : CB w' b x y := ⟨cell_below hb h.1, cell_below hb h.2⟩
theorem CB.new (w : World) (x y : Int) : CB (w.alloc (.cells #[.int .i64 x, .int .i64 y] 25)) w.heap.size x y := ⟨cell_here rfl, cell_here rfl⟩
theorem CB.lay {W wx : World} {k : Nat} {x y : Int} (h : Lay W wx k x y) : CB wx k x y := ⟨h.c0, h.c1⟩

end Go.Proofs.Ytgcheplneolonad.Tp
