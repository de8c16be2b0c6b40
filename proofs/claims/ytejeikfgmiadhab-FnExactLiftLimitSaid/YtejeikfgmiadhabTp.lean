/- What TurnPlace answers, and IsPlace, with nothing said of the memory but that old memory is as it was. -/
import Derived.Test.YtejeikfgmiadhabP2
set_option linter.unusedVariables false
set_option linter.unusedSimpArgs false
namespace Go.Proofs.Ytejeikfgmiadhab.Tp
open Go.RowKit Go.Proofs.Ytejeikfgmiadhab.Cm Go.Proofs.Ytejeikfgmiadhab.Pl Go.Proofs.Ytejeikfgmiadhab.Str Go.Proofs.Ytejeikfgmiadhab.Pw Go.Proofs.Ytejeikfgmiadhab.P2
set_option linter.unusedVariables false

theorem placeI {x y : Int} {b : Bool} (h : (ms x && ms y) = b) (w : World) : Calls Try.prog 39 #[.agg #[.int .i64 x, .int .i64 y]] w fun e w' => e = .returned (.bool b) ∧ Below w.heap.size w w' :=
  (isPlaceI_of h w).mono fun e w' k => ⟨k.1, by rw [k.2]; go_grown⟩
theorem placeS {x y : Int} {b : Bool} (h : (ms x && ms y) = b) (w : World) : Calls Try.prog 28 #[.agg #[.int .i64 x, .int .i64 y]] w fun e w' => e = .returned (.bool b) ∧ Below w.heap.size w w' :=
  (isPlaceS_of h w).mono fun e w' k => ⟨k.1, by rw [k.2]; go_grown⟩

/-- Turned back. -/
theorem back_tx (n x y : Int) : tx ((4 - n.tmod 4) % 4).toNat (tx (n % 4).toNat x y) (ty (n % 4).toNat x y) = x ∧ ty ((4 - n.tmod 4) % 4).toNat (tx (n % 4).toNat x y) (ty (n % 4).toNat x y) = y := by
  have t := tmod4 n
  have e : (4 - n.tmod 4) % 4 = (4 - n % 4) % 4 := by split at t <;> omega
  rw [e]
  rcases mod4_cases n with h | h | h | h <;> rw [h] <;> simp [tx, ty]

theorem tmod_range (n : Int) : -3 ≤ n.tmod 4 ∧ n.tmod 4 ≤ 3 := by
  have t := tmod4 n
  split at t <;> omega

/-- Block b's first two cells hold the place x, y. -/
def CB (w : World) (b : Nat) (x y : Int) : Prop := w.cell? ⟨b, 0, none⟩ = some (.int .i64 x) ∧ w.cell? ⟨b, 1, none⟩ = some (.int .i64 y)
theorem CB.c0 {w : World} {b : Nat} {x y : Int} (h : CB w b x y) : w.cell? ⟨b, 0, none⟩ = some (.int .i64 x) := h.1
theorem CB.c1 {w : World} {b : Nat} {x y : Int} (h : CB w b x y) : w.cell? ⟨b, 1, none⟩ = some (.int .i64 y) := h.2
theorem CB.lt {w : World} {b : Nat} {x y : Int} (h : CB w b x y) : b < w.heap.size := World.block_lt_of_cell? w _ h.1
theorem CB.alloc {w : World} {b : Nat} {x y : Int} (h : CB w b x y) (o : Obj) : CB (w.alloc o) b x y := ⟨cell_alloc h.1, cell_alloc h.2⟩
theorem CB.below {w w' : World} {b : Nat} {x y : Int} (h : CB w b x y) (hb : Below w.heap.size w w') : CB w' b x y := ⟨cell_below hb h.1, cell_below hb h.2⟩
theorem CB.new (w : World) (x y : Int) : CB (w.alloc (.cells #[.int .i64 x, .int .i64 y] 32)) w.heap.size x y := ⟨cell_here rfl, cell_here rfl⟩
theorem CB.lay {W wx : World} {k : Nat} {x y : Int} (h : Lay W wx k x y) : CB wx k x y := ⟨h.c0, h.c1⟩

end Go.Proofs.Ytejeikfgmiadhab.Tp
