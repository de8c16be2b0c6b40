/- Words for worlds behind calls, and sums of places. -/
import Derived.Test.YtejeikfgmiadhabPw
set_option linter.unusedVariables false
set_option linter.unusedSimpArgs false
namespace Go.Proofs.Ytejeikfgmiadhab.P2
open Go.RowKit Go.Proofs.Ytejeikfgmiadhab.Cm Go.Proofs.Ytejeikfgmiadhab.Pl Go.Proofs.Ytejeikfgmiadhab.Str Go.Proofs.Ytejeikfgmiadhab.Pw
set_option linter.unusedVariables false

theorem cell_below {W w' : World} {p : Addr} {v : Value} (hb : Below W.heap.size W w') (h : W.cell? p = some v) : w'.cell? p = some v := (hb.cell (World.block_lt_of_cell? W p h)).trans h

theorem cell_alloc {W : World} {p : Addr} {v : Value} {o : Obj} (h : W.cell? p = some v) : (W.alloc o).cell? p = some v := by
  rw [World.cell?_alloc_lt _ _ _ (World.block_lt_of_cell? W p h)]; exact h

theorem set2_0 {W : World} {b : Nat} {P Q : Value} (h0 : (W.cell? ⟨b, 0, none⟩).isSome = true) : ((W.setCell ⟨b, 0, none⟩ P).setCell ⟨b, 1, none⟩ Q).cell? ⟨b, 0, none⟩ = some P := by
  rw [World.cell?_setCell_other _ _ _ _ (by simp)]
  exact World.cell?_setCell_same' _ _ _ h0
theorem set2_1 {W : World} {b : Nat} {P Q : Value} (h1 : (W.cell? ⟨b, 1, none⟩).isSome = true) : ((W.setCell ⟨b, 0, none⟩ P).setCell ⟨b, 1, none⟩ Q).cell? ⟨b, 1, none⟩ = some Q := by
  refine World.cell?_setCell_same' _ _ _ ?_
  rw [World.cell?_setCell_other _ _ _ _ (by simp)]
  exact h1
theorem cell_here {W : World} {c : Array Value} {t : TypeId} {i : Nat} {v : Value} (h : c[i]? = some v) : (W.alloc (.cells c t)).cell? ⟨W.heap.size, i, none⟩ = some v := by
  rw [World.cell?_alloc_at _ _ _ _ rfl]; exact h

theorem l2Add (x y a b : Int) (h1 : wrap64 (x + a) = x + a) (h2 : wrap64 (y + b) = y + b) (w : World) :
    Calls Try.prog 32 #[.agg #[.int .i64 x, .int .i64 y], .agg #[.int .i64 a, .int .i64 b]] w fun e w' => e = .returned (.agg #[.int .i64 (x + a), .int .i64 (y + b)]) ∧ w' = ((w.alloc (.cells #[.int .i64 x, .int .i64 y] 32)).alloc (.cells #[.int .i64 a, .int .i64 b] 32)).alloc (.cells #[.int .i64 (x + a), .int .i64 (y + b)] 32) := by
  go_enter Try.func32, Try.ntmps32
  go_wp2
  go_returns
  exact ⟨rfl, rfl⟩

/-- A place and whether it is one. -/
abbrev told2 (b : Bool) (x y : Int) : Value := .tuple #[.agg #[.int .i64 (if b then x else 0), .int .i64 (if b then y else 0)], .bool b]

/-- impl.toldPlace in one word. -/
theorem toldOf {a b : Int} {c : Bool} {re im : Nat} (ha : a.natAbs < 16777216) (hb : b.natAbs < 16777216) (hn : (ms a && ms b) = c) (h1 : I32 a re) (h2 : I32 b im) (w : World) :
    Calls Try.prog 76 #[.complex .f32 re im] w fun e w' => e = .returned (told2 c a b) ∧ w' = w.alloc (.cells #[.int .i64 (if c then a else 0), .int .i64 (if c then b else 0)] 32) := by
  have h := toldPlace ha hb h1 h2 w
  rw [hn] at h
  exact h

/-- A world behind a call of which only 'Below' is known, as rules. -/
theorem open_below {W w' : World} (hb : Below W.heap.size W w') : (∀ p : Addr, p.block < W.heap.size → w'.cell? p = W.cell? p) ∧ (∀ p : Addr, p.block < W.heap.size → w'.frozen? p = W.frozen? p) ∧
    (∀ b, b < W.heap.size → b < w'.heap.size) ∧ (∀ b j, b < W.heap.size → b < w'.heap.size + j) ∧ (∀ b, b < W.heap.size → (b = w'.heap.size) = False) ∧ (∀ b j, b < W.heap.size → (b = w'.heap.size + j) = False) ∧ (∀ b, b < W.heap.size → (w'.heap.size = b) = False) ∧ (∀ b j, b < W.heap.size → (w'.heap.size + j = b) = False) := by
  have hs := hb.size
  refine ⟨fun p h => hb.cell h, fun p h => hb.frozen h, ?_, ?_, ?_, ?_, ?_, ?_⟩
  · intros; omega
  · intros; omega
  all_goals intros
  all_goals apply eq_false
  all_goals omega

/-- A place lies in a block of its own, behind all of W's memory; W's memory is as it was. -/
structure Lay (W wx : World) (k : Nat) (X Y : Int) : Prop where
  below : Below W.heap.size W wx
  old : W.heap.size ≤ k
  new : k < wx.heap.size
  c0 : wx.cell? ⟨k, 0, none⟩ = some (.int .i64 X)
  c1 : wx.cell? ⟨k, 1, none⟩ = some (.int .i64 Y)


end Go.Proofs.Ytejeikfgmiadhab.P2
