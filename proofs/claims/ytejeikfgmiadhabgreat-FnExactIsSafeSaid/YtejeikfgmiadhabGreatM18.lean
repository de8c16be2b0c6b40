/- The marks that the laws lay into a list of cues, and how they find them again. -/
import Derived.Test.YtejeikfgmiadhabGreatM7
import Derived.Test.YtejeikfgmiadhabGreatM17
import Derived.Test.YtejeikfgmiadhabGreatM16
set_option linter.unusedVariables false
set_option linter.unusedSimpArgs false
namespace Go.Proofs.YtejeikfgmiadhabGreat.Cmk
open Go.RowKit Go.ChangeShapes Go.WideShapes Go.WideElems Go.Deep Go.Proofs.YtejeikfgmiadhabGreat.Mem Go.Proofs.YtejeikfgmiadhabGreat.Rw Go.Proofs.YtejeikfgmiadhabGreat.Cd Go.Proofs.YtejeikfgmiadhabGreat.Cl
open Go.Proofs.YtejeikfgmiadhabGreat.Mark (M)
open Go.Proofs.YtejeikfgmiadhabGreat.Rw (owns_below)
open Go.Proofs.YtejeikfgmiadhabGreat.P2 (cell_below)
set_option linter.unusedVariables false
set_option linter.unusedSimpArgs false

/-- A cue of marks from q on. -/
def mkq (q : Nat) : C := ⟨(q : Int), M (q + 1), (q : Int) + 1 + 1, (q : Int) + 1 + 1 + 1⟩
/-- n cues of marks from k on. -/
def mkd (k n : Nat) : List C := (List.range n).map fun j => mkq (k + j * 4)
theorem mkd_len (k n : Nat) : (mkd k n).length = n := by simp [mkd]
theorem mkd_get {k n j : Nat} (h : j < n) : (mkd k n)[j]? = some (mkq (k + j * 4)) := by
  unfold mkd; rw [List.getElem?_map, List.getElem?_range h]; rfl

/-- The marks are laid; what lies in other blocks is as it was. -/
def Laid (w : World) (base g n c k : Nat) (e : Ending) (w' : World) : Prop :=
  e = .returned (.int .i64 ((k : Int) + ((n * 4 : Nat) : Int))) ∧ w'.ownsRow base 127 4 (.slice (some ⟨g, 0, none⟩) n c) n (dls (mkd k n)) ∧ w.grownBy w' (some g)
theorem below_grown {w w' : World} {r : Option Nat} (h : Below w.heap.size w w') : w.grownBy w' r := ⟨h.os, h.tape, h.output, h.size, fun j hj _ => h.block j hj⟩

end Go.Proofs.YtejeikfgmiadhabGreat.Cmk
namespace Go.Proofs.YtejeikfgmiadhabGreat.Mk9
open Go.RowKit Go.ChangeShapes Go.WideShapes Go.WideElems Go.Deep Go.Proofs.YtejeikfgmiadhabGreat.Mem Go.Proofs.YtejeikfgmiadhabGreat.Rw Go.Proofs.YtejeikfgmiadhabGreat.P2 Go.Proofs.YtejeikfgmiadhabGreat.Bk Go.Proofs.YtejeikfgmiadhabGreat.Sp Go.Proofs.YtejeikfgmiadhabGreat.Sq Go.Proofs.YtejeikfgmiadhabGreat.St9
set_option linter.unusedVariables false
set_option linter.unusedSimpArgs false

/-- Three rows were written into, one behind the other. -/
def G3 (w w' : World) (g0 g1 g2 : Nat) : Prop := ∃ a b, w.grownBy a (some g0) ∧ a.grownBy b (some g1) ∧ b.grownBy w' (some g2)
theorem ne_blk {g : Nat} {n c b : Nat} (hb : b ≠ g) : ∀ k, (Value.slice (some ⟨g, 0, none⟩) n c).ownBlock = some k → some b ≠ some k := by
  intro k hk e
  have hk : g = k := Option.some.inj hk
  have e := Option.some.inj e
  omega
theorem G3.own {w w' : World} {g0 g1 g2 : Nat} (h : G3 w w' g0 g1 g2) {base : Nat} {e : TypeId} {s g n c : Nat} {xs : List Value} (o : w.ownsRow base e s (.slice (some ⟨g, 0, none⟩) n c) n xs) (h0 : g0 ≠ g) (h1 : g1 ≠ g) (h2 : g2 ≠ g) :
    w'.ownsRow base e s (.slice (some ⟨g, 0, none⟩) n c) n xs :=
  let ⟨_, _, a, b, c⟩ := h; owns_grown (owns_grown (owns_grown o a (ne_blk h0)) b (ne_blk h1)) c (ne_blk h2)
theorem G3.below {w0 w w' : World} {g0 g1 g2 : Nat} (h : G3 w w' g0 g1 g2) (b : Below w0.heap.size w0 w) (h0 : w0.heap.size ≤ g0) (h1 : w0.heap.size ≤ g1) (h2 : w0.heap.size ≤ g2) : Below w0.heap.size w0 w' := by
  obtain ⟨_, _, x, y, z⟩ := h
  have b1 := b.grown x b.size (fun k e => by have e := Option.some.inj e; omega)
  have b2 := b1.grown y b1.size (fun k e => by have e := Option.some.inj e; omega)
  exact b2.grown z b2.size (fun k e => by have e := Option.some.inj e; omega)
theorem below_grown {w w' : World} {r : Option Nat} (h : Below w.heap.size w w') : w.grownBy w' r := ⟨h.os, h.tape, h.output, h.size, fun j hj _ => h.block j hj⟩

theorem ret_int {a b : Int} (h : a = b) : Ending.returned (.int .i64 a) = .returned (.int .i64 b) := by rw [h]

end Go.Proofs.YtejeikfgmiadhabGreat.Mk9
namespace Go.Proofs.YtejeikfgmiadhabGreat.Mn9
open Go.RowKit Go.ChangeShapes Go.WideShapes Go.WideElems Go.Deep Go.Proofs.YtejeikfgmiadhabGreat.Mem Go.Proofs.YtejeikfgmiadhabGreat.Rw Go.Proofs.YtejeikfgmiadhabGreat.P2 Go.Proofs.YtejeikfgmiadhabGreat.Bk Go.Proofs.YtejeikfgmiadhabGreat.Sp Go.Proofs.YtejeikfgmiadhabGreat.Sq Go.Proofs.YtejeikfgmiadhabGreat.St9
set_option linter.unusedVariables false
set_option linter.unusedSimpArgs false
end Go.Proofs.YtejeikfgmiadhabGreat.Mn9
