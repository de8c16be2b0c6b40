/- The marks that the laws lay into a list of texts: what they are, that they are laid, and that they are found. -/
import Derived.Test.YtejeikfgmiadhabGreatM16
import Derived.Test.YtejeikfgmiadhabGreatEqs
import Derived.Deep.RegionHeld3
import Derived.Test.YtejeikfgmiadhabGreatM6
set_option linter.unusedVariables false
set_option linter.unusedSimpArgs false
namespace Go.Proofs.YtejeikfgmiadhabGreat.Mark
open Go.RowKit Go.Proofs.YtejeikfgmiadhabGreat.Mem Go.Proofs.YtejeikfgmiadhabGreat.Strs Go.Proofs.YtejeikfgmiadhabGreat.Fmt

/-- The digits that are still to be written. -/
def D (v : Nat) : List UInt8 := if v = 0 then [] else Lib.decDigits v
/-- The mark's text. -/
def M (v : Nat) : ByteArray := txt [109] ++ txt (D v)
/-- n marks from k on. -/
def marks (k n : Nat) : List ByteArray := (List.range n).map fun j => M (k + j)
/-- A list whose first j elements are marks, the others as they were. -/
def part (k j : Nat) (zs : List ByteArray) : List ByteArray := marks k j ++ zs.drop j
def Laid (w : World) (B base g n c k : Nat) (e : Ending) (w' : World) : Prop :=
  e = .returned (.int .i64 ((k : Int) + n)) ∧ w'.ownsRow base 9 1 (.slice (some ⟨g, 0, none⟩) n c) n (strs (marks k n)) ∧ Below B w w'

def Held (w : World) (n k : Nat) (e : Ending) (w' : World) : Prop := e = .returned (.int .i64 ((k : Int) + n)) ∧ Below w.heap.size w w'

end Go.Proofs.YtejeikfgmiadhabGreat.Mark
namespace Go.Proofs.YtejeikfgmiadhabGreat.Dmk
open Go.RowKit Go.ChangeShapes Go.WideShapes Go.WideElems Go.Deep Go.Proofs.YtejeikfgmiadhabGreat.Mem Go.Proofs.YtejeikfgmiadhabGreat.Rw Go.Proofs.YtejeikfgmiadhabGreat.Dd Go.Proofs.YtejeikfgmiadhabGreat.Dl
open Go.Proofs.YtejeikfgmiadhabGreat.Mark (M)
open Go.Proofs.YtejeikfgmiadhabGreat.Rw (owns_below)
open Go.Proofs.YtejeikfgmiadhabGreat.P2 (cell_below)
set_option linter.unusedVariables false
set_option linter.unusedSimpArgs false

/-- A device of marks from q on. -/
def mkq (q : Nat) : D := ⟨M q, (q : Int) + 1, M (q + 2), (q : Int) + 1 + 1 + 1, (q : Int) + 1 + 1 + 1 + 1, (q : Int) + 1 + 1 + 1 + 1 + 1, (q : Int) + 1 + 1 + 1 + 1 + 1 + 1, (q : Int) + 1 + 1 + 1 + 1 + 1 + 1 + 1⟩
/-- n devices of marks from k on. -/
def mkd (k n : Nat) : List D := (List.range n).map fun j => mkq (k + j * 8)
theorem mkd_len (k n : Nat) : (mkd k n).length = n := by simp [mkd]
theorem mkd_get {k n j : Nat} (h : j < n) : (mkd k n)[j]? = some (mkq (k + j * 8)) := by
  unfold mkd; rw [List.getElem?_map, List.getElem?_range h]; rfl

/-- The marks are laid; what lies in other blocks is as it was. -/
def Laid (w : World) (base g n c k : Nat) (e : Ending) (w' : World) : Prop :=
  e = .returned (.int .i64 ((k : Int) + ((n * 8 : Nat) : Int))) ∧ w'.ownsRow base 102 8 (.slice (some ⟨g, 0, none⟩) n c) n (dls (mkd k n)) ∧ w.grownBy w' (some g)
theorem below_grown {w w' : World} {r : Option Nat} (h : Below w.heap.size w w') : w.grownBy w' r := ⟨h.os, h.tape, h.output, h.size, fun j hj _ => h.block j hj⟩

end Go.Proofs.YtejeikfgmiadhabGreat.Dmk
