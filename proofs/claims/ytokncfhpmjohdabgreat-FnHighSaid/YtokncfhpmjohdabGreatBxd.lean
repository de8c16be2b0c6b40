/- A block that holds a device. -/
import Derived.Test.YtokncfhpmjohdabGreatM6
import Derived.Test.YtokncfhpmjohdabGreatM7
set_option linter.unusedVariables false
set_option linter.unusedSimpArgs false
namespace Go.Proofs.YtokncfhpmjohdabGreat.Bxd
open Go.RowKit Go.ChangeShapes Go.WideShapes Go.WideElems Go.Deep Go.Proofs.YtokncfhpmjohdabGreat.Mem Go.Proofs.YtokncfhpmjohdabGreat.Rw Go.Proofs.YtokncfhpmjohdabGreat.Pw Go.Proofs.YtokncfhpmjohdabGreat.P2 Go.Proofs.YtokncfhpmjohdabGreat.Dd Go.Proofs.YtokncfhpmjohdabGreat.Dv Go.Proofs.YtokncfhpmjohdabGreat.Dl Go.Proofs.YtokncfhpmjohdabGreat.Ds
set_option linter.unusedVariables false
set_option linter.unusedSimpArgs false

/-- Block b holds this device. -/
def Bx (w : World) (b : Nat) (d : D) : Prop := w.heap[b]? = some (.cells (ca d.nm d.kd d.ln d.x d.y d.hd d.tl d.ms) 36 (0, 0))
theorem Bx.new (w : World) (n : ByteArray) (q : Int) (l : ByteArray) (x y h t m : Int) : Bx (w.alloc (.cells (ca n q l x y h t m) 36)) w.heap.size ⟨n, q, l, x, y, h, t, m⟩ := heap_alloc_new w _
theorem Bx.lt {w : World} {b : Nat} {d : D} (h : Bx w b d) : b < w.heap.size := (Array.getElem?_eq_some_iff.1 h).1
theorem Bx.alloc {w : World} {b : Nat} {d : D} (h : Bx w b d) (o : Obj) : Bx (w.alloc o) b d := (Below.heap_alloc _ _ _ h.lt).trans h
theorem Bx.below {w w' : World} {b B : Nat} {d : D} (h : Bx w b d) (k : Below B w w') (hb : b < B) : Bx w' b d := (k.block b hb).trans h
theorem Bx.grown {w w' : World} {b : Nat} {d : D} {r : Option Nat} (h : Bx w b d) (k : w.grownBy w' r) (hr : some b ≠ r) : Bx w' b d := (k.block b h.lt hr).trans h
theorem Bx.other {w : World} {b b' : Nat} {d : D} (h : Bx w b d) (j : Nat) (v : Value) (hne : b ≠ b') : Bx (w.setCell ⟨b', j, none⟩ v) b d := (Below.heap_setCell _ _ _ _ hne).trans h
theorem Bx.c {w : World} {b : Nat} {n : ByteArray} {q : Int} {l : ByteArray} {x y h t m : Int} (hh : Bx w b ⟨n, q, l, x, y, h, t, m⟩) :
    w.cell? ⟨b, 0, none⟩ = some (.string n) ∧ w.cell? ⟨b, 1, none⟩ = some (.int .i64 q) ∧ w.cell? ⟨b, 2, none⟩ = some (.string l) ∧ w.cell? ⟨b, 3, none⟩ = some (.int .i64 x) ∧ w.cell? ⟨b, 4, none⟩ = some (.int .i64 y) ∧ w.cell? ⟨b, 5, none⟩ = some (.int .i64 h) ∧ w.cell? ⟨b, 6, none⟩ = some (.int .i64 t) ∧ w.cell? ⟨b, 7, none⟩ = some (.int .i64 m) := by
  have e : w.heap[b]? = some (.cells (ca n q l x y h t m) 36 (0, 0)) := hh
  refine ⟨?_, ?_, ?_, ?_, ?_, ?_, ?_, ?_⟩ <;> simp [World.cell?, e]
theorem Bx.f {w : World} {b : Nat} {d : D} (hh : Bx w b d) (j : Nat) : w.frozen? ⟨b, j, none⟩ = false := by
  have e : w.heap[b]? = some (.cells (ca d.nm d.kd d.ln d.x d.y d.hd d.tl d.ms) 36 (0, 0)) := hh
  simp [World.frozen?, e]

end Go.Proofs.YtokncfhpmjohdabGreat.Bxd
