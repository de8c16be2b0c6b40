/- Blocks that are jets. -/
import Derived.Test.YtgcheplneolonadFr
namespace Go.Proofs.Ytgcheplneolonad.Dr4
open Go.RowKit Go.Proofs.Ytgcheplneolonad.Cm Go.Proofs.Ytgcheplneolonad.Pl Go.Proofs.Ytgcheplneolonad.Str Go.Proofs.Ytgcheplneolonad.Pw Go.Proofs.Ytgcheplneolonad.P2 Go.Proofs.Ytgcheplneolonad.Hd Go.Proofs.Ytgcheplneolonad.Jt Go.Proofs.Ytgcheplneolonad.Dp
set_option linter.unusedVariables false
set_option linter.unusedSimpArgs false

/-- Block b is a jet of the call's own. -/
def JB (w : World) (b : Nat) (x y h t l : Int) : Prop := w.heap[b]? = some (.cells (jc x y h t l) 27 (0, 0))
section
variable {w w' : World} {b b' : Nat} {x y h t l u : Int}
theorem JB.c (k : JB w b x y h t l) : J5 w b x y h t l := by
  have e : w.heap[b]? = _ := k
  refine ⟨?_, ?_, ?_, ?_, ?_⟩ <;> simp [World.cell?, e]
theorem JB.f (k : JB w b x y h t l) (i : Nat) (hi : i < 5 := by omega) : w.frozen? ⟨b, i, none⟩ = false := by simp [World.frozen?, show w.heap[b]? = _ from k]
theorem JB.lt (k : JB w b x y h t l) : b < w.heap.size := (Array.getElem?_eq_some_iff.1 k).1
theorem JB.new (w : World) (x y h t l : Int) : JB (w.alloc (.cells (jc x y h t l) 27)) w.heap.size x y h t l := heap_alloc_new w _
theorem JB.alloc (k : JB w b x y h t l) (o : Obj) : JB (w.alloc o) b x y h t l := (Below.heap_alloc _ _ _ k.lt).trans k
theorem JB.below (k : JB w b x y h t l) (hb : Below w.heap.size w w') : JB w' b x y h t l := (hb.block b k.lt).trans k
theorem JB.drew (k : JB w b x y h t l) : JB w.drew b x y h t l := k
theorem JB.grown {r : Option Nat} (k : JB w b x y h t l) (g : w.grownBy w' r) (hr : some b ≠ r) : JB w' b x y h t l := (g.block b k.lt hr).trans k
theorem JB.other (k : JB w b x y h t l) (j : Nat) (v : Value) (hne : b ≠ b') : JB (w.setCell ⟨b', j, none⟩ v) b x y h t l := (Below.heap_setCell _ _ _ _ hne).trans k
theorem JB.set0 (u : Int) (k : JB w b x y h t l) : JB (w.setCell ⟨b, 0, none⟩ (.int .i64 u)) b u y h t l := by
  obtain ⟨hlt, hk⟩ := Array.getElem?_eq_some_iff.1 k
  show (w.heap.modify b _)[b]? = _
  rw [Array.getElem?_eq_getElem (by rw [Array.size_modify]; exact hlt), Array.getElem_modify_self, hk]
  rfl
theorem JB.set1 (u : Int) (k : JB w b x y h t l) : JB (w.setCell ⟨b, 1, none⟩ (.int .i64 u)) b x u h t l := by
  obtain ⟨hlt, hk⟩ := Array.getElem?_eq_some_iff.1 k
  show (w.heap.modify b _)[b]? = _
  rw [Array.getElem?_eq_getElem (by rw [Array.size_modify]; exact hlt), Array.getElem_modify_self, hk]
  rfl
theorem JB.set2 (u : Int) (k : JB w b x y h t l) : JB (w.setCell ⟨b, 2, none⟩ (.int .i64 u)) b x y u t l := by
  obtain ⟨hlt, hk⟩ := Array.getElem?_eq_some_iff.1 k
  show (w.heap.modify b _)[b]? = _
  rw [Array.getElem?_eq_getElem (by rw [Array.size_modify]; exact hlt), Array.getElem_modify_self, hk]
  rfl
theorem JB.set3 (u : Int) (k : JB w b x y h t l) : JB (w.setCell ⟨b, 3, none⟩ (.int .i64 u)) b x y h u l := by
  obtain ⟨hlt, hk⟩ := Array.getElem?_eq_some_iff.1 k
  show (w.heap.modify b _)[b]? = _
  rw [Array.getElem?_eq_getElem (by rw [Array.size_modify]; exact hlt), Array.getElem_modify_self, hk]
  rfl
theorem JB.set4 (u : Int) (k : JB w b x y h t l) : JB (w.setCell ⟨b, 4, none⟩ (.int .i64 u)) b x y h t u := by
  obtain ⟨hlt, hk⟩ := Array.getElem?_eq_some_iff.1 k
  show (w.heap.modify b _)[b]? = _
  rw [Array.getElem?_eq_getElem (by rw [Array.size_modify]; exact hlt), Array.getElem_modify_self, hk]
  rfl
theorem JB.set (k : JB w b x y h t l) (x' y' h' t' l' : Int) : JB (((((w.setCell ⟨b, 0, none⟩ (.int .i64 x')).setCell ⟨b, 1, none⟩ (.int .i64 y')).setCell ⟨b, 2, none⟩ (.int .i64 h')).setCell ⟨b, 3, none⟩ (.int .i64 t')).setCell ⟨b, 4, none⟩ (.int .i64 l')) b x' y' h' t' l' :=
  ((((k.set0 x').set1 y').set2 h').set3 t').set4 l'
end

end Go.Proofs.Ytgcheplneolonad.Dr4
