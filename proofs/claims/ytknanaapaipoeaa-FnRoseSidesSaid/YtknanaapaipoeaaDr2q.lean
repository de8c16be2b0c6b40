/- What the model's draws of places, turns and headings answer: some place, some number; the cursor alone is written. -/
import Derived.Test.YtknanaapaipoeaaPb
import Derived.Test.YtknanaapaipoeaaDraw
namespace Go.Proofs.Ytknanaapaipoeaa.Dr2
open Go.RowKit Go.Proofs.Ytknanaapaipoeaa.Mem Go.Proofs.Ytknanaapaipoeaa.Draw Go.Proofs.Ytknanaapaipoeaa.P2
set_option linter.unusedVariables false

def wf (x : Int) : Prop := (Lit.int .i64 x).wf = true

/-- Block b holds the place x, y. -/
def HB (w : World) (b : Nat) (x y : Int) : Prop := w.heap[b]? = some (.cells #[.int .i64 x, .int .i64 y] 28 (0, 0))

theorem HB.c0 {w : World} {b : Nat} {x y : Int} (h : HB w b x y) : w.cell? ⟨b, 0, none⟩ = some (.int .i64 x) := by simp [World.cell?, show w.heap[b]? = _ from h]
theorem HB.c1 {w : World} {b : Nat} {x y : Int} (h : HB w b x y) : w.cell? ⟨b, 1, none⟩ = some (.int .i64 y) := by simp [World.cell?, show w.heap[b]? = _ from h]
theorem HB.f0 {w : World} {b : Nat} {x y : Int} (h : HB w b x y) : w.frozen? ⟨b, 0, none⟩ = false := by simp [World.frozen?, show w.heap[b]? = _ from h]
theorem HB.f1 {w : World} {b : Nat} {x y : Int} (h : HB w b x y) : w.frozen? ⟨b, 1, none⟩ = false := by simp [World.frozen?, show w.heap[b]? = _ from h]
theorem HB.lt {w : World} {b : Nat} {x y : Int} (h : HB w b x y) : b < w.heap.size := (Array.getElem?_eq_some_iff.1 h).1
theorem HB.grown {w w' : World} {b : Nat} {x y : Int} {r : Option Nat} (h : HB w b x y) (k : w.grownBy w' r) (hr : some b ≠ r) : HB w' b x y := (k.block b h.lt hr).trans h
theorem HB.new (w : World) (x y : Int) : HB (w.alloc (.cells #[.int .i64 x, .int .i64 y] 28)) w.heap.size x y := heap_alloc_new w _
theorem HB.alloc {w : World} {b : Nat} {x y : Int} (h : HB w b x y) (o : Obj) : HB (w.alloc o) b x y := (Below.heap_alloc _ _ _ h.lt).trans h
theorem HB.set0 {w : World} {b : Nat} {x y : Int} (u : Int) (h : HB w b x y) : HB (w.setCell ⟨b, 0, none⟩ (.int .i64 u)) b u y := by
  obtain ⟨hlt, hk⟩ := Array.getElem?_eq_some_iff.1 h
  show (w.heap.modify b _)[b]? = _
  rw [Array.getElem?_eq_getElem (by rw [Array.size_modify]; exact hlt), Array.getElem_modify_self, hk]
  rfl
theorem HB.set1 {w : World} {b : Nat} {x y : Int} (u : Int) (h : HB w b x y) : HB (w.setCell ⟨b, 1, none⟩ (.int .i64 u)) b x u := by
  obtain ⟨hlt, hk⟩ := Array.getElem?_eq_some_iff.1 h
  show (w.heap.modify b _)[b]? = _
  rw [Array.getElem?_eq_getElem (by rw [Array.size_modify]; exact hlt), Array.getElem_modify_self, hk]
  rfl
theorem HB.other {w : World} {b b' : Nat} {x y : Int} (h : HB w b x y) (j : Nat) (v : Value) (hne : b ≠ b') : HB (w.setCell ⟨b', j, none⟩ v) b x y := (Below.heap_setCell _ _ _ _ hne).trans h

theorem cur_set {w : World} {g n c : Nat} {A : Option Addr} (h : Cur w g A n c) {b : Nat} (hne : g ≠ b) (j : Nat) (v : Value) : Cur (w.setCell ⟨b, j, none⟩ v) g A n c := h.kept (Below.heap_setCell _ _ _ _ hne)
theorem grown_set {w w' : World} {r : Option Nat} (h : w.grownBy w' r) {b : Nat} (hb : w.heap.size ≤ b) (j : Nat) (v : Value) : w.grownBy (w'.setCell ⟨b, j, none⟩ v) r :=
  ⟨h.os, h.tape, h.output, by simp [World.setCell]; exact h.size, fun k hk hr => (Below.heap_setCell _ _ _ _ (by show k ≠ b; omega)).trans (h.block k hk hr)⟩
theorem grown_alloc {w w' : World} {r : Option Nat} (h : w.grownBy w' r) (o : Obj) : w.grownBy (w'.alloc o) r := grown_trans h (World.grownBy_alloc w' o r)

theorem rd_set {w : World} {g b : Nat} {A : Option Addr} {xs : List Value} (h : Rd w g A xs) (hb : g < b) (j : Nat) (v : Value) : Rd (w.setCell ⟨b, j, none⟩ v) g A xs :=
  h.keep fun p hp => World.cell?_of_block (Below.heap_setCell _ _ _ _ (by show p.block ≠ b; omega))

set_option maxHeartbeats 1000000 in
theorem l2Turns {w : World} {g n c : Nat} {A : Option Addr} {bs : List UInt8} (h : Ready w g A n c bs) :
    Calls Try.prog 71 #[.pointer (some ⟨g, 0, none⟩)] w (Got wf w g A n c) := by
  have H1 := Lib.hid h
  clear h
  go_enter Try.func71, Try.ntmps71
  go_wp2_with fail
  refine (once H1.out 6 (by decide) (by decide)).mono ?_
  rintro e w1 ⟨q, rfl, k1, k2⟩
  have R1 := Lib.hid (H1.out.next k2 k1)
  have G1 := Lib.hid k2
  clear k1 k2 H1
  cases q
  · go_wp2_with fail
    refine (below R1.out 12 (by decide) (by decide)).mono ?_
    rintro e w2 ⟨y, ⟨y1, y2⟩, rfl, k1, k2⟩
    have G2 := Lib.hid (And.intro k1 (grown_trans G1.out k2))
    have Y := Lib.hid (show wf (y - 5) from wf_of_small (by omega) (by omega))
    have s : wrap64 (y - 5) = y - 5 := IntWalk.wrap64_in _ (by omega)
    clear k1 k2 y1 y2 R1 G1
    go_wp2_with fail
    go_returns
    refine ⟨_, Y.out, ?_, G2.out.1, G2.out.2⟩
    show Ending.returned (.int .i64 (wrap64 (y - 5))) = _
    rw [s]
  · go_wp2_with fail
    refine (odd R1.out).mono ?_
    rintro e w2 ⟨y, hy, rfl, k1, k2⟩
    have G2 := Lib.hid (And.intro k1 (grown_trans G1.out k2))
    have Y := Lib.hid hy
    clear k1 k2 hy R1 G1
    go_wp2_with fail
    go_returns
    exact ⟨_, Y.out, rfl, G2.out.1, G2.out.2⟩

end Go.Proofs.Ytknanaapaipoeaa.Dr2
