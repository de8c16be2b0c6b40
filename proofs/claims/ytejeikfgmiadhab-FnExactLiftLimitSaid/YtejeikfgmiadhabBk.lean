/- A block of cells of the call's own: what it holds, and that it stays so. -/
import Derived.Test.YtejeikfgmiadhabPb
import Derived.Test.YtejeikfgmiadhabRw
set_option linter.unusedVariables false
set_option linter.unusedSimpArgs false
namespace Go.Proofs.Ytejeikfgmiadhab.Bk
open Go.RowKit Go.Proofs.Ytejeikfgmiadhab.Mem Go.Proofs.Ytejeikfgmiadhab.P2
set_option linter.unusedVariables false

/-- Block b holds these cells. -/
def Bk (w : World) (b : Nat) (c : Array Value) (T : TypeId) : Prop := w.heap[b]? = some (.cells c T (0, 0))
section
variable {w w' : World} {b b' i : Nat} {c : Array Value} {T : TypeId} {v : Value}
theorem Bk.cell (k : Bk w b c T) (h : c[i]? = some v) : w.cell? ⟨b, i, none⟩ = some v := by simp [World.cell?, show w.heap[b]? = _ from k, h]
theorem Bk.frozen (k : Bk w b c T) (i : Nat) : w.frozen? ⟨b, i, none⟩ = false := by simp [World.frozen?, show w.heap[b]? = _ from k]
theorem Bk.lt (k : Bk w b c T) : b < w.heap.size := (Array.getElem?_eq_some_iff.1 k).1
theorem Bk.drew (k : Bk w b c T) : Bk w.drew b c T := k
theorem Bk.drewN (k : Bk w b c T) : ∀ n, Bk (w.drewN n) b c T
  | 0 => k
  | n + 1 => Bk.drewN k n
theorem Bk.new (w : World) (c : Array Value) (T : TypeId) : Bk (w.alloc (.cells c T)) w.heap.size c T := heap_alloc_new w _
theorem Bk.below (k : Bk w b c T) (hb : Below w.heap.size w w') : Bk w' b c T := (hb.block b k.lt).trans k
theorem Bk.alloc {o : Obj} (k : Bk w b c T) : Bk (w.alloc o) b c T := k.below ((Below.refl _ _).alloc (Nat.le_refl _) _)
theorem Bk.grown {r : Option Nat} (k : Bk w b c T) (g : w.grownBy w' r) (hr : r ≠ some b) : Bk w' b c T := (g.block b k.lt (fun e => hr e.symm)).trans k
theorem Bk.set (k : Bk w b c T) : Bk (w.setCell ⟨b, i, none⟩ v) b (c.setIfInBounds i v) T := by
  obtain ⟨hlt, hk⟩ := Array.getElem?_eq_some_iff.1 k
  show (w.heap.modify b _)[b]? = _
  rw [Array.getElem?_eq_getElem (by rw [Array.size_modify]; exact hlt), Array.getElem_modify_self, hk]
  rfl
theorem Bk.far (e : b' ≠ b) (k : Bk w b c T) : Bk (w.setCell ⟨b', i, none⟩ v) b c T := by
  show (w.heap.modify b' _)[b]? = _
  rw [Array.getElem?_modify, if_neg e]; exact k
end

theorem Bk.setG (w : World) (b i : Nat) (v : Value) : w.grownBy (w.setCell ⟨b, i, none⟩ v) (some b) :=
  ⟨rfl, rfl, rfl, by simp [World.setCell], fun k _ hr => Below.heap_setCell _ _ _ _ (by show k ≠ b; exact fun e => hr (by rw [e]))⟩
theorem rd_drew {w : World} {B : Nat} {A : Option Addr} {xs : List Value} (h : Rd w B A xs) : Rd w.drew B A xs := h
theorem rd_alloc {w : World} {B : Nat} {A : Option Addr} {xs : List Value} {o : Obj} (h : Rd w B A xs) (hB : B ≤ w.heap.size) : Rd (w.alloc o) B A xs := h.below ((Below.refl _ _).alloc hB _)
/-- A call's own memory, left to the caller. -/
theorem below_in {w a b : World} (h : Below w.heap.size w a) (k : Below a.heap.size a b) : Below w.heap.size w b := h.trans (k.mono h.size)

/-- A row of one's own is no block of another type. -/
theorem own_ne {w : World} {base g n c : Nat} {e T : TypeId} {s : Nat} {xs : List Value} {b : Nat} {cs : Array Value} (h : w.ownsRow base e s (.slice (some ⟨g, 0, none⟩) n c) n xs) (k : Bk w b cs T) (hT : e ≠ T) : (Value.slice (some ⟨g, 0, none⟩) n c).ownBlock ≠ some b := by
  intro hb
  have hb : g = b := by injection hb
  subst hb
  rcases h.2 with ⟨e1, _⟩ | ⟨g', cap, cur, e1, _, e3, _⟩
  · cases e1
  · injection e1 with e1; injection e1 with e1; injection e1 with e1
    subst e1
    rw [show w.heap[g]? = some (.cells cs T (0, 0)) from k] at e3
    injection e3 with e3
    injection e3 with _ e3
    exact hT e3.symm
theorem own_slice {w : World} {base n : Nat} {e : TypeId} {s : Nat} {v : Value} {xs : List Value} (h : w.ownsRow base e s v (n + 1) xs) : ∃ g c, v = .slice (some ⟨g, 0, none⟩) (n + 1) c := by
  rcases h.2 with ⟨_, e⟩ | ⟨g, cap, cur, e, _⟩
  · omega
  · exact ⟨g, cap, e⟩

end Go.Proofs.Ytejeikfgmiadhab.Bk
