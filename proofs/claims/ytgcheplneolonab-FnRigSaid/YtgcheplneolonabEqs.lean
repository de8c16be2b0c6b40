/- The laws' helpers on lists of strings: equal lists are found equal; and a row of one's own stands while nothing old is touched. -/
import Derived.Test.YtgcheplneolonabMem
namespace Go.Proofs.Ytgcheplneolonab.Strs
open Go.RowKit Go.Proofs.Ytgcheplneolonab.Mem

theorem infoStr : (Try.prog.info? 9).map (fun i => (i.zero, i.size, i.bytes)) = some (some (.string ByteArray.empty), 1, 16) := by kernel_rfl
def strs (ss : List ByteArray) : List Value := ss.map Value.string
theorem strs_len (ss : List ByteArray) : (strs ss).length = ss.length := List.length_map ..
theorem strs_get {ss : List ByteArray} {k : Nat} {s : ByteArray} (h : ss[k]? = some s) : (strs ss)[k]? = some (.string s) := by
  unfold strs; rw [List.getElem?_map, h]; rfl

/-- Found equal: only draws were made. -/
def Same (b : Bool) (w : World) (e : Ending) (w' : World) : Prop := e = .returned (.bool b) ∧ ∃ m, w' = w.drewN m

/-- All lengths together. -/
def byteSum : List ByteArray → Nat
  | [] => 0
  | s :: ss => s.size + byteSum ss
theorem byteSum_append (a b : List ByteArray) : byteSum (a ++ b) = byteSum a + byteSum b := by
  induction a with
  | nil => simp [byteSum]
  | cons z a ih => simp only [List.cons_append, byteSum, ih]; omega
theorem byteSum_take {ss : List ByteArray} {k : Nat} {s : ByteArray} (h : ss[k]? = some s) : byteSum (ss.take (k + 1)) = byteSum (ss.take k) + s.size := by
  obtain ⟨hk, rfl⟩ := List.getElem?_eq_some_iff.1 h
  rw [List.take_succ_eq_append_getElem hk, byteSum_append]; simp [byteSum]
theorem byteSum_take_le (ss : List ByteArray) (k : Nat) : byteSum (ss.take k) ≤ byteSum ss := by
  have := byteSum_append (ss.take k) (ss.drop k)
  rw [List.take_append_drop] at this
  omega
theorem owns_below {w w' : World} {base : Nat} {e : TypeId} {size : Nat} {v : Value} {n : Nat} {xs : List Value} (h : w.ownsRow base e size v n xs) (hb : Below w.heap.size w w') : w'.ownsRow base e size v n xs := by
  refine ⟨h.1, h.2.imp id fun ⟨g, cap, cur, e1, e2, e3, e4⟩ => ⟨g, cap, cur, e1, e2, (hb.block g ?_).trans e3, e4⟩⟩
  exact (Array.getElem?_eq_some_iff.1 e3).1

end Go.Proofs.Ytgcheplneolonab.Strs
