/- The program's lines: a map from names to channels, that a call itself has made. -/
import Derived.Test.YtgcheplneolonabDd
import Derived.Maps.OwnOps
import Derived.Conc.SmallLaws
namespace Go.Proofs.Ytgcheplneolonab.Ch
open Go.RowKit
set_option linter.unusedVariables false
set_option linter.unusedSimpArgs false

/-- Which channel a line has. -/
def lk : List (ByteArray × Nat) → ByteArray → Option Nat
  | [], _ => none
  | (k, c) :: r, s => if k = s then some c else lk r s
/-- The entries of a map of lines. -/
def enF : List (ByteArray × Nat) → Nat → List MapEntry
  | [], _ => []
  | (k, c) :: r, i => { key := .string k, val := .chan (some c), born := i } :: enF r (i + 1)
theorem enF_snoc (k : ByteArray) (c : Nat) : ∀ (M : List (ByteArray × Nat)) (i : Nat), enF (M ++ [(k, c)]) i = enF M i ++ [{ key := .string k, val := .chan (some c), born := i + M.length }]
  | [], i => rfl
  | (k', c') :: r, i => by
    have := enF_snoc k c r (i + 1)
    simp only [List.cons_append, enF, this, List.length_cons]
    rw [show i + 1 + r.length = i + (r.length + 1) by omega]
theorem beq_no {a b : ByteArray} (h : ¬ a = b) : (a == b) = false := by
  obtain ⟨⟨x⟩⟩ := a
  obtain ⟨⟨y⟩⟩ := b
  show ((⟨x⟩ : Array UInt8) == ⟨y⟩) = false
  simp
  intro e
  exact h (by rw [e])
theorem beq_yes (a : ByteArray) : (a == a) = true := by
  obtain ⟨⟨x⟩⟩ := a
  show ((⟨x⟩ : Array UInt8) == ⟨x⟩) = true
  simp
theorem find_none {s : ByteArray} : ∀ {M : List (ByteArray × Nat)} {i j : Nat}, lk M s = none → Instr.findNow .string (.string s) (enF M i) j = some none
  | [], _, _, _ => rfl
  | (k, c) :: r, i, j, h => by
    unfold lk at h
    by_cases e : k = s
    · rw [if_pos e] at h; cases h
    · rw [if_neg e] at h
      have := find_none (i := i + 1) (j := j + 1) h
      have e' : ¬ s = k := fun c => e c.symm
      simp [enF, Instr.findNow, Instr.sameNow, beq_no e', this]
theorem find_some {s : ByteArray} {c : Nat} : ∀ {M : List (ByteArray × Nat)} {i j : Nat}, lk M s = some c → ∃ q, Instr.findNow .string (.string s) (enF M i) j = some (some (q, .chan (some c)))
  | [], _, _, h => by cases h
  | (k, c') :: r, i, j, h => by
    unfold lk at h
    by_cases e : k = s
    · rw [if_pos e] at h; cases h
      subst e
      exact ⟨j, by simp [enF, Instr.findNow, Instr.sameNow, beq_yes]⟩
    · rw [if_neg e] at h
      obtain ⟨q, hq⟩ := find_some (i := i + 1) (j := j + 1) h
      have e' : ¬ s = k := fun c => e c.symm
      exact ⟨q, by simp [enF, Instr.findNow, Instr.sameNow, beq_no e', hq]⟩
theorem lk_snoc {k : ByteArray} {c : Nat} {s : ByteArray} : ∀ {M : List (ByteArray × Nat)}, lk (M ++ [(k, c)]) s = match lk M s with | some v => some v | none => if k = s then some c else none
  | [] => by simp [lk]
  | (k', c') :: r => by
    simp only [List.cons_append, lk]
    by_cases e : k' = s
    · simp [e]
    · simp only [if_neg e]; exact lk_snoc

/-- Block b is the map of these lines. -/
def Ls (w : World) (b : Nat) (M : List (ByteArray × Nat)) : Prop := w.heap[b]? = some (.map ⟨enF M 0⟩ M.length)
theorem Ls.lt {w : World} {b : Nat} {M : List (ByteArray × Nat)} (h : Ls w b M) : b < w.heap.size := (Array.getElem?_eq_some_iff.1 h).1
theorem Ls.made (w : World) : Ls (w.alloc (.map #[] 0)) w.heap.size [] := (MapKept.heap_alloc w _).1
theorem Ls.alloc {w : World} {b : Nat} {M : List (ByteArray × Nat)} (h : Ls w b M) (o : Obj) : Ls (w.alloc o) b M := ((MapKept.heap_alloc w o).2 b h.lt).trans h
theorem Ls.drew {w : World} {b : Nat} {M : List (ByteArray × Nat)} (h : Ls w b M) : Ls w.drew b M := h
theorem Ls.below {w w' : World} {b B : Nat} {M : List (ByteArray × Nat)} (h : Ls w b M) (hb : Below B w w') (hB : b < B) : Ls w' b M := (hb.block b hB).trans h
theorem Ls.set {w : World} {b : Nat} {M : List (ByteArray × Nat)} (h : Ls w b M) {a : Addr} (ha : a.block ≠ b) (v : Value) : Ls (w.setCell a v) b M := (RowKit.Below.heap_setCell w a v b (fun e => ha e.symm)).trans h
theorem Ls.grown {w w' : World} {b : Nat} {M : List (ByteArray × Nat)} {r : Option Nat} (h : Ls w b M) (hg : w.grownBy w' r) (hr : some b ≠ r) : Ls w' b M := (hg.block b h.lt hr).trans h

theorem run_look {w : World} {b : Nat} {M : List (ByteArray × Nat)} (h : Ls w b M) (s : ByteArray) : (Instr.lookup 60 (.map (some b)) (.string s) false).run Try.prog w = .ok (.chan (lk M s)) w := by
  have hz : ∀ w, (zeroValue 68).run Try.prog w = .ok (.chan none) w := fun w => by kernel_rfl
  cases hl : lk M s with
  | none =>
    have hf := find_none (i := 0) (j := 0) hl
    simp [Instr.lookup, run_underlying Try.underlying60, MapKept.run_getObj_map h, MapKept.run_checkKey Try.underlying9 (k := .string s) trivial, MapKept.run_findKey Try.underlying9 hf, hz, Result.andThen]
  | some c =>
    obtain ⟨q, hf⟩ := find_some (i := 0) (j := 0) hl
    simp [Instr.lookup, run_underlying Try.underlying60, MapKept.run_getObj_map h, MapKept.run_checkKey Try.underlying9 (k := .string s) trivial, MapKept.run_findKey Try.underlying9 hf, Result.andThen]

theorem run_put {w : World} {b : Nat} {M : List (ByteArray × Nat)} (h : Ls w b M) {s : ByteArray} (hn : lk M s = none) (c : Nat) :
    ∃ w', (Instr.mapUpdate 60 (.map (some b)) (.string s) (.chan (some c))).run Try.prog w = .ok () w' ∧ Ls w' b (M ++ [(s, c)]) ∧ w.grownBy w' (some b) := by
  have hf := find_none (i := 0) (j := 0) hn
  have hs := MapKept.heap_set (o' := .map ⟨enF (M ++ [(s, c)]) 0⟩ (M ++ [(s, c)]).length) h
  refine ⟨{ w with heap := w.heap.setIfInBounds b (.map ⟨enF (M ++ [(s, c)]) 0⟩ (M ++ [(s, c)]).length) }, ?_, hs.1, ⟨rfl, rfl, rfl, by simp, fun j hj hr => hs.2 j (fun e => hr (by rw [e]))⟩⟩
  have ep : (⟨enF M 0⟩ : Array MapEntry).push { key := .string s, val := .chan (some c), born := M.length } = ⟨enF (M ++ [(s, c)]) 0⟩ := by
    rw [enF_snoc]; simp
  simp [Instr.mapUpdate, run_underlying Try.underlying60, MapKept.run_getObj_map h, MapKept.run_checkKey Try.underlying9 (k := .string s) trivial, MapKept.run_findKey Try.underlying9 hf, MapKept.run_setObj_map _ h, Result.andThen, ep]

theorem run_mkChan (w : World) : (Instr.makeChan 68 (.int .i64 0)).run Try.prog w = .ok (.chan (some w.heap.size)) (w.alloc (.chan 0 #[] false 0 0 false)) := by
  kernel_rfl
theorem run_chanNil (w : World) : (binOp .eql 68 (.chan none) (.chan none)).run Try.prog w = .ok (.bool true) w := by kernel_rfl
theorem run_chanSome (c : Nat) (w : World) : (binOp .eql 68 (.chan (some c)) (.chan none)).run Try.prog w = .ok (.bool false) w := by kernel_rfl

/-- 'made[name]' at the operation. -/
theorem wpList_look (w : World) {ops : Array Oper} {rest : List Oper} {o : Oper} {a : Act} {Q : Exit → Act → World → Prop}
    (hg : o.guard = none) (m x : Operand) (hop : o.op = Op.lookup 60 m x false) (b : Nat) (M : List (ByteArray × Nat)) (hm : a.eval m = .map (some b)) (hL : Ls w b M) (s : ByteArray) (hx : a.eval x = .string s)
    (hK : wpList Try.prog ops Q rest (a.put o.dst (.chan (lk M s))) w) : wpList Try.prog ops Q (o :: rest) a w := by
  refine wpList_plain hg fun K' hK' => ?_
  unfold Oper.wp
  simp [execOp, hop, hm, hx, run_look hL, Result.andThen]
  exact hK' _ _ hK
/-- 'made[name] = channel' at the operation. -/
theorem wpList_put (w : World) {ops : Array Oper} {rest : List Oper} {o : Oper} {a : Act} {Q : Exit → Act → World → Prop}
    (hg : o.guard = none) (m x v : Operand) (hop : o.op = Op.mapUpdate 60 m x v) (b : Nat) (M : List (ByteArray × Nat)) (hm : a.eval m = .map (some b)) (hL : Ls w b M) (s : ByteArray) (hx : a.eval x = .string s) (hn : lk M s = none) (c : Nat) (hv : a.eval v = .chan (some c))
    (hK : ∀ w', Ls w' b (M ++ [(s, c)]) → w.grownBy w' (some b) → wpList Try.prog ops Q rest (a.put o.dst undef) w') : wpList Try.prog ops Q (o :: rest) a w := by
  refine wpList_plain hg fun K' hK' => ?_
  obtain ⟨w', hrun, r1, r2⟩ := run_put hL hn c
  unfold Oper.wp
  simp [execOp, hop, hm, hx, hv, hrun, Result.andThen]
  exact hK' _ _ (hK w' r1 r2)

end Go.Proofs.Ytgcheplneolonab.Ch
