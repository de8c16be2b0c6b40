/- A map from names to numbers, in memory. -/
import Derived.Test.YtedijideojmmlaaEd
import Derived.Maps.OwnOps
import Derived.Maps.RangeRun
namespace Go.Proofs.Ytedijideojmmlaa.Eh
open Go.RowKit Go.Proofs.Ytedijideojmmlaa.Ed
open Go.ChangeMaps (setBlock)
set_option linter.unusedVariables false
set_option linter.unusedSimpArgs false

/-- The entries of a map. -/
def enE : List (ByteArray × Int) → Nat → List MapEntry
  | [], _ => []
  | (k, c) :: r, i => { key := .string k, val := .int .i64 c, born := i } :: enE r (i + 1)
theorem enE_len : ∀ (M : List (ByteArray × Int)) (i : Nat), (enE M i).length = M.length
  | [], _ => rfl
  | (k, c) :: r, i => by simp [enE, enE_len r]
theorem beq_no {a b : ByteArray} (h : ¬ a = b) : (a == b) = false := by
  obtain ⟨⟨x⟩⟩ := a
  obtain ⟨⟨y⟩⟩ := b
  show ((⟨x⟩ : Array UInt8) == ⟨y⟩) = false
  simp
  intro e
  exact h (by rw [e])
theorem beq_yes (a : ByteArray) : (a == a) = true := by
  obtain ⟨⟨x⟩⟩ := a
  show ((⟨x⟩ : Array UInt8) == ⟨x⟩) = true
  simp
theorem find_none {s : ByteArray} : ∀ {M : List (ByteArray × Int)} {i j : Nat}, ¬ s ∈ keys M → Instr.findNow .string (.string s) (enE M i) j = some none
  | [], _, _, _ => rfl
  | (k, c) :: r, i, j, h => by
    have e' : ¬ s = k := fun e => h (by unfold keys; simp [e])
    have h2 : ¬ s ∈ keys r := fun h2 => h (by unfold keys at h2 ⊢; exact List.mem_cons_of_mem _ h2)
    have := find_none (i := i + 1) (j := j + 1) h2
    simp [enE, Instr.findNow, Instr.sameNow, beq_no e', this]
theorem find_some {s : ByteArray} (v : Int) : ∀ {M : List (ByteArray × Int)} (i j : Nat), s ∈ keys M → ∃ q c, Instr.findNow .string (.string s) (enE M i) j = some (some (j + q, .int .i64 c)) ∧ (enE M i)[q]? = some { key := .string s, val := .int .i64 c, born := i + q } ∧ (enE M i).modify q (fun e => { e with key := .string s, val := .int .i64 v }) = enE (upd M s v) i
  | [], _, _, h => by cases h
  | (k, c) :: r, i, j, h => by
    unfold upd
    by_cases e : k = s
    · subst e
      rw [if_pos rfl]
      exact ⟨0, c, by simp [enE, Instr.findNow, Instr.sameNow, beq_yes], by simp [enE], by simp [enE, List.modify]⟩
    · have h2 : s ∈ keys r := by
        unfold keys at h ⊢
        rcases List.mem_cons.1 h with h | h
        · exact absurd h.symm e
        · exact h
      obtain ⟨q, c', h3, h4, h5⟩ := find_some v (M := r) (i + 1) (j + 1) h2
      rw [if_neg e]
      have e' : ¬ s = k := fun c => e c.symm
      refine ⟨q + 1, c', ?_, ?_, ?_⟩
      · have h6 := h3
        rw [show j + 1 + q = j + (q + 1) by omega] at h6
        simp [enE, Instr.findNow, Instr.sameNow, beq_no e', h6]
      · simp only [enE, List.getElem?_cons_succ]; rw [h4, show i + 1 + q = i + (q + 1) by omega]
      · simp only [enE, List.modify_succ_cons]; rw [h5]
theorem enE_snoc (k : ByteArray) (c : Int) : ∀ (M : List (ByteArray × Int)) (i : Nat), enE (M ++ [(k, c)]) i = enE M i ++ [{ key := .string k, val := .int .i64 c, born := i + M.length }]
  | [], i => rfl
  | (k', c') :: r, i => by
    have := enE_snoc k c r (i + 1)
    simp only [List.cons_append, enE, this, List.length_cons]
    rw [show i + 1 + r.length = i + (r.length + 1) by omega]
theorem upd_new : ∀ {M : List (ByteArray × Int)} {s : ByteArray} (c : Int), ¬ s ∈ keys M → upd M s c = M ++ [(s, c)]
  | [], s, c, _ => rfl
  | (k, v) :: r, s, c, h => by
    have e' : ¬ k = s := fun e => h (by unfold keys; simp [e])
    have h2 : ¬ s ∈ keys r := fun h2 => h (by unfold keys at h2 ⊢; exact List.mem_cons_of_mem _ h2)
    unfold upd
    rw [if_neg e', upd_new c h2]; rfl
theorem upd_len_old {M : List (ByteArray × Int)} {s : ByteArray} (c : Int) (h : s ∈ keys M) : (upd M s c).length = M.length := by
  have := congrArg List.length ((upd_keys M s c).1 h)
  simpa [keys] using this

/-- Block b is the map of these numbers. -/
def Ls (w : World) (b : Nat) (M : List (ByteArray × Int)) : Prop := w.heap[b]? = some (.map ⟨enE M 0⟩ M.length)
theorem Ls.lt {w : World} {b : Nat} {M : List (ByteArray × Int)} (h : Ls w b M) : b < w.heap.size := (Array.getElem?_eq_some_iff.1 h).1
theorem Ls.made (w : World) : Ls (w.alloc (.map #[] 0)) w.heap.size [] := (MapKept.heap_alloc w _).1
theorem Ls.alloc {w : World} {b : Nat} {M : List (ByteArray × Int)} (h : Ls w b M) (o : Obj) : Ls (w.alloc o) b M := ((MapKept.heap_alloc w o).2 b h.lt).trans h
theorem Ls.drew {w : World} {b : Nat} {M : List (ByteArray × Int)} (h : Ls w b M) : Ls w.drew b M := h
theorem Ls.below {w w' : World} {b B : Nat} {M : List (ByteArray × Int)} (h : Ls w b M) (hb : Below B w w') (hB : b < B) : Ls w' b M := (hb.block b hB).trans h

theorem run_put {w : World} {b : Nat} {M : List (ByteArray × Int)} (h : Ls w b M) (s : ByteArray) (c : Int) :
    ∃ w', (Instr.mapUpdate 65 (.map (some b)) (.string s) (.int .i64 c)).run Try.prog w = .ok () w' ∧ Ls w' b (upd M s c) ∧ w.grownBy w' (some b) := by
  have hs := MapKept.heap_set (o' := .map ⟨enE (upd M s c) 0⟩ (upd M s c).length) h
  refine ⟨{ w with heap := w.heap.setIfInBounds b (.map ⟨enE (upd M s c) 0⟩ (upd M s c).length) }, ?_, hs.1, ⟨rfl, rfl, rfl, by simp, fun j hj hr => hs.2 j (fun e => hr (by rw [e]))⟩⟩
  by_cases hn : s ∈ keys M
  · obtain ⟨q, c', h3, h4, h5⟩ := find_some c (M := M) 0 0 hn
    rw [Nat.zero_add] at h3
    have ep : ((enE M 0).modify q (fun e => { e with key := .string s, val := .int .i64 c })).toArray = ⟨enE (upd M s c) 0⟩ := by rw [h5]
    have e4 : (Option.map (fun x : MapEntry => x.key) (enE M 0)[q]?).getD (.string s) = .string s := by rw [h4]; rfl
    have hk := MapKept.run_keyThatStays (P := Try.prog) (d := .string) (w := w) (k := .string s) trivial
    simp [Instr.mapUpdate, run_underlying Try.underlying65, MapKept.run_getObj_map h, MapKept.run_checkKey Try.underlying9 (k := .string s) trivial, MapKept.run_findKey Try.underlying9 h3, e4, hk, MapKept.run_setObj_map _ h, Result.andThen, ep, upd_len_old c hn]
  · have hf := find_none (i := 0) (j := 0) hn
    have ep : (⟨enE M 0⟩ : Array MapEntry).push { key := .string s, val := .int .i64 c, born := M.length } = ⟨enE (upd M s c) 0⟩ := by
      rw [upd_new c hn, enE_snoc]; simp
    have el : (upd M s c).length = M.length + 1 := by rw [upd_new c hn]; simp
    simp [Instr.mapUpdate, run_underlying Try.underlying65, MapKept.run_getObj_map h, MapKept.run_checkKey Try.underlying9 (k := .string s) trivial, MapKept.run_findKey Try.underlying9 hf, MapKept.run_setObj_map _ h, Result.andThen, ep, el]

/-- 'm[k] = v' at the operation. -/
theorem wpList_put (w : World) {ops : Array Oper} {rest : List Oper} {o : Oper} {a : Act} {Q : Exit → Act → World → Prop}
    (hg : o.guard = none) (m x v : Operand) (hop : o.op = Op.mapUpdate 65 m x v) (b : Nat) (M : List (ByteArray × Int)) (hm : a.eval m = .map (some b)) (hL : Ls w b M) (s : ByteArray) (hx : a.eval x = .string s) (c : Int) (hv : a.eval v = .int .i64 c)
    (hK : ∀ w', Ls w' b (upd M s c) → w.grownBy w' (some b) → wpList Try.prog ops Q rest (a.put o.dst undef) w') : wpList Try.prog ops Q (o :: rest) a w := by
  refine wpList_plain hg fun K' hK' => ?_
  obtain ⟨w', hrun, r1, r2⟩ := run_put hL s c
  unfold Oper.wp
  simp [execOp, hop, hm, hx, hv, hrun, Result.andThen]
  exact hK' _ _ (hK w' r1 r2)

theorem enE_mem : ∀ {M : List (ByteArray × Int)} {i : Nat} {e : MapEntry}, e ∈ enE M i → ∃ k c, (k, c) ∈ M ∧ e.key = .string k ∧ e.val = .int .i64 c ∧ i ≤ e.born ∧ e.born < i + M.length
  | [], _, _, h => by cases h
  | (k, c) :: r, i, e, h => by
    rcases List.mem_cons.1 h with h | h
    · subst h; exact ⟨k, c, List.mem_cons_self .., rfl, rfl, Nat.le_refl _, by simp⟩
    · obtain ⟨k', c', a, b, d, f, g⟩ := enE_mem h
      exact ⟨k', c', List.mem_cons_of_mem _ a, b, d, by omega, by simp only [List.length_cons]; omega⟩
theorem enE_born : ∀ (M : List (ByteArray × Int)) (i : Nat), ((enE M i).map (·.born)).Nodup
  | [], _ => List.nodup_nil
  | (k, c) :: r, i => by
    refine List.nodup_cons.2 ⟨fun h => ?_, enE_born r (i + 1)⟩
    obtain ⟨e, he, hb⟩ := List.mem_map.1 h
    obtain ⟨_, _, _, _, _, f, _⟩ := enE_mem he
    simp only [] at hb
    omega
/-- The greatest of what was handed out. -/
def seenMax : List MapEntry → Array Nat → Int
  | [], _ => 0
  | x :: l, seen => max (if seen.contains x.born then valOf x.val else 0) (seenMax l seen)
theorem seenMax_pos : ∀ (l : List MapEntry) (seen : Array Nat), 0 ≤ seenMax l seen
  | [], _ => Int.le_refl _
  | x :: l, seen => by have := seenMax_pos l seen; unfold seenMax; omega
theorem seenMax_none : ∀ (l : List MapEntry), seenMax l #[] = 0
  | [] => rfl
  | x :: l => by
    have : (#[] : Array Nat).contains x.born = false := by simp
    unfold seenMax
    rw [this, seenMax_none l]; rfl
theorem seenMax_other (seen : Array Nat) (b : Nat) : ∀ (es : List MapEntry), b ∉ es.map (·.born) → seenMax es (seen.push b) = seenMax es seen
  | [], _ => rfl
  | x :: l, h => by
    have hx : (x.born == b) = false := by
      cases hc : x.born == b with
      | false => rfl
      | true => exact absurd (List.mem_cons.2 (Or.inl (beq_iff_eq.1 hc).symm)) h
    have ih := seenMax_other seen b l (fun e => h (List.mem_cons.2 (Or.inr e)))
    simp only [seenMax, contains_push, hx, Bool.or_false, ih]
theorem seenMax_push (seen : Array Nat) (e : MapEntry) (hs : seen.contains e.born = false) : ∀ (es : List MapEntry), (es.map (·.born)).Nodup → e ∈ es → seenMax es (seen.push e.born) = max (seenMax es seen) (valOf e.val)
  | x :: l, hn, he => by
    have hn' := List.nodup_cons.1 (show (x.born :: l.map (·.born)).Nodup from hn)
    rcases List.mem_cons.1 he with rfl | h
    · have hp := seenMax_pos l seen
      simp only [seenMax, contains_push, hs, beq_self_eq_true, Bool.or_true, if_true, Bool.false_eq_true, if_false, seenMax_other seen e.born l hn'.1]
      omega
    · have hx : (x.born == e.born) = false := by
        cases hc : x.born == e.born with
        | false => rfl
        | true => exact absurd (by rw [beq_iff_eq.1 hc]; exact List.mem_map.2 ⟨e, h, rfl⟩) hn'.1
      simp only [seenMax, contains_push, hx, Bool.or_false, seenMax_push seen e hs l hn'.2 h]
      omega
theorem seenMax_all (seen : Array Nat) : ∀ (M : List (ByteArray × Int)) (i : Nat), (∀ x ∈ enE M i, seen.contains x.born = true) → (∀ k v, (k, v) ∈ M → 0 ≤ v) → seenMax (enE M i) seen = maxM M
  | [], _, _, _ => rfl
  | (k, c) :: r, i, h, hp => by
    have ih := seenMax_all seen r (i + 1) (fun x hx => h x (List.mem_cons_of_mem _ hx)) (fun k v hm => hp k v (List.mem_cons_of_mem _ hm))
    have hb := h _ (List.mem_cons_self ..)
    simp only [enE, seenMax, ih]
    simp only [] at hb
    rw [if_pos hb]
    rfl
theorem seen_at {w : World} {r : Nat} {m : Option Nat} {s : Nat} {seen : Array Nat} {c : Nat} (h : w.heap[r]? = some (.mapIter m s seen c)) : w.iterSeen r = seen := by unfold World.iterSeen; rw [h]
end Go.Proofs.Ytedijideojmmlaa.Eh
