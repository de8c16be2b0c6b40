/- The library's sort at a row that a call made: what it takes, and what it leaves. -/
import Derived.Test.YtgcheplneolonabRw
import Derived.Shelf.SlSortCmp.WholeK
namespace Go.Proofs.Ytgcheplneolonab.Ks
open Go.RowKit Go.Sort Go.Proofs.Ytgcheplneolonab.Mem Go.Proofs.Ytgcheplneolonab.Rw
set_option linter.unusedVariables false
set_option linter.unusedSimpArgs false

variable {α : Type} [Inhabited α] {enc : α → List Value} {k : Nat}

theorem flat_list (hk : ∀ x, (enc x).length = k) (zs : List α) : (flatK enc k zs.toArray).toList = zs.flatMap enc := by
  refine List.ext_getElem? fun t => ?_
  by_cases ht : t < zs.length * k
  · have k0 : 0 < k := by
      rcases Nat.eq_zero_or_pos k with h | h
      · subst h; simp at ht
      · exact h
    have hd : t / k < zs.length := Nat.div_lt_of_lt_mul (by rw [Nat.mul_comm]; exact ht)
    obtain ⟨z, hz⟩ : ∃ z, zs[t / k]? = some z := ⟨_, List.getElem?_eq_getElem hd⟩
    have hm : t % k < k := Nat.mod_lt _ k0
    have h1 := flat_get hk hz (t % k) hm
    rw [Nat.div_add_mod'] at h1
    rw [h1]
    have hl : t % k < (enc z).length := by rw [hk]; exact hm
    have e1 : zs.toArray[t / k]! = z := by
      rw [getElem!_pos zs.toArray (t / k) (by simpa using hd)]
      simpa [List.getElem?_eq_getElem hd] using hz
    have h2 : (flatK enc k zs.toArray)[t]! = (enc z)[t % k]! := by rw [get_flatK _ _ _ _ (by simpa using ht), e1]
    have hs : t < (flatK enc k zs.toArray).size := by simpa using ht
    rw [getElem!_pos _ t hs, getElem!_pos (enc z) (t % k) hl] at h2
    rw [Array.getElem?_toList, Array.getElem?_eq_getElem hs, h2, List.getElem?_eq_getElem hl]
  · rw [List.getElem?_eq_none (by simp; omega), List.getElem?_eq_none (by rw [flat_len hk]; omega)]

theorem holds_own (hk : ∀ x, (enc x).length = k) {w : World} {base n c g : Nat} {e : TypeId} {zs : List α} (h : w.ownsRow base e k (.slice (some ⟨g, 0, none⟩) n c) n (zs.flatMap enc)) (hn : zs.length = n) : HoldsK enc k w g 0 zs.toArray ∧ g < w.heap.size := by
  rcases h.2 with ⟨e, _⟩ | ⟨g', cap, cur, e, _, hblk, h1, h2, h3, h4⟩
  · cases e
  · cases e
    refine ⟨fun j hj => ?_, (Array.getElem?_eq_some_iff.1 hblk).1⟩
    rw [Nat.zero_add]
    refine ⟨?_, frozen_of_row w g j _ _ hblk⟩
    rw [cell_of_row w g j _ _ _ hblk]
    have hs : j < n * k := by rw [size_flatK] at hj; simpa [hn] using hj
    have e1 : (flatK enc k zs.toArray).toList[j]? = cur.toList[j]? := by
      rw [flat_list hk, ← h4, List.getElem?_take_of_lt hs]
    rw [Array.getElem?_toList, Array.getElem?_toList, Array.getElem?_eq_getElem hj] at e1
    rw [← e1, getElem!_pos _ j hj]
    rfl

theorem heap_put {w : World} {g : Nat} {cur : Array Value} {e : TypeId} {fr : Nat × Nat} (h : w.heap[g]? = some (.cells cur e fr)) (F : Array Value) (m : Nat) (os : Array Obj) :
    (grow (putRow id (Sort.ahead w m) g 0 F) os).heap[g]? = some (.cells (putCells id 0 F cur) e fr) ∧ (∀ i, i < w.heap.size → i ≠ g → (grow (putRow id (Sort.ahead w m) g 0 F) os).heap[i]? = w.heap[i]?) ∧ w.heap.size ≤ (grow (putRow id (Sort.ahead w m) g 0 F) os).heap.size := by
  have hl := (Array.getElem?_eq_some_iff.1 h).1
  have hs : (putRow id (Sort.ahead w m) g 0 F).heap.size = w.heap.size := by simp
  refine ⟨?_, fun i hi hne => ?_, ?_⟩
  · show ((putRow id (Sort.ahead w m) g 0 F).heap ++ os)[g]? = _
    rw [Array.getElem?_append_left (by rw [hs]; exact hl)]
    show (w.heap.modify g (onCells (putCells id 0 F)))[g]? = _
    rw [Array.getElem?_modify, if_pos rfl, h]
    rfl
  · show ((putRow id (Sort.ahead w m) g 0 F).heap ++ os)[i]? = _
    rw [Array.getElem?_append_left (by rw [hs]; exact hi)]
    show (w.heap.modify g (onCells (putCells id 0 F)))[i]? = _
    rw [Array.getElem?_modify, if_neg (fun e => hne e.symm)]
  · show _ ≤ ((putRow id (Sort.ahead w m) g 0 F).heap ++ os).size
    rw [Array.size_append, hs]
    omega

theorem own_sorted (hk : ∀ x, (enc x).length = k) {w : World} {base n c g : Nat} {e : TypeId} {xs : List Value} (h : w.ownsRow base e k (.slice (some ⟨g, 0, none⟩) n c) n xs) (d : Array α) (hd : d.size = n) (m : Nat) (os : Array Obj) :
    (sortWorldK enc k w g 0 m d os).ownsRow base e k (.slice (some ⟨g, 0, none⟩) n c) n (d.toList.flatMap enc) ∧ w.grownBy (sortWorldK enc k w g 0 m d os) (some g) := by
  rcases h.2 with ⟨e, _⟩ | ⟨g', cap, cur, e, hb, hblk, h1, h2, h3, h4⟩
  · cases e
  · cases e
    obtain ⟨p1, p2, p3⟩ := heap_put hblk (flatK enc k d) m os
    have hsz : (flatK enc k d).size = n * k := by rw [size_flatK, hd]
    have hle : n * k ≤ c * k := Nat.mul_le_mul_right _ h1
    refine ⟨⟨by rw [flat_len hk]; simp [hd], Or.inr ⟨g, c, _, rfl, hb, p1, h1, h2, by unfold putCells; rw [Array.size_mapIdx]; exact h3, ?_⟩⟩, ⟨rfl, rfl, rfl, p3, fun i hi hr => p2 i hi (fun e => hr (by rw [e]))⟩⟩
    rw [← flat_list hk d.toList]
    have hfl : flatK enc k d.toList.toArray = flatK enc k d := by simp
    rw [hfl]
    refine List.ext_getElem? fun t => ?_
    by_cases ht : t < n * k
    · rw [List.getElem?_take_of_lt ht, Array.getElem?_toList, Array.getElem?_toList]
      have hc : t < cur.size := by omega
      have hf : t < (flatK enc k d).size := by omega
      rw [Array.getElem?_eq_getElem hf]
      unfold putCells
      rw [Array.getElem?_mapIdx, Array.getElem?_eq_getElem hc]
      simp only [Option.map_some, Nat.zero_le, true_and, Nat.zero_add, Nat.sub_zero, hf, if_true, id]
      rw [getElem!_pos _ t hf]
    · rw [List.getElem?_eq_none (by simp; omega), List.getElem?_eq_none (by simp [hsz]; omega)]

/-- A row that was put in order: the same elements, none behind one that it should stand before. -/
theorem perm_of {d d' : Array α} (h : PermIn 0 d.size d d') : d'.toList.Perm d.toList := by
  obtain ⟨h1, _, h3⟩ := h
  rw [Array.extract_eq_self_of_le (by omega), Array.extract_eq_self_of_le (Nat.le_refl _)] at h3
  exact h3
theorem pair_of {lt : α → α → Bool} {d : Array α} {n : Nat} (hn : d.size = n) (h : SortedIn lt 0 n d) : d.toList.Pairwise fun a b => lt b a = false := by
  rw [List.pairwise_iff_getElem]
  intro i j hi hj hij
  have hi' : i < d.size := by simpa using hi
  have hj' : j < d.size := by simpa using hj
  have := h i j (Nat.zero_le _) hij (by omega)
  rw [getElem!_pos d i hi', getElem!_pos d j hj'] at this
  simpa using this

/-- What the sort leaves of a row of the call's own. -/
def Sorted (lt : α → α → Bool) (enc : α → List Value) (k base : Nat) (e : TypeId) (g n c : Nat) (zs : List α) (w : World) (en : Ending) (w' : World) : Prop :=
  en = .returned (.tuple #[]) ∧ ∃ ys : List α, ys.Perm zs ∧ ys.Pairwise (fun a b => lt b a = false) ∧ w'.ownsRow base e k (.slice (some ⟨g, 0, none⟩) n c) n (ys.flatMap enc) ∧ w.grownBy w' (some g)
theorem sorted_of (hk : ∀ x, (enc x).length = k) {lt : α → α → Bool} {w w' : World} {base n c g : Nat} {e : TypeId} {zs : List α} (h : w.ownsRow base e k (.slice (some ⟨g, 0, none⟩) n c) n (zs.flatMap enc)) (hn : zs.length = n) {en : Ending}
    (hs : en = .returned (.tuple #[]) ∧ ∃ d' m os, PermIn 0 zs.toArray.size zs.toArray d' ∧ SortedIn lt 0 zs.toArray.size d' ∧ w' = sortWorldK enc k w g 0 m d' os) : Sorted lt enc k base e g n c zs w en w' := by
  obtain ⟨he, d', m, os, hp, hso, rfl⟩ := hs
  have hd : d'.size = n := by rw [hp.1]; simpa using hn
  obtain ⟨o1, o2⟩ := own_sorted hk h d' hd m os
  exact ⟨he, d'.toList, by simpa using perm_of hp, pair_of (by rw [hp.1]) hso, o1, o2⟩
end Go.Proofs.Ytgcheplneolonab.Ks
