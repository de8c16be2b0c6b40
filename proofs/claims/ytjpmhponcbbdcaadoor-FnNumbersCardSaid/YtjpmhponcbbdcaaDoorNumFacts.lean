/- What is divided is joined again; a text that is read is what would be written. -/
import Derived.Test.YtjpmhponcbbdcaaDoorSplit
import Derived.Test.YtjpmhponcbbdcaaDoorJoinN
import Derived.Test.YtjpmhponcbbdcaaDoorParse
namespace Go.Proofs.YtjpmhponcbbdcaaDoor.NumFacts
open Go.RowKit Go.Proofs.YtjpmhponcbbdcaaDoor.Mem Go.Proofs.YtjpmhponcbbdcaaDoor.Strs

theorem join_more (sep x : List UInt8) : ∀ (r : List (List UInt8)), r ≠ [] → Lib.join (x :: r) sep = x ++ (sep ++ Lib.join r sep)
  | [], h => absurd rfl h
  | y :: t, _ => by
    rw [Lib.join_cons, Lib.join_cons]
    unfold Lib.joinTail
    rw [List.map_cons, List.flatten_cons, List.append_assoc]

theorem S_facts (sep : ByteArray) (h1 : 1 ≤ sep.size) : ∀ (n : Nat) (s : ByteArray), s.size ≤ n → Lib.join (Join.texts (Spl.S sep s)) sep.data.toList = s.data.toList ∧ byteSum (Spl.S sep s) ≤ s.size ∧ Join.texts (Spl.S sep s) ≠ [] := by
  intro n
  induction n with
  | zero =>
    intro s hs
    have hi : Lib.indexB s sep = -1 := by
      rcases Lib.index_spec s.data.toList sep.data.toList with ⟨h, _⟩ | ⟨i, h, hi, ho, _⟩
      · exact h
      · exfalso
        have hroom := Lib.occAt_room ho
        have hne : sep.data.toList ≠ [] := by intro e; rw [Lib.size_eq, e] at h1; simp at h1
        have := hroom.resolve_right hne
        rw [← Lib.size_eq, ← Lib.size_eq] at this
        omega
    rw [Spl.S_miss sep s hi]
    exact ⟨Lib.join_one _ _, by simp [byteSum], by simp [Join.texts]⟩
  | succ n ih =>
    intro s hs
    rcases Lib.index_spec s.data.toList sep.data.toList with ⟨h, _⟩ | ⟨i, h, hi, ho, _⟩
    · rw [Spl.S_miss sep s h]
      exact ⟨Lib.join_one _ _, by simp [byteSum], by simp [Join.texts]⟩
    · have hroom := Lib.occAt_room ho
      have hne : sep.data.toList ≠ [] := by intro e; rw [Lib.size_eq, e] at h1; simp at h1
      have hr := hroom.resolve_right hne
      have hr2 := hr
      rw [← Lib.size_eq, ← Lib.size_eq] at hr2
      have hsz : (Spl.rest s (i + sep.size)).size = s.size - (i + sep.size) := Spl.rest_size s _
      obtain ⟨a1, a2, a3⟩ := ih (Spl.rest s (i + sep.size)) (by rw [hsz]; omega)
      rw [Spl.S_hit sep s i h1 h]
      refine ⟨?_, ?_, by simp [Join.texts]⟩
      · show Lib.join ((s.extract 0 i).data.toList :: Join.texts (Spl.S sep (Spl.rest s (i + sep.size)))) sep.data.toList = _
        rw [join_more _ _ _ a3, a1, Spl.rest_data, Spl.extract_data', List.drop_zero, Nat.sub_zero]
        have hs2 : sep.data.toList = (s.data.toList.drop i).take sep.data.toList.length := by
          rw [Lib.occAt_iff_take _ _ _ hr] at ho
          exact (beq_iff_eq.1 ho).symm
        have e : s.data.toList.drop (i + sep.size) = (s.data.toList.drop i).drop sep.data.toList.length := by rw [List.drop_drop, ← Lib.size_eq]
        rw [e]
        conv => lhs; rw [show sep.data.toList ++ (s.data.toList.drop i).drop sep.data.toList.length = s.data.toList.drop i by
          conv => lhs; lhs; rw [hs2]
          exact List.take_append_drop _ _]
        exact List.take_append_drop _ _
      · show (s.extract 0 i).size + byteSum (Spl.S sep (Spl.rest s (i + sep.size))) ≤ _
        rw [hsz] at a2
        have : (s.extract 0 i).size ≤ i := by rw [ByteArray.size_extract]; omega
        omega

theorem split_join (sep s : ByteArray) : Join.joined (Split.pieces sep s) sep = s := by
  apply Spl.ext_data
  show Lib.join (Join.texts (Split.pieces sep s)) sep.data.toList = _
  unfold Split.pieces
  split
  · exact Lib.join_one _ _
  · exact (S_facts sep (by omega) _ s (Nat.le_refl _)).1
theorem split_sum (sep s : ByteArray) : byteSum (Split.pieces sep s) ≤ s.size := by
  unfold Split.pieces
  split
  · simp [byteSum]
  · exact (S_facts sep (by omega) _ s (Nat.le_refl _)).2.1
theorem split_len (sep s : ByteArray) : (Split.pieces sep s).length ≤ s.size + 1 := by
  unfold Split.pieces
  split
  · exact Nat.succ_le_succ (Nat.zero_le _)
  · rename_i h
    have h1 : 1 ≤ sep.size := by omega
    rw [Split.split_len sep s h1]
    have := Lib.countB_le sep h1 _ s (Nat.le_refl _)
    omega

/-- What is written of a number is read back exactly if the number is in the range. -/
theorem back_yes {n : Int} (h1 : 0 ≤ n) (h2 : n ≤ 999) : Parse.good (Fmt.itoaT n) = true ∧ Parse.val (Fmt.itoaT n) = n := Parse.good_yes ⟨h1, h2, rfl⟩
theorem heads : ∀ n : Fin 1000, (Num.dig n.val).head? ≠ some 45 := by decide +kernel
theorem dec_pos (u : Nat) : 1 ≤ (Lib.decDigits u).length := by
  by_cases c : u < 10
  · rw [Fmt.digits_one u c]; exact Nat.le_refl _
  · rw [Fmt.digits_step u c, List.length_append]; simp
theorem dec_long (u : Nat) (h : 1000 ≤ u) : 4 ≤ (Lib.decDigits u).length := by
  rw [Fmt.digits_step u (by omega), List.length_append, Fmt.digits_step (u / 10) (by omega), List.length_append, Fmt.digits_step (u / 10 / 10) (by omega), List.length_append]
  have := dec_pos (u / 10 / 10 / 10)
  simp only [List.length_cons, List.length_nil]
  omega
theorem back_no {n : Int} (h : n < 0 ∨ 999 < n) : Parse.good (Fmt.itoaT n) = false ∧ Parse.val (Fmt.itoaT n) = 0 := by
  refine Parse.good_no fun m ⟨h1, h2, h3⟩ => ?_
  obtain ⟨k, rfl⟩ : ∃ k : Nat, m = k := ⟨m.toNat, by omega⟩
  have e : Lib.decDigits k = Lib.itoa n := by
    have e0 : (Fmt.itoaT (k : Int)).data.toList = (Fmt.itoaT n).data.toList := by rw [h3]
    rw [Parse.itoaT_nat] at e0
    exact e0
  rcases h with h | h
  · have e2 : Lib.itoa n = 45 :: Lib.decDigits n.natAbs := by unfold Lib.itoa; rw [if_pos (by omega)]
    rw [e2, Num.digits_dig k (by omega)] at e
    have := heads ⟨k, by omega⟩
    rw [e] at this
    exact this rfl
  · obtain ⟨j, rfl⟩ : ∃ j : Nat, n = j := ⟨n.toNat, by omega⟩
    have e2 : Lib.itoa (j : Int) = Lib.decDigits j := by unfold Lib.itoa; rw [if_neg (by omega), Int.toNat_natCast]
    have l1 := (Num.key k (by omega)).2.2
    have l2 := dec_long j (by omega)
    rw [e, e2] at l1
    omega
theorem read_yes {s : ByteArray} (h : Parse.good s = true) : Fmt.itoaT (Parse.val s) = s ∧ 0 ≤ Parse.val s ∧ Parse.val s ≤ 999 := by
  unfold Parse.good at h
  have hf := @of_decide_eq_true _ (Classical.propDecidable _) h
  have := (Parse.good_yes hf).2
  rw [this]
  exact ⟨hf.2.2, hf.1, hf.2.1⟩
theorem read_no {s : ByteArray} (h : Parse.good s = false) : Parse.val s = 0 := by unfold Parse.val; rw [h]; rfl

end Go.Proofs.YtjpmhponcbbdcaaDoor.NumFacts
