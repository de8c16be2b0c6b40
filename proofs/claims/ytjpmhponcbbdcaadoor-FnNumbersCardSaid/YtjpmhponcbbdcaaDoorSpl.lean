/- Plain facts: a text that is gone through byte by byte, and cut at each place where the separator stands, gives the pieces of Lib.splitB. -/
import Derived.Lib.SplitLaws
namespace Go.Proofs.YtjpmhponcbbdcaaDoor.Spl
open Go Go.Lib

/-- All pieces of s. -/
def S (sep s : ByteArray) : List ByteArray := splitB sep 0 (countB s sep) s

theorem S_miss (sep s : ByteArray) (h : indexB s sep = -1) : S sep s = [s] := splitB_miss sep 0 _ s h

theorem S_hit (sep s : ByteArray) (i : Nat) (h1 : 1 ≤ sep.size) (h : indexB s sep = i) : S sep s = s.extract 0 i :: S sep (s.extract (i + sep.size) s.size) := by
  unfold S
  rw [countB_hit s sep i h1 h, Nat.add_comm 1, splitB_hit sep 0 _ s i h]
  rfl

/-- The rest behind a place. -/
def rest (s : ByteArray) (a : Nat) : ByteArray := s.extract a s.size

theorem rest_data (s : ByteArray) (a : Nat) : (rest s a).data.toList = s.data.toList.drop a := by
  unfold rest; rw [extract_to_end]

theorem rest_size (s : ByteArray) (a : Nat) : (rest s a).size = s.size - a := by
  rw [size_eq, rest_data, List.length_drop, size_eq]

theorem ext_data {a b : ByteArray} (h : a.data.toList = b.data.toList) : a = b := by
  cases a; cases b; congr 1; exact Array.ext' h

theorem extract_data' (s : ByteArray) (a b : Nat) : (s.extract a b).data.toList = (s.data.toList.drop a).take (b - a) := by
  rw [ByteArray.data_extract, Array.toList_extract]

theorem rest_rest (s : ByteArray) (a b : Nat) : rest (rest s a) b = rest s (a + b) := by
  apply ext_data
  rw [rest_data, rest_data, rest_data, List.drop_drop]

theorem rest_extract (s : ByteArray) (a b : Nat) : (rest s a).extract 0 b = s.extract a (a + b) := by
  apply ext_data
  rw [extract_data', extract_data', rest_data, List.drop_zero, Nat.add_sub_cancel_left, Nat.sub_zero]

theorem rest_zero (s : ByteArray) : rest s 0 = s := by
  apply ext_data; rw [rest_data, List.drop_zero]

/-- What holds in the loop: the pieces so far, where the next piece begins, and that the separator begins nowhere between there and i. -/
def At (sep s : ByteArray) (out : List ByteArray) (fr i : Nat) : Prop :=
  fr ≤ i ∧ out ++ S sep (rest s fr) = S sep s ∧ ∀ j, fr ≤ j → j < i → s.extract j (j + sep.size) ≠ sep

theorem At.start (sep s : ByteArray) : At sep s [] 0 0 := ⟨Nat.le_refl _, by rw [rest_zero]; rfl, fun j _ h => absurd h (Nat.not_lt_zero _)⟩

theorem At.skip {sep s : ByteArray} {out : List ByteArray} {fr i : Nat} (h : At sep s out fr i) (hn : s.extract i (i + sep.size) ≠ sep) : At sep s out fr (i + 1) :=
  ⟨by have := h.1; omega, h.2.1, fun j h1 h2 => by
    by_cases e : j = i
    · rw [e]; exact hn
    · exact h.2.2 j h1 (by omega)⟩

theorem occ_iff (sep s : ByteArray) (fr j : Nat) (hr : fr + j + sep.size ≤ s.size) : occAt (rest s fr).data.toList sep.data.toList j = true ↔ s.extract (fr + j) (fr + j + sep.size) = sep := by
  rw [occAt_iff_take _ _ _ (by rw [← size_eq, ← size_eq, rest_size]; omega), rest_data, List.drop_drop]
  constructor
  · intro h
    apply ext_data
    rw [extract_data', Nat.add_sub_cancel_left, size_eq]
    exact beq_iff_eq.1 h
  · intro h
    have := congrArg (fun x : ByteArray => x.data.toList) h
    simp only [extract_data', Nat.add_sub_cancel_left] at this
    rw [beq_iff_eq, ← size_eq]
    exact this

theorem At.noOcc {sep s : ByteArray} {out : List ByteArray} {fr i : Nat} (h : At sep s out fr i) (h1 : 1 ≤ sep.size) : NoOcc (rest s fr).data.toList sep.data.toList (i - fr) := by
  intro j hj
  rcases hb : occAt (rest s fr).data.toList sep.data.toList j with _ | _
  · rfl
  · exfalso
    have hroom := occAt_room hb
    have hne : sep.data.toList ≠ [] := by intro e; rw [size_eq, e] at h1; simp at h1
    have hr : j + sep.data.toList.length ≤ (rest s fr).data.toList.length := hroom.resolve_right hne
    rw [← size_eq, ← size_eq, rest_size] at hr
    exact h.2.2 (fr + j) (by omega) (by omega) ((occ_iff sep s fr j (by omega)).1 hb)

theorem At.cut {sep s : ByteArray} {out : List ByteArray} {fr i : Nat} (h : At sep s out fr i) (h1 : 1 ≤ sep.size) (hr : i + sep.size ≤ s.size) (he : s.extract i (i + sep.size) = sep) :
    At sep s (out ++ [s.extract fr i]) (i + sep.size) (i + sep.size) := by
  have hfi := h.1
  refine ⟨Nat.le_refl _, ?_, fun j a b => by omega⟩
  have ho : occAt (rest s fr).data.toList sep.data.toList (i - fr) = true := (occ_iff sep s fr (i - fr) (by omega)).2 (by rw [show fr + (i - fr) = i by omega]; exact he)
  have hix : indexB (rest s fr) sep = ((i - fr : Nat) : Int) := index_hit (h.noOcc h1) (by rw [← size_eq, rest_size]; omega) ho
  have := h.2.1
  rw [S_hit sep _ (i - fr) h1 hix] at this
  rw [← this, List.append_assoc, rest_extract, show fr + (i - fr) = i by omega]
  show _ = out ++ (s.extract fr i :: S sep (rest (rest s fr) (i - fr + sep.size)))
  rw [rest_rest, show fr + (i - fr + sep.size) = i + sep.size by omega]
  rfl

theorem At.fin {sep s : ByteArray} {out : List ByteArray} {fr i : Nat} (h : At sep s out fr i) (h1 : 1 ≤ sep.size) (hr : s.size < i + sep.size) : out ++ [s.extract fr s.size] = S sep s := by
  have hfi := h.1
  have hne : sep.data.toList ≠ [] := by intro e; rw [size_eq, e] at h1; simp at h1
  rw [← h.2.1]
  have hix : indexB (rest s fr) sep = -1 := by
    by_cases hle : fr ≤ s.size
    · exact index_past hne (h.noOcc h1) (by rw [← size_eq, ← size_eq, rest_size]; omega)
    · have : (rest s fr).data.toList = [] := by rw [rest_data]; apply List.drop_eq_nil_of_le; rw [← size_eq]; omega
      show index (rest s fr).data.toList sep.data.toList = -1
      rw [this]
      unfold index
      rw [if_neg (by simpa using hne)]
  rw [S_miss sep _ hix]
  rfl

end Go.Proofs.YtjpmhponcbbdcaaDoor.Spl
