/- Whether a text is among texts, of the program and of the model. -/
import Derived.Test.YtgcheplneolonacStrs
import Derived.Test.YtgcheplneolonacGe
namespace Go.Proofs.Ytgcheplneolonac.Tn
open Go.RowKit Go.Proofs.Ytgcheplneolonac.Mem Go.Proofs.Ytgcheplneolonac.Strs
set_option linter.unusedVariables false
set_option linter.unusedSimpArgs false

theorem toList_inj {a b : ByteArray} (h : a.toList = b.toList) : a = b := by
  rw [ByteArray.toList_eq, ByteArray.toList_eq] at h
  obtain ⟨⟨x⟩⟩ := a
  obtain ⟨⟨y⟩⟩ := b
  simp at h
  rw [h]
theorem bl_eq {a b : ByteArray} : (a.toList == b.toList) = true ↔ a = b := ⟨fun h => toList_inj (by simpa using h), fun h => by simp [h]⟩
theorem bl_ne {a b : ByteArray} (h : a ≠ b) : (a.toList == b.toList) = false := by
  cases c : a.toList == b.toList
  · rfl
  · exact absurd (bl_eq.1 c) h
/-- Whether a text is among these. -/
noncomputable def hasN (ss : List ByteArray) (s : ByteArray) : Bool := @decide (s ∈ ss) (Classical.propDecidable _)
theorem hasN_yes {ss : List ByteArray} {s : ByteArray} (h : s ∈ ss) : hasN ss s = true := by unfold hasN; exact @decide_eq_true _ (Classical.propDecidable _) h
theorem hasN_no {ss : List ByteArray} {s : ByteArray} (h : ¬ s ∈ ss) : hasN ss s = false := by unfold hasN; exact @decide_eq_false _ (Classical.propDecidable _) h
/-- None of the first k is this text. -/
def Not (ss : List ByteArray) (s : ByteArray) (k : Nat) : Prop := ∀ j, j < k → ss[j]? ≠ some s
theorem Not.zero (ss : List ByteArray) (s : ByteArray) : Not ss s 0 := fun j h => by omega
theorem Not.next {ss : List ByteArray} {s x : ByteArray} {k : Nat} (h : Not ss s k) (hp : ss[k]? = some x) (hx : x ≠ s) : Not ss s (k + 1) := fun j hj e => by
  by_cases c : j = k
  · subst c; rw [hp] at e; cases e; exact hx rfl
  · exact h j (by omega) e
theorem Not.all {ss : List ByteArray} {s : ByteArray} {k : Nat} (h : Not ss s k) (hk : ss.length = k) : ¬ s ∈ ss := fun hp => by
  obtain ⟨j, hj, e⟩ := List.mem_iff_getElem.1 hp
  exact h j (by omega) (by rw [List.getElem?_eq_getElem hj, e])

set_option maxHeartbeats 2000000 in
theorem index (A : Option Addr) (n c : Nat) (ss : List ByteArray) (s : ByteArray) (H : Nat) (w : World) (hn : ss.length = n) (hb : n ≤ 1048576) (hr : Rd w H A (strs ss)) :
    Calls Try.prog 43 #[.slice A n c, .string s] w fun e w' => (∃ R : Int, e = .returned (.int .i64 R) ∧ (0 ≤ R ↔ s ∈ ss)) ∧ ∃ m, w' = w.drewN m := by
  have HR := Lib.hid hr
  have HN := Lib.hid hn
  clear hr hn
  go_enter Try.func43, Try.ntmps43
  go_wp2_with fail
  go_loop [8] (fun i => ∃ k : Nat, k ≤ n ∧ i = .int .i64 k ∧ Hid (Not ss s k)) (fun i => n - (intOf i).toNat)
  case atStart => exact ⟨0, Nat.zero_le _, rfl, Lib.hid (Not.zero _ _)⟩
  case round =>
    obtain ⟨k, hk, rfl, NK⟩ := hrel
    by_cases hlt : k < n
    · have hkz : k < ss.length := by rw [HN.out]; exact hlt
      obtain ⟨p, hp⟩ : ∃ p, ss[k]? = some p := ⟨_, List.getElem?_eq_getElem hkz⟩
      obtain ⟨b, o, eA, hbl, hcell⟩ := HR.out.get (k := k) (by rw [strs_len]; exact hkz)
      have c1 : w.cell? ⟨b, o + k, none⟩ = some (.string p) := hcell _ _ (strs_get hp)
      by_cases he : p = s
      · have EQ : (s.toList == p.toList) = true := bl_eq.2 he.symm
        have F := Lib.hid (show ((0 : Int) ≤ (k : Int) ↔ s ∈ ss) from ⟨fun _ => he ▸ List.mem_of_getElem? hp, fun _ => by omega⟩)
        clear hcell hp hkz hbl he
        subst eA
        go_wp2_with fail
        go_ret
        exact ⟨⟨_, rfl, F.out⟩, ⟨0, rfl⟩⟩
      · have EQ : (s.toList == p.toList) = false := bl_ne fun h => he h.symm
        have NN := Lib.hid (NK.out.next hp he)
        clear hcell hp hkz hbl he
        subst eA
        go_wp2_with fail
        go_round
        case rel => exact ⟨k + 1, by omega, by go_num, NN⟩
        case measure => simp [intOf]; omega
    · obtain rfl : k = n := by omega
      have F := Lib.hid (show ((0 : Int) ≤ -1 ↔ s ∈ ss) from ⟨fun h => by omega, fun h => absurd h (NK.out.all HN.out)⟩)
      go_wp2_with fail
      go_ret
      exact ⟨⟨_, rfl, F.out⟩, ⟨0, rfl⟩⟩

set_option maxHeartbeats 1000000 in
theorem contains (A : Option Addr) (n c : Nat) (ss : List ByteArray) (s : ByteArray) (H : Nat) (w : World) (hn : ss.length = n) (hb : n ≤ 1048576) (hr : Rd w H A (strs ss)) :
    Calls Try.prog 26 #[.slice A n c, .string s] w fun e w' => e = .returned (.bool (hasN ss s)) ∧ ∃ m, w' = w.drewN m := by
  have I := Lib.hid (index A n c ss s H w hn hb hr)
  clear hn hr
  go_enter Try.func26, Try.ntmps26
  go_wp2_with fail
  refine I.out.mono ?_
  rintro e w' ⟨⟨R, rfl, F⟩, m, rfl⟩
  have F := Lib.hid (show decide (0 ≤ R) = hasN ss s by
    by_cases h : s ∈ ss
    · rw [hasN_yes h, decide_eq_true (F.2 h)]
    · rw [hasN_no h, decide_eq_false fun c => h (F.1 c)])
  go_wp2_with fail
  go_ret
  exact ⟨by rw [← F.out]; rfl, m, rfl⟩

end Go.Proofs.Ytgcheplneolonac.Tn
