/- Whether a text is among texts, of the laws; the draw of a rig with a row whose place is a variable. -/
import Derived.Test.YtgcheplneolonaaLm6
import Derived.Test.YtgcheplneolonaaDr6b
namespace Go.Proofs.Ytgcheplneolonaa.Ha
open Go.RowKit Go.ChangeShapes Go.WideShapes Go.WideElems Go.Deep Go.Proofs.Ytgcheplneolonaa.Mem Go.Proofs.Ytgcheplneolonaa.Rw Go.Proofs.Ytgcheplneolonaa.Dd Go.Proofs.Ytgcheplneolonaa.Dl Go.Proofs.Ytgcheplneolonaa.Strs
set_option linter.unusedVariables false
set_option linter.unusedSimpArgs false

theorem bl_eq {a b : ByteArray} : (a.toList == b.toList) = true ↔ a = b := ⟨fun h => Sl.toList_inj (by simpa using h), fun h => by simp [h]⟩
theorem bl_ne {a b : ByteArray} (h : a ≠ b) : (a.toList == b.toList) = false := by
  cases c : a.toList == b.toList
  · rfl
  · exact absurd (bl_eq.1 c) h
noncomputable def hasN (ss : List ByteArray) (s : ByteArray) : Bool := @decide (s ∈ ss) (Classical.propDecidable _)
theorem hasN_yes {ss : List ByteArray} {s : ByteArray} (h : s ∈ ss) : hasN ss s = true := by unfold hasN; exact @decide_eq_true _ (Classical.propDecidable _) h
theorem hasN_no {ss : List ByteArray} {s : ByteArray} (h : ¬ s ∈ ss) : hasN ss s = false := by unfold hasN; exact @decide_eq_false _ (Classical.propDecidable _) h
def Not (ss : List ByteArray) (s : ByteArray) (k : Nat) : Prop := ∀ j, j < k → ss[j]? ≠ some s
theorem Not.all {ss : List ByteArray} {s : ByteArray} {k : Nat} (h : Not ss s k) (hk : ss.length = k) : ¬ s ∈ ss := fun hp => by
  obtain ⟨j, hj, e⟩ := List.mem_iff_getElem.1 hp
  exact h j (by omega) (by rw [List.getElem?_eq_getElem hj, e])

set_option maxHeartbeats 2000000 in
theorem hasL (A : Option Addr) (n c : Nat) (ss : List ByteArray) (s : ByteArray) (w : World) (hn : ss.length = n) (hb : n ≤ 1048576) (hr : Rd w w.heap.size A (strs ss)) :
    Calls Try.prog 10 #[.slice A n c, .string s] w fun e w' => e = .returned (.bool (hasN ss s)) ∧ Below w.heap.size w w' := by
  have HR := Lib.hid hr
  have HN := Lib.hid hn
  clear hr hn
  go_enter Try.func10, Try.ntmps10
  go_wp2_with fail
  go_loop [5] (fun i => ∃ k : Nat, k ≤ n ∧ i = .int .i64 k ∧ Hid (Not ss s k)) (fun i => n - (intOf i).toNat)
  case atStart => exact ⟨0, Nat.zero_le _, rfl, Lib.hid (fun j h => by omega)⟩
  case round =>
    obtain ⟨k, hk, rfl, NK⟩ := hrel
    by_cases hlt : k < n
    · have hkz : k < ss.length := by rw [HN.out]; exact hlt
      obtain ⟨p, hp⟩ : ∃ p, ss[k]? = some p := ⟨_, List.getElem?_eq_getElem hkz⟩
      obtain ⟨b, o, eA, hbl, hcell⟩ := HR.out.get (k := k) (by rw [strs_len]; exact hkz)
      have c1 : w.cell? ⟨b, o + k, none⟩ = some (.string p) := hcell _ _ (strs_get hp)
      by_cases he : p = s
      · have EQ : (p.toList == s.toList) = true := bl_eq.2 he
        have F := Lib.hid (show hasN ss s = true from hasN_yes (he ▸ List.mem_of_getElem? hp))
        clear hcell hp hkz hbl he
        subst eA
        go_wp2_with fail
        go_ret
        exact ⟨by rw [F.out]; rfl, Below.refl _ _⟩
      · have EQ : (p.toList == s.toList) = false := bl_ne he
        have NK2 := Lib.hid (show Not ss s (k + 1) from fun j hj e => by
          by_cases c : j = k
          · subst c; rw [hp] at e; cases e; exact he rfl
          · exact NK.out j (by omega) e)
        clear hcell hp hkz hbl he
        subst eA
        go_wp2_with fail
        go_round
        case rel => exact ⟨k + 1, by omega, by go_num, NK2⟩
        case measure => simp [intOf]; omega
    · obtain rfl : k = n := by omega
      have F := Lib.hid (show hasN ss s = false from hasN_no (NK.out.all HN.out))
      go_wp2_with fail
      go_ret
      exact ⟨by rw [F.out]; rfl, Below.refl _ _⟩

/-- What the draw of a rig for a law leaves. -/
def DrawnV (w : World) (e : Ending) (w' : World) : Prop :=
  ∃ (zs : List D) (q gr oz cc : Nat), zs.length = q ∧ Dr6.Rn zs ∧ e = .returned (.slice (some ⟨gr, oz, none⟩) q cc) ∧ Rd w' w'.heap.size (some ⟨gr, oz, none⟩) (dls zs) ∧ Below w.heap.size w w'
theorem drawV (w : World) (A : Option Addr) (n c : Nat) (bs : List UInt8) (hn : bs.length = n) (hb : n ≤ 4096) (hr : Rd w w.heap.size A (Draw.u8s bs)) :
    Calls Try.prog 6 #[.slice A n c] w (DrawnV w) :=
  (Dr6.drawR w A n c bs hn hb hr).mono fun e w' ⟨zs, q, gr, cc, h1, h2, h3, h4, h5⟩ => ⟨zs, q, gr, 0, cc, h1, h2, h3, Rd.own h4, h5⟩
end Go.Proofs.Ytgcheplneolonaa.Ha
