/- PumpOf of the program and of the model. -/
import Derived.Test.YtokncfhpmjohdabGreatIr
import Derived.Test.YtokncfhpmjohdabGreatM10
set_option linter.unusedVariables false
set_option linter.unusedSimpArgs false
namespace Go.Proofs.YtokncfhpmjohdabGreat.Pu
open Go.RowKit Go.ChangeShapes Go.WideShapes Go.WideElems Go.Deep Go.Proofs.YtokncfhpmjohdabGreat.Mem Go.Proofs.YtokncfhpmjohdabGreat.Rw Go.Proofs.YtokncfhpmjohdabGreat.Pw Go.Proofs.YtokncfhpmjohdabGreat.P2 Go.Proofs.YtokncfhpmjohdabGreat.Dd Go.Proofs.YtokncfhpmjohdabGreat.Dv Go.Proofs.YtokncfhpmjohdabGreat.Dl Go.Proofs.YtokncfhpmjohdabGreat.Ds Go.Proofs.YtokncfhpmjohdabGreat.Fd Go.Proofs.YtokncfhpmjohdabGreat.Ch Go.Proofs.YtokncfhpmjohdabGreat.Hn Go.Proofs.YtokncfhpmjohdabGreat.Po
set_option linter.unusedVariables false
set_option linter.unusedSimpArgs false
open Go.Proofs.YtokncfhpmjohdabGreat.Ho Go.Proofs.YtokncfhpmjohdabGreat.Pa Go.Proofs.YtokncfhpmjohdabGreat.Di Go.Proofs.YtokncfhpmjohdabGreat.Ig Go.Proofs.YtokncfhpmjohdabGreat.Ir Go.Proofs.YtokncfhpmjohdabGreat.Iq Go.Proofs.YtokncfhpmjohdabGreat.IsName

/-- The pump on which a device hangs, over so many lines. -/
def pmp (zs : List D) : Nat → D → ByteArray
  | 0, d => d.nm
  | f + 1, d => match zs[(fd zs d.ln).toNat]? with | some e => pmp zs f e | none => d.nm
theorem name_full {s : ByteArray} (h : nameB s = true) : (s.toList == []) = false := by
  unfold nameB at h
  have h1 := (@of_decide_eq_true _ (Classical.propDecidable _) h).1
  rw [ByteArray.toList_eq]
  have : s.data.toList.length = s.size := by simp
  cases e : s.data.toList with
  | nil => rw [e] at this; simp at this; omega
  | cons a r => rfl
theorem line_full {n l : ByteArray} (h : lineB n l = true) : (l.toList == []) = false := by
  unfold lineB at h
  rw [Bool.and_eq_true] at h
  exact name_full h.1
/-- What a device of a rig is. -/
theorem kinds {zs : List D} (H : Rig zs) {j : Nat} {d : D} (hd : zs[j]? = some d) :
    (d.kd = 1 ∧ (d.ln.toList == []) = true) ∨ ((d.kd = 2 ∨ d.kd = 3) ∧ (d.ln.toList == []) = false ∧ ∃ (q : Nat) (e : D), fd zs d.ln = (q : Int) ∧ zs[q]? = some e ∧ e.kd = d.kd - 1) := by
  obtain ⟨h1, _, h3⟩ := H.2 j d hd
  unfold dB devB at h1
  rw [Bool.and_eq_true] at h1
  by_cases k1 : d.kd = 1
  · rw [if_pos k1] at h1
    unfold pumpB at h1
    rw [Bool.and_eq_true, Bool.and_eq_true] at h1
    refine Or.inl ⟨k1, ?_⟩
    have h2 := h1.2.2.1
    unfold sb at h2
    rw [show (⟨#[]⟩ : ByteArray).toList = [] by simp [ByteArray.toList_eq]] at h2
    exact h2
  have fin : ∀ q : Int, kAt zs (fd zs d.ln) q = true → ∃ (p : Nat) (e : D), fd zs d.ln = (p : Int) ∧ zs[p]? = some e ∧ e.kd = q := by
    intro q hq
    rcases fd_cases zs d.ln with hf | ⟨p, hf, _, e, he, _⟩
    · rw [hf, kAt_no] at hq; cases hq
    · rw [hf, kAt_yes he] at hq
      exact ⟨p, e, hf, he, by simpa using hq⟩
  by_cases k2 : d.kd = 2
  · rw [if_neg k1, if_pos k2] at h1
    rw [k2, hgV_2] at h3
    unfold nozB at h1
    rw [Bool.and_eq_true] at h1
    exact Or.inr ⟨Or.inl k2, line_full h1.2.1, by rw [k2]; exact fin 1 h3⟩
  by_cases k3 : d.kd = 3
  · rw [if_neg k1, if_neg k2, if_pos k3] at h1
    rw [k3, hgV_3] at h3
    unfold lampB at h1
    rw [Bool.and_eq_true] at h1
    exact Or.inr ⟨Or.inr k3, line_full h1.2.1, by rw [k3]; exact fin 2 h3⟩
  · rw [if_neg k1, if_neg k2, if_neg k3] at h1
    cases h1.2
/-- The chase has come to this device. -/
def At (zs : List D) (r : ByteArray) (j : Nat) (d : D) : Prop := zs[j]? = some d ∧ (d.kd = 1 ∨ d.kd = 2 ∨ d.kd = 3) ∧ pmp zs (d.kd - 1).toNat d = r
/-- How far the chase still is. -/
def far (zs : List D) (v : Value) : Nat := (((zs[(intOf v).toNat]?).map D.kd).getD 0).toNat
end Go.Proofs.YtokncfhpmjohdabGreat.Pu
namespace Go.Proofs.YtokncfhpmjohdabGreat.Sl
open Go.RowKit Go.ChangeShapes Go.WideShapes Go.WideElems Go.Deep Go.Proofs.YtokncfhpmjohdabGreat.Mem Go.Proofs.YtokncfhpmjohdabGreat.Rw Go.Proofs.YtokncfhpmjohdabGreat.Pw Go.Proofs.YtokncfhpmjohdabGreat.P2 Go.Proofs.YtokncfhpmjohdabGreat.Dd Go.Proofs.YtokncfhpmjohdabGreat.Dv Go.Proofs.YtokncfhpmjohdabGreat.Dl Go.Proofs.YtokncfhpmjohdabGreat.Ds Go.Proofs.YtokncfhpmjohdabGreat.Fd Go.Proofs.YtokncfhpmjohdabGreat.Ch Go.Proofs.YtokncfhpmjohdabGreat.Hn Go.Proofs.YtokncfhpmjohdabGreat.Po
set_option linter.unusedVariables false
set_option linter.unusedSimpArgs false
open Go.Proofs.YtokncfhpmjohdabGreat.Ho Go.Proofs.YtokncfhpmjohdabGreat.Pa Go.Proofs.YtokncfhpmjohdabGreat.Di Go.Proofs.YtokncfhpmjohdabGreat.Ig Go.Proofs.YtokncfhpmjohdabGreat.Ir Go.Proofs.YtokncfhpmjohdabGreat.Iq Go.Proofs.YtokncfhpmjohdabGreat.IsName Go.Proofs.YtokncfhpmjohdabGreat.Pu

theorem toList_inj {a b : ByteArray} (h : a.toList = b.toList) : a = b := by
  rw [ByteArray.toList_eq, ByteArray.toList_eq] at h
  obtain ⟨⟨x⟩⟩ := a
  obtain ⟨⟨y⟩⟩ := b
  simp at h
  rw [h]
end Go.Proofs.YtokncfhpmjohdabGreat.Sl
