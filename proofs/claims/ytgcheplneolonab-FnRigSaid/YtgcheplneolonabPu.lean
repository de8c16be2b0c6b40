/- PumpOf of the program and of the model. -/
import Derived.Test.YtgcheplneolonabIr
import Derived.Test.YtgcheplneolonabIq
namespace Go.Proofs.Ytgcheplneolonab.Pu
open Go.RowKit Go.ChangeShapes Go.WideShapes Go.WideElems Go.Deep Go.Proofs.Ytgcheplneolonab.Mem Go.Proofs.Ytgcheplneolonab.Rw Go.Proofs.Ytgcheplneolonab.Pw Go.Proofs.Ytgcheplneolonab.P2 Go.Proofs.Ytgcheplneolonab.Dd Go.Proofs.Ytgcheplneolonab.Dv Go.Proofs.Ytgcheplneolonab.Dl Go.Proofs.Ytgcheplneolonab.Ds Go.Proofs.Ytgcheplneolonab.Fd Go.Proofs.Ytgcheplneolonab.Ch Go.Proofs.Ytgcheplneolonab.Hn Go.Proofs.Ytgcheplneolonab.Po
set_option linter.unusedVariables false
set_option linter.unusedSimpArgs false
open Go.Proofs.Ytgcheplneolonab.Ho Go.Proofs.Ytgcheplneolonab.Pa Go.Proofs.Ytgcheplneolonab.Di Go.Proofs.Ytgcheplneolonab.Ig Go.Proofs.Ytgcheplneolonab.Ir Go.Proofs.Ytgcheplneolonab.Iq Go.Proofs.Ytgcheplneolonab.IsName

/-- The pump on which a device hangs, over so many lines. -/
def pmp (zs : List D) : Nat → D → ByteArray
  | 0, d => d.nm
  | f + 1, d => match zs[(fd zs d.ln).toNat]? with | some e => pmp zs f e | none => d.nm
/-- The pump of a name. -/
noncomputable def pumpV (zs : List D) (s : ByteArray) : ByteArray :=
  if rig zs = true then (if fd zs s < 0 then ⟨#[]⟩ else match zs[(fd zs s).toNat]? with | some d => pmp zs (d.kd - 1).toNat d | none => ⟨#[]⟩) else ⟨#[]⟩
theorem name_full {s : ByteArray} (h : nameB s = true) : (s.toList == []) = false := by
  unfold nameB at h
  have h1 := (@of_decide_eq_true _ (Classical.propDecidable _) h).1
  rw [ByteArray.toList_eq]
  have : s.data.toList.length = s.size := by simp
  cases e : s.data.toList with
  | nil => rw [e] at this; simp at this; omega
  | cons a r => rfl
theorem line_full {n l : ByteArray} (h : lineB n l = true) : (l.toList == []) = false := by
  unfold lineB at h
  rw [Bool.and_eq_true] at h
  exact name_full h.1
/-- What a device of a rig is. -/
theorem kinds {zs : List D} (H : Rig zs) {j : Nat} {d : D} (hd : zs[j]? = some d) :
    (d.kd = 1 ∧ (d.ln.toList == []) = true) ∨ ((d.kd = 2 ∨ d.kd = 3) ∧ (d.ln.toList == []) = false ∧ ∃ (q : Nat) (e : D), fd zs d.ln = (q : Int) ∧ zs[q]? = some e ∧ e.kd = d.kd - 1) := by
  obtain ⟨h1, _, h3⟩ := H.2 j d hd
  unfold dB devB at h1
  rw [Bool.and_eq_true] at h1
  by_cases k1 : d.kd = 1
  · rw [if_pos k1] at h1
    unfold pumpB at h1
    rw [Bool.and_eq_true, Bool.and_eq_true] at h1
    refine Or.inl ⟨k1, ?_⟩
    have h2 := h1.2.2.1
    unfold sb at h2
    rw [show (⟨#[]⟩ : ByteArray).toList = [] by simp [ByteArray.toList_eq]] at h2
    exact h2
  have fin : ∀ q : Int, kAt zs (fd zs d.ln) q = true → ∃ (p : Nat) (e : D), fd zs d.ln = (p : Int) ∧ zs[p]? = some e ∧ e.kd = q := by
    intro q hq
    rcases fd_cases zs d.ln with hf | ⟨p, hf, _, e, he, _⟩
    · rw [hf, kAt_no] at hq; cases hq
    · rw [hf, kAt_yes he] at hq
      exact ⟨p, e, hf, he, by simpa using hq⟩
  by_cases k2 : d.kd = 2
  · rw [if_neg k1, if_pos k2] at h1
    rw [k2, hgV_2] at h3
    unfold nozB at h1
    rw [Bool.and_eq_true] at h1
    exact Or.inr ⟨Or.inl k2, line_full h1.2.1, by rw [k2]; exact fin 1 h3⟩
  by_cases k3 : d.kd = 3
  · rw [if_neg k1, if_neg k2, if_pos k3] at h1
    rw [k3, hgV_3] at h3
    unfold lampB at h1
    rw [Bool.and_eq_true] at h1
    exact Or.inr ⟨Or.inr k3, line_full h1.2.1, by rw [k3]; exact fin 2 h3⟩
  · rw [if_neg k1, if_neg k2, if_neg k3] at h1
    cases h1.2
/-- The chase has come to this device. -/
def At (zs : List D) (r : ByteArray) (j : Nat) (d : D) : Prop := zs[j]? = some d ∧ (d.kd = 1 ∨ d.kd = 2 ∨ d.kd = 3) ∧ pmp zs (d.kd - 1).toNat d = r
theorem at_first {zs : List D} {s : ByteArray} (H : Rig zs) {j : Nat} {d : D} (hf : fd zs s = (j : Int)) (hd : zs[j]? = some d) : At zs (pumpV zs s) j d := by
  refine ⟨hd, ?_, ?_⟩
  · rcases kinds H hd with ⟨k, _⟩ | ⟨k, _⟩ <;> omega
  · unfold pumpV
    rw [if_pos (rig_yes H), hf, if_neg (by omega), Int.toNat_natCast, hd]
theorem at_pump {zs : List D} {r : ByteArray} {j : Nat} {d : D} (h : At zs r j d) (hk : d.kd = 1) : d.nm = r := by
  have := h.2.2
  rw [hk] at this
  exact this
theorem at_next {zs : List D} {r : ByteArray} (H : Rig zs) {j : Nat} {d : D} (h : At zs r j d) (hk : d.kd ≠ 1) : ∃ (q : Nat) (e : D), fd zs d.ln = (q : Int) ∧ At zs r q e ∧ e.kd < d.kd := by
  rcases kinds H h.1 with ⟨k, _⟩ | ⟨k, _, q, e, hf, he, hke⟩
  · exact absurd k hk
  · refine ⟨q, e, hf, ⟨he, by omega, ?_⟩, by omega⟩
    have := h.2.2
    rw [show (d.kd - 1).toNat = (e.kd - 1).toNat + 1 by omega] at this
    unfold pmp at this
    rw [hf, Int.toNat_natCast, he] at this
    exact this
/-- How far the chase still is. -/
def far (zs : List D) (v : Value) : Nat := (((zs[(intOf v).toNat]?).map D.kd).getD 0).toNat
theorem far_at {zs : List D} {j : Nat} {d : D} (h : zs[j]? = some d) : far zs (.int .i64 (j : Int)) = d.kd.toNat := by
  unfold far; simp only [intOf, Int.toNat_natCast, h, Option.map_some, Option.getD_some]
theorem ret_str {a b : ByteArray} (h : a = b) : Ending.returned (.string a) = .returned (.string b) := by rw [h]
/-- The cells of a device of a list. -/
theorem dcells {W : World} {B : Nat} {b o : Nat} {zs : List D} {A : Option Addr} (h : Rd W B A (dls zs)) (eA : A = some ⟨b, o, none⟩) {j : Nat} {d : D} (hd : zs[j]? = some d) :
    W.cell? ⟨b, o + j * 8, none⟩ = some (.string d.nm) ∧ W.cell? ⟨b, o + j * 8 + 1, none⟩ = some (.int .i64 d.kd) ∧ W.cell? ⟨b, o + j * 8 + 2, none⟩ = some (.string d.ln) := by
  obtain ⟨b', o', e, _, hc⟩ := h.get (k := j * 8) (by rw [dls_len]; have := (List.getElem?_eq_some_iff.1 hd).1; omega)
  rw [eA] at e
  injection e with e
  injection e with e1 e2
  subst e1 e2
  have z := dls_get hd
  refine ⟨hc _ _ z.1, ?_, ?_⟩
  · rw [Nat.add_assoc]; exact hc _ _ z.2.1
  · rw [Nat.add_assoc]; exact hc _ _ z.2.2.1

end Go.Proofs.Ytgcheplneolonab.Pu
