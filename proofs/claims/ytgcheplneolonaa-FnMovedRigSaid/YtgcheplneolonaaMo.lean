/- Rigs that are turned or moved: the devices, and the model's list of them. -/
import Derived.Test.YtgcheplneolonaaIr
import Derived.Test.YtgcheplneolonaaHdS
namespace Go.Proofs.Ytgcheplneolonaa.Mo
open Go.RowKit Go.ChangeShapes Go.WideShapes Go.WideElems Go.Deep Go.Proofs.Ytgcheplneolonaa.Mem Go.Proofs.Ytgcheplneolonaa.Rw Go.Proofs.Ytgcheplneolonaa.Pw Go.Proofs.Ytgcheplneolonaa.P2 Go.Proofs.Ytgcheplneolonaa.Dd Go.Proofs.Ytgcheplneolonaa.Dv Go.Proofs.Ytgcheplneolonaa.Dl Go.Proofs.Ytgcheplneolonaa.Ds Go.Proofs.Ytgcheplneolonaa.Fd Go.Proofs.Ytgcheplneolonaa.Ch Go.Proofs.Ytgcheplneolonaa.Hn Go.Proofs.Ytgcheplneolonaa.Po
set_option linter.unusedVariables false
set_option linter.unusedSimpArgs false
open Go.Proofs.Ytgcheplneolonaa.Cm Go.Proofs.Ytgcheplneolonaa.Pl Go.Proofs.Ytgcheplneolonaa.Str Go.Proofs.Ytgcheplneolonaa.Hd Go.Proofs.Ytgcheplneolonaa.Jt Go.Proofs.Ytgcheplneolonaa.Ho Go.Proofs.Ytgcheplneolonaa.Pa Go.Proofs.Ytgcheplneolonaa.Di Go.Proofs.Ytgcheplneolonaa.Ig Go.Proofs.Ytgcheplneolonaa.Ir Go.Proofs.Ytgcheplneolonaa.IsName
open Go.Proofs.Ytgcheplneolonaa.Rw (owns_below owns_grown)

/-- A device that is turned and moved. -/
def mvD (n a b : Int) (d : D) : D := if d.kd = 1 then d else ⟨d.nm, d.kd, d.ln, tx (n % 4).toNat d.x d.y + a, ty (n % 4).toNat d.x d.y + b, if d.kd = 2 then th d.hd n else d.hd, d.tl, d.ms⟩
theorem mvD_1 {n a b : Int} {d : D} (h : d.kd = 1) : mvD n a b d = d := by unfold mvD; rw [if_pos h]
theorem mvD_o {n a b : Int} {d : D} (h : d.kd ≠ 1) : mvD n a b d = ⟨d.nm, d.kd, d.ln, tx (n % 4).toNat d.x d.y + a, ty (n % 4).toNat d.x d.y + b, if d.kd = 2 then th d.hd n else d.hd, d.tl, d.ms⟩ := by unfold mvD; rw [if_neg h]
def AllV (n a b : Int) (zs : List D) : Prop := ∀ (k : Nat) (d : D), zs[k]? = some d → dB (mvD n a b d) = true
noncomputable def mvB (n a b : Int) (zs : List D) : Bool := @decide (AllV n a b zs) (Classical.propDecidable _)
theorem mvB_yes {n a b : Int} {zs : List D} (h : AllV n a b zs) : mvB n a b zs = true := by unfold mvB; exact @decide_eq_true _ (Classical.propDecidable _) h
theorem mvB_no {n a b : Int} {zs : List D} (h : ¬ AllV n a b zs) : mvB n a b zs = false := by unfold mvB; exact @decide_eq_false _ (Classical.propDecidable _) h
noncomputable def mvL (n a b : Int) (zs : List D) : List D := if mvB n a b zs = true then zs.map (mvD n a b) else []
theorem mvL_len (n a b : Int) (zs : List D) : (mvL n a b zs).length ≤ zs.length := by unfold mvL; split <;> simp
/-- The places of a valid device that is no pump. -/
theorem dB_place {d : D} (h : dB d = true) (h1 : d.kd ≠ 1) : (-4096 ≤ d.x ∧ d.x ≤ 4096) ∧ (-4096 ≤ d.y ∧ d.y ≤ 4096) := by
  unfold dB devB at h
  rw [Bool.and_eq_true, if_neg h1] at h
  by_cases h2 : d.kd = 2
  · rw [if_pos h2] at h
    unfold nozB at h
    rw [Bool.and_eq_true, Bool.and_eq_true] at h
    have := jt_iff.1 h.2.2.1
    omega
  · rw [if_neg h2] at h
    by_cases h3 : d.kd = 3
    · rw [if_pos h3] at h
      unfold lampB at h
      rw [Bool.and_eq_true, Bool.and_eq_true] at h
      exact pl_yes h.2.2.1
    · rw [if_neg h3] at h; cases h.2
theorem dB_kinds {d : D} (h : dB d = true) : d.kd = 1 ∨ d.kd = 2 ∨ d.kd = 3 := by
  unfold dB devB at h
  rw [Bool.and_eq_true] at h
  by_cases h1 : d.kd = 1
  · exact Or.inl h1
  by_cases h2 : d.kd = 2
  · exact Or.inr (Or.inl h2)
  by_cases h3 : d.kd = 3
  · exact Or.inr (Or.inr h3)
  · rw [if_neg h1, if_neg h2, if_neg h3] at h; cases h.2
theorem th_in {h n : Int} (e : hd h = true) : hd (th h n) = true := by
  unfold th; rw [if_pos e]; exact hd_mk (by omega)
/-- A valid device that is turned is valid. -/
theorem dB_turned (n : Int) {d : D} (h : dB d = true) : dB (mvD n 0 0 d) = true := by
  by_cases h1 : d.kd = 1
  · rw [mvD_1 h1]; exact h
  · rw [mvD_o h1]
    unfold dB devB at h ⊢
    simp only [] at h ⊢
    rw [Bool.and_eq_true] at h ⊢
    refine ⟨h.1, ?_⟩
    have h := h.2
    rw [if_neg h1] at h ⊢
    by_cases h2 : d.kd = 2
    · rw [if_pos h2] at h ⊢
      unfold nozB at h ⊢
      rw [Bool.and_eq_true, Bool.and_eq_true] at h ⊢
      refine ⟨h.1, ?_, h.2.2⟩
      have hj := jt_iff.1 h.2.1
      have b1 := txle (k := (n % 4).toNat) hj.1 hj.2.1
      have b2 := tyle (k := (n % 4).toNat) hj.1 hj.2.1
      have b3 := hd_yes (th_in (n := n) (hd_mk hj.2.2.1))
      rw [if_pos h2]
      exact jt_iff.2 (by omega)
    · rw [if_neg h2] at h ⊢
      by_cases h3 : d.kd = 3
      · rw [if_pos h3] at h ⊢
        unfold lampB at h ⊢
        rw [Bool.and_eq_true, Bool.and_eq_true] at h ⊢
        have hp := pl_yes h.2.1
        have b1 := txle (k := (n % 4).toNat) hp.1 hp.2
        have b2 := tyle (k := (n % 4).toNat) hp.1 hp.2
        rw [if_neg h2]
        exact ⟨h.1, pl_mk (by omega) (by omega), h.2.2⟩
      · rw [if_neg h3] at h; cases h

/-- A list of the call's own that holds these devices. -/
def RowD (w : World) (ds : List D) (e : Ending) (w' : World) : Prop :=
  ∃ g c, e = .returned (.slice (some ⟨g, 0, none⟩) ds.length c) ∧ w'.ownsRow w.heap.size 31 8 (.slice (some ⟨g, 0, none⟩) ds.length c) ds.length (dls ds) ∧ Below w.heap.size w w'
/-- .. and whether it has all of them. -/
def RowB (w : World) (ds : List D) (r : Bool) (e : Ending) (w' : World) : Prop :=
  ∃ g c, e = .returned (.tuple #[.slice (some ⟨g, 0, none⟩) ds.length c, .bool r]) ∧ w'.ownsRow w.heap.size 31 8 (.slice (some ⟨g, 0, none⟩) ds.length c) ds.length (dls ds) ∧ Below w.heap.size w w'
theorem own_mk {w : World} {base n : Nat} {v : Value} {xs : List Value} (h : w.ownsRow base 31 8 v (n + 1) xs) : ∃ g c, v = .slice (some ⟨g, 0, none⟩) (n + 1) c := by
  rcases h.2 with ⟨_, e⟩ | ⟨g, cap, cur, e, _⟩
  · omega
  · exact ⟨g, cap, e⟩
theorem own_drew {w : World} {base n : Nat} {v : Value} {xs : List Value} (h : w.ownsRow base 31 8 v n xs) : w.drew.ownsRow base 31 8 v n xs := ⟨h.1, h.2⟩
theorem own_base {w : World} {base n : Nat} {v : Value} {xs : List Value} (h : w.ownsRow base 31 8 v n xs) : ∀ k, v.ownBlock = some k → base ≤ k := fun k e => (h.lt k e).1

end Go.Proofs.Ytgcheplneolonaa.Mo
