/- What the aim finds: where it lands, and that it is the jet that landed there. -/
import Derived.Test.YtgmgdjhldjjckaaAi
namespace Go.Proofs.Ytgmgdjhldjjckaa.Dr4
open Go.RowKit Go.Proofs.Ytgmgdjhldjjckaa.Cx Go.Proofs.Ytgmgdjhldjjckaa.Cm Go.Proofs.Ytgmgdjhldjjckaa.Pl Go.Proofs.Ytgmgdjhldjjckaa.Jt Go.Proofs.Ytgmgdjhldjjckaa.Dp
set_option linter.unusedVariables false
set_option linter.unusedSimpArgs false

theorem srQ_at {p : Nat → Bool} : ∀ (n k : Nat), srQ p n k < k + n → p (srQ p n k) = true := by
  intro n
  induction n with
  | zero => intro k h; unfold srQ at h; omega
  | succ n ih =>
    intro k h
    by_cases hp : p k = true
    · rw [srQ_yes (by omega) hp]; exact hp
    · rw [srQ_no (by omega) (by simpa using hp)] at h ⊢
      exact ih (k + 1) (by simp only [Nat.add_sub_cancel] at h; omega)
theorem srQ_le {p : Nat → Bool} : ∀ (n k m : Nat), k ≤ m → m < k + n → p m = true → srQ p n k ≤ m := by
  intro n
  induction n with
  | zero => intro k m h1 h2; omega
  | succ n ih =>
    intro k m h1 h2 hp
    by_cases hk : p k = true
    · rw [srQ_yes (by omega) hk]; exact h1
    · rw [srQ_no (by omega) (by simpa using hk)]
      refine ih (k + 1) m ?_ (by omega) hp
      rcases Nat.eq_or_lt_of_le h1 with rfl | h
      · exact absurd hp hk
      · exact h

theorem aq_at {ax ay u v l : Int} (h : aq ax ay u v l < 68) : pa ax ay u v l (aq ax ay u v l) = true := srQ_at 68 0 (by unfold aq at h; omega)
theorem pa_yes {ax ay u v l : Int} {q : Nat} (h : pa ax ay u v l q = true) :
    lB ax ay ((q / 17 : Nat) : Int) ((q % 17 : Nat) : Int) l = true ∧ lX ax ay ((q / 17 : Nat) : Int) ((q % 17 : Nat) : Int) l = u ∧ lY ax ay ((q / 17 : Nat) : Int) ((q % 17 : Nat) : Int) l = v := by
  unfold pa at h
  simpa using h
theorem txy_inj {h t h' t' : Nat} (hh : h < 4) (hh' : h' < 4) (e1 : tx h (t : Int) 0 = tx h' (t' : Int) 0) (e2 : ty h (t : Int) 0 = ty h' (t' : Int) 0) : t' = t ∧ (h' = h ∨ t = 0) := by
  rcases (by omega : h = 0 ∨ h = 1 ∨ h = 2 ∨ h = 3) with rfl | rfl | rfl | rfl <;>
  rcases (by omega : h' = 0 ∨ h' = 1 ∨ h' = 2 ∨ h' = 3) with rfl | rfl | rfl | rfl <;>
  simp only [tx, ty] at e1 e2 <;> omega
theorem txy_zero {h : Nat} (hh : h < 4) : tx h 0 0 = 0 ∧ ty h 0 0 = 0 := by
  rcases (by omega : h = 0 ∨ h = 1 ∨ h = 2 ∨ h = 3) with rfl | rfl | rfl | rfl <;> simp [tx, ty]
theorem lB_of {x y h t l : Int} (hj : jt x y h t l = true) : lB x y h t l = true := by
  have := (jt_iff.1 hj).2.2.2.2
  unfold lB inF
  rw [hj, fl_yes hj]
  simp [iw]; omega
theorem lX_of {x y h t l : Int} (hj : jt x y h t l = true) : lX x y h t l = x + (l + 1) * tx h.toNat t 0 := by
  have := (jt_iff.1 hj).2.2.2.2
  unfold lX wy; rw [lB_of hj, if_pos rfl, fl_yes hj, Int.toNat_of_nonneg (by omega)]
theorem lY_of {x y h t l : Int} (hj : jt x y h t l = true) : lY x y h t l = y + (l + 1) * ty h.toNat t 0 := by
  have := (jt_iff.1 hj).2.2.2.2
  unfold lY wy; rw [lB_of hj, if_pos rfl, fl_yes hj, Int.toNat_of_nonneg (by omega)]
theorem jt_of {x y h t l : Int} (hb : lB x y h t l = true) : jt x y h t l = true := by
  unfold lB inF at hb
  exact (Bool.and_eq_true_iff.1 hb).1

/-- What the law asks of an aim at where a valid jet lands. -/
theorem aim_back {x y h t l : Int} (hj : jt x y h t l = true) :
    aq x y (lX x y h t l) (lY x y h t l) l < 68 ∧ ((aq x y (lX x y h t l) (lY x y h t l) l % 17 : Nat) : Int) = t ∧ (((aq x y (lX x y h t l) (lY x y h t l) l / 17 : Nat) : Int) = h ∨ (t = 0 ∧ ((aq x y (lX x y h t l) (lY x y h t l) l / 17 : Nat) : Int) = 0)) := by
  obtain ⟨jx, jy, jh, jt', jl⟩ := jt_iff.1 hj
  have zh : ((h.toNat : Nat) : Int) = h := Int.toNat_of_nonneg (by omega)
  have zt : ((t.toNat : Nat) : Int) = t := Int.toNat_of_nonneg (by omega)
  have p1 : pa x y (lX x y h t l) (lY x y h t l) l (17 * h.toNat + t.toNat) = true := by
    rw [pa_at _ _ _ _ _ _ _ (by omega), zh, zt, lB_of hj]; simp
  have q1 : aq x y (lX x y h t l) (lY x y h t l) l ≤ 17 * h.toNat + t.toNat := srQ_le 68 0 _ (by omega) (by omega) p1
  have q2 : aq x y (lX x y h t l) (lY x y h t l) l < 68 := by omega
  obtain ⟨b1, b2, b3⟩ := pa_yes (aq_at q2)
  generalize hq : aq x y (lX x y h t l) (lY x y h t l) l = q at *
  have hj' := jt_of b1
  rw [lX_of hj', lX_of hj] at b2
  rw [lY_of hj', lY_of hj] at b3
  have e1 : tx (q / 17) ((q % 17 : Nat) : Int) 0 = tx h.toNat (t.toNat : Int) 0 := by
    rw [zt]; exact Int.eq_of_mul_eq_mul_left (by omega) (Int.add_left_cancel b2)
  have e2 : ty (q / 17) ((q % 17 : Nat) : Int) 0 = ty h.toNat (t.toNat : Int) 0 := by
    rw [zt]; exact Int.eq_of_mul_eq_mul_left (by omega) (Int.add_left_cancel b3)
  obtain ⟨i1, i2⟩ := txy_inj (by omega) (by omega) e1 e2
  refine ⟨q2, by omega, ?_⟩
  rcases i2 with i2 | i2
  · exact Or.inl (by omega)
  · have t0 : t = 0 := by omega
    refine Or.inr ⟨t0, ?_⟩
    subst t0
    have hj0 : jt x y 0 0 l = true := jt_iff.2 ⟨jx, jy, by omega, by omega, jl⟩
    have p0 : pa x y (lX x y h 0 l) (lY x y h 0 l) l (17 * 0 + 0) = true := by
      rw [pa_at _ _ _ _ _ _ _ (by omega), show (((0 : Nat)) : Int) = 0 from rfl, lB_of hj0, lX_of hj0, lY_of hj0, lX_of hj, lY_of hj, (txy_zero (by omega : h.toNat < 4)).1, (txy_zero (by omega : h.toNat < 4)).2]
      simp [tx, ty]
    have q0 : aq x y (lX x y h 0 l) (lY x y h 0 l) l ≤ 17 * 0 + 0 := srQ_le 68 0 _ (by omega) (by omega) p0
    omega

end Go.Proofs.Ytgmgdjhldjjckaa.Dr4
