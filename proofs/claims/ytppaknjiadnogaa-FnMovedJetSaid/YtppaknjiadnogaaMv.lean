/- Numbers behind the law of jets that are turned and moved. -/
import Derived.Test.YtppaknjiadnogaaTu
import Derived.Test.YtppaknjiadnogaaSh
import Derived.Test.YtppaknjiadnogaaFq
namespace Go.Proofs.Ytppaknjiadnogaa.Mv
open Go.RowKit Go.Proofs.Ytppaknjiadnogaa.Cm Go.Proofs.Ytppaknjiadnogaa.Pl Go.Proofs.Ytppaknjiadnogaa.Hd Go.Proofs.Ytppaknjiadnogaa.Jt Go.Proofs.Ytppaknjiadnogaa.Dp Go.Proofs.Ytppaknjiadnogaa.Dr4
set_option linter.unusedVariables false
set_option linter.unusedSimpArgs false

theorem four {m : Nat} (h : m < 4) : m = 0 ∨ m = 1 ∨ m = 2 ∨ m = 3 := by omega
theorem turn_lin {m : Nat} (hm : m < 4) (x y p q K : Int) :
    tx m (x + K * p) (y + K * q) = tx m x y + K * tx m p q ∧ ty m (x + K * p) (y + K * q) = ty m x y + K * ty m p q := by
  rcases four hm with rfl | rfl | rfl | rfl <;> refine ⟨?_, ?_⟩ <;> simp only [tx, ty, Int.mul_neg] <;> omega
theorem turn_way {h m : Nat} (hh : h < 4) (hm : m < 4) (t : Int) : tx ((h + m) % 4) t 0 = tx m (tx h t 0) (ty h t 0) ∧ ty ((h + m) % 4) t 0 = ty m (tx h t 0) (ty h t 0) := by
  rcases four hh with rfl | rfl | rfl | rfl <;> rcases four hm with rfl | rfl | rfl | rfl <;> refine ⟨?_, ?_⟩ <;> simp [tx, ty]
theorem turn_le {m : Nat} (hm : m < 4) {x y D : Int} (hx : -D ≤ x ∧ x ≤ D) (hy : -D ≤ y ∧ y ≤ D) : (-D ≤ tx m x y ∧ tx m x y ≤ D) ∧ (-D ≤ ty m x y ∧ ty m x y ≤ D) := by
  rcases four hm with rfl | rfl | rfl | rfl <;> simp only [tx, ty] <;> omega
theorem th_nat {h n : Int} (hh : 0 ≤ h ∧ h ≤ 3) : (th h n).toNat = (h.toNat + (n % 4).toNat) % 4 ∧ 0 ≤ th h n ∧ th h n ≤ 3 := by
  have e : th h n = (h + n) % 4 := by unfold th; first | rfl | (rw [hd_mk hh]; rfl) | (simp [hd_mk hh])
  rw [e]; omega
/-- A jet that is turned is one. -/
theorem jt_turned {x y h t l : Int} (n : Int) (hj : jt x y h t l = true) : jt (tx (n % 4).toNat x y) (ty (n % 4).toNat x y) (th h n) t l = true := by
  obtain ⟨hx, hy, hh, ht, hl⟩ := jt_iff.1 hj
  have := turn_le (m := (n % 4).toNat) (by omega) hx hy
  exact jt_iff.2 ⟨this.1, this.2, (th_nat hh).2, ht, hl⟩
/-- Its drop's places are turned. -/
theorem wy_turned {x y h t l : Int} (n : Int) (hj : jt x y h t l = true) (k : Nat) :
    wy (tx (n % 4).toNat x y) (tx (th h n).toNat t 0) k = tx (n % 4).toNat (wy x (tx h.toNat t 0) k) (wy y (ty h.toNat t 0) k) ∧
    wy (ty (n % 4).toNat x y) (ty (th h n).toNat t 0) k = ty (n % 4).toNat (wy x (tx h.toNat t 0) k) (wy y (ty h.toNat t 0) k) := by
  obtain ⟨hx, hy, hh, ht, hl⟩ := jt_iff.1 hj
  have hm : (n % 4).toNat < 4 := by omega
  have hh4 : h.toNat < 4 := by omega
  obtain ⟨a, b⟩ := turn_way hh4 hm t
  rw [(th_nat hh).1, a, b]
  unfold wy
  obtain ⟨c, d⟩ := turn_lin hm x y (tx h.toNat t 0) (ty h.toNat t 0) (k : Int)
  exact ⟨c.symm, d.symm⟩
/-- A jet that is moved: its drop's places are moved. -/
theorem wy_moved (x a p : Int) (k : Nat) : wy (x + a) p k = wy x p k + a := by unfold wy; omega

end Go.Proofs.Ytppaknjiadnogaa.Mv
