/- What the program's drop is behind each tick, and when it is down, or rises no more. -/
import Derived.Test.YtejeikfgmiadhabDp
set_option linter.unusedVariables false
set_option linter.unusedSimpArgs false
namespace Go.Proofs.Ytejeikfgmiadhab.Dp
open Go.RowKit Go.Proofs.Ytejeikfgmiadhab.Cx Go.Proofs.Ytejeikfgmiadhab.Cm Go.Proofs.Ytejeikfgmiadhab.Pl Go.Proofs.Ytejeikfgmiadhab.Str Go.Proofs.Ytejeikfgmiadhab.Pw Go.Proofs.Ytejeikfgmiadhab.P2 Go.Proofs.Ytejeikfgmiadhab.Hd Go.Proofs.Ytejeikfgmiadhab.Sf Go.Proofs.Ytejeikfgmiadhab.Jt
set_option linter.unusedVariables false
set_option linter.unusedSimpArgs false

/-- The height behind k ticks. -/
def hg (l : Int) (k : Nat) : Int := (k : Int) * (l + 1 - k)
theorem hg_succ (l : Int) (k : Nat) : hg l k + (l - 2 * k) = hg l (k + 1) := by
  unfold hg
  have e : (((k + 1 : Nat) : Int)) = (k : Int) + 1 := by omega
  rw [e]
  generalize (k : Int) = m
  have h1 : (m + 1) * (l + 1 - (m + 1)) = m * (l + 1 - (m + 1)) + (l + 1 - (m + 1)) := by rw [Int.add_mul, Int.one_mul]
  have h2 : m * (l + 1 - (m + 1)) = m * (l + 1 - m) - m := by
    rw [show l + 1 - (m + 1) = (l + 1 - m) - 1 by omega, Int.mul_sub, Int.mul_one]
  rw [h1, h2]; omega
theorem hg_zero (l : Int) : hg l 0 = 0 := by unfold hg; simp
theorem hg_end {l : Int} {k : Nat} (h : (k : Int) = l + 1) : hg l k = 0 := by unfold hg; rw [h]; simp
theorem hg_nonneg {l : Int} {k : Nat} (h : (k : Int) ≤ l + 1) : 0 ≤ hg l k := Int.mul_nonneg (by omega) (by omega)
theorem hg_pos {l : Int} {k : Nat} (h0 : 1 ≤ k) (h : (k : Int) ≤ l) : 0 < hg l k := Int.mul_pos (by omega) (by omega)
theorem hg_le {l : Int} {k : Nat} (h : (k : Int) ≤ l + 1) (hl : l ≤ 32) : hg l k ≤ 1089 :=
  Int.le_trans (Int.mul_le_mul (a := (k : Int)) (b := l + 1 - k) (c := 33) (d := 33) (by omega) (by omega) (by omega) (by omega)) (by omega)

/-- Where it is behind k ticks. -/
def wy (X P : Int) (k : Nat) : Int := X + (k : Int) * P
theorem wy_zero (X P : Int) : wy X P 0 = X := by unfold wy; simp
theorem wy_succ (X P : Int) (k : Nat) : wy X P k + P = wy X P (k + 1) := by
  unfold wy
  rw [show (((k + 1 : Nat) : Int)) = (k : Int) + 1 by omega, Int.add_mul, Int.one_mul]; omega
theorem wy_le {X P : Int} {k : Nat} (hX : -1024 ≤ X ∧ X ≤ 1024) (hP : -16 ≤ P ∧ P ≤ 16) (hk : k ≤ 33) : -1552 ≤ wy X P k ∧ wy X P k ≤ 1552 := by
  unfold wy
  have h1 : (k : Int) * P ≤ (k : Int) * 16 := Int.mul_le_mul_of_nonneg_left hP.2 (by omega)
  have h2 : (k : Int) * (-16) ≤ (k : Int) * P := Int.mul_le_mul_of_nonneg_left hP.1 (by omega)
  omega

/-- What a drop of this jet is behind k ticks. -/
def At (w : World) (b : Nat) (X Y P Q l : Int) (k : Nat) : Prop := Fly w b (wy X P k) (wy Y Q k) P Q (hg l k) (l - 2 * k)

structure Ok (X Y P Q l : Int) : Prop where
  x : -1024 ≤ X ∧ X ≤ 1024
  y : -1024 ≤ Y ∧ Y ≤ 1024
  p : -16 ≤ P ∧ P ≤ 16
  q : -16 ≤ Q ∧ Q ≤ 16
  l : 1 ≤ l ∧ l ≤ 32

theorem At.tick {w : World} {b : Nat} {X Y P Q l : Int} {k : Nat} (o : Ok X Y P Q l) (h : At w b X Y P Q l k) (hk : (k : Int) ≤ l + 1) :
    Calls Try.prog 72 #[.pointer (some ⟨b, 0, none⟩)] w fun e w' => e = .returned (.tuple #[]) ∧ At w' b X Y P Q l (k + 1) ∧ w.grownBy w' (some b) := by
  have b1 := wy_le (k := k) o.x o.p (by have := o.l; omega)
  have b2 := wy_le (k := k) o.y o.q (by have := o.l; omega)
  have b3 := hg_le hk o.l.2
  have b4 := hg_nonneg hk
  have hp := o.p
  have hq := o.q
  have hl := o.l
  refine (fly h (by omega) (by omega) (by omega) (by omega) (by omega) (by omega)).mono fun e w' r => ⟨r.1, ?_, r.2.2⟩
  have := r.2.1
  rw [wy_succ, wy_succ, hg_succ] at this
  unfold At
  rw [show l - 2 * (((k + 1 : Nat) : Int)) = l - 2 * (k : Int) - 2 by omega]
  exact this

theorem leq0 {n : Int} {x : Nat} (hn : n.natAbs < 16777216) (h : I32 n x) : (FloatKind.f32.format.order x 0 == some .lt || FloatKind.f32.format.order x 0 == some .eq) = decide (n ≤ 0) := by
  have o : FloatKind.f32.format.order x 0 = some (compare n 0) := order_is (s32 n hn) (s32 0 (by decide)) h i32_0
  rw [o]
  rcases (by omega : n < 0 ∨ n = 0 ∨ 0 < n) with c | c | c
  · rw [Meas.cmp_lt c, decide_eq_true (by omega)]; rfl
  · rw [Meas.cmp_eq c, decide_eq_true (by omega)]; rfl
  · rw [Meas.cmp_gt c, decide_eq_false (by omega)]; rfl

theorem isDown {w : World} {b : Nat} {X Y P Q H S : Int} {c : Bool} (k : Fly w b X Y P Q H S) (hn : H.natAbs < 16777216) (hc : decide (H ≤ 0) = c) :
    Calls Try.prog 73 #[.pointer (some ⟨b, 0, none⟩)] w fun e w' => e = .returned (.bool c) ∧ w = w' := by
  obtain ⟨x, y, p, q, h, s, hD, i1, i2, i3, i4, i5, i6⟩ := k
  have c0 := hD.c2
  have o := leq0 hn i5
  rw [hc] at o
  clear hD i1 i2 i3 i4 i5 i6 hc hn
  go_enter Try.func73, Try.ntmps73
  go_wp2
  go_returns
  exact ⟨rfl, rfl⟩

end Go.Proofs.Ytejeikfgmiadhab.Dp
