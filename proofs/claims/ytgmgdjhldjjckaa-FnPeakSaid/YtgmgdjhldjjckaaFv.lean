/- The least lift for a height, of the program and of the model. -/
import Derived.Test.YtgmgdjhldjjckaaFs
namespace Go.Proofs.Ytgmgdjhldjjckaa.Dp
open Go.RowKit Go.Proofs.Ytgmgdjhldjjckaa.Cx Go.Proofs.Ytgmgdjhldjjckaa.Cm Go.Proofs.Ytgmgdjhldjjckaa.Pl Go.Proofs.Ytgmgdjhldjjckaa.Str Go.Proofs.Ytgmgdjhldjjckaa.Pw Go.Proofs.Ytgmgdjhldjjckaa.P2 Go.Proofs.Ytgmgdjhldjjckaa.Hd Go.Proofs.Ytgmgdjhldjjckaa.Sf Go.Proofs.Ytgmgdjhldjjckaa.Jt
set_option linter.unusedVariables false
set_option linter.unusedSimpArgs false

/-- The first k from the one given on, within so many, at which p holds; 0 if there is none. -/
def srch (p : Nat → Bool) : Nat → Nat → Nat
  | 0, _ => 0
  | n + 1, k => if p k then k else srch p n (k + 1)
theorem srch_yes {p : Nat → Bool} {n k : Nat} (h : 0 < n) (hp : p k = true) : srch p n k = k := by
  obtain ⟨m, rfl⟩ : ∃ m, n = m + 1 := ⟨n - 1, by omega⟩
  unfold srch; rw [if_pos hp]
theorem srch_no {p : Nat → Bool} {n k : Nat} (h : 0 < n) (hp : p k = false) : srch p n k = srch p (n - 1) (k + 1) := by
  obtain ⟨m, rfl⟩ : ∃ m, n = m + 1 := ⟨n - 1, by omega⟩
  rw [srch, if_neg (by rw [hp]; decide)]; rfl

/-- The height of the peak of this lift. -/
def hp (k : Nat) : Int := ha 0 0 0 0 (k : Int) (pk 0 0 0 0 (k : Int))
def lf (a : Int) : Nat := srch (fun k => decide (a ≤ hp k)) 32 1
def lfB (a : Int) : Bool := decide (lf a ≠ 0)
def liftV (a : Int) : Value := if a < 0 then .tuple #[.int .i64 0, .bool false] else .tuple #[.int .i64 (lf a), .bool (lfB a)]
theorem liftV_neg {a : Int} (h : a < 0) : liftV a = .tuple #[.int .i64 0, .bool false] := by unfold liftV; rw [if_pos h]
theorem liftV_pos {a : Int} (h : ¬ a < 0) : liftV a = .tuple #[.int .i64 (lf a), .bool (lfB a)] := by unfold liftV; rw [if_neg h]

set_option maxHeartbeats 2000000 in
set_option maxRecDepth 100000 in
theorem liftI (a : Int) (n1 : -9223372036854775808 ≤ a) (n2 : a ≤ 9223372036854775807) (w : World) : Calls Try.prog 20 #[.int .i64 a] w fun e w' => e = .returned (liftV a) ∧ Below w.heap.size w w' := by
  by_cases hn : a < 0
  · rw [liftV_neg hn]
    clear n1 n2
    go_enter Try.func20, Try.ntmps20
    go_wp2_with fail
    go_returns
    exact ⟨rfl, Below.refl _ _⟩
  · have hp0 : 0 ≤ a := by omega
    have PK := Lib.hid (fun (k : Nat) => peakI 0 0 0 0 (k : Int))
    rw [liftV_pos hn]
    have RV := Lib.hid (show ∀ v : Nat, v = lf a → Ending.returned (.tuple #[.int .i64 v, .bool (decide (v ≠ 0))]) = .returned (.tuple #[.int .i64 (lf a), .bool (lfB a)]) from fun v h => by rw [h]; rfl)
    generalize lfB a = rb at *
    have H0 := Lib.hid (show lf a = srch (fun k => decide (a ≤ hp k)) (33 - 1) 1 from rfl)
    generalize lf a = r at *
    clear n1 n2
    go_enter Try.func20, Try.ntmps20
    go_wp2_with fail
    go_loopw [4] (fun i wr => ∃ k : Nat, 1 ≤ k ∧ k ≤ 33 ∧ i = .int .i64 k ∧ Hid (r = srch (fun k => decide (a ≤ hp k)) (33 - k) k) ∧ Hid (Below w.heap.size w wr)) (fun i _ => 33 - (intOf i).toNat)
    case atStart => exact ⟨1, by omega, by omega, rfl, H0, Lib.hid (Below.refl _ _)⟩
    case round =>
      obtain ⟨k, k1, k2, rfl, HR, HB⟩ := hrel
      by_cases hlt : k ≤ 32
      · have P := (PK.out k)
        unfold peakV at P
        rw [show ha 0 0 0 0 (k : Int) (pk 0 0 0 0 (k : Int)) = hp k from rfl] at P
        by_cases hup : a ≤ hp k
        · have e := RV.out k (by rw [HR.out, srch_yes (by omega) (decide_eq_true hup)])
          rw [decide_eq_true (show k ≠ 0 by omega)] at e
          have RE := Lib.hid e
          clear e
          generalize hp k = H at *
          generalize pk 0 0 0 0 (k : Int) = m at *
          replace P := Lib.hid P
          go_wp2_with fail
          refine (P.out _).mono ?_
          rintro e v ⟨rfl, hb⟩
          have HB1 := Lib.hid (HB.out.trans (hb.mono HB.out.size))
          clear hb
          go_wp2_with fail
          go_returns
          exact ⟨RE.out, HB1.out⟩
        · have NX := Lib.hid (show r = srch (fun k => decide (a ≤ hp k)) (33 - (k + 1)) (k + 1) by rw [HR.out, srch_no (by omega) (decide_eq_false hup), Nat.sub_sub])
          generalize hq : hp k = H at P hup
          clear hq
          generalize pk 0 0 0 0 (k : Int) = m at *
          replace P := Lib.hid P
          go_wp2_with fail
          refine (P.out _).mono ?_
          rintro e v ⟨rfl, hb⟩
          have HB1 := Lib.hid (HB.out.trans (hb.mono HB.out.size))
          clear hb
          go_wp2_with fail
          go_roundw
          case rel => exact ⟨k + 1, by omega, by omega, by go_num, NX, HB1⟩
          case measure => simp [intOf]; omega
      · have hk : k = 33 := by omega
        have e := RV.out 0 (by rw [HR.out, hk]; rfl)
        rw [decide_eq_false (by decide)] at e
        have RE := Lib.hid e
        clear e hk
        go_wp2_with fail
        go_returns
        exact ⟨RE.out, HB.out⟩

end Go.Proofs.Ytgmgdjhldjjckaa.Dp
