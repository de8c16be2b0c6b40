/- The program's ramp and the model's answer the same level at all integers. -/
import Derived.Test.YtkndejjfndjcoaaGreatM16
namespace Go.Proofs.YtkndejjfndjcoaaGreat.RampAt
open Go.RowKit Go.Proofs.YtkndejjfndjcoaaGreat.Flt Go.Proofs.YtkndejjfndjcoaaGreat.Meas Go.Proofs.YtkndejjfndjcoaaGreat.Times Go.Proofs.YtkndejjfndjcoaaGreat.Ramp

def isM (x : Int) : Bool := decide (-4096 ≤ x ∧ x ≤ 4096)
def level (a b i n : Int) : Int := if isM a = true ∧ isM b = true then if n ≤ i then b else if i ≤ 0 ∨ 999 < n then a else a + (b - a) * i / n else 0

theorem ret_int {a b : Int} (h : a = b) : Ending.returned (.int .i64 a) = .returned (.int .i64 b) := by rw [h]

theorem level_no {a b : Int} (i n : Int) (h : (a < -4096 ∨ 4096 < a) ∨ (b < -4096 ∨ 4096 < b)) : 0 = level a b i n := by
  unfold level isM
  rw [if_neg]
  simp only [decide_eq_true_eq]
  omega
theorem level_yes {a b : Int} (i n : Int) (ha1 : -4096 ≤ a) (ha2 : a ≤ 4096) (hb1 : -4096 ≤ b) (hb2 : b ≤ 4096) : level a b i n = if n ≤ i then b else if i ≤ 0 ∨ 999 < n then a else a + (b - a) * i / n := by
  unfold level isM
  rw [if_pos]
  simp only [decide_eq_true_eq]
  omega

theorem subM (b a : Int) (ha : a.natAbs < 16777216) (hb : b.natAbs < 16777216) (w : World) :
    (binOp .sub 169 (.float .f32 (f32 b)) (.float .f32 (f32 a))).run Tryz.prog w = .ok (.float .f32 (f32 (b - a))) w :=
  run_float_arith w .sub _ .f32 _ _ _ (sub_fl Ieee.single b a (-3) (fits32 b hb) (fits32 a ha))

theorem tdiv_floor (A n : Int) (hn : 0 < n) : (A.tmod n < 0 → A.tdiv n - 1 = A / n) ∧ (¬ A.tmod n < 0 → A.tdiv n = A / n) := by
  have h1 := @Int.tdiv_eq_ediv A n
  have h2 := @Int.tmod_eq_emod A n
  have h3 := Int.emod_nonneg A (Int.ne_of_gt hn)
  have h4 := Int.emod_lt_of_pos A hn
  have hs : n.sign = 1 := Int.sign_eq_one_of_pos hn
  rw [hs] at h1
  by_cases c : 0 ≤ A ∨ n ∣ A
  · rw [if_pos c] at h1 h2
    exact ⟨fun h => by omega, fun _ => by omega⟩
  · rw [if_neg c] at h1 h2
    exact ⟨fun h => by omega, fun h => by omega⟩

theorem floor_spec (A n : Int) (hA1 : -8388608 < A) (hA2 : A < 8388608) (hn : 1 ≤ n) (hn2 : n ≤ 999) (hq1 : -8192 ≤ A / n) (hq2 : A / n < 8192) (w : World) :
    Calls Tryz.prog 129 #[.int .i64 A, .int .i64 n] w fun e w' => e = .returned (.int .i64 (A / n)) ∧ w = w' := by
  obtain ⟨t1, t2⟩ := tdiv_floor A n (by omega)
  by_cases c : A.tmod n < 0
  · have e := t1 c
    have hlo : -8192 ≤ A.tdiv n := by omega
    have hhi : A.tdiv n ≤ 8193 := by omega
    have E := Lib.hid e
    clear t1 t2 e hq1 hq2
    by_cases hpos : 0 ≤ A
    · exact absurd (Int.tmod_nonneg n hpos) (by omega)
    · have hdec : decide (A.tmod n < 0) = true := decide_eq_true c
      go_enter Tryz.func129, Tryz.ntmps129
      go_wp2
      go_ret
      exact ⟨ret_int E.out, rfl⟩
  · have e := t2 c
    by_cases hpos : 0 ≤ A
    · have E := Lib.hid e
      clear t1 t2 e
      have c' : ¬ A % n < 0 := by have := Int.emod_nonneg A (show n ≠ 0 by omega); omega
      clear c
      go_enter Tryz.func129, Tryz.ntmps129
      go_wp2
      go_ret
      exact ⟨rfl, rfl⟩
    · have E := Lib.hid e
      clear t1 t2 e
      have hdec : decide (A.tmod n < 0) = false := decide_eq_false c
      go_enter Tryz.func129, Tryz.ntmps129
      go_wp2
      go_ret
      exact ⟨ret_int E.out, rfl⟩

set_option maxHeartbeats 1000000 in
theorem impl (a b i n : Int) (wi : (Lit.int .i64 i).wf = true) (wn : (Lit.int .i64 n).wf = true) (w : World) :
    Calls Tryz.prog 156 #[.int .i64 a, .int .i64 b, .int .i64 i, .int .i64 n] w fun e w' => e = .returned (.int .i64 (level a b i n)) ∧ w = w' := by
  by_cases ha : a < -4096 ∨ 4096 < a
  · have L := Lib.hid (level_no i n (Or.inl ha) (b := b))
    go_enter Tryz.func156, Tryz.ntmps156
    go_wp2_with (go_at_call 126; refine (isMeasure_impl_no _ _ ha).mono ?_; rintro e w' ⟨rfl, rfl⟩)
    go_ret
    exact ⟨ret_int L.out, rfl⟩
  · have ha1 : -4096 ≤ a := by omega
    have ha2 : a ≤ 4096 := by omega
    clear ha
    by_cases hb : b < -4096 ∨ 4096 < b
    · have L := Lib.hid (level_no i n (Or.inr hb) (a := a))
      go_enter Tryz.func156, Tryz.ntmps156
      go_wp2_with fail
      refine (isMeasure_impl _ _ ha1 ha2).mono ?_
      rintro e w' ⟨rfl, rfl⟩
      go_wp2_with fail
      refine (isMeasure_impl_no _ _ hb).mono ?_
      rintro e w' ⟨rfl, rfl⟩
      go_wp2_with fail
      go_ret
      exact ⟨ret_int L.out, rfl⟩
    · have hb1 : -4096 ≤ b := by omega
      have hb2 : b ≤ 4096 := by omega
      clear hb
      have L := level_yes i n ha1 ha2 hb1 hb2
      by_cases h1 : n ≤ i
      · rw [if_pos h1] at L
        have LL := Lib.hid L
        clear L
        go_enter Tryz.func156, Tryz.ntmps156
        go_wp2_with (go_at_call 126; refine (isMeasure_impl _ _ (by omega) (by omega)).mono ?_; rintro e w' ⟨rfl, rfl⟩)
        go_ret
        exact ⟨ret_int LL.out.symm, rfl⟩
      · rw [if_neg h1] at L
        by_cases h2 : i ≤ 0 ∨ 999 < n
        · rw [if_pos h2] at L
          have LL := Lib.hid L
          clear L
          by_cases h3 : i ≤ 0
          · go_enter Tryz.func156, Tryz.ntmps156
            go_wp2_with (go_at_call 126; refine (isMeasure_impl _ _ (by omega) (by omega)).mono ?_; rintro e w' ⟨rfl, rfl⟩)
            go_ret
            exact ⟨ret_int LL.out.symm, rfl⟩
          · have h4 : 999 < n := by omega
            go_enter Tryz.func156, Tryz.ntmps156
            go_wp2_with (go_at_call 126; refine (isMeasure_impl _ _ (by omega) (by omega)).mono ?_; rintro e w' ⟨rfl, rfl⟩)
            go_ret
            exact ⟨ret_int LL.out.symm, rfl⟩
        · rw [if_neg h2] at L
          have h3 : 1 ≤ i := by omega
          have h4 : n ≤ 999 := by omega
          have h5 : i < n := by omega
          have LL := Lib.hid L
          have s := subM b a (by omega) (by omega)
          obtain ⟨N, hN⟩ : ∃ N : Nat, n = N := ⟨n.toNat, by omega⟩
          obtain ⟨b1, b2⟩ := prod_abs (b - a) i n (by omega) (by omega) h3 h5 h4
          obtain ⟨q1, q2⟩ := quo_abs ((b - a) * i) N (by omega) (by omega)
          rw [← hN] at q1 q2
          clear L h1 h2 hN b1 b2
          have d1 : decide (i ≤ 0) = false := decide_eq_false (by omega)
          have d2 : decide (999 < n) = false := decide_eq_false (by omega)
          go_enter Tryz.func156, Tryz.ntmps156
          go_wp2_with (first
            | (go_at_call 126; refine (isMeasure_impl _ _ (by omega) (by omega)).mono ?_; rintro e w' ⟨rfl, rfl⟩)
            | (go_at_call 144; refine (wholesOf _ (by omega) _).mono ?_; rintro e w' ⟨rfl, rfl⟩)
            | (go_at_call 158; refine (rampRise _ _ _ (by omega) (by omega) h3 h5 h4 _).mono ?_; rintro e w' ⟨rfl, rfl⟩))
          go_ret
          exact ⟨ret_int LL.out.symm, rfl⟩

set_option maxHeartbeats 1000000 in
theorem spec (a b i n : Int) (wi : (Lit.int .i64 i).wf = true) (wn : (Lit.int .i64 n).wf = true) (w : World) :
    Calls Tryz.prog 100 #[.int .i64 a, .int .i64 b, .int .i64 i, .int .i64 n] w fun e w' => e = .returned (.int .i64 (level a b i n)) ∧ w = w' := by
  by_cases ha : a < -4096 ∨ 4096 < a
  · have L := Lib.hid (level_no i n (Or.inl ha) (b := b))
    go_enter Tryz.func100, Tryz.ntmps100
    go_wp2_with (go_at_call 125; refine (isMeasure_spec_no _ _ ha).mono ?_; rintro e w' ⟨rfl, rfl⟩)
    go_ret
    exact ⟨ret_int L.out, rfl⟩
  · have ha1 : -4096 ≤ a := by omega
    have ha2 : a ≤ 4096 := by omega
    clear ha
    by_cases hb : b < -4096 ∨ 4096 < b
    · have L := Lib.hid (level_no i n (Or.inr hb) (a := a))
      go_enter Tryz.func100, Tryz.ntmps100
      go_wp2_with fail
      refine (isMeasure_spec _ _ ha1 ha2).mono ?_
      rintro e w' ⟨rfl, rfl⟩
      go_wp2_with fail
      refine (isMeasure_spec_no _ _ hb).mono ?_
      rintro e w' ⟨rfl, rfl⟩
      go_wp2_with fail
      go_ret
      exact ⟨ret_int L.out, rfl⟩
    · have hb1 : -4096 ≤ b := by omega
      have hb2 : b ≤ 4096 := by omega
      clear hb
      have L := level_yes i n ha1 ha2 hb1 hb2
      by_cases h1 : n ≤ i
      · rw [if_pos h1] at L
        have LL := Lib.hid L
        clear L
        go_enter Tryz.func100, Tryz.ntmps100
        go_wp2_with (go_at_call 125; refine (isMeasure_spec _ _ (by omega) (by omega)).mono ?_; rintro e w' ⟨rfl, rfl⟩)
        go_ret
        exact ⟨ret_int LL.out.symm, rfl⟩
      · rw [if_neg h1] at L
        by_cases h2 : i ≤ 0 ∨ 999 < n
        · rw [if_pos h2] at L
          have LL := Lib.hid L
          clear L
          by_cases h3 : i ≤ 0
          · go_enter Tryz.func100, Tryz.ntmps100
            go_wp2_with (go_at_call 125; refine (isMeasure_spec _ _ (by omega) (by omega)).mono ?_; rintro e w' ⟨rfl, rfl⟩)
            go_ret
            exact ⟨ret_int LL.out.symm, rfl⟩
          · have h4 : 999 < n := by omega
            go_enter Tryz.func100, Tryz.ntmps100
            go_wp2_with (go_at_call 125; refine (isMeasure_spec _ _ (by omega) (by omega)).mono ?_; rintro e w' ⟨rfl, rfl⟩)
            go_ret
            exact ⟨ret_int LL.out.symm, rfl⟩
        · rw [if_neg h2] at L
          have h3 : 1 ≤ i := by omega
          have h4 : n ≤ 999 := by omega
          have h5 : i < n := by omega
          have LL := Lib.hid L
          obtain ⟨N, hN⟩ : ∃ N : Nat, n = N := ⟨n.toNat, by omega⟩
          obtain ⟨b1, b2⟩ := prod_abs (b - a) i n (by omega) (by omega) h3 h5 h4
          obtain ⟨q1, q2⟩ := quo_abs ((b - a) * i) N (by omega) (by omega)
          rw [← hN] at q1 q2
          have b3 : -8388608 < (b - a) * i := by omega
          have b4 : (b - a) * i < 8388608 := by omega
          clear L h1 h2 hN b1 b2
          have d1 : decide (i ≤ 0) = false := decide_eq_false (by omega)
          have d2 : decide (999 < n) = false := decide_eq_false (by omega)
          go_enter Tryz.func100, Tryz.ntmps100
          go_wp2_with (first
            | (go_at_call 125; refine (isMeasure_spec _ _ (by omega) (by omega)).mono ?_; rintro e w' ⟨rfl, rfl⟩)
            | (go_at_call 129; refine (floor_spec _ _ b3 b4 (by omega) h4 q1 q2 _).mono ?_; rintro e w' ⟨rfl, rfl⟩))
          go_ret
          exact ⟨ret_int LL.out.symm, rfl⟩

end Go.Proofs.YtkndejjfndjcoaaGreat.RampAt
