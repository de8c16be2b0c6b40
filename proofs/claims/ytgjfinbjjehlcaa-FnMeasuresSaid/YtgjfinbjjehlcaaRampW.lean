/- The law on ramps: its walk. -/
import Derived.Test.YtgjfinbjjehlcaaRampFn
namespace Go.Proofs.Ytgjfinbjjehlcaa.RampW
open Go.RowKit Go.Proofs.Ytgjfinbjjehlcaa.Mem Go.Proofs.Ytgjfinbjjehlcaa.Draw Go.Proofs.Ytgjfinbjjehlcaa.RampFn Go.Proofs.Ytgjfinbjjehlcaa.Times

theorem big (A : Option Addr) (n c : Nat) (w : World) (h : n ≤ 4096) : Calls Try.prog 11 #[.slice A n c] w fun e w' => e = .returned (.bool false) ∧ w = w' := by
  have d : decide (4096 < (n : Int)) = false := decide_eq_false (by omega)
  go_enter Try.func11, Try.ntmps11
  go_wp2
  go_ret
  exact ⟨rfl, rfl⟩

/-- The ramp at known bounds: its level is some number. -/
theorem ramp (a b i n v : Int) (wi : Hid (wf i)) (wn : Hid (wf n)) (h : Hid (RampAt.level a b i n = v)) (w : World) :
    Calls Try.prog 20 #[.int .i64 a, .int .i64 b, .int .i64 i, .int .i64 n] w fun e w' => e = .returned (.int .i64 v) ∧ w = w' := by
  have := RampAt.impl a b i n wi.out wn.out w
  rwa [h.out] at this

set_option maxHeartbeats 2000000 in
theorem walk (A : Option Addr) (n c : Nat) (bs : List UInt8) (hn : bs.length = n) (hm : n ≤ maxLen) (w : World) (hr : Rd w w.heap.size A (u8s bs)) :
    Calls Try.prog 4 #[.slice A n c] w fun e w' => e = .returned (.bool true) ∧ Below w.heap.size w w' := by
  unfold maxLen at hm
  by_cases hlen : 4096 < n
  · go_enter Try.func4, Try.ntmps4
    go_wp2
    go_ret
    exact ⟨rfl, Below.refl _ _⟩
  · have D := Lib.hid (draw w A n c bs hn (by omega) hr)
    have hb : n ≤ 4096 := by omega
    clear hn hr hlen hm
    go_enter Try.func4, Try.ntmps4
    go_wp2_with fail
    refine (big _ _ _ _ hb).mono ?_
    rintro e w' ⟨rfl, rfl⟩
    go_wp2_with fail
    refine D.out.mono ?_
    rintro e w1 ⟨a, b, i, m, rfl, wa, wb, wi, wm, b1⟩
    have B1 := Lib.hid b1
    have WI := Lib.hid wi
    have WM := Lib.hid wm
    clear b1 wa wb wi wm D
    by_cases ha : a < -4096 ∨ 4096 < a
    · have L := Lib.hid (RampAt.level_no i m (Or.inl ha) (b := b)).symm
      go_wp2_with (first
        | (go_at_call 15; refine (isMeasure_impl_no _ _ ha).mono ?_; rintro e w' ⟨rfl, rfl⟩)
        | (go_at_call 19; refine (isMeasure_spec_no _ _ ha).mono ?_; rintro e w' ⟨rfl, rfl⟩)
        | (go_at_call 20; refine (ramp a b i m 0 WI WM L _).mono ?_; rintro e w' ⟨rfl, rfl⟩))
      go_ret
      exact ⟨rfl, B1.out⟩
    · have ha1 : -4096 ≤ a := by omega
      have ha2 : a ≤ 4096 := by omega
      clear ha
      go_wp2_with fail
      refine (isMeasure_impl a _ ha1 ha2).mono ?_
      rintro e w' ⟨rfl, rfl⟩
      go_wp2_with fail
      refine (isMeasure_spec a _ ha1 ha2).mono ?_
      rintro e w' ⟨rfl, rfl⟩
      go_wp2_with fail
      refine (isMeasure_impl a _ ha1 ha2).mono ?_
      rintro e w' ⟨rfl, rfl⟩
      go_wp2_with fail
      by_cases hb' : b < -4096 ∨ 4096 < b
      · have L := Lib.hid (RampAt.level_no i m (Or.inr hb') (a := a)).symm
        refine (isMeasure_impl_no b _ hb').mono ?_
        rintro e w' ⟨rfl, rfl⟩
        go_wp2_with fail
        refine (ramp a b i m 0 WI WM L _).mono ?_
        rintro e w' ⟨rfl, rfl⟩
        go_wp2_with fail
        go_ret
        exact ⟨rfl, B1.out⟩
      · have hb1 : -4096 ≤ b := by omega
        have hb2 : b ≤ 4096 := by omega
        clear hb'
        refine (isMeasure_impl b _ hb1 hb2).mono ?_
        rintro e w' ⟨rfl, rfl⟩
        obtain ⟨x, hx⟩ : ∃ x, RampAt.level a b i m = x := ⟨_, rfl⟩
        have bt := level_between i m ha1 ha2 hb1 hb2
        rw [hx] at bt
        have HX := Lib.hid hx
        have ST := Lib.hid (level_start (a := a) (b := b) m ha1 ha2 hb1 hb2)
        have EN := Lib.hid (level_end (a := a) (b := b) m ha1 ha2 hb1 hb2)
        have MO := Lib.hid (level_mono (a := a) (b := b) i m ha1 ha2 hb1 hb2)
        have LW := Lib.hid (show wf 0 from by unfold wf; decide)
        -- the three ways in which a and b can stand
        have ord : (a < b ∧ a ≤ x ∧ x ≤ b) ∨ (a ≤ b ∧ b ≤ a ∧ a ≤ x ∧ x ≤ a) ∨ (b < a ∧ b ≤ x ∧ x ≤ a) := by
          unfold Between at bt; omega
        clear hx bt
        go_wp2_with fail
        refine (ramp a b i m x WI WM HX _).mono ?_
        rintro e w' ⟨rfl, rfl⟩
        rcases ord with ⟨o1, o2, o3⟩ | ⟨o1, o2, o3, o4⟩ | ⟨o1, o2, o3⟩
        all_goals
          by_cases hm : 0 < m
          · have S0 := Lib.hid (ST.out hm)
            go_wp2_with fail
            refine (ramp a b 0 m a LW WM S0 _).mono ?_
            rintro e w' ⟨rfl, rfl⟩
            go_wp2_with fail
            refine (ramp a b m m b WM WM EN _).mono ?_
            rintro e w' ⟨rfl, rfl⟩
            by_cases t1 : 999 ≤ i
            · go_wp2_with fail
              go_ret
              exact ⟨rfl, B1.out⟩
            · by_cases t2 : 999 < m
              · go_wp2_with fail
                go_ret
                exact ⟨rfl, B1.out⟩
              · by_cases t3 : i < 0
                · go_wp2_with fail
                  go_ret
                  exact ⟨rfl, B1.out⟩
                · obtain ⟨m1, m2⟩ := MO.out (by omega) (by omega)
                  rw [HX.out] at m1 m2
                  obtain ⟨y, hy⟩ : ∃ y, RampAt.level a b (i + 1) m = y := ⟨_, rfl⟩
                  rw [hy] at m1 m2
                  have HY := Lib.hid hy
                  have WI1 := Lib.hid (show wf (i + 1) from wf_of_small (by omega) (by omega))
                  have hi0 : 0 ≤ i := by omega
                  have hi9 : i < 999 := by omega
                  have f1 : a ≤ b → x ≤ y := m1
                  have f2 : b ≤ a → y ≤ x := m2
                  clear hy m1 m2
                  first
                    | (have g1 : x ≤ y := f1 (by omega)
                       have g2 : y ≤ x := f2 (by omega)
                       clear f1 f2
                       go_wp2_with fail
                       refine (ramp a b (i + 1) m y WI1 WM HY _).mono ?_
                       rintro e w' ⟨rfl, rfl⟩
                       go_wp2_with fail
                       go_ret
                       exact ⟨rfl, B1.out⟩)
                    | (have g1 : x ≤ y := f1 (by omega)
                       clear f1 f2
                       go_wp2_with fail
                       refine (ramp a b (i + 1) m y WI1 WM HY _).mono ?_
                       rintro e w' ⟨rfl, rfl⟩
                       go_wp2_with fail
                       go_ret
                       exact ⟨rfl, B1.out⟩)
                    | (have g2 : y ≤ x := f2 (by omega)
                       clear f1 f2
                       go_wp2_with fail
                       refine (ramp a b (i + 1) m y WI1 WM HY _).mono ?_
                       rintro e w' ⟨rfl, rfl⟩
                       go_wp2_with fail
                       go_ret
                       exact ⟨rfl, B1.out⟩)
          · have hm' : m ≤ 0 := by omega
            clear hm
            go_wp2_with fail
            refine (ramp a b m m b WM WM EN _).mono ?_
            rintro e w' ⟨rfl, rfl⟩
            by_cases t1 : 999 ≤ i
            · go_wp2_with fail
              go_ret
              exact ⟨rfl, B1.out⟩
            · by_cases t2 : 999 < m
              · exact absurd t2 (by omega)
              · by_cases t3 : i < 0
                · go_wp2_with fail
                  go_ret
                  exact ⟨rfl, B1.out⟩
                · obtain ⟨m1, m2⟩ := MO.out (by omega) (by omega)
                  rw [HX.out] at m1 m2
                  obtain ⟨y, hy⟩ : ∃ y, RampAt.level a b (i + 1) m = y := ⟨_, rfl⟩
                  rw [hy] at m1 m2
                  have HY := Lib.hid hy
                  have WI1 := Lib.hid (show wf (i + 1) from wf_of_small (by omega) (by omega))
                  have hi0 : 0 ≤ i := by omega
                  have hi9 : i < 999 := by omega
                  have f1 : a ≤ b → x ≤ y := m1
                  have f2 : b ≤ a → y ≤ x := m2
                  clear hy m1 m2
                  first
                    | (have g1 : x ≤ y := f1 (by omega)
                       have g2 : y ≤ x := f2 (by omega)
                       clear f1 f2
                       go_wp2_with fail
                       refine (ramp a b (i + 1) m y WI1 WM HY _).mono ?_
                       rintro e w' ⟨rfl, rfl⟩
                       go_wp2_with fail
                       go_ret
                       exact ⟨rfl, B1.out⟩)
                    | (have g1 : x ≤ y := f1 (by omega)
                       clear f1 f2
                       go_wp2_with fail
                       refine (ramp a b (i + 1) m y WI1 WM HY _).mono ?_
                       rintro e w' ⟨rfl, rfl⟩
                       go_wp2_with fail
                       go_ret
                       exact ⟨rfl, B1.out⟩)
                    | (have g2 : y ≤ x := f2 (by omega)
                       clear f1 f2
                       go_wp2_with fail
                       refine (ramp a b (i + 1) m y WI1 WM HY _).mono ?_
                       rintro e w' ⟨rfl, rfl⟩
                       go_wp2_with fail
                       go_ret
                       exact ⟨rfl, B1.out⟩)

end Go.Proofs.Ytgjfinbjjehlcaa.RampW
