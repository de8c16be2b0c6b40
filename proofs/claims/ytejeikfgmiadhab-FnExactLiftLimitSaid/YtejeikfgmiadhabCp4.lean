/- What comparing two places answers, of the program and of the model. -/
import Derived.Test.YtejeikfgmiadhabPb
set_option linter.unusedVariables false
set_option linter.unusedSimpArgs false
namespace Go.Proofs.Ytejeikfgmiadhab.Cp
open Go.RowKit Go.Proofs.Ytejeikfgmiadhab.P2
set_option linter.unusedVariables false

def cv (x y : Int) : Int := if x < y then -1 else if y < x then 1 else 0
def ov (c d : Int) : Int := if c != 0 then c else d
def cpv (x y a b : Int) : Int := ov (cv x a) (cv y b)

theorem isNaN (x : Int) (w : World) : Calls Try.prog 65 #[.int .i64 x] w fun e w' => e = .returned (.bool false) ∧ w = w' := by
  go_enter Try.func65, Try.ntmps65
  go_wp2
  all_goals go_returns
  all_goals first | exact ⟨rfl, rfl⟩ | (refine ⟨?_, rfl⟩; simp)

theorem compare (x y : Int) (w : World) : Calls Try.prog 52 #[.int .i64 x, .int .i64 y] w fun e w' => e = .returned (.int .i64 (cv x y)) ∧ w = w' := by
  have N := Lib.hid isNaN
  rcases Int.lt_trichotomy x y with h | h | h
  · have e : cv x y = -1 := by unfold cv; rw [if_pos h]
    rw [e]
    go_enter Try.func52, Try.ntmps52
    go_wp2_with (go_at_call 65; refine (N.out _ _).mono ?_; rintro e w' ⟨rfl, rfl⟩)
    all_goals first | omega | skip
    all_goals go_returns
    all_goals exact ⟨rfl, rfl⟩
  · subst h
    have e : cv x x = 0 := by unfold cv; simp
    rw [e]
    go_enter Try.func52, Try.ntmps52
    go_wp2_with (go_at_call 65; refine (N.out _ _).mono ?_; rintro e w' ⟨rfl, rfl⟩)
    all_goals first | omega | skip
    all_goals go_returns
    all_goals exact ⟨rfl, rfl⟩
  · have e : cv x y = 1 := by unfold cv; rw [if_neg (by omega), if_pos h]
    have hn : ¬ x < y := by omega
    rw [e]
    go_enter Try.func52, Try.ntmps52
    go_wp2_with (go_at_call 65; refine (N.out _ _).mono ?_; rintro e w' ⟨rfl, rfl⟩)
    all_goals first | omega | skip
    all_goals go_returns
    all_goals exact ⟨rfl, rfl⟩

theorem or (c d : Int) (g : Nat) (w : World) (h0 : w.cell? ⟨g, 0, none⟩ = some (.int .i64 c)) (h1 : w.cell? ⟨g, 1, none⟩ = some (.int .i64 d)) :
    Calls Try.prog 51 #[.slice (some ⟨g, 0, none⟩) 2 2] w fun e w' => e = .returned (.int .i64 (ov c d)) ∧ w = w' := by
  cases hc : (c != 0)
  · have e : ov c d = d := by unfold ov; rw [hc]; rfl
    rw [e]
    cases hd : (d != 0)
    all_goals
      go_enter Try.func51, Try.ntmps51
      go_wp2_with (go_rounds 3)
      all_goals go_returns
      refine ⟨?_, rfl⟩
      first | rfl | (have : d = 0 := by simpa using hd
                     subst this; rfl)
  · have e : ov c d = c := by unfold ov; rw [hc]; rfl
    rw [e]
    go_enter Try.func51, Try.ntmps51
    go_wp2_with (go_rounds 3)
    all_goals go_returns
    exact ⟨rfl, rfl⟩

set_option maxHeartbeats 4000000 in
set_option maxRecDepth 100000 in
theorem cmpI (x y a b : Int) (w : World) :
    Calls Try.prog 38 #[.agg #[.int .i64 x, .int .i64 y], .agg #[.int .i64 a, .int .i64 b]] w fun e w' => e = .returned (.int .i64 (cpv x y a b)) ∧ Below w.heap.size w w' := by
  have C := Lib.hid compare
  unfold cpv
  have O := Lib.hid or
  go_enter Try.func38, Try.ntmps38
  go_wp2_with fail
  go_region_held3 (fun w' => w'.cell? ⟨w.heap.size, 0, none⟩ = some (.int .i64 x) ∧ w'.cell? ⟨w.heap.size, 1, none⟩ = some (.int .i64 y) ∧ w'.cell? ⟨w.heap.size + 1, 0, none⟩ = some (.int .i64 a) ∧ w'.cell? ⟨w.heap.size + 1, 1, none⟩ = some (.int .i64 b)) (simp [go_sem, *])
    (first
      | (go_at_call 52; refine (C.out _ _ _).mono ?_; rintro e w' ⟨rfl, rfl⟩)
      | (go_at_call 51; refine (O.out (cv x a) (cv y b) _ _ (by simp [go_sem, *]) (by simp [go_sem, *])).mono ?_; rintro e w' ⟨rfl, rfl⟩))
  all_goals go_wp2_with fail
  all_goals go_returns
  all_goals exact ⟨rfl, by go_grown⟩

theorem cpv_lt {x y a b : Int} (h : x < a) : cpv x y a b = -1 := by unfold cpv ov cv; simp [h]
theorem cpv_gt {x y a b : Int} (h : a < x) : cpv x y a b = 1 := by unfold cpv ov cv; simp [h, show ¬ x < a by omega]
theorem cpv_eq {x y b : Int} : cpv x y x b = cv y b := by unfold cpv ov cv; simp

theorem cv_lt {x y : Int} (h : x < y) : cv x y = -1 := by unfold cv; rw [if_pos h]
theorem cv_gt {x y : Int} (h : y < x) : cv x y = 1 := by unfold cv; rw [if_neg (by omega), if_pos h]
theorem cv_eq {x : Int} : cv x x = 0 := by unfold cv; simp

set_option maxHeartbeats 4000000 in
set_option maxRecDepth 100000 in
theorem cmpS (x y a b : Int) (w : World) :
    Calls Try.prog 64 #[.agg #[.int .i64 x, .int .i64 y], .agg #[.int .i64 a, .int .i64 b]] w fun e w' => e = .returned (.int .i64 (cpv x y a b)) ∧ Below w.heap.size w w' := by
  rcases Int.lt_trichotomy x a with h | h | h
  · rw [cpv_lt h]
    go_enter Try.func64, Try.ntmps64
    go_wp2
    all_goals first | omega | skip
    all_goals go_returns
    all_goals exact ⟨rfl, by go_grown⟩
  · subst h
    rw [cpv_eq]
    rcases Int.lt_trichotomy y b with h | h | h
    · rw [cv_lt h]
      go_enter Try.func64, Try.ntmps64
      go_wp2
      all_goals first | omega | skip
      all_goals go_returns
      all_goals exact ⟨rfl, by go_grown⟩
    · subst h
      rw [cv_eq]
      go_enter Try.func64, Try.ntmps64
      go_wp2
      all_goals first | omega | skip
      all_goals go_returns
      all_goals exact ⟨rfl, by go_grown⟩
    · rw [cv_gt h]
      have h1 : ¬ y < b := by omega
      have h2 : (y == b) = false := by simp; omega
      go_enter Try.func64, Try.ntmps64
      go_wp2
      all_goals first | omega | skip
      all_goals go_returns
      all_goals exact ⟨rfl, by go_grown⟩
  · rw [cpv_gt h]
    have h1 : ¬ x < a := by omega
    have h2 : (x == a) = false := by simp; omega
    go_enter Try.func64, Try.ntmps64
    go_wp2
    all_goals first | omega | skip
    all_goals go_returns
    all_goals exact ⟨rfl, by go_grown⟩

theorem cmpBoth (x y a b : Int) : ∃ R, (∀ w, Calls Try.prog 64 #[.agg #[.int .i64 x, .int .i64 y], .agg #[.int .i64 a, .int .i64 b]] w fun e w' => e = .returned (.int .i64 R) ∧ Below w.heap.size w w') ∧
    (∀ w, Calls Try.prog 38 #[.agg #[.int .i64 x, .int .i64 y], .agg #[.int .i64 a, .int .i64 b]] w fun e w' => e = .returned (.int .i64 R) ∧ Below w.heap.size w w') :=
  ⟨_, cmpS x y a b, cmpI x y a b⟩

end Go.Proofs.Ytejeikfgmiadhab.Cp
