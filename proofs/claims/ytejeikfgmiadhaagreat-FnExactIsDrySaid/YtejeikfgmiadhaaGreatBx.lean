/- What the functions on boxes answer that only look at them: whether a box is one, whether a place is in it; and the laws' own helpers on boxes. -/
import Derived.Test.YtejeikfgmiadhaaGreatM9
namespace Go.Proofs.YtejeikfgmiadhaaGreat.Bx
open Go.RowKit Go.Proofs.YtejeikfgmiadhaaGreat.Cm Go.Proofs.YtejeikfgmiadhaaGreat.Pl Go.Proofs.YtejeikfgmiadhaaGreat.Str Go.Proofs.YtejeikfgmiadhaaGreat.Pw Go.Proofs.YtejeikfgmiadhaaGreat.P2
set_option linter.unusedVariables false

theorem toBox (x y z u : Int) (w : World) : Calls Tryz.prog 24 #[.agg #[.int .i64 x, .int .i64 y, .int .i64 z, .int .i64 u]] w fun e w' => e = .returned (.agg #[.int .i64 x, .int .i64 y, .int .i64 z, .int .i64 u]) ∧ Below w.heap.size w w' := by
  go_enter Tryz.func24, Tryz.ntmps24
  go_wp2_with (go_at_call 20; refine (toPlace _ _ _).mono ?_; rintro e w' ⟨rfl, rfl⟩)
  go_returns
  exact ⟨rfl, by go_grown⟩

def bx (x y z u : Int) : Bool := (ms x && ms y) && (ms z && ms u) && decide (x ≤ z) && decide (y ≤ u)
def ib (x y z u a b : Int) : Bool := bx x y z u && decide (x ≤ a) && decide (a ≤ z) && decide (y ≤ b) && decide (b ≤ u)

theorem isBoxI (x y z u : Int) (w : World) : Calls Tryz.prog 62 #[.agg #[.int .i64 x, .int .i64 y, .int .i64 z, .int .i64 u]] w fun e w' => e = .returned (.bool (bx x y z u)) ∧ Below w.heap.size w w' := by
  unfold bx
  cases p : (ms x && ms y)
  · have C1 := Lib.hid (isPlaceI_of p)
    clear p
    go_enter Tryz.func62, Tryz.ntmps62
    go_wp2_with fail
    refine (C1.out _).mono ?_
    rintro e w' ⟨rfl, rfl⟩
    go_wp2_with fail
    go_returns
    exact ⟨rfl, by go_grown⟩
  cases q : (ms z && ms u)
  · have C1 := Lib.hid (isPlaceI_of p)
    have C2 := Lib.hid (isPlaceI_of q)
    clear p q
    go_enter Tryz.func62, Tryz.ntmps62
    go_wp2_with fail
    refine (C1.out _).mono ?_
    rintro e w' ⟨rfl, rfl⟩
    go_wp2_with fail
    refine (C2.out _).mono ?_
    rintro e w' ⟨rfl, rfl⟩
    go_wp2_with fail
    go_returns
    exact ⟨rfl, by go_grown⟩
  · have C1 := Lib.hid (isPlaceI_of p)
    have C2 := Lib.hid (isPlaceI_of q)
    clear p q
    by_cases h1 : x ≤ z <;> by_cases h2 : y ≤ u
    all_goals
      go_enter Tryz.func62, Tryz.ntmps62
      go_wp2_with fail
      refine (C1.out _).mono ?_
      rintro e w' ⟨rfl, rfl⟩
      go_wp2_with fail
      refine (C2.out _).mono ?_
      rintro e w' ⟨rfl, rfl⟩
      go_wp2_with fail
      all_goals first | omega | skip
      all_goals go_returns
      all_goals refine ⟨?_, by go_grown⟩
      all_goals first | (simp [*]; done) | (simp [*]; omega)

theorem isBoxS (x y z u : Int) (w : World) : Calls Tryz.prog 60 #[.agg #[.int .i64 x, .int .i64 y, .int .i64 z, .int .i64 u]] w fun e w' => e = .returned (.bool (bx x y z u)) ∧ Below w.heap.size w w' := by
  unfold bx
  cases p : (ms x && ms y)
  · have C1 := Lib.hid (isPlaceS_of p)
    clear p
    go_enter Tryz.func60, Tryz.ntmps60
    go_wp2_with fail
    refine (C1.out _).mono ?_
    rintro e w' ⟨rfl, rfl⟩
    go_wp2_with fail
    go_returns
    exact ⟨rfl, by go_grown⟩
  cases q : (ms z && ms u)
  · have C1 := Lib.hid (isPlaceS_of p)
    have C2 := Lib.hid (isPlaceS_of q)
    clear p q
    go_enter Tryz.func60, Tryz.ntmps60
    go_wp2_with fail
    refine (C1.out _).mono ?_
    rintro e w' ⟨rfl, rfl⟩
    go_wp2_with fail
    refine (C2.out _).mono ?_
    rintro e w' ⟨rfl, rfl⟩
    go_wp2_with fail
    go_returns
    exact ⟨rfl, by go_grown⟩
  · have C1 := Lib.hid (isPlaceS_of p)
    have C2 := Lib.hid (isPlaceS_of q)
    clear p q
    by_cases h1 : x ≤ z <;> by_cases h2 : y ≤ u
    all_goals
      go_enter Tryz.func60, Tryz.ntmps60
      go_wp2_with fail
      refine (C1.out _).mono ?_
      rintro e w' ⟨rfl, rfl⟩
      go_wp2_with fail
      refine (C2.out _).mono ?_
      rintro e w' ⟨rfl, rfl⟩
      go_wp2_with fail
      all_goals first | omega | skip
      all_goals go_returns
      all_goals refine ⟨?_, by go_grown⟩
      all_goals first | (simp [*]; done) | (simp [*]; omega)

set_option maxHeartbeats 2000000 in
theorem inBoxI (x y z u a b : Int) (w : World) : Calls Tryz.prog 65 #[.agg #[.int .i64 x, .int .i64 y, .int .i64 z, .int .i64 u], .agg #[.int .i64 a, .int .i64 b]] w fun e w' => e = .returned (.bool (ib x y z u a b)) ∧ Below w.heap.size w w' := by
  unfold ib
  have C := isBoxI x y z u
  generalize bx x y z u = r at *
  replace C := Lib.hid C
  cases r
  · go_enter Tryz.func65, Tryz.ntmps65
    go_wp2_with fail
    refine (C.out _).mono ?_
    rintro e v ⟨rfl, hb⟩
    have hB : Below w.heap.size w v := Below.trans (by go_grown) (hb.mono (by go_size))
    clear hb
    go_wp2_with fail
    go_returns
    exact ⟨rfl, by go_grown⟩
  · by_cases h1 : x ≤ a
    · by_cases h2 : a ≤ z
      · by_cases h3 : y ≤ b
        · by_cases h4 : b ≤ u
          · go_enter Tryz.func65, Tryz.ntmps65
            go_wp2_with fail
            refine (C.out _).mono ?_
            rintro e v ⟨rfl, hb⟩
            have m1 : v.cell? ⟨w.heap.size, 0, none⟩ = some (.int .i64 x) := cell_below hb (by simp [go_sem])
            have m2 : v.cell? ⟨w.heap.size, 1, none⟩ = some (.int .i64 y) := cell_below hb (by simp [go_sem])
            have m3 : v.cell? ⟨w.heap.size, 2, none⟩ = some (.int .i64 z) := cell_below hb (by simp [go_sem])
            have m4 : v.cell? ⟨w.heap.size, 3, none⟩ = some (.int .i64 u) := cell_below hb (by simp [go_sem])
            have m5 : v.cell? ⟨w.heap.size + 1, 0, none⟩ = some (.int .i64 a) := cell_below hb (by simp [go_sem])
            have m6 : v.cell? ⟨w.heap.size + 1, 1, none⟩ = some (.int .i64 b) := cell_below hb (by simp [go_sem])
            have hB : Below w.heap.size w v := Below.trans (by go_grown) (hb.mono (by go_size))
            clear hb
            go_wp2_with fail
            all_goals first | omega | skip
            all_goals go_returns
            all_goals refine ⟨?_, by go_grown⟩
            all_goals first | (simp [*]; done) | (simp [*]; omega)
          · go_enter Tryz.func65, Tryz.ntmps65
            go_wp2_with fail
            refine (C.out _).mono ?_
            rintro e v ⟨rfl, hb⟩
            have m1 : v.cell? ⟨w.heap.size, 0, none⟩ = some (.int .i64 x) := cell_below hb (by simp [go_sem])
            have m2 : v.cell? ⟨w.heap.size, 1, none⟩ = some (.int .i64 y) := cell_below hb (by simp [go_sem])
            have m3 : v.cell? ⟨w.heap.size, 2, none⟩ = some (.int .i64 z) := cell_below hb (by simp [go_sem])
            have m4 : v.cell? ⟨w.heap.size, 3, none⟩ = some (.int .i64 u) := cell_below hb (by simp [go_sem])
            have m5 : v.cell? ⟨w.heap.size + 1, 0, none⟩ = some (.int .i64 a) := cell_below hb (by simp [go_sem])
            have m6 : v.cell? ⟨w.heap.size + 1, 1, none⟩ = some (.int .i64 b) := cell_below hb (by simp [go_sem])
            have hB : Below w.heap.size w v := Below.trans (by go_grown) (hb.mono (by go_size))
            clear hb
            go_wp2_with fail
            all_goals first | omega | skip
            all_goals go_returns
            all_goals refine ⟨?_, by go_grown⟩
            all_goals first | (simp [*]; done) | (simp [*]; omega)
        · go_enter Tryz.func65, Tryz.ntmps65
          go_wp2_with fail
          refine (C.out _).mono ?_
          rintro e v ⟨rfl, hb⟩
          have m1 : v.cell? ⟨w.heap.size, 0, none⟩ = some (.int .i64 x) := cell_below hb (by simp [go_sem])
          have m2 : v.cell? ⟨w.heap.size, 1, none⟩ = some (.int .i64 y) := cell_below hb (by simp [go_sem])
          have m3 : v.cell? ⟨w.heap.size, 2, none⟩ = some (.int .i64 z) := cell_below hb (by simp [go_sem])
          have m4 : v.cell? ⟨w.heap.size, 3, none⟩ = some (.int .i64 u) := cell_below hb (by simp [go_sem])
          have m5 : v.cell? ⟨w.heap.size + 1, 0, none⟩ = some (.int .i64 a) := cell_below hb (by simp [go_sem])
          have m6 : v.cell? ⟨w.heap.size + 1, 1, none⟩ = some (.int .i64 b) := cell_below hb (by simp [go_sem])
          have hB : Below w.heap.size w v := Below.trans (by go_grown) (hb.mono (by go_size))
          clear hb
          go_wp2_with fail
          all_goals first | omega | skip
          all_goals go_returns
          all_goals refine ⟨?_, by go_grown⟩
          all_goals first | (simp [*]; done) | (simp [*]; omega)
      · go_enter Tryz.func65, Tryz.ntmps65
        go_wp2_with fail
        refine (C.out _).mono ?_
        rintro e v ⟨rfl, hb⟩
        have m1 : v.cell? ⟨w.heap.size, 0, none⟩ = some (.int .i64 x) := cell_below hb (by simp [go_sem])
        have m2 : v.cell? ⟨w.heap.size, 1, none⟩ = some (.int .i64 y) := cell_below hb (by simp [go_sem])
        have m3 : v.cell? ⟨w.heap.size, 2, none⟩ = some (.int .i64 z) := cell_below hb (by simp [go_sem])
        have m4 : v.cell? ⟨w.heap.size, 3, none⟩ = some (.int .i64 u) := cell_below hb (by simp [go_sem])
        have m5 : v.cell? ⟨w.heap.size + 1, 0, none⟩ = some (.int .i64 a) := cell_below hb (by simp [go_sem])
        have m6 : v.cell? ⟨w.heap.size + 1, 1, none⟩ = some (.int .i64 b) := cell_below hb (by simp [go_sem])
        have hB : Below w.heap.size w v := Below.trans (by go_grown) (hb.mono (by go_size))
        clear hb
        go_wp2_with fail
        all_goals first | omega | skip
        all_goals go_returns
        all_goals refine ⟨?_, by go_grown⟩
        all_goals first | (simp [*]; done) | (simp [*]; omega)
    · go_enter Tryz.func65, Tryz.ntmps65
      go_wp2_with fail
      refine (C.out _).mono ?_
      rintro e v ⟨rfl, hb⟩
      have m1 : v.cell? ⟨w.heap.size, 0, none⟩ = some (.int .i64 x) := cell_below hb (by simp [go_sem])
      have m2 : v.cell? ⟨w.heap.size, 1, none⟩ = some (.int .i64 y) := cell_below hb (by simp [go_sem])
      have m3 : v.cell? ⟨w.heap.size, 2, none⟩ = some (.int .i64 z) := cell_below hb (by simp [go_sem])
      have m4 : v.cell? ⟨w.heap.size, 3, none⟩ = some (.int .i64 u) := cell_below hb (by simp [go_sem])
      have m5 : v.cell? ⟨w.heap.size + 1, 0, none⟩ = some (.int .i64 a) := cell_below hb (by simp [go_sem])
      have m6 : v.cell? ⟨w.heap.size + 1, 1, none⟩ = some (.int .i64 b) := cell_below hb (by simp [go_sem])
      have hB : Below w.heap.size w v := Below.trans (by go_grown) (hb.mono (by go_size))
      clear hb
      go_wp2_with fail
      all_goals first | omega | skip
      all_goals go_returns
      all_goals refine ⟨?_, by go_grown⟩
      all_goals first | (simp [*]; done) | (simp [*]; omega)

set_option maxHeartbeats 2000000 in
theorem inBoxS (x y z u a b : Int) (w : World) : Calls Tryz.prog 61 #[.agg #[.int .i64 x, .int .i64 y, .int .i64 z, .int .i64 u], .agg #[.int .i64 a, .int .i64 b]] w fun e w' => e = .returned (.bool (ib x y z u a b)) ∧ Below w.heap.size w w' := by
  unfold ib
  have C := isBoxS x y z u
  generalize bx x y z u = r at *
  replace C := Lib.hid C
  cases r
  · go_enter Tryz.func61, Tryz.ntmps61
    go_wp2_with fail
    refine (C.out _).mono ?_
    rintro e v ⟨rfl, hb⟩
    have hB : Below w.heap.size w v := Below.trans (by go_grown) (hb.mono (by go_size))
    clear hb
    go_wp2_with fail
    go_returns
    exact ⟨rfl, by go_grown⟩
  · by_cases h1 : x ≤ a
    · by_cases h2 : a ≤ z
      · by_cases h3 : y ≤ b
        · by_cases h4 : b ≤ u
          · go_enter Tryz.func61, Tryz.ntmps61
            go_wp2_with fail
            refine (C.out _).mono ?_
            rintro e v ⟨rfl, hb⟩
            have m1 : v.cell? ⟨w.heap.size, 0, none⟩ = some (.int .i64 x) := cell_below hb (by simp [go_sem])
            have m2 : v.cell? ⟨w.heap.size, 1, none⟩ = some (.int .i64 y) := cell_below hb (by simp [go_sem])
            have m3 : v.cell? ⟨w.heap.size, 2, none⟩ = some (.int .i64 z) := cell_below hb (by simp [go_sem])
            have m4 : v.cell? ⟨w.heap.size, 3, none⟩ = some (.int .i64 u) := cell_below hb (by simp [go_sem])
            have m5 : v.cell? ⟨w.heap.size + 1, 0, none⟩ = some (.int .i64 a) := cell_below hb (by simp [go_sem])
            have m6 : v.cell? ⟨w.heap.size + 1, 1, none⟩ = some (.int .i64 b) := cell_below hb (by simp [go_sem])
            have hB : Below w.heap.size w v := Below.trans (by go_grown) (hb.mono (by go_size))
            clear hb
            go_wp2_with fail
            all_goals first | omega | skip
            all_goals go_returns
            all_goals refine ⟨?_, by go_grown⟩
            all_goals first | (simp [*]; done) | (simp [*]; omega)
          · go_enter Tryz.func61, Tryz.ntmps61
            go_wp2_with fail
            refine (C.out _).mono ?_
            rintro e v ⟨rfl, hb⟩
            have m1 : v.cell? ⟨w.heap.size, 0, none⟩ = some (.int .i64 x) := cell_below hb (by simp [go_sem])
            have m2 : v.cell? ⟨w.heap.size, 1, none⟩ = some (.int .i64 y) := cell_below hb (by simp [go_sem])
            have m3 : v.cell? ⟨w.heap.size, 2, none⟩ = some (.int .i64 z) := cell_below hb (by simp [go_sem])
            have m4 : v.cell? ⟨w.heap.size, 3, none⟩ = some (.int .i64 u) := cell_below hb (by simp [go_sem])
            have m5 : v.cell? ⟨w.heap.size + 1, 0, none⟩ = some (.int .i64 a) := cell_below hb (by simp [go_sem])
            have m6 : v.cell? ⟨w.heap.size + 1, 1, none⟩ = some (.int .i64 b) := cell_below hb (by simp [go_sem])
            have hB : Below w.heap.size w v := Below.trans (by go_grown) (hb.mono (by go_size))
            clear hb
            go_wp2_with fail
            all_goals first | omega | skip
            all_goals go_returns
            all_goals refine ⟨?_, by go_grown⟩
            all_goals first | (simp [*]; done) | (simp [*]; omega)
        · go_enter Tryz.func61, Tryz.ntmps61
          go_wp2_with fail
          refine (C.out _).mono ?_
          rintro e v ⟨rfl, hb⟩
          have m1 : v.cell? ⟨w.heap.size, 0, none⟩ = some (.int .i64 x) := cell_below hb (by simp [go_sem])
          have m2 : v.cell? ⟨w.heap.size, 1, none⟩ = some (.int .i64 y) := cell_below hb (by simp [go_sem])
          have m3 : v.cell? ⟨w.heap.size, 2, none⟩ = some (.int .i64 z) := cell_below hb (by simp [go_sem])
          have m4 : v.cell? ⟨w.heap.size, 3, none⟩ = some (.int .i64 u) := cell_below hb (by simp [go_sem])
          have m5 : v.cell? ⟨w.heap.size + 1, 0, none⟩ = some (.int .i64 a) := cell_below hb (by simp [go_sem])
          have m6 : v.cell? ⟨w.heap.size + 1, 1, none⟩ = some (.int .i64 b) := cell_below hb (by simp [go_sem])
          have hB : Below w.heap.size w v := Below.trans (by go_grown) (hb.mono (by go_size))
          clear hb
          go_wp2_with fail
          all_goals first | omega | skip
          all_goals go_returns
          all_goals refine ⟨?_, by go_grown⟩
          all_goals first | (simp [*]; done) | (simp [*]; omega)
      · go_enter Tryz.func61, Tryz.ntmps61
        go_wp2_with fail
        refine (C.out _).mono ?_
        rintro e v ⟨rfl, hb⟩
        have m1 : v.cell? ⟨w.heap.size, 0, none⟩ = some (.int .i64 x) := cell_below hb (by simp [go_sem])
        have m2 : v.cell? ⟨w.heap.size, 1, none⟩ = some (.int .i64 y) := cell_below hb (by simp [go_sem])
        have m3 : v.cell? ⟨w.heap.size, 2, none⟩ = some (.int .i64 z) := cell_below hb (by simp [go_sem])
        have m4 : v.cell? ⟨w.heap.size, 3, none⟩ = some (.int .i64 u) := cell_below hb (by simp [go_sem])
        have m5 : v.cell? ⟨w.heap.size + 1, 0, none⟩ = some (.int .i64 a) := cell_below hb (by simp [go_sem])
        have m6 : v.cell? ⟨w.heap.size + 1, 1, none⟩ = some (.int .i64 b) := cell_below hb (by simp [go_sem])
        have hB : Below w.heap.size w v := Below.trans (by go_grown) (hb.mono (by go_size))
        clear hb
        go_wp2_with fail
        all_goals first | omega | skip
        all_goals go_returns
        all_goals refine ⟨?_, by go_grown⟩
        all_goals first | (simp [*]; done) | (simp [*]; omega)
    · go_enter Tryz.func61, Tryz.ntmps61
      go_wp2_with fail
      refine (C.out _).mono ?_
      rintro e v ⟨rfl, hb⟩
      have m1 : v.cell? ⟨w.heap.size, 0, none⟩ = some (.int .i64 x) := cell_below hb (by simp [go_sem])
      have m2 : v.cell? ⟨w.heap.size, 1, none⟩ = some (.int .i64 y) := cell_below hb (by simp [go_sem])
      have m3 : v.cell? ⟨w.heap.size, 2, none⟩ = some (.int .i64 z) := cell_below hb (by simp [go_sem])
      have m4 : v.cell? ⟨w.heap.size, 3, none⟩ = some (.int .i64 u) := cell_below hb (by simp [go_sem])
      have m5 : v.cell? ⟨w.heap.size + 1, 0, none⟩ = some (.int .i64 a) := cell_below hb (by simp [go_sem])
      have m6 : v.cell? ⟨w.heap.size + 1, 1, none⟩ = some (.int .i64 b) := cell_below hb (by simp [go_sem])
      have hB : Below w.heap.size w v := Below.trans (by go_grown) (hb.mono (by go_size))
      clear hb
      go_wp2_with fail
      all_goals first | omega | skip
      all_goals go_returns
      all_goals refine ⟨?_, by go_grown⟩
      all_goals first | (simp [*]; done) | (simp [*]; omega)

end Go.Proofs.YtejeikfgmiadhaaGreat.Bx
