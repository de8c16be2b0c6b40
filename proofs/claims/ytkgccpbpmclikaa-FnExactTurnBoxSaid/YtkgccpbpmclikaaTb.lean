/- What the least box of two places, and a box that is turned, answer, of the program and of the model. -/
import Derived.Test.YtkgccpbpmclikaaBx
import Derived.Test.YtkgccpbpmclikaaTp
import Derived.Deep.DeepCutAuto
namespace Go.Proofs.Ytkgccpbpmclikaa.Tb
open Go.RowKit Go.Proofs.Ytkgccpbpmclikaa.Cx Go.Proofs.Ytkgccpbpmclikaa.Cm Go.Proofs.Ytkgccpbpmclikaa.Pl Go.Proofs.Ytkgccpbpmclikaa.Str Go.Proofs.Ytkgccpbpmclikaa.Pw Go.Proofs.Ytkgccpbpmclikaa.P2 Go.Proofs.Ytkgccpbpmclikaa.Bx
set_option linter.unusedVariables false

section
variable {P : Program}
theorem fmin {a b : Int} {x y : Nat} (ha : a.natAbs < 16777216) (hb : b.natAbs < 16777216) (hx : I32 a x) (hy : I32 b y) :
    ∃ r, (∀ ts t w, (Builtin.min_ ts t #[.float .f32 x, .float .f32 y]).run P w = .ok (.float .f32 r) w) ∧ I32 (min a b) r := by
  have o := order_is (s32 a ha) (s32 b hb) hx hy
  rcases Int.lt_trichotomy a b with h | h | h
  · rw [Meas.cmp_lt h] at o
    exact ⟨x, fun ts t w => by simp [Builtin.min_, Builtin.min2, show FloatKind.f32.format.order x y = _ from o], by rw [Int.min_eq_left (by omega)]; exact hx⟩
  · rw [Meas.cmp_eq h] at o
    subst h
    cases hn : (FloatKind.f32.decode x).neg
    · exact ⟨y, fun ts t w => by simp [Builtin.min_, Builtin.min2, show FloatKind.f32.format.order x y = _ from o, hn], by rw [Int.min_self]; exact hy⟩
    · exact ⟨x, fun ts t w => by simp [Builtin.min_, Builtin.min2, show FloatKind.f32.format.order x y = _ from o, hn], by rw [Int.min_self]; exact hx⟩
  · rw [Meas.cmp_gt h] at o
    exact ⟨y, fun ts t w => by simp [Builtin.min_, Builtin.min2, show FloatKind.f32.format.order x y = _ from o], by rw [Int.min_eq_right (by omega)]; exact hy⟩
theorem fmax {a b : Int} {x y : Nat} (ha : a.natAbs < 16777216) (hb : b.natAbs < 16777216) (hx : I32 a x) (hy : I32 b y) :
    ∃ r, (∀ ts t w, (Builtin.max_ ts t #[.float .f32 x, .float .f32 y]).run P w = .ok (.float .f32 r) w) ∧ I32 (max a b) r := by
  have o := order_is (s32 a ha) (s32 b hb) hx hy
  rcases Int.lt_trichotomy a b with h | h | h
  · rw [Meas.cmp_lt h] at o
    exact ⟨y, fun ts t w => by simp [Builtin.max_, Builtin.max2, show FloatKind.f32.format.order x y = _ from o], by rw [Int.max_eq_right (by omega)]; exact hy⟩
  · rw [Meas.cmp_eq h] at o
    subst h
    cases hn : (FloatKind.f32.decode x).neg
    · exact ⟨x, fun ts t w => by simp [Builtin.max_, Builtin.max2, show FloatKind.f32.format.order x y = _ from o, hn], by rw [Int.max_self]; exact hx⟩
    · exact ⟨y, fun ts t w => by simp [Builtin.max_, Builtin.max2, show FloatKind.f32.format.order x y = _ from o, hn], by rw [Int.max_self]; exact hy⟩
  · rw [Meas.cmp_gt h] at o
    exact ⟨x, fun ts t w => by simp [Builtin.max_, Builtin.max2, show FloatKind.f32.format.order x y = _ from o], by rw [Int.max_eq_left (by omega)]; exact hx⟩
end

/-- impl.turned, with its words ahead of the call. -/
theorem turnedX {x y : Int} (n : Int) {re im : Nat} (hx : x.natAbs < 8388608) (hy : y.natAbs < 8388608) (h1 : I32 x re) (h2 : I32 y im) :
    ∃ re' im', I32 (tx (n % 4).toNat x y) re' ∧ I32 (ty (n % 4).toNat x y) im' ∧ ∀ w, Calls Try.prog 52 #[.complex .f32 re im, .int .i64 n] w fun e w' => e = .returned (.complex .f32 re' im') ∧ w = w' := by
  obtain ⟨r1, i1, m1, a1, b1⟩ := quarter (P := Try.prog) hx hy h1 h2
  obtain ⟨r2, i2, m2, a2, b2⟩ := quarter (P := Try.prog) (by omega) hx a1 b1
  obtain ⟨r3, i3, m3, a3, b3⟩ := quarter (P := Try.prog) (by omega) (by omega) a2 b2
  rw [Int.neg_neg] at a3
  have key : ∀ k : Int, k = 0 ∨ k = 1 ∨ k = 2 ∨ k = 3 → (∀ w, Calls Try.prog 49 #[.int .i64 n] w fun e w' => e = .returned (.int .i64 k) ∧ w = w') →
      ∃ re' im', I32 (tx k.toNat x y) re' ∧ I32 (ty k.toNat x y) im' ∧ ∀ w, Calls Try.prog 52 #[.complex .f32 re im, .int .i64 n] w fun e w' => e = .returned (.complex .f32 re' im') ∧ w = w' := by
    intro k hk hq
    have Q := Lib.hid hq
    clear hq
    rcases hk with rfl | rfl | rfl | rfl
    · refine ⟨_, _, h1, h2, fun w => ?_⟩
      go_enter Try.func52, Try.ntmps52
      go_wp2_with (first
        | (go_at_call 49; refine (Q.out _).mono ?_; rintro e w' ⟨rfl, rfl⟩)
        | go_rounds 4)
      all_goals go_returns
      exact ⟨rfl, rfl⟩
    · refine ⟨_, _, a1, b1, fun w => ?_⟩
      go_enter Try.func52, Try.ntmps52
      go_wp2_with (first
        | (go_at_call 49; refine (Q.out _).mono ?_; rintro e w' ⟨rfl, rfl⟩)
        | go_rounds 4)
      all_goals go_returns
      exact ⟨rfl, rfl⟩
    · refine ⟨_, _, a2, b2, fun w => ?_⟩
      go_enter Try.func52, Try.ntmps52
      go_wp2_with (first
        | (go_at_call 49; refine (Q.out _).mono ?_; rintro e w' ⟨rfl, rfl⟩)
        | go_rounds 4)
      all_goals go_returns
      exact ⟨rfl, rfl⟩
    · refine ⟨_, _, a3, b3, fun w => ?_⟩
      go_enter Try.func52, Try.ntmps52
      go_wp2_with (first
        | (go_at_call 49; refine (Q.out _).mono ?_; rintro e w' ⟨rfl, rfl⟩)
        | go_rounds 4)
      all_goals go_returns
      exact ⟨rfl, rfl⟩
  exact key _ (mod4_cases n) (fun w => quartersOf n w)

abbrev V (x : Int) : Prop := -4096 ≤ x ∧ x ≤ 4096

set_option maxHeartbeats 4000000 in
theorem leastBox2 {a b c d : Int} {x y z u : Nat} (ha : V a) (hb : V b) (hc : V c) (hd : V d) (hx : I32 a x) (hy : I32 b y) (hz : I32 c z) (hu : I32 d u) (g : Nat) (w : World)
    (c0 : w.cell? ⟨g, 0, none⟩ = some (.complex .f32 x y)) (c1 : w.cell? ⟨g, 1, none⟩ = some (.complex .f32 z u)) :
    Calls Try.prog 62 #[.slice (some ⟨g, 0, none⟩) 2 2] w fun e w' => e = .returned (.agg #[.int .i64 (min a c), .int .i64 (min b d), .int .i64 (max a c), .int .i64 (max b d)]) ∧ Below w.heap.size w w' := by
  obtain ⟨r1, f1, i1⟩ := fmin (P := Try.prog) (by omega) (by omega) hx hx
  obtain ⟨r2, f2, i2⟩ := fmin (P := Try.prog) (by omega) (by omega) hy hy
  obtain ⟨r3, f3, i3⟩ := fmax (P := Try.prog) (by omega) (by omega) hx hx
  obtain ⟨r4, f4, i4⟩ := fmax (P := Try.prog) (by omega) (by omega) hy hy
  rw [Int.min_self] at i1 i2
  rw [Int.max_self] at i3 i4
  obtain ⟨s1, g1, j1⟩ := fmin (P := Try.prog) (by omega) (by omega) i1 hz
  obtain ⟨s2, g2, j2⟩ := fmin (P := Try.prog) (by omega) (by omega) i2 hu
  obtain ⟨s3, g3, j3⟩ := fmax (P := Try.prog) (by omega) (by omega) i3 hz
  obtain ⟨s4, g4, j4⟩ := fmax (P := Try.prog) (by omega) (by omega) i4 hu
  have D1 := Lib.hid (toldYes (by omega) (by omega) j1 j2)
  have D2 := Lib.hid (toldYes (by omega) (by omega) j3 j4)
  generalize min a c = A1 at *
  generalize min b d = A2 at *
  generalize max a c = A3 at *
  generalize max b d = A4 at *
  have lg := World.block_lt_of_cell? w _ c0
  have lg2 : ∀ j, g < w.heap.size + j := fun j => Nat.lt_of_lt_of_le lg (Nat.le_add_right _ j)
  clear ha hb hc hd hx hy hz hu i1 i2 i3 i4 j1 j2 j3 j4
  go_enter Try.func62, Try.ntmps62
  go_wp2_with fail
  go_region_held3 (fun w' => w'.cell? ⟨g, 0, none⟩ = some (.complex .f32 x y)) (simp [go_sem, *]) (fail)
  go_wp2_with fail
  refine wp_loop_rounds 3 ?_
  repeat any_goals (rw [rounds_succ]; go_wp2_with fail)
  refine (D1.out _).mono ?_
  rintro e w' ⟨rfl, rfl⟩
  go_wp2_with fail
  refine (D2.out _).mono ?_
  rintro e w' ⟨rfl, rfl⟩
  go_wp2_with fail
  go_returns
  exact ⟨rfl, by go_grown⟩

theorem frozen_below {W w' : World} {p : Addr} {v : Value} (hb : Below W.heap.size W w') (h : W.cell? p = some v) (hf : W.frozen? p = false) : w'.frozen? p = false := (hb.frozen (World.block_lt_of_cell? W p h)).trans hf

theorem set4 {W : World} {g : Nat} {a b c d p q r s : Value} (h0 : W.cell? ⟨g, 0, none⟩ = some p) (h1 : W.cell? ⟨g, 1, none⟩ = some q) (h2 : W.cell? ⟨g, 2, none⟩ = some r) (h3 : W.cell? ⟨g, 3, none⟩ = some s) :
    ((((W.setCell ⟨g, 0, none⟩ a).setCell ⟨g, 1, none⟩ b).setCell ⟨g, 2, none⟩ c).setCell ⟨g, 3, none⟩ d).cell? ⟨g, 0, none⟩ = some a ∧
    ((((W.setCell ⟨g, 0, none⟩ a).setCell ⟨g, 1, none⟩ b).setCell ⟨g, 2, none⟩ c).setCell ⟨g, 3, none⟩ d).cell? ⟨g, 1, none⟩ = some b ∧
    ((((W.setCell ⟨g, 0, none⟩ a).setCell ⟨g, 1, none⟩ b).setCell ⟨g, 2, none⟩ c).setCell ⟨g, 3, none⟩ d).cell? ⟨g, 2, none⟩ = some c ∧
    ((((W.setCell ⟨g, 0, none⟩ a).setCell ⟨g, 1, none⟩ b).setCell ⟨g, 2, none⟩ c).setCell ⟨g, 3, none⟩ d).cell? ⟨g, 3, none⟩ = some d := by
  have o : ∀ (X : World) (i j : Nat) (v : Value), i ≠ j → (X.setCell ⟨g, i, none⟩ v).cell? ⟨g, j, none⟩ = X.cell? ⟨g, j, none⟩ := fun X i j v h => World.cell?_setCell_other _ _ _ _ (by simp [h])
  refine ⟨?_, ?_, ?_, ?_⟩
  · rw [o _ 3 0 _ (by decide), o _ 2 0 _ (by decide), o _ 1 0 _ (by decide)]; exact World.cell?_setCell_same' _ _ _ (by rw [h0]; rfl)
  · rw [o _ 3 1 _ (by decide), o _ 2 1 _ (by decide)]; exact World.cell?_setCell_same' _ _ _ (by rw [o _ 0 1 _ (by decide), h1]; rfl)
  · rw [o _ 3 2 _ (by decide)]; exact World.cell?_setCell_same' _ _ _ (by rw [o _ 1 2 _ (by decide), o _ 0 2 _ (by decide), h2]; rfl)
  · exact World.cell?_setCell_same' _ _ _ (by rw [o _ 2 3 _ (by decide), o _ 1 3 _ (by decide), o _ 0 3 _ (by decide), h3]; rfl)

abbrev box4 (x y z u : Int) : Value := .agg #[.int .i64 x, .int .i64 y, .int .i64 z, .int .i64 u]

theorem l1Min (a b : Int) (w : World) : Calls Try.prog 59 #[.int .i64 a, .int .i64 b] w fun e w' => e = .returned (.int .i64 (min a b)) ∧ w = w' := by
  go_enter Try.func59, Try.ntmps59
  go_wp2
  all_goals go_returns
  · rename_i h
    refine ⟨?_, rfl⟩
    show Ending.returned (.int .i64 a) = _
    rw [Int.min_eq_left (by omega)]
  · rename_i h
    refine ⟨?_, rfl⟩
    show Ending.returned (.int .i64 b) = _
    rw [Int.min_eq_right (by omega)]
theorem l1Max (a b : Int) (w : World) : Calls Try.prog 60 #[.int .i64 a, .int .i64 b] w fun e w' => e = .returned (.int .i64 (max a b)) ∧ w = w' := by
  go_enter Try.func60, Try.ntmps60
  go_wp2
  all_goals go_returns
  · rename_i h
    refine ⟨?_, rfl⟩
    show Ending.returned (.int .i64 a) = _
    rw [Int.max_eq_left (by omega)]
  · rename_i h
    refine ⟨?_, rfl⟩
    show Ending.returned (.int .i64 b) = _
    rw [Int.max_eq_right (by omega)]

/-- The box of the turned corners. -/
def tb (n x y z u : Int) : Int × Int × Int × Int :=
  let k := (n % 4).toNat
  (min (tx k x y) (tx k z u), min (ty k x y) (ty k z u), max (tx k x y) (tx k z u), max (ty k x y) (ty k z u))

set_option maxHeartbeats 4000000 in
set_option maxRecDepth 100000 in
theorem turnBoxI {x y z u : Int} (n : Int) (hp : (ms x && ms y) = true) (hq : (ms z && ms u) = true) (h : bx x y z u = true) (w : World) :
    Calls Try.prog 45 #[box4 x y z u, .int .i64 n] w fun e w' => e = .returned (box4 (tb n x y z u).1 (tb n x y z u).2.1 (tb n x y z u).2.2.1 (tb n x y z u).2.2.2) ∧ Below w.heap.size w w' := by
  obtain ⟨hx, hy⟩ := pl_yes hp
  obtain ⟨hz, hu⟩ := pl_yes hq
  have B := Lib.hid (show ∀ w, Calls Try.prog 35 #[box4 x y z u] w fun e w' => e = .returned (.bool true) ∧ Below w.heap.size w w' from h ▸ isBoxI x y z u)
  obtain ⟨r1, i1, j1, k1, t1⟩ := turnedX n (by omega) (by omega) (i32_f32 x) (i32_f32 y)
  obtain ⟨r2, i2, j2, k2, t2⟩ := turnedX n (by omega) (by omega) (i32_f32 z) (i32_f32 u)
  have T1 := Lib.hid t1
  have T2 := Lib.hid t2
  have C1 := Lib.hid (complexOf x y (by omega) (by omega))
  have C2 := Lib.hid (complexOf z u (by omega) (by omega))
  have L := Lib.hid (leastBox2 (txle hx hy) (tyle hx hy) (txle hz hu) (tyle hz hu) j1 k1 j2 k2)
  simp only [tb]
  generalize min (tx (n % 4).toNat x y) (tx (n % 4).toNat z u) = A1 at *
  generalize min (ty (n % 4).toNat x y) (ty (n % 4).toNat z u) = A2 at *
  generalize max (tx (n % 4).toNat x y) (tx (n % 4).toNat z u) = A3 at *
  generalize max (ty (n % 4).toNat x y) (ty (n % 4).toNat z u) = A4 at *
  clear hp hq h hx hy hz hu t1 t2 j1 k1 j2 k2
  go_enter Try.func45, Try.ntmps45
  go_wp2_with fail
  refine (B.out _).mono ?_
  rintro e v ⟨rfl, hb⟩
  have m1 : v.cell? ⟨w.heap.size, 0, none⟩ = some (.int .i64 x) := cell_below hb (by simp [go_sem])
  have m2 : v.cell? ⟨w.heap.size, 1, none⟩ = some (.int .i64 y) := cell_below hb (by simp [go_sem])
  have m3 : v.cell? ⟨w.heap.size, 2, none⟩ = some (.int .i64 z) := cell_below hb (by simp [go_sem])
  have m4 : v.cell? ⟨w.heap.size, 3, none⟩ = some (.int .i64 u) := cell_below hb (by simp [go_sem])
  have hB : Below w.heap.size w v := Below.trans (by go_grown) (hb.mono (by go_size))
  have hsz := hB.size
  have q1 : w.heap.size < v.heap.size := World.block_lt_of_cell? v _ m1
  have q2 : ∀ j, w.heap.size < v.heap.size + j := fun j => by omega
  have q3 : ∀ j, w.heap.size + 1 < v.heap.size + j := fun j => by have := hb.size; simp at this; omega
  have q4 : w.heap.size + 1 < v.heap.size := by have := hb.size; simp at this; omega
  have x0 : v.cell? ⟨w.heap.size + 1, 0, none⟩ = some (.int .i64 0) := cell_below hb (by simp [go_sem])
  have x1 : v.cell? ⟨w.heap.size + 1, 1, none⟩ = some (.int .i64 0) := cell_below hb (by simp [go_sem])
  have x2 : v.cell? ⟨w.heap.size + 1, 2, none⟩ = some (.int .i64 0) := cell_below hb (by simp [go_sem])
  have x3 : v.cell? ⟨w.heap.size + 1, 3, none⟩ = some (.int .i64 0) := cell_below hb (by simp [go_sem])
  have z0 : v.frozen? ⟨w.heap.size + 1, 0, none⟩ = false := by rw [hb.frozen (by simp)]; simp [go_sem]
  have z1 : v.frozen? ⟨w.heap.size + 1, 1, none⟩ = false := by rw [hb.frozen (by simp)]; simp [go_sem]
  have z2 : v.frozen? ⟨w.heap.size + 1, 2, none⟩ = false := by rw [hb.frozen (by simp)]; simp [go_sem]
  have z3 : v.frozen? ⟨w.heap.size + 1, 3, none⟩ = false := by rw [hb.frozen (by simp)]; simp [go_sem]
  clear hb
  go_wp2_with fail
  go_region_held3 (fun w' => w'.cell? ⟨w.heap.size, 0, none⟩ = some (.int .i64 x) ∧ w'.cell? ⟨w.heap.size, 1, none⟩ = some (.int .i64 y) ∧ w'.cell? ⟨w.heap.size, 2, none⟩ = some (.int .i64 z) ∧ w'.cell? ⟨w.heap.size, 3, none⟩ = some (.int .i64 u)) (simp [go_sem, *])
    (first
      | (go_at_call_of 53 x; refine (C1.out _).mono ?_; rintro e w' ⟨rfl, rfl⟩)
      | (go_at_call_of 53 z; refine (C2.out _).mono ?_; rintro e w' ⟨rfl, rfl⟩)
      | (go_at_call_of 52 x; refine (T1.out _).mono ?_; rintro e w' ⟨rfl, rfl⟩)
      | (go_at_call_of 52 z; refine (T2.out _).mono ?_; rintro e w' ⟨rfl, rfl⟩)
      | (go_at_call 62; refine (L.out _ _ (by simp [go_sem]) (by simp [go_sem])).mono ?_; rintro e w' ⟨rfl, hb⟩; have hb2 : Below v.heap.size v w' := (Below.trans (by go_grown) (hb.mono (by go_size))); clear hb;
          have y1 := cell_below hb2 m1;
          have y2 := cell_below hb2 m2;
          have y3 := cell_below hb2 m3;
          have y4 := cell_below hb2 m4;
          have p0 := cell_below hb2 x0;
          have p1 := cell_below hb2 x1;
          have p2 := cell_below hb2 x2;
          have p3 := cell_below hb2 x3;
          have o0 := frozen_below hb2 x0 z0;
          have o1 := frozen_below hb2 x1 z1;
          have o2 := frozen_below hb2 x2 z2;
          have o3 := frozen_below hb2 x3 z3;
          have hB2 := Lib.hid (hB.trans (hb2.mono hB.size)); have HR := Lib.hid (set4 (a := .int .i64 A1) (b := .int .i64 A2) (c := .int .i64 A3) (d := .int .i64 A4) p0 p1 p2 p3); clear hb2))
  all_goals go_wp2_with fail
  all_goals have r0 := HR.out.1
  all_goals have r1' := HR.out.2.1
  all_goals have r2' := HR.out.2.2.1
  all_goals have r3' := HR.out.2.2.2
  all_goals (try simp only [Exit.inBlock, Exit.then])
  all_goals refine bodyPost_ret (by simp [results, Try.results45, go_sem, r0, r1', r2', r3']; try rfl) rfl ?_
  all_goals exact ⟨rfl, by have h8 := hB2.out; have h9 := h8.size; go_grown⟩

end Go.Proofs.Ytkgccpbpmclikaa.Tb
