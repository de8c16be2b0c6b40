/- What the small functions on places answer, of the program and of the model: measures, quarters, turns. -/
import Derived.Test.YtejeikfgmiadhabGreatM3
import Derived.Below
import Derived.Handy
import Derived.Lib.Hide
import Derived.Test.YtejeikfgmiadhabGreatM1
import Derived.Deep.RegionHeld3
namespace Go.Proofs.YtejeikfgmiadhabGreat.Pl
open Go.RowKit Go.Proofs.YtejeikfgmiadhabGreat.Cm
set_option linter.unusedVariables false

theorem and3 (n : Int) : bits .and .i64 n 3 = n % 4 := by
  unfold bits
  have hb : IntKind.i64.bits = 64 := rfl
  simp only [IntKind.wrap, BitVec.toNat_and, BitVec.toNat_ofInt]
  have h1 : ((n % ((2 ^ IntKind.i64.bits : Nat) : Int)).toNat &&& ((3 : Int) % ((2 ^ IntKind.i64.bits : Nat) : Int)).toNat) = (n % 4).toNat := by
    rw [hb]
    have e : ((3 : Int) % ((2 ^ 64 : Nat) : Int)).toNat = 2 ^ 2 - 1 := by decide
    rw [e, Nat.and_two_pow_sub_one_eq_mod]
    omega
  rw [h1, hb]
  have hy : ((n % 4).toNat : Int) = n % 4 := by omega
  rw [hy]
  have h2 : (n % 4) % 2 ^ 64 = n % 4 := by omega
  rw [h2]
  split
  · rename_i h
    have h3 := (Bool.and_eq_true_iff.1 h).2
    have := of_decide_eq_true h3
    omega
  · rfl

theorem tmod4 (n : Int) : n.tmod 4 = if n % 4 ≠ 0 ∧ n < 0 then n % 4 - 4 else n % 4 := by
  rcases Int.lt_or_le n 0 with h | h
  · have : n.tmod 4 = -((-n).tmod 4) := by rw [Int.neg_tmod, Int.neg_neg]
    rw [this, Int.tmod_eq_emod_of_nonneg (by omega)]
    split <;> omega
  · rw [Int.tmod_eq_emod_of_nonneg h, if_neg (by omega)]

theorem quartersOf (n : Int) (w : World) : Calls Tryz.prog 191 #[.int .i64 n] w fun e w' => e = .returned (.int .i64 (n % 4)) ∧ w = w' := by
  have h := and3 n
  go_enter Tryz.func191, Tryz.ntmps191
  go_wp2
  go_returns
  exact ⟨rfl, rfl⟩

theorem l2Mod (n : Int) (w : World) : Calls Tryz.prog 139 #[.int .i64 n] w fun e w' => e = .returned (.int .i64 (n % 4)) ∧ w = w' := by
  go_enter Tryz.func139, Tryz.ntmps139
  go_wp2
  all_goals go_returns
  · rename_i h
    have t := tmod4 n
    refine ⟨?_, rfl⟩
    show Ending.returned (.int .i64 (wrap64 (n.tmod 4 + 4))) = _
    rw [IntWalk.wrap64_in _ (by split at t <;> omega)]
    congr 2
    split at t <;> omega
  · rename_i h
    have t := tmod4 n
    refine ⟨?_, rfl⟩
    show Ending.returned (.int .i64 (n.tmod 4)) = _
    congr 2
    split at t <;> omega

theorem isMeasureI (x : Int) (w : World) : Calls Tryz.prog 175 #[.int .i64 x] w fun e w' => e = .returned (.bool (ms x)) ∧ w = w' := by
  go_enter Tryz.func175, Tryz.ntmps175
  go_wp2
  all_goals go_returns
  · rename_i h
    refine ⟨?_, rfl⟩
    show Ending.returned (.bool (decide (x ≤ 4096))) = _
    unfold ms; rw [decide_eq_true h]; rfl
  · rename_i h
    refine ⟨?_, rfl⟩
    show Ending.returned (.bool false) = _
    rw [ms_no (by omega)]
theorem isMeasureS (x : Int) (w : World) : Calls Tryz.prog 125 #[.int .i64 x] w fun e w' => e = .returned (.bool (ms x)) ∧ w = w' := by
  go_enter Tryz.func125, Tryz.ntmps125
  go_wp2
  all_goals go_returns
  · rename_i h
    refine ⟨?_, rfl⟩
    show Ending.returned (.bool (decide (x ≤ 4096))) = _
    unfold ms; rw [decide_eq_true h]; rfl
  · rename_i h
    refine ⟨?_, rfl⟩
    show Ending.returned (.bool false) = _
    rw [ms_no (by omega)]

/-- X behind k quarter turns, and Y. -/
def tx : Nat → Int → Int → Int
  | 0, x, _ => x
  | 1, _, y => -y
  | 2, x, _ => -x
  | _, _, y => y
def ty : Nat → Int → Int → Int
  | 0, _, y => y
  | 1, x, _ => x
  | 2, _, y => -y
  | _, x, _ => -x

theorem mod4_cases (n : Int) : n % 4 = 0 ∨ n % 4 = 1 ∨ n % 4 = 2 ∨ n % 4 = 3 := by omega

set_option maxHeartbeats 1000000 in
theorem turned {x y n : Int} {re im : Nat} (hx : x.natAbs < 8388608) (hy : y.natAbs < 8388608) (h1 : I32 x re) (h2 : I32 y im) (w : World) :
    Calls Tryz.prog 177 #[.complex .f32 re im, .int .i64 n] w fun e w' => ∃ re' im', e = .returned (.complex .f32 re' im') ∧ w = w' ∧ I32 (tx (n % 4).toNat x y) re' ∧ I32 (ty (n % 4).toNat x y) im' := by
  have q := Lib.hid (quartersOf n)
  obtain ⟨r1, i1, m1, a1, b1⟩ := quarter (P := Tryz.prog) hx hy h1 h2
  obtain ⟨r2, i2, m2, a2, b2⟩ := quarter (P := Tryz.prog) (by omega) hx a1 b1
  obtain ⟨r3, i3, m3, a3, b3⟩ := quarter (P := Tryz.prog) (by omega) (by omega) a2 b2
  rw [Int.neg_neg] at a3
  have key : ∀ k : Int, k = 0 ∨ k = 1 ∨ k = 2 ∨ k = 3 → (∀ w, Calls Tryz.prog 191 #[.int .i64 n] w fun e w' => e = .returned (.int .i64 k) ∧ w = w') →
      Calls Tryz.prog 177 #[.complex .f32 re im, .int .i64 n] w fun e w' => ∃ re' im', e = .returned (.complex .f32 re' im') ∧ w = w' ∧ I32 (tx k.toNat x y) re' ∧ I32 (ty k.toNat x y) im' := by
    intro k hk hq
    have Q := Lib.hid hq
    clear hq q
    rcases hk with rfl | rfl | rfl | rfl
    all_goals
      go_enter Tryz.func177, Tryz.ntmps177
      go_wp2_with (first
        | (go_at_call 191; refine (Q.out _).mono ?_; rintro e w' ⟨rfl, rfl⟩)
        | go_rounds 4)
      all_goals go_returns
    · exact ⟨_, _, rfl, rfl, h1, h2⟩
    · exact ⟨_, _, rfl, rfl, a1, b1⟩
    · exact ⟨_, _, rfl, rfl, a2, b2⟩
    · exact ⟨_, _, rfl, rfl, a3, b3⟩
  exact key _ (mod4_cases n) (fun w => q.out w)

end Go.Proofs.YtejeikfgmiadhabGreat.Pl
namespace Go.Proofs.YtejeikfgmiadhabGreat.Pw
open Go.RowKit Go.Proofs.YtejeikfgmiadhabGreat.Cm Go.Proofs.YtejeikfgmiadhabGreat.Pl Go.Proofs.YtejeikfgmiadhabGreat.Str
set_option linter.unusedVariables false

/-- The memory of a place that a call has laid. -/
abbrev cell2 (x y : Int) : Obj := .cells #[.int .i64 x, .int .i64 y] 31

set_option maxRecDepth 100000 in
theorem complexOf (x y : Int) (hx : x.natAbs < 16777216) (hy : y.natAbs < 16777216) (w : World) :
    Calls Tryz.prog 108 #[.agg #[.int .i64 x, .int .i64 y]] w fun e w' => e = .returned (.complex .f32 (Meas.f32 x) (Meas.f32 y)) ∧ w' = (w.alloc (.cells #[.int .i64 x, .int .i64 y] 31)).drew := by
  have c1 := Lib.hid (Meas.wholesOf x hx)
  have c2 := Lib.hid (Meas.wholesOf y hy)
  clear hx hy
  go_enter Tryz.func108, Tryz.ntmps108
  go_wp2_with fail
  go_region_held3 (fun w' => w'.cell? ⟨w.heap.size, 0, none⟩ = some (.int .i64 x) ∧ w'.cell? ⟨w.heap.size, 1, none⟩ = some (.int .i64 y)) (go_keep)
    (first
      | (go_at_call 143; refine (c1.out _).mono ?_; rintro e w' ⟨rfl, rfl⟩)
      | (go_at_call 143; refine (c2.out _).mono ?_; rintro e w' ⟨rfl, rfl⟩))
  go_wp2_with fail
  go_returns
  exact ⟨rfl, rfl⟩

theorem toldPlace {a b : Int} {re im : Nat} (ha : a.natAbs < 16777216) (hb : b.natAbs < 16777216) (h1 : I32 a re) (h2 : I32 b im) (w : World) :
    Calls Tryz.prog 137 #[.complex .f32 re im] w fun e w' => e = .returned (.tuple #[.agg #[.int .i64 (if ms a && ms b then a else 0), .int .i64 (if ms a && ms b then b else 0)], .bool (ms a && ms b)]) ∧ w' = w.alloc (.cells #[.int .i64 (if ms a && ms b then a else 0), .int .i64 (if ms a && ms b then b else 0)] 31) := by
  have c1 := told ha h1
  have c2 := told hb h2
  generalize ms a = p at *
  generalize ms b = q at *
  obtain ⟨x, hx⟩ : ∃ x, (if p = true then a else 0) = x := ⟨_, rfl⟩
  obtain ⟨y, hy⟩ : ∃ y, (if q = true then b else 0) = y := ⟨_, rfl⟩
  rw [hx] at c1
  rw [hy] at c2
  have c1 := Lib.hid c1
  have c2 := Lib.hid c2
  clear ha hb h1 h2
  have key : Calls Tryz.prog 137 #[.complex .f32 re im] w fun e w' => e = .returned (.tuple #[.agg #[.int .i64 (if p && q then x else 0), .int .i64 (if p && q then y else 0)], .bool (p && q)]) ∧ w' = w.alloc (.cells #[.int .i64 (if p && q then x else 0), .int .i64 (if p && q then y else 0)] 31) := by
    clear hx hy
    cases p <;> cases q
    all_goals
      go_enter Tryz.func137, Tryz.ntmps137
      go_wp2_with fail
      refine (c1.out _).mono ?_
      rintro e w' ⟨rfl, rfl⟩
      go_wp2_with fail
      refine (c2.out _).mono ?_
      rintro e w' ⟨rfl, rfl⟩
      go_wp2_with fail
      go_returns
      exact ⟨rfl, rfl⟩
  cases p <;> cases q <;> simp at hx hy <;> subst hx hy <;> exact key

theorem isPlaceI (x y : Int) (w : World) : Calls Tryz.prog 138 #[.agg #[.int .i64 x, .int .i64 y]] w fun e w' => e = .returned (.bool (ms x && ms y)) ∧ w' = w.alloc (.cells #[.int .i64 x, .int .i64 y] 31) := by
  go_enter Tryz.func138, Tryz.ntmps138
  go_wp2_with (go_at_call 175; refine (isMeasureI _ _).mono ?_; rintro e w' ⟨rfl, rfl⟩)
  all_goals go_returns
  all_goals refine ⟨?_, rfl⟩
  all_goals simp [*]

theorem isPlaceS (x y : Int) (w : World) : Calls Tryz.prog 80 #[.agg #[.int .i64 x, .int .i64 y]] w fun e w' => e = .returned (.bool (ms x && ms y)) ∧ w' = w.alloc (.cells #[.int .i64 x, .int .i64 y] 31) := by
  go_enter Tryz.func80, Tryz.ntmps80
  go_wp2_with (go_at_call 125; refine (isMeasureS _ _).mono ?_; rintro e w' ⟨rfl, rfl⟩)
  all_goals go_returns
  all_goals refine ⟨?_, rfl⟩
  all_goals simp [*]

theorem l2Turn {x y : Int} (n : Int) (hx : x.natAbs < 4611686018427387904) (hy : y.natAbs < 4611686018427387904) (w : World) :
    Calls Tryz.prog 103 #[.agg #[.int .i64 x, .int .i64 y], .int .i64 n] w fun e w' => e = .returned (.agg #[.int .i64 (tx (n % 4).toNat x y), .int .i64 (ty (n % 4).toNat x y)]) ∧ w' = (w.alloc (.cells #[.int .i64 (tx (n % 4).toNat x y), .int .i64 (ty (n % 4).toNat x y)] 31)).alloc (.cells #[.int .i64 (tx (n % 4).toNat x y), .int .i64 (ty (n % 4).toNat x y)] 31) := by
  have q := Lib.hid (l2Mod n)
  have key : ∀ k : Int, k = 0 ∨ k = 1 ∨ k = 2 ∨ k = 3 → (∀ w, Calls Tryz.prog 139 #[.int .i64 n] w fun e w' => e = .returned (.int .i64 k) ∧ w = w') →
      Calls Tryz.prog 103 #[.agg #[.int .i64 x, .int .i64 y], .int .i64 n] w fun e w' => e = .returned (.agg #[.int .i64 (tx k.toNat x y), .int .i64 (ty k.toNat x y)]) ∧ w' = (w.alloc (.cells #[.int .i64 (tx k.toNat x y), .int .i64 (ty k.toNat x y)] 31)).alloc (.cells #[.int .i64 (tx k.toNat x y), .int .i64 (ty k.toNat x y)] 31) := by
    intro k hk hq
    have Q := Lib.hid hq
    clear hq q
    have n1 : wrap64 (-x) = -x := IntWalk.wrap64_in _ (by omega)
    have n2 : wrap64 (-y) = -y := IntWalk.wrap64_in _ (by omega)
    have n3 : wrap64 x = x := IntWalk.wrap64_in _ (by omega)
    have n4 : wrap64 y = y := IntWalk.wrap64_in _ (by omega)
    clear hx hy
    rcases hk with rfl | rfl | rfl | rfl
    all_goals
      go_enter Tryz.func103, Tryz.ntmps103
      go_wp2_with (first
        | (go_at_call 139; refine (Q.out _).mono ?_; rintro e w' ⟨rfl, rfl⟩)
        | go_rounds 4)
      all_goals go_returns
      exact ⟨rfl, rfl⟩
  exact key _ (mod4_cases n) (fun w => q.out w)

theorem toPlace (x y : Int) (w : World) : Calls Tryz.prog 40 #[.agg #[.int .i64 x, .int .i64 y]] w fun e w' => e = .returned (.agg #[.int .i64 x, .int .i64 y]) ∧ w' = ((w.alloc (.cells #[.int .i64 x, .int .i64 y] 48)).alloc (.cells #[.int .i64 x, .int .i64 y] 31)).alloc (.cells #[.int .i64 x, .int .i64 y] 31) := by
  go_enter Tryz.func40, Tryz.ntmps40
  go_wp2
  go_returns
  exact ⟨rfl, rfl⟩

theorem eqPlace (x y : Int) (w : World) : Calls Tryz.prog 45 #[.agg #[.int .i64 x, .int .i64 y], .agg #[.int .i64 x, .int .i64 y]] w fun e w' => e = .returned (.bool true) ∧ w' = (w.alloc (.cells #[.int .i64 x, .int .i64 y] 31)).alloc (.cells #[.int .i64 x, .int .i64 y] 31) := by
  go_enter Tryz.func45, Tryz.ntmps45
  go_wp2
  all_goals go_returns
  exact ⟨rfl, rfl⟩

theorem txle {k : Nat} {x y B : Int} (hx : -B ≤ x ∧ x ≤ B) (hy : -B ≤ y ∧ y ≤ B) : -B ≤ tx k x y ∧ tx k x y ≤ B := by
  unfold tx; split <;> omega
theorem tyle {k : Nat} {x y B : Int} (hx : -B ≤ x ∧ x ≤ B) (hy : -B ≤ y ∧ y ≤ B) : -B ≤ ty k x y ∧ ty k x y ≤ B := by
  unfold ty; split <;> omega

/-- impl.toldPlace at words of a valid place. -/
theorem toldYes {a b : Int} {re im : Nat} (ha : -4096 ≤ a ∧ a ≤ 4096) (hb : -4096 ≤ b ∧ b ≤ 4096) (h1 : I32 a re) (h2 : I32 b im) (w : World) :
    Calls Tryz.prog 137 #[.complex .f32 re im] w fun e w' => e = .returned (.tuple #[.agg #[.int .i64 a, .int .i64 b], .bool true]) ∧ w' = w.alloc (.cells #[.int .i64 a, .int .i64 b] 31) := by
  have h := toldPlace (by omega) (by omega) h1 h2 w
  rw [ms_yes ha.1 ha.2, ms_yes hb.1 hb.2] at h
  exact h
/-- impl.toldPlace at words that tell no valid place. -/
theorem toldNot {a b : Int} {re im : Nat} (ha : a.natAbs < 16777216) (hb : b.natAbs < 16777216) (hn : (ms a && ms b) = false) (h1 : I32 a re) (h2 : I32 b im) (w : World) :
    Calls Tryz.prog 137 #[.complex .f32 re im] w fun e w' => e = .returned (.tuple #[.agg #[.int .i64 0, .int .i64 0], .bool false]) ∧ w' = w.alloc (.cells #[.int .i64 0, .int .i64 0] 31) := by
  have h := toldPlace ha hb h1 h2 w
  rw [hn] at h
  exact h

theorem pl_yes {x y : Int} (h : (ms x && ms y) = true) : (-4096 ≤ x ∧ x ≤ 4096) ∧ (-4096 ≤ y ∧ y ≤ 4096) := by
  rw [Bool.and_eq_true, ms_iff, ms_iff] at h
  exact h
theorem pl_mk {x y : Int} (hx : -4096 ≤ x ∧ x ≤ 4096) (hy : -4096 ≤ y ∧ y ≤ 4096) : (ms x && ms y) = true := by rw [ms_yes hx.1 hx.2, ms_yes hy.1 hy.2]; rfl

/-- IsPlace of both, at a known answer. -/
theorem isPlaceI_of {x y : Int} {b : Bool} (h : (ms x && ms y) = b) (w : World) : Calls Tryz.prog 138 #[.agg #[.int .i64 x, .int .i64 y]] w fun e w' => e = .returned (.bool b) ∧ w' = w.alloc (.cells #[.int .i64 x, .int .i64 y] 31) := h ▸ isPlaceI x y w
theorem isPlaceS_of {x y : Int} {b : Bool} (h : (ms x && ms y) = b) (w : World) : Calls Tryz.prog 80 #[.agg #[.int .i64 x, .int .i64 y]] w fun e w' => e = .returned (.bool b) ∧ w' = w.alloc (.cells #[.int .i64 x, .int .i64 y] 31) := h ▸ isPlaceS x y w

end Go.Proofs.YtejeikfgmiadhabGreat.Pw
namespace Go.Proofs.YtejeikfgmiadhabGreat.P2
open Go.RowKit Go.Proofs.YtejeikfgmiadhabGreat.Cm Go.Proofs.YtejeikfgmiadhabGreat.Pl Go.Proofs.YtejeikfgmiadhabGreat.Str Go.Proofs.YtejeikfgmiadhabGreat.Pw
set_option linter.unusedVariables false

theorem cell_below {W w' : World} {p : Addr} {v : Value} (hb : Below W.heap.size W w') (h : W.cell? p = some v) : w'.cell? p = some v := (hb.cell (World.block_lt_of_cell? W p h)).trans h

theorem cell_alloc {W : World} {p : Addr} {v : Value} {o : Obj} (h : W.cell? p = some v) : (W.alloc o).cell? p = some v := by
  rw [World.cell?_alloc_lt _ _ _ (World.block_lt_of_cell? W p h)]; exact h

theorem set2_0 {W : World} {b : Nat} {P Q : Value} (h0 : (W.cell? ⟨b, 0, none⟩).isSome = true) : ((W.setCell ⟨b, 0, none⟩ P).setCell ⟨b, 1, none⟩ Q).cell? ⟨b, 0, none⟩ = some P := by
  rw [World.cell?_setCell_other _ _ _ _ (by simp)]
  exact World.cell?_setCell_same' _ _ _ h0
theorem set2_1 {W : World} {b : Nat} {P Q : Value} (h1 : (W.cell? ⟨b, 1, none⟩).isSome = true) : ((W.setCell ⟨b, 0, none⟩ P).setCell ⟨b, 1, none⟩ Q).cell? ⟨b, 1, none⟩ = some Q := by
  refine World.cell?_setCell_same' _ _ _ ?_
  rw [World.cell?_setCell_other _ _ _ _ (by simp)]
  exact h1
theorem cell_here {W : World} {c : Array Value} {t : TypeId} {i : Nat} {v : Value} (h : c[i]? = some v) : (W.alloc (.cells c t)).cell? ⟨W.heap.size, i, none⟩ = some v := by
  rw [World.cell?_alloc_at _ _ _ _ rfl]; exact h

theorem l2Add (x y a b : Int) (h1 : wrap64 (x + a) = x + a) (h2 : wrap64 (y + b) = y + b) (w : World) :
    Calls Tryz.prog 79 #[.agg #[.int .i64 x, .int .i64 y], .agg #[.int .i64 a, .int .i64 b]] w fun e w' => e = .returned (.agg #[.int .i64 (x + a), .int .i64 (y + b)]) ∧ w' = ((w.alloc (.cells #[.int .i64 x, .int .i64 y] 31)).alloc (.cells #[.int .i64 a, .int .i64 b] 31)).alloc (.cells #[.int .i64 (x + a), .int .i64 (y + b)] 31) := by
  go_enter Tryz.func79, Tryz.ntmps79
  go_wp2
  go_returns
  exact ⟨rfl, rfl⟩

/-- A place and whether it is one. -/
abbrev told2 (b : Bool) (x y : Int) : Value := .tuple #[.agg #[.int .i64 (if b then x else 0), .int .i64 (if b then y else 0)], .bool b]

/-- impl.toldPlace in one word. -/
theorem toldOf {a b : Int} {c : Bool} {re im : Nat} (ha : a.natAbs < 16777216) (hb : b.natAbs < 16777216) (hn : (ms a && ms b) = c) (h1 : I32 a re) (h2 : I32 b im) (w : World) :
    Calls Tryz.prog 137 #[.complex .f32 re im] w fun e w' => e = .returned (told2 c a b) ∧ w' = w.alloc (.cells #[.int .i64 (if c then a else 0), .int .i64 (if c then b else 0)] 31) := by
  have h := toldPlace ha hb h1 h2 w
  rw [hn] at h
  exact h

/-- A world behind a call of which only 'Below' is known, as rules. -/
theorem open_below {W w' : World} (hb : Below W.heap.size W w') : (∀ p : Addr, p.block < W.heap.size → w'.cell? p = W.cell? p) ∧ (∀ p : Addr, p.block < W.heap.size → w'.frozen? p = W.frozen? p) ∧
    (∀ b, b < W.heap.size → b < w'.heap.size) ∧ (∀ b j, b < W.heap.size → b < w'.heap.size + j) ∧ (∀ b, b < W.heap.size → (b = w'.heap.size) = False) ∧ (∀ b j, b < W.heap.size → (b = w'.heap.size + j) = False) ∧ (∀ b, b < W.heap.size → (w'.heap.size = b) = False) ∧ (∀ b j, b < W.heap.size → (w'.heap.size + j = b) = False) := by
  have hs := hb.size
  refine ⟨fun p h => hb.cell h, fun p h => hb.frozen h, ?_, ?_, ?_, ?_, ?_, ?_⟩
  · intros; omega
  · intros; omega
  all_goals intros
  all_goals apply eq_false
  all_goals omega

/-- A place lies in a block of its own, behind all of W's memory; W's memory is as it was. -/
structure Lay (W wx : World) (k : Nat) (X Y : Int) : Prop where
  below : Below W.heap.size W wx
  old : W.heap.size ≤ k
  new : k < wx.heap.size
  c0 : wx.cell? ⟨k, 0, none⟩ = some (.int .i64 X)
  c1 : wx.cell? ⟨k, 1, none⟩ = some (.int .i64 Y)


end Go.Proofs.YtejeikfgmiadhabGreat.P2
