/- Lists of runs: how they lie in memory, a list of runs that came in, the laws' copy of one, their comparison, and marks. -/
import Derived.Test.YtfhjngkcgdkoaaaRw
import Derived.Deep.SlicePairs
import Derived.Deep.RegionHeld3
import Derived.Handy
import Derived.StillTailTactics
namespace Go.Proofs.Ytfhjngkcgdkoaaa.Rn8
open Go.RowKit Go.ChangeShapes Go.WideShapes Go.WideElems Go.Deep Go.Proofs.Ytfhjngkcgdkoaaa.Mem Go.Proofs.Ytfhjngkcgdkoaaa.Rw
set_option linter.unusedVariables false
set_option linter.unusedSimpArgs false

/-- The cells of a list of runs. -/
def rls (ps : List (Int × Int)) : List Value := ps.flatMap fun p => [.int .i64 p.1, .int .i64 p.2]
theorem rls_cons (p : Int × Int) (ps : List (Int × Int)) : rls (p :: ps) = .int .i64 p.1 :: .int .i64 p.2 :: rls ps := rfl
theorem rls_len : ∀ ps : List (Int × Int), (rls ps).length = ps.length * 2
  | [] => rfl
  | p :: ps => by rw [rls_cons, List.length_cons, List.length_cons, List.length_cons, rls_len ps]; omega
theorem rls_get : ∀ {ps : List (Int × Int)} {k : Nat} {p : Int × Int}, ps[k]? = some p → (rls ps)[k * 2]? = some (.int .i64 p.1) ∧ (rls ps)[k * 2 + 1]? = some (.int .i64 p.2)
  | [], _, _, h => by simp at h
  | q :: ps, 0, p, h => by simp at h; subst h; exact ⟨rfl, rfl⟩
  | q :: ps, k + 1, p, h => by
    have := rls_get (ps := ps) (k := k) (p := p) (by simpa using h)
    rw [rls_cons, show (k + 1) * 2 = k * 2 + 1 + 1 by omega]
    simpa using this

section
variable {H : Type} {enc : TypeId × Value → H} {P : Program}
/-- A slice of runs that came in. -/
theorem take_runs {W : World} {r : Reach} {b0 : Nat} {t e : TypeId} {f0 f1 : Field} {v : Value} {d : DataW H} {ps : List MemPlace} (ht : P.underlying t = some (.slice e)) (he : P.underlying e = some (.struct #[f0, f1]))
    (ce : P.cellsOf e = 2) (o0 : f0.offset = 0) (o1 : f1.offset = 1) (c0 : P.cellsOf f0.type = 1) (c1 : P.cellsOf f1.type = 1)
    (h0 : P.underlying f0.type = some (.int .i64)) (h1 : P.underlying f1.type = some (.int .i64))
    (hval : Value.okWide P W r b0 t v) (h : DataW.Trod enc P W 0 (fun _ => true) true t v d ps) :
    ∃ (A : Option Addr) (n c : Nat) (zs : List (Int × Int)), v = .slice A n c ∧ zs.length = n ∧ n ≤ maxLen ∧ Rd W W.heap.size A (rls zs) ∧ ∀ z ∈ zs, (Lit.int .i64 z.1).wf = true ∧ (Lit.int .i64 z.2).wf = true := by
  obtain ⟨a0, len, cap, rfl⟩ := okWide_slice ht hval
  obtain ⟨fuel, hf⟩ := h
  rcases open_slice_pairs ht he ce o0 o1 c0 c1 hf with ⟨hcs, _⟩ | ⟨a, len', cap', m, n, V0, V1, D0, D1, P0, P1, hcs, _, hl, hm, hmm, _, hx⟩
  · simp [Value.cells] at hcs
    obtain ⟨rfl, rfl, rfl⟩ := hcs
    exact ⟨none, 0, 0, [], rfl, rfl, Nat.zero_le _, Rd.nil _ _ _, fun _ h => by cases h⟩
  · simp [Value.cells] at hcs
    obtain ⟨rfl, rfl, rfl⟩ := hcs
    simp only [if_true] at hmm
    subst hmm
    have each : ∀ i, i < len → ∃ q : Int × Int, V0 i = .int .i64 q.1 ∧ V1 i = .int .i64 q.2 ∧ (Lit.int .i64 q.1).wf = true ∧ (Lit.int .i64 q.2).wf = true := by
      intro i hi
      obtain ⟨_, _, g0, g1⟩ := hx i (by omega)
      obtain ⟨x, e0, _, w0⟩ := DataW.trod_int h0 g0
      obtain ⟨y, e1, _, w1⟩ := DataW.trod_int h1 g1
      simp only [List.cons.injEq, and_true] at e0 e1
      exact ⟨(x, y), e0, e1, w0, w1⟩
    obtain ⟨q, hq⟩ := choose_lt each
    refine ⟨some a, len, _, (List.range len).map q, rfl, by simp, by omega, ?_, ?_⟩
    · by_cases hz : len = 0
      · subst hz; exact Or.inl rfl
      · obtain ⟨b, o, spot⟩ := a
        have c00 := (hx 0 (by omega)).1
        have hspot : spot = none := by simpa [Addr.add] using World.cell?_spot c00
        subst hspot
        have hb := World.block_lt_of_cell? W _ c00
        refine Or.inr ⟨b, o, rfl, by simpa [Addr.add] using hb, fun j v hv => ?_⟩
        have hj : j < (rls ((List.range len).map q)).length := (List.getElem?_eq_some_iff.1 hv).1
        rw [rls_len] at hj
        simp only [List.length_map, List.length_range] at hj
        have hi : j / 2 < len := by omega
        have hg := rls_get (ps := (List.range len).map q) (k := j / 2) (p := q (j / 2)) (by simp [hi])
        obtain ⟨k0, k1, _, _⟩ := hx (j / 2) (by omega)
        rw [(hq _ hi).1] at k0
        rw [(hq _ hi).2.1] at k1
        rcases Nat.mod_two_eq_zero_or_one j with e | e
        · have ej : j / 2 * 2 = j := by omega
          rw [ej] at hg k0
          rw [hv] at hg
          have := hg.1
          injection this with this
          subst this
          rw [← add_plain]; exact k0
        · have ej : j / 2 * 2 + 1 = j := by omega
          rw [ej] at hg k1
          rw [hv] at hg
          have := hg.2
          injection this with this
          subst this
          rw [← add_plain]; exact k1
    · intro z hz
      obtain ⟨i, hi, rfl⟩ := List.mem_map.1 hz
      exact (hq i (List.mem_range.1 hi)).2.2
end

theorem infoRun : (Try.prog.info? 67).map (fun i => (i.zero, i.size, i.bytes)) = some (some (.agg #[.int .i64 0, .int .i64 0]), 2, 16) := by kernel_rfl

theorem info_parts2 {P : Program} {e : TypeId} {z : Value} {n b : Nat} (h : (P.info? e).map (fun i => (i.zero, i.size, i.bytes)) = some (some z, n, b)) : ∃ i, P.info? e = some i ∧ i.zero = some z ∧ i.size = n ∧ i.bytes = b := by
  match hi : P.info? e, h with
  | some i, h => simp at h; exact ⟨i, rfl, h.1, h.2.1, h.2.2⟩
  | none, h => simp at h

theorem made_runs (n : Nat) : (madeCells (Value.agg #[.int .i64 0, .int .i64 0]).cells (n * 2)).toList = List.replicate (n * 2) (.int .i64 0) := by
  apply List.ext_getElem?
  intro j
  rw [Array.getElem?_toList, List.getElem?_replicate]
  simp only [madeCells, Value.cells]
  by_cases h : j < n * 2
  · have : j % 2 = 0 ∨ j % 2 = 1 := by omega
    rcases this with e | e <;> simp [h, e]
  · simp [h]

theorem toRun (x y : Int) (w : World) : Calls Try.prog 60 #[.agg #[.int .i64 x, .int .i64 y]] w fun e w' => e = .returned (.agg #[.int .i64 x, .int .i64 y]) ∧ w' = ((w.alloc (.cells #[.int .i64 x, .int .i64 y] 72)).alloc (.cells #[.int .i64 x, .int .i64 y] 67)).alloc (.cells #[.int .i64 x, .int .i64 y] 67) := by
  go_enter Try.func60, Try.ntmps60
  go_wp2
  go_returns
  exact ⟨rfl, rfl⟩

theorem eqRun (x y : Int) (w : World) : Calls Try.prog 59 #[.agg #[.int .i64 x, .int .i64 y], .agg #[.int .i64 x, .int .i64 y]] w fun e w' => e = .returned (.bool true) ∧ w' = (w.alloc (.cells #[.int .i64 x, .int .i64 y] 67)).alloc (.cells #[.int .i64 x, .int .i64 y] 67) := by
  go_enter Try.func59, Try.ntmps59
  go_wp2
  all_goals go_returns
  exact ⟨rfl, rfl⟩

/-- What the copy leaves: a row of its own with these runs; what was there is as it was. -/
def Copied (w : World) (n : Nat) (zs : List (Int × Int)) (e : Ending) (w' : World) : Prop :=
  ∃ g, e = .returned (.slice (some ⟨g, 0, none⟩) n n) ∧ w.heap.size ≤ g ∧ w'.ownsRow w.heap.size 67 2 (.slice (some ⟨g, 0, none⟩) n n) n (rls zs) ∧ Below w.heap.size w w'

set_option maxHeartbeats 1000000 in
theorem toRunS (A : Option Addr) (n c : Nat) (zs : List (Int × Int)) (w : World) (hn : zs.length = n) (hb : n ≤ 1048576) (hr : Rd w w.heap.size A (rls zs)) :
    Calls Try.prog 36 #[.slice A n c] w (Copied w n zs) := by
  obtain ⟨i0, hi, hz0, hz1, hz2⟩ := info_parts2 infoRun
  have HR := Lib.hid hr
  have HN := Lib.hid hn
  clear hr hn
  go_enter Try.func36, Try.ntmps36
  go_wp2_with (at_make; refine wpList_make_full _ rfl _ _ 37 rfl w.heap.size 67 i0 (.agg #[.int .i64 0, .int .i64 0]) 2 Try.underlying37 hi hz0 hz1 .i64 .i64 n n n rfl rfl rfl rfl (by rw [hz2]; omega) (by unfold maxLen; omega) (Nat.le_refl _) ?_; intro w1 hown hgrow; clear hi hz0 hz1 hz2)
  have R0 := Lib.hid (show w1.ownsRow w.heap.size 67 2 (.slice (some ⟨w.heap.size, 0, none⟩) n n) n (filled (rls zs) (.int .i64 0) 0) by
    rw [filled_zero, rls_len, HN.out]; rw [made_runs] at hown; exact hown)
  have B0 := Lib.hid (show Below w.heap.size w w1 from (Below.refl _ _).grown hgrow (Nat.le_refl _) (fun k hk => by cases hk))
  clear hown hgrow
  go_loopw [4] (fun i wr => ∃ k : Nat, k ≤ n ∧ i = .int .i64 k ∧ Hid (wr.ownsRow w.heap.size 67 2 (.slice (some ⟨w.heap.size, 0, none⟩) n n) n (filled (rls zs) (.int .i64 0) (k * 2))) ∧ Hid (Below w.heap.size w wr)) (fun i _ => n - (intOf i).toNat)
  case atStart => exact ⟨0, Nat.zero_le _, rfl, R0, B0⟩
  case round =>
    obtain ⟨k, hk, rfl, RK, BK⟩ := hrel
    by_cases hlt : k < n
    · have hl : (rls zs).length = n * 2 := by rw [rls_len, HN.out]
      obtain ⟨b, o, eA, hbl, hcell⟩ := HR.out.get (k := k * 2) (by omega)
      have hkz : k < zs.length := by rw [HN.out]; exact hlt
      obtain ⟨z, hz⟩ : ∃ z, zs[k]? = some z := ⟨_, List.getElem?_eq_getElem hkz⟩
      obtain ⟨z0, z1⟩ := rls_get hz
      obtain ⟨x, y⟩ := z
      have c1 : wr.cell? ⟨b, o + k * 2, none⟩ = some (.int .i64 x) := (BK.out.cell (p := ⟨b, o + k * 2, none⟩) hbl).trans (hcell _ _ z0)
      have c2 : wr.cell? ⟨b, o + k * 2 + 1, none⟩ = some (.int .i64 y) := by
        rw [Nat.add_assoc]; exact (BK.out.cell (p := ⟨b, o + (k * 2 + 1), none⟩) hbl).trans (hcell _ _ z1)
      have c3 : wr.cell? ⟨w.heap.size, k * 2, none⟩ = some (.int .i64 0) := (RK.out.cellAt (k * 2) (by omega)).trans (filled_get (by omega))
      have f3 := RK.out.frozenAt (k * 2)
      have c4 : wr.cell? ⟨w.heap.size, k * 2 + 1, none⟩ = some (.int .i64 0) := by
        rw [RK.out.cellAt (k * 2 + 1) (by omega)]
        unfold filled
        rw [List.getElem?_append_right (by rw [List.length_take]; omega), List.length_take, Nat.min_eq_left (by omega), List.getElem?_replicate, if_pos (by omega)]
      have f4 := RK.out.frozenAt (k * 2 + 1)
      have q1 : w.heap.size < wr.heap.size := World.block_lt_of_cell? wr _ c3
      have q2 : ∀ j, w.heap.size < wr.heap.size + j := fun j => by omega
      have p1 : b < wr.heap.size := World.block_lt_of_cell? wr _ c1
      have p2 : ∀ j, b < wr.heap.size + j := fun j => by omega
      have Z0 := Lib.hid (filled_put (z := .int .i64 0) z0)
      have Z1 := Lib.hid (filled_put (z := .int .i64 0) z1)
      clear hbl hcell hkz hz R0 B0 z0 z1 hl
      subst eA
      go_wp2_with (go_at_call 60; refine (toRun _ _ _).mono ?_; rintro e w' ⟨rfl, rfl⟩)
      go_roundw
      case rel =>
        obtain ⟨r1, r2⟩ := RK.out.stored (k * 2) (.int .i64 x)
        rw [Z0.out] at r1
        obtain ⟨r3, r4⟩ := r1.stored (k * 2 + 1) (.int .i64 y)
        rw [Z1.out] at r3
        refine ⟨k + 1, by omega, by go_num, ?_, ?_⟩
        · rw [show (k + 1) * 2 = k * 2 + 1 + 1 by omega]
          exact Lib.hid (owns_below r3 (by go_grown))
        · have b1 := BK.out.grown r2 (by exact BK.out.size) (fun g hg => by cases hg; exact Nat.le_refl _)
          have b2 := b1.grown r4 (by exact b1.size) (fun g hg => by cases hg; exact Nat.le_refl _)
          exact Lib.hid (b2.trans (Below.mono (by go_grown) b2.size))
      case measure => simp [intOf]; omega
    · obtain rfl : k = n := by omega
      go_wp2
      go_ret
      refine ⟨w.heap.size, rfl, Nat.le_refl _, ?_, BK.out⟩
      have := RK.out
      rw [show k * 2 = (rls zs).length by rw [rls_len, HN.out], filled_all] at this
      exact this

set_option maxHeartbeats 1000000 in
theorem eqRunS (A B : Option Addr) (n c d : Nat) (zs : List (Int × Int)) (w : World) (hn : zs.length = n) (hb : n ≤ 1048576) (hr : Rd w w.heap.size A (rls zs)) (hs : Rd w w.heap.size B (rls zs)) :
    Calls Try.prog 31 #[.slice A n c, .slice B n d] w fun e w' => e = .returned (.bool true) ∧ Below w.heap.size w w' := by
  have HR := Lib.hid hr
  have HS := Lib.hid hs
  have HN := Lib.hid hn
  clear hr hs hn
  go_enter Try.func31, Try.ntmps31
  go_wp2
  go_loopw [5] (fun i wr => ∃ k : Nat, k ≤ n ∧ i = .int .i64 k ∧ Hid (Below w.heap.size w wr)) (fun i _ => n - (intOf i).toNat)
  case atStart => exact ⟨0, Nat.zero_le _, rfl, Lib.hid (Below.refl _ _)⟩
  case round =>
    obtain ⟨k, hk, rfl, BK⟩ := hrel
    by_cases hlt : k < n
    · have hkz : k < zs.length := by rw [HN.out]; exact hlt
      have hl : k * 2 < (rls zs).length := by rw [rls_len]; omega
      obtain ⟨z, hz⟩ : ∃ z, zs[k]? = some z := ⟨_, List.getElem?_eq_getElem hkz⟩
      obtain ⟨z0, z1⟩ := rls_get hz
      obtain ⟨x, y⟩ := z
      obtain ⟨b1, o1, eA, _, g1⟩ := (HR.out.below BK.out).get hl
      obtain ⟨b2, o2, eB, _, g2⟩ := (HS.out.below BK.out).get hl
      have c1 : wr.cell? ⟨b1, o1 + k * 2, none⟩ = some (.int .i64 x) := g1 _ _ z0
      have c2 : wr.cell? ⟨b1, o1 + k * 2 + 1, none⟩ = some (.int .i64 y) := g1 _ _ z1
      have c3 : wr.cell? ⟨b2, o2 + k * 2, none⟩ = some (.int .i64 x) := g2 _ _ z0
      have c4 : wr.cell? ⟨b2, o2 + k * 2 + 1, none⟩ = some (.int .i64 y) := g2 _ _ z1
      clear g1 g2 hz hl hkz z0 z1
      subst eA eB
      have hlt' : (k : Int) < (n : Int) := by omega
      have hk0 : (0 : Int) ≤ (k : Int) := by omega
      have p1 : b1 < wr.heap.size := World.block_lt_of_cell? wr _ c1
      have p2 : ∀ j, b1 < wr.heap.size + j := fun j => by omega
      have p3 : b2 < wr.heap.size := World.block_lt_of_cell? wr _ c3
      have p4 : ∀ j, b2 < wr.heap.size + j := fun j => by omega
      go_wp2_with fail
      go_region_held3 (fun w' => w'.cell? ⟨b1, o1 + k * 2, none⟩ = some (.int .i64 x) ∧ w'.cell? ⟨b1, o1 + k * 2 + 1, none⟩ = some (.int .i64 y) ∧ w'.cell? ⟨b2, o2 + k * 2, none⟩ = some (.int .i64 x) ∧ w'.cell? ⟨b2, o2 + k * 2 + 1, none⟩ = some (.int .i64 y)) (simp [go_sem, *])
        (first | (go_at_call 59; refine (eqRun _ _ _).mono ?_; rintro e w' ⟨rfl, rfl⟩))
      all_goals go_wp2_with fail
      all_goals go_roundw
      case rel => exact ⟨k + 1, by omega, by go_num, Lib.hid (BK.out.trans (Below.mono (by go_grown) BK.out.size))⟩
      case measure => simp [intOf]; omega
    · obtain rfl : k = n := by omega
      go_wp2
      go_ret
      exact ⟨rfl, BK.out⟩

theorem szRunN (A : Option Addr) (n c : Nat) (w : World) (hb : 1048576 < n) (hm : n ≤ 9223372036854775807) :
    Calls Try.prog 34 #[.slice A n c, .int .i64 1048576] w fun e w' => e = .returned (.int .i64 (-1)) ∧ w = w' := by
  have h1 : (1048576 : Int) - (n : Int) < 0 := by omega
  go_enter Try.func34, Try.ntmps34
  go_wp2
  all_goals go_returns
  all_goals first | exact ⟨rfl, rfl⟩ | (exfalso; omega)
theorem szRunY (A : Option Addr) (n c : Nat) (w : World) (hb : n ≤ 1048576) :
    Calls Try.prog 34 #[.slice A n c, .int .i64 1048576] w fun e w' => e = .returned (.int .i64 (1048576 - (n : Int))) ∧ w = w' := by
  have h1 : ¬ (1048576 : Int) - (n : Int) < 0 := by omega
  go_enter Try.func34, Try.ntmps34
  go_wp2
  all_goals go_returns
  all_goals first | exact ⟨rfl, rfl⟩ | (exfalso; omega)
/-- The marks are laid; what lies in other blocks is as it was. -/
def Laid (w : World) (base g n c k : Nat) (e : Ending) (w' : World) : Prop :=
  e = .returned (.int .i64 ((k : Int) + ((n * 2 : Nat) : Int))) ∧ w'.ownsRow base 67 2 (.slice (some ⟨g, 0, none⟩) n c) n (mk k (n * 2)) ∧ w.grownBy w' (some g)

set_option maxHeartbeats 2000000 in
theorem markRunS (base g n c k : Nat) (xs : List Value) (w : World) (hn : xs.length = n * 2) (hb : n ≤ 1048576) (hk : k ≤ 8388608) (hr : w.ownsRow base 67 2 (.slice (some ⟨g, 0, none⟩) n c) n xs) :
    Calls Try.prog 32 #[.slice (some ⟨g, 0, none⟩) n c, .int .i64 k] w (Laid w base g n c k) := by
  have HN := Lib.hid hn
  have R0 := Lib.hid (show w.ownsRow base 67 2 (.slice (some ⟨g, 0, none⟩) n c) n (marked k 0 xs) by rw [marked_zero]; exact hr)
  clear hn hr
  go_enter Try.func32, Try.ntmps32
  go_wp2_with fail
  go_loopw [1, 5] (fun q i wr => ∃ j : Nat, j ≤ n ∧ i = .int .i64 j ∧ q = .int .i64 ((k : Int) + ((j * 2 : Nat) : Int)) ∧ Hid (wr.ownsRow base 67 2 (.slice (some ⟨g, 0, none⟩) n c) n (marked k (j * 2) xs)) ∧ Hid (w.grownBy wr (some g))) (fun _ i _ => n - (intOf i).toNat)
  case atStart => exact ⟨0, Nat.zero_le _, rfl, by simp, R0, Lib.hid (grown_refl _ _)⟩
  case round =>
    obtain ⟨j, hj, rfl, rfl, RK, GK⟩ := hrel
    obtain ⟨q, hq⟩ : ∃ q : Nat, q = k + j * 2 := ⟨_, rfl⟩
    rw [show (k : Int) + ((j * 2 : Nat) : Int) = (q : Int) by omega]
    by_cases hlt : j < n
    · have HL := HN.out
      have R1 := RK.out
      obtain ⟨v0, z0⟩ : ∃ v, xs[j * 2]? = some v := ⟨_, List.getElem?_eq_getElem (by omega)⟩
      obtain ⟨v1, z1⟩ : ∃ v, xs[j * 2 + 1]? = some v := ⟨_, List.getElem?_eq_getElem (by omega)⟩
      obtain ⟨r1, g1⟩ := R1.stored (j * 2) (.int .i64 ((k : Int) + ((j * 2 : Nat) : Int)))
      rw [marked_set (by omega)] at r1
      obtain ⟨r2, g2⟩ := r1.stored (j * 2 + 1) (.int .i64 ((k : Int) + ((j * 2 + 1 : Nat) : Int)))
      rw [marked_set (by omega)] at r2
      have c1 := (R1.cellAt (j * 2) (by omega)).trans (marked_get z0)
      have c2 := (r1.cellAt (j * 2 + 1) (by omega)).trans (marked_get z1)
      have f1 := R1.frozenAt (j * 2)
      have f2 := r1.frozenAt (j * 2 + 1)
      have RR := Lib.hid r2
      have GG := Lib.hid (grown_trans (grown_trans GK.out g1) g2)
      rw [show (k : Int) + ((j * 2 : Nat) : Int) = (q : Int) by omega] at *
      rw [show (k : Int) + ((j * 2 + 1 : Nat) : Int) = (q : Int) + 1 by omega] at *
      have HQ := Lib.hid hq
      have hq8 : q ≤ 16777216 := by omega
      clear R0 R1 r1 r2 g1 g2 z0 z1 HL RK GK hq
      go_wp2_with fail
      go_roundw
      case rel => exact ⟨j + 1, by omega, by go_num, by (have := HQ.out; congr 1; omega), by rw [show (j + 1) * 2 = j * 2 + 1 + 1 by omega]; exact RR, GG⟩
      case measure => simp [intOf]; omega
    · obtain rfl : j = n := by omega
      have F := Lib.hid (show wr.ownsRow base 67 2 (.slice (some ⟨g, 0, none⟩) j c) j (mk k (j * 2)) by
        have := RK.out
        rw [marked_all (by rw [HN.out]; exact Nat.le_refl _)] at this; exact this)
      have HQ := Lib.hid hq
      clear hq R0
      go_wp2_with fail
      go_ret
      exact ⟨by rw [HQ.out]; congr 1, F.out, GK.out⟩

set_option maxHeartbeats 2000000 in
theorem heldRunS (A : Option Addr) (n c k : Nat) (w : World) (hb : n ≤ 1048576) (hk : k ≤ 8388608) (hr : Rd w w.heap.size A (mk k (n * 2))) :
    Calls Try.prog 33 #[.slice A n c, .int .i64 k] w fun e w' => e = .returned (.int .i64 ((k : Int) + ((n * 2 : Nat) : Int))) ∧ Below w.heap.size w w' := by
  have HR := Lib.hid hr
  clear hr
  go_enter Try.func33, Try.ntmps33
  go_wp2_with fail
  go_loop [1, 5] (fun q i => ∃ j : Nat, j ≤ n ∧ i = .int .i64 j ∧ q = .int .i64 ((k : Int) + ((j * 2 : Nat) : Int))) (fun _ i => n - (intOf i).toNat)
  case atStart => exact ⟨0, Nat.zero_le _, rfl, by simp⟩
  case round =>
    obtain ⟨j, hj, rfl, rfl⟩ := hrel
    obtain ⟨q, hq⟩ : ∃ q : Nat, q = k + j * 2 := ⟨_, rfl⟩
    rw [show (k : Int) + ((j * 2 : Nat) : Int) = (q : Int) by omega]
    by_cases hlt : j < n
    · obtain ⟨b, o, eA, hbl, hcell⟩ := HR.out.get (k := j * 2) (by rw [mk_len]; omega)
      have c1 := hcell (j * 2) _ (mk_get (by omega))
      have c2 := hcell (j * 2 + 1) _ (mk_get (by omega))
      rw [← Nat.add_assoc] at c2
      rw [show (k : Int) + ((j * 2 : Nat) : Int) = (q : Int) by omega] at c1
      rw [show (k : Int) + ((j * 2 + 1 : Nat) : Int) = (q : Int) + 1 by omega] at c2
      have HQ := Lib.hid hq
      have hq8 : q ≤ 16777216 := by omega
      clear hcell hbl hq
      subst eA
      go_wp2_with fail
      go_round
      case rel => exact ⟨j + 1, by omega, by go_num, by (have := HQ.out; congr 1; omega)⟩
      case measure => simp [intOf]; omega
    · obtain rfl : j = n := by omega
      have HQ := Lib.hid hq
      clear hq
      go_wp2_with fail
      go_ret
      exact ⟨by rw [HQ.out]; congr 1, Below.refl _ _⟩

end Go.Proofs.Ytfhjngkcgdkoaaa.Rn8
