/- Lists of blocks: a list of blocks that came in, the laws' copy of one, their comparison, and marks; their levels one behind the other. -/
import Derived.Test.YtfhjngkcgdkoaaaRw
import Derived.Deep.SlicePairs
import Derived.Deep.RegionHeld3
import Derived.Handy
import Derived.StillTailTactics
namespace Go.Proofs.Ytfhjngkcgdkoaaa.Bl8
open Go.RowKit Go.ChangeShapes Go.WideShapes Go.WideElems Go.Deep Go.Proofs.Ytfhjngkcgdkoaaa.Mem Go.Proofs.Ytfhjngkcgdkoaaa.Rw
set_option linter.unusedVariables false
set_option linter.unusedSimpArgs false

/-- Eight levels. -/
structure Q8 where
  x0 : Int
  x1 : Int
  x2 : Int
  x3 : Int
  x4 : Int
  x5 : Int
  x6 : Int
  x7 : Int
instance : Inhabited Q8 := ⟨⟨0, 0, 0, 0, 0, 0, 0, 0⟩⟩
def ql (q : Q8) : List Int := [q.x0, q.x1, q.x2, q.x3, q.x4, q.x5, q.x6, q.x7]
def qc (q : Q8) : List Value := ints (ql q)
theorem qc_len (q : Q8) : (qc q).length = 8 := rfl
def fl (qs : List Q8) : List Int := qs.flatMap ql
theorem fl_len (qs : List Q8) : (fl qs).length = qs.length * 8 := by
  unfold fl
  induction qs with
  | nil => rfl
  | cons q qs ih => simp only [List.flatMap_cons, List.length_append, List.length_cons, ih, ql, List.length_nil]; omega
theorem fl_cells (qs : List Q8) : qs.flatMap qc = ints (fl qs) := by
  unfold fl qc ints
  induction qs with
  | nil => rfl
  | cons q qs ih => rw [List.flatMap_cons, List.flatMap_cons, List.map_append, ih]
section
variable {H : Type} {enc : TypeId × Value → H} {P : Program}
theorem take_blocks {W : World} {r : Reach} {b0 : Nat} {t e i : TypeId} {v : Value} {d : DataW H} {ps : List MemPlace} (ht : P.underlying t = some (.slice e)) (he : P.underlying e = some (.array 8 i)) (hi : P.underlying i = some (.int .i64)) (ce : P.cellsOf e = 8) (ci : P.cellsOf i = 1)
    (hval : Value.okWide P W r b0 t v) (h : DataW.Trod enc P W 0 (fun _ => true) true t v d ps) :
    ∃ (A : Option Addr) (n c : Nat) (zs : List Int), v = .slice A n c ∧ zs.length = n * 8 ∧ n ≤ maxLen ∧ Rd W W.heap.size A (ints zs) ∧ ∀ z ∈ zs, (Lit.int .i64 z).wf = true := by
  obtain ⟨A, n, c, qs, e1, e2, e3, e4, e5⟩ := take_rows (K := 8) (cells := qc) (fun q => ∀ z ∈ ql q, (Lit.int .i64 z).wf = true) qc_len (by omega) ht ce (by
    intro fuel cs x hx hl
    obtain ⟨xs, m, _, _, _, hxl, hf⟩ := DataW.trod_array he hx
    match cs, hl with
    | [a0, a1, a2, a3, a4, a5, a6, a7], _ =>
      have k0 := hf 0 (by omega)
      obtain ⟨y0, h0⟩ : ∃ y, xs[0]? = some y := ⟨_, List.getElem?_eq_getElem (by omega)⟩
      rw [ci, h0] at k0
      simp at k0
      obtain ⟨z0, e0, _, w0⟩ := DataW.trod_int hi k0
      injection e0 with e0
      subst e0
      have k1 := hf 1 (by omega)
      obtain ⟨y1, h1⟩ : ∃ y, xs[1]? = some y := ⟨_, List.getElem?_eq_getElem (by omega)⟩
      rw [ci, h1] at k1
      simp at k1
      obtain ⟨z1, e1, _, w1⟩ := DataW.trod_int hi k1
      injection e1 with e1
      subst e1
      have k2 := hf 2 (by omega)
      obtain ⟨y2, h2⟩ : ∃ y, xs[2]? = some y := ⟨_, List.getElem?_eq_getElem (by omega)⟩
      rw [ci, h2] at k2
      simp at k2
      obtain ⟨z2, e2, _, w2⟩ := DataW.trod_int hi k2
      injection e2 with e2
      subst e2
      have k3 := hf 3 (by omega)
      obtain ⟨y3, h3⟩ : ∃ y, xs[3]? = some y := ⟨_, List.getElem?_eq_getElem (by omega)⟩
      rw [ci, h3] at k3
      simp at k3
      obtain ⟨z3, e3, _, w3⟩ := DataW.trod_int hi k3
      injection e3 with e3
      subst e3
      have k4 := hf 4 (by omega)
      obtain ⟨y4, h4⟩ : ∃ y, xs[4]? = some y := ⟨_, List.getElem?_eq_getElem (by omega)⟩
      rw [ci, h4] at k4
      simp at k4
      obtain ⟨z4, e4, _, w4⟩ := DataW.trod_int hi k4
      injection e4 with e4
      subst e4
      have k5 := hf 5 (by omega)
      obtain ⟨y5, h5⟩ : ∃ y, xs[5]? = some y := ⟨_, List.getElem?_eq_getElem (by omega)⟩
      rw [ci, h5] at k5
      simp at k5
      obtain ⟨z5, e5, _, w5⟩ := DataW.trod_int hi k5
      injection e5 with e5
      subst e5
      have k6 := hf 6 (by omega)
      obtain ⟨y6, h6⟩ : ∃ y, xs[6]? = some y := ⟨_, List.getElem?_eq_getElem (by omega)⟩
      rw [ci, h6] at k6
      simp at k6
      obtain ⟨z6, e6, _, w6⟩ := DataW.trod_int hi k6
      injection e6 with e6
      subst e6
      have k7 := hf 7 (by omega)
      obtain ⟨y7, h7⟩ : ∃ y, xs[7]? = some y := ⟨_, List.getElem?_eq_getElem (by omega)⟩
      rw [ci, h7] at k7
      simp at k7
      obtain ⟨z7, e7, _, w7⟩ := DataW.trod_int hi k7
      injection e7 with e7
      subst e7
      refine ⟨⟨z0, z1, z2, z3, z4, z5, z6, z7⟩, rfl, ?_⟩
      intro z hz
      simp only [ql, List.mem_cons, List.not_mem_nil, or_false] at hz
      rcases hz with rfl | rfl | rfl | rfl | rfl | rfl | rfl | rfl <;> assumption) hval h
  refine ⟨A, n, c, fl qs, e1, by rw [fl_len, e2], e3, by rw [← fl_cells]; exact e4, ?_⟩
  intro z hz
  obtain ⟨q, hq, hz⟩ := List.mem_flatMap.1 hz
  exact e5 q hq z hz
end
theorem cell_drewN (w : World) (m : Nat) (p : Addr) : (w.drewN m).cell? p = w.cell? p := rfl
theorem infoB : (Try.prog.info? 55).map (fun i => (i.zero, i.size, i.bytes)) = some (some (.agg #[.int .i64 0, .int .i64 0, .int .i64 0, .int .i64 0, .int .i64 0, .int .i64 0, .int .i64 0, .int .i64 0]), 8, 64) := by kernel_rfl
theorem ints_at {zs : List Int} {k : Nat} {z : Int} (h : zs[k]? = some z) : (ints zs)[k]? = some (.int .i64 z) := by unfold ints; rw [List.getElem?_map, h]; rfl
theorem filled_at {xs : List Value} {z : Value} {k j : Nat} (hk : k ≤ j) (hj : j < xs.length) : (filled xs z k)[j]? = some z := by
  unfold filled
  rw [List.getElem?_append_right (by rw [List.length_take]; omega), List.length_take, Nat.min_eq_left (by omega), List.getElem?_replicate, if_pos (by omega)]

set_option maxHeartbeats 2000000 in
theorem toBlock (x0 x1 x2 x3 x4 x5 x6 x7 : Int) (w : World) : Calls Try.prog 57 #[.agg #[.int .i64 x0, .int .i64 x1, .int .i64 x2, .int .i64 x3, .int .i64 x4, .int .i64 x5, .int .i64 x6, .int .i64 x7]] w fun e w' => e = .returned (.agg #[.int .i64 x0, .int .i64 x1, .int .i64 x2, .int .i64 x3, .int .i64 x4, .int .i64 x5, .int .i64 x6, .int .i64 x7]) ∧ Below w.heap.size w w' := by
  go_enter Try.func57, Try.ntmps57
  go_wp2_with fail
  refine wp_loop_rounds 9 ?_
  repeat any_goals (rw [rounds_succ]; go_wp2_with fail)
  go_returns
  exact ⟨rfl, by go_grown⟩

set_option maxHeartbeats 2000000 in
theorem eqBlock (x0 x1 x2 x3 x4 x5 x6 x7 : Int) (w : World) : Calls Try.prog 56 #[.agg #[.int .i64 x0, .int .i64 x1, .int .i64 x2, .int .i64 x3, .int .i64 x4, .int .i64 x5, .int .i64 x6, .int .i64 x7], .agg #[.int .i64 x0, .int .i64 x1, .int .i64 x2, .int .i64 x3, .int .i64 x4, .int .i64 x5, .int .i64 x6, .int .i64 x7]] w fun e w' => e = .returned (.bool true) ∧ ∃ m, w' = ((w.alloc (.cells #[.int .i64 x0, .int .i64 x1, .int .i64 x2, .int .i64 x3, .int .i64 x4, .int .i64 x5, .int .i64 x6, .int .i64 x7] 55)).alloc (.cells #[.int .i64 x0, .int .i64 x1, .int .i64 x2, .int .i64 x3, .int .i64 x4, .int .i64 x5, .int .i64 x6, .int .i64 x7] 55)).drewN m := by
  have hc : ∀ (i : Nat), i < 8 → ∃ z : Int, ((w.alloc (.cells #[.int .i64 x0, .int .i64 x1, .int .i64 x2, .int .i64 x3, .int .i64 x4, .int .i64 x5, .int .i64 x6, .int .i64 x7] 55)).alloc (.cells #[.int .i64 x0, .int .i64 x1, .int .i64 x2, .int .i64 x3, .int .i64 x4, .int .i64 x5, .int .i64 x6, .int .i64 x7] 55)).cell? ⟨w.heap.size, i, none⟩ = some (.int .i64 z) ∧ ((w.alloc (.cells #[.int .i64 x0, .int .i64 x1, .int .i64 x2, .int .i64 x3, .int .i64 x4, .int .i64 x5, .int .i64 x6, .int .i64 x7] 55)).alloc (.cells #[.int .i64 x0, .int .i64 x1, .int .i64 x2, .int .i64 x3, .int .i64 x4, .int .i64 x5, .int .i64 x6, .int .i64 x7] 55)).cell? ⟨w.heap.size + 1, i, none⟩ = some (.int .i64 z) := by
    intro i hi
    match i, hi with
    | 0, _ => exact ⟨x0, by go_simp, by go_simp⟩
    | 1, _ => exact ⟨x1, by go_simp, by go_simp⟩
    | 2, _ => exact ⟨x2, by go_simp, by go_simp⟩
    | 3, _ => exact ⟨x3, by go_simp, by go_simp⟩
    | 4, _ => exact ⟨x4, by go_simp, by go_simp⟩
    | 5, _ => exact ⟨x5, by go_simp, by go_simp⟩
    | 6, _ => exact ⟨x6, by go_simp, by go_simp⟩
    | 7, _ => exact ⟨x7, by go_simp, by go_simp⟩
  have HC := Lib.hid hc
  clear hc
  go_enter Try.func56, Try.ntmps56
  go_wp2_with fail
  go_loopw [5] (fun i wr => ∃ k : Nat, k ≤ 8 ∧ i = .int .i64 k ∧ Hid (∃ m, wr = ((w.alloc (.cells #[.int .i64 x0, .int .i64 x1, .int .i64 x2, .int .i64 x3, .int .i64 x4, .int .i64 x5, .int .i64 x6, .int .i64 x7] 55)).alloc (.cells #[.int .i64 x0, .int .i64 x1, .int .i64 x2, .int .i64 x3, .int .i64 x4, .int .i64 x5, .int .i64 x6, .int .i64 x7] 55)).drewN m)) (fun i _ => 8 - (intOf i).toNat)
  case atStart => exact ⟨0, by omega, rfl, Lib.hid ⟨0, rfl⟩⟩
  case round =>
    obtain ⟨k, hk, rfl, HW⟩ := hrel
    by_cases hlt : k < 8
    · obtain ⟨z, c1, c2⟩ := HC.out k hlt
      have c3 : wr.cell? ⟨w.heap.size, k, none⟩ = some (.int .i64 z) := by obtain ⟨m, e⟩ := HW.out; rw [e]; exact c1
      have c4 : wr.cell? ⟨w.heap.size + 1, k, none⟩ = some (.int .i64 z) := by obtain ⟨m, e⟩ := HW.out; rw [e]; exact c2
      have hlt' : (k : Int) < 8 := by omega
      have hk0 : (0 : Int) ≤ (k : Int) := by omega
      clear c1 c2
      go_wp2_with fail
      go_quiet (fail)
      go_wp2_with fail
      go_roundw
      case rel => exact ⟨k + 1, by omega, by go_num, Lib.hid (by obtain ⟨m, e⟩ := HW.out; exact ⟨m + nq, by rw [e, World.drewN_drewN]⟩)⟩
      case measure => simp [intOf]; omega
    · obtain rfl : k = 8 := by omega
      go_wp2_with fail
      go_ret
      exact ⟨rfl, HW.out⟩

/-- What the copy leaves: a row of its own with these levels; what was there is as it was. -/
def Copied (w : World) (n : Nat) (zs : List Int) (e : Ending) (w' : World) : Prop :=
  ∃ g, e = .returned (.slice (some ⟨g, 0, none⟩) n n) ∧ w.heap.size ≤ g ∧ w'.ownsRow w.heap.size 55 8 (.slice (some ⟨g, 0, none⟩) n n) n (ints zs) ∧ Below w.heap.size w w'

set_option maxHeartbeats 4000000 in
theorem toBlockS (A : Option Addr) (n c : Nat) (zs : List Int) (w : World) (hn : zs.length = n * 8) (hb : n ≤ 1048576) (hr : Rd w w.heap.size A (ints zs)) :
    Calls Try.prog 26 #[.slice A n c] w (Copied w n zs) := by
  obtain ⟨i0, hi, hz0, hz1, hz2⟩ := info_of infoB
  have HR := Lib.hid hr
  have HN := Lib.hid hn
  have HL := Lib.hid (show (ints zs).length = n * 8 by rw [ints_len, hn])
  clear hr hn
  go_enter Try.func26, Try.ntmps26
  go_wp2_with (at_make; refine wpList_make_full _ rfl _ _ 26 rfl w.heap.size 55 i0 (.agg #[.int .i64 0, .int .i64 0, .int .i64 0, .int .i64 0, .int .i64 0, .int .i64 0, .int .i64 0, .int .i64 0]) 8 Try.underlying26 hi hz0 hz1 .i64 .i64 n n n rfl rfl rfl rfl (by rw [hz2]; omega) (by unfold maxLen; omega) (Nat.le_refl _) ?_; intro w1 hown hgrow; clear hi hz0 hz1 hz2)
  have R0 := Lib.hid (show w1.ownsRow w.heap.size 55 8 (.slice (some ⟨w.heap.size, 0, none⟩) n n) n (filled (ints zs) (.int .i64 0) 0) by
    rw [filled_zero, HL.out]; rw [made_ints _ 8 (by intro j hj; match j, hj with | 0, _ => rfl | 1, _ => rfl | 2, _ => rfl | 3, _ => rfl | 4, _ => rfl | 5, _ => rfl | 6, _ => rfl | 7, _ => rfl) rfl (by omega)] at hown; exact hown)
  have B0 := Lib.hid (show Below w.heap.size w w1 from (Below.refl _ _).grown hgrow (Nat.le_refl _) (fun k hk => by cases hk))
  clear hown hgrow
  go_loopw [4] (fun i wr => ∃ k : Nat, k ≤ n ∧ i = .int .i64 k ∧ Hid (wr.ownsRow w.heap.size 55 8 (.slice (some ⟨w.heap.size, 0, none⟩) n n) n (filled (ints zs) (.int .i64 0) (k * 8))) ∧ Hid (Below w.heap.size w wr)) (fun i _ => n - (intOf i).toNat)
  case atStart => exact ⟨0, Nat.zero_le _, rfl, R0, B0⟩
  case round =>
    obtain ⟨k, hk, rfl, RK, BK⟩ := hrel
    by_cases hlt : k < n
    · obtain ⟨b, o, eA, hbl, hcell⟩ := HR.out.get (k := k * 8) (by rw [HL.out]; omega)
      obtain ⟨x0, y0⟩ : ∃ x, zs[k * 8]? = some x := ⟨_, List.getElem?_eq_getElem (by rw [HN.out]; omega)⟩
      have z0 := ints_at y0
      obtain ⟨x1, y1⟩ : ∃ x, zs[k * 8 + 1]? = some x := ⟨_, List.getElem?_eq_getElem (by rw [HN.out]; omega)⟩
      have z1 := ints_at y1
      obtain ⟨x2, y2⟩ : ∃ x, zs[k * 8 + 2]? = some x := ⟨_, List.getElem?_eq_getElem (by rw [HN.out]; omega)⟩
      have z2 := ints_at y2
      obtain ⟨x3, y3⟩ : ∃ x, zs[k * 8 + 3]? = some x := ⟨_, List.getElem?_eq_getElem (by rw [HN.out]; omega)⟩
      have z3 := ints_at y3
      obtain ⟨x4, y4⟩ : ∃ x, zs[k * 8 + 4]? = some x := ⟨_, List.getElem?_eq_getElem (by rw [HN.out]; omega)⟩
      have z4 := ints_at y4
      obtain ⟨x5, y5⟩ : ∃ x, zs[k * 8 + 5]? = some x := ⟨_, List.getElem?_eq_getElem (by rw [HN.out]; omega)⟩
      have z5 := ints_at y5
      obtain ⟨x6, y6⟩ : ∃ x, zs[k * 8 + 6]? = some x := ⟨_, List.getElem?_eq_getElem (by rw [HN.out]; omega)⟩
      have z6 := ints_at y6
      obtain ⟨x7, y7⟩ : ∃ x, zs[k * 8 + 7]? = some x := ⟨_, List.getElem?_eq_getElem (by rw [HN.out]; omega)⟩
      have z7 := ints_at y7
      have c0 : wr.cell? ⟨b, o + k * 8, none⟩ = some (.int .i64 x0) := by exact (BK.out.cell (p := ⟨b, o + (k * 8), none⟩) hbl).trans (hcell _ _ z0)
      have c1 : wr.cell? ⟨b, o + k * 8 + 1, none⟩ = some (.int .i64 x1) := by rw [Nat.add_assoc]; exact (BK.out.cell (p := ⟨b, o + (k * 8 + 1), none⟩) hbl).trans (hcell _ _ z1)
      have c2 : wr.cell? ⟨b, o + k * 8 + 2, none⟩ = some (.int .i64 x2) := by rw [Nat.add_assoc]; exact (BK.out.cell (p := ⟨b, o + (k * 8 + 2), none⟩) hbl).trans (hcell _ _ z2)
      have c3 : wr.cell? ⟨b, o + k * 8 + 3, none⟩ = some (.int .i64 x3) := by rw [Nat.add_assoc]; exact (BK.out.cell (p := ⟨b, o + (k * 8 + 3), none⟩) hbl).trans (hcell _ _ z3)
      have c4 : wr.cell? ⟨b, o + k * 8 + 4, none⟩ = some (.int .i64 x4) := by rw [Nat.add_assoc]; exact (BK.out.cell (p := ⟨b, o + (k * 8 + 4), none⟩) hbl).trans (hcell _ _ z4)
      have c5 : wr.cell? ⟨b, o + k * 8 + 5, none⟩ = some (.int .i64 x5) := by rw [Nat.add_assoc]; exact (BK.out.cell (p := ⟨b, o + (k * 8 + 5), none⟩) hbl).trans (hcell _ _ z5)
      have c6 : wr.cell? ⟨b, o + k * 8 + 6, none⟩ = some (.int .i64 x6) := by rw [Nat.add_assoc]; exact (BK.out.cell (p := ⟨b, o + (k * 8 + 6), none⟩) hbl).trans (hcell _ _ z6)
      have c7 : wr.cell? ⟨b, o + k * 8 + 7, none⟩ = some (.int .i64 x7) := by rw [Nat.add_assoc]; exact (BK.out.cell (p := ⟨b, o + (k * 8 + 7), none⟩) hbl).trans (hcell _ _ z7)
      have Z0 := Lib.hid (filled_put (z := .int .i64 0) z0)
      have Z1 := Lib.hid (filled_put (z := .int .i64 0) z1)
      have Z2 := Lib.hid (filled_put (z := .int .i64 0) z2)
      have Z3 := Lib.hid (filled_put (z := .int .i64 0) z3)
      have Z4 := Lib.hid (filled_put (z := .int .i64 0) z4)
      have Z5 := Lib.hid (filled_put (z := .int .i64 0) z5)
      have Z6 := Lib.hid (filled_put (z := .int .i64 0) z6)
      have Z7 := Lib.hid (filled_put (z := .int .i64 0) z7)
      clear hbl hcell R0 B0 y0 z0 y1 z1 y2 z2 y3 z3 y4 z4 y5 z5 y6 z6 y7 z7
      subst eA
      go_wp2_with fail
      refine (toBlock x0 x1 x2 x3 x4 x5 x6 x7 _).mono ?_
      rintro e u ⟨rfl, hb1⟩
      have R1 := owns_below RK.out hb1
      have B1 := BK.out.trans (hb1.mono BK.out.size)
      have hl8 := HL.out
      have e0 : u.cell? ⟨w.heap.size, k * 8, none⟩ = some (.int .i64 0) := (R1.cellAt (k * 8) (by omega)).trans (filled_at (by omega) (by omega))
      have f0 := R1.frozenAt (k * 8)
      have e1 : u.cell? ⟨w.heap.size, k * 8 + 1, none⟩ = some (.int .i64 0) := (R1.cellAt (k * 8 + 1) (by omega)).trans (filled_at (by omega) (by omega))
      have f1 := R1.frozenAt (k * 8 + 1)
      have e2 : u.cell? ⟨w.heap.size, k * 8 + 2, none⟩ = some (.int .i64 0) := (R1.cellAt (k * 8 + 2) (by omega)).trans (filled_at (by omega) (by omega))
      have f2 := R1.frozenAt (k * 8 + 2)
      have e3 : u.cell? ⟨w.heap.size, k * 8 + 3, none⟩ = some (.int .i64 0) := (R1.cellAt (k * 8 + 3) (by omega)).trans (filled_at (by omega) (by omega))
      have f3 := R1.frozenAt (k * 8 + 3)
      have e4 : u.cell? ⟨w.heap.size, k * 8 + 4, none⟩ = some (.int .i64 0) := (R1.cellAt (k * 8 + 4) (by omega)).trans (filled_at (by omega) (by omega))
      have f4 := R1.frozenAt (k * 8 + 4)
      have e5 : u.cell? ⟨w.heap.size, k * 8 + 5, none⟩ = some (.int .i64 0) := (R1.cellAt (k * 8 + 5) (by omega)).trans (filled_at (by omega) (by omega))
      have f5 := R1.frozenAt (k * 8 + 5)
      have e6 : u.cell? ⟨w.heap.size, k * 8 + 6, none⟩ = some (.int .i64 0) := (R1.cellAt (k * 8 + 6) (by omega)).trans (filled_at (by omega) (by omega))
      have f6 := R1.frozenAt (k * 8 + 6)
      have e7 : u.cell? ⟨w.heap.size, k * 8 + 7, none⟩ = some (.int .i64 0) := (R1.cellAt (k * 8 + 7) (by omega)).trans (filled_at (by omega) (by omega))
      have f7 := R1.frozenAt (k * 8 + 7)
      obtain ⟨r0, g0⟩ := R1.stored (k * 8) (.int .i64 x0)
      rw [Z0.out] at r0
      obtain ⟨r1, g1⟩ := r0.stored (k * 8 + 1) (.int .i64 x1)
      rw [Z1.out] at r1
      obtain ⟨r2, g2⟩ := r1.stored (k * 8 + 1 + 1) (.int .i64 x2)
      rw [Z2.out] at r2
      obtain ⟨r3, g3⟩ := r2.stored (k * 8 + 1 + 1 + 1) (.int .i64 x3)
      rw [Z3.out] at r3
      obtain ⟨r4, g4⟩ := r3.stored (k * 8 + 1 + 1 + 1 + 1) (.int .i64 x4)
      rw [Z4.out] at r4
      obtain ⟨r5, g5⟩ := r4.stored (k * 8 + 1 + 1 + 1 + 1 + 1) (.int .i64 x5)
      rw [Z5.out] at r5
      obtain ⟨r6, g6⟩ := r5.stored (k * 8 + 1 + 1 + 1 + 1 + 1 + 1) (.int .i64 x6)
      rw [Z6.out] at r6
      obtain ⟨r7, g7⟩ := r6.stored (k * 8 + 1 + 1 + 1 + 1 + 1 + 1 + 1) (.int .i64 x7)
      rw [Z7.out] at r7
      have RR := Lib.hid r7
      have b0 := B1.grown g0 B1.size (fun g hg => by cases hg; exact Nat.le_refl _)
      have b1 := b0.grown g1 b0.size (fun g hg => by cases hg; exact Nat.le_refl _)
      have b2 := b1.grown g2 b1.size (fun g hg => by cases hg; exact Nat.le_refl _)
      have b3 := b2.grown g3 b2.size (fun g hg => by cases hg; exact Nat.le_refl _)
      have b4 := b3.grown g4 b3.size (fun g hg => by cases hg; exact Nat.le_refl _)
      have b5 := b4.grown g5 b4.size (fun g hg => by cases hg; exact Nat.le_refl _)
      have b6 := b5.grown g6 b5.size (fun g hg => by cases hg; exact Nat.le_refl _)
      have b7 := b6.grown g7 b6.size (fun g hg => by cases hg; exact Nat.le_refl _)
      have BB := Lib.hid b7
      clear r0 g0 b0 c0 Z0 r1 g1 b1 c1 Z1 r2 g2 b2 c2 Z2 r3 g3 b3 c3 Z3 r4 g4 b4 c4 Z4 r5 g5 b5 c5 Z5 r6 g6 b6 c6 Z6 r7 g7 b7 c7 Z7 hb1 RK BK R1 B1 hl8
      go_wp2_with fail
      go_roundw
      case rel => exact ⟨k + 1, by omega, by go_num, by rw [show (k + 1) * 8 = k * 8 + 1 + 1 + 1 + 1 + 1 + 1 + 1 + 1 by omega]; exact RR, BB⟩
      case measure => simp [intOf]; omega
    · obtain rfl : k = n := by omega
      go_wp2
      go_ret
      refine ⟨w.heap.size, rfl, Nat.le_refl _, ?_, BK.out⟩
      have := RK.out
      rw [← HL.out, filled_all] at this
      exact this

set_option maxHeartbeats 4000000 in
theorem eqBlockS (A B : Option Addr) (n c d : Nat) (zs : List Int) (w : World) (hn : zs.length = n * 8) (hb : n ≤ 1048576) (hr : Rd w w.heap.size A (ints zs)) (hs : Rd w w.heap.size B (ints zs)) :
    Calls Try.prog 20 #[.slice A n c, .slice B n d] w fun e w' => e = .returned (.bool true) ∧ Below w.heap.size w w' := by
  have HR := Lib.hid hr
  have HS := Lib.hid hs
  have HN := Lib.hid hn
  clear hr hs hn
  go_enter Try.func20, Try.ntmps20
  go_wp2
  go_loopw [5] (fun i wr => ∃ k : Nat, k ≤ n ∧ i = .int .i64 k ∧ Hid (Below w.heap.size w wr)) (fun i _ => n - (intOf i).toNat)
  case atStart => exact ⟨0, Nat.zero_le _, rfl, Lib.hid (Below.refl _ _)⟩
  case round =>
    obtain ⟨k, hk, rfl, BK⟩ := hrel
    by_cases hlt : k < n
    · have hl : k * 8 < (ints zs).length := by rw [ints_len, HN.out]; omega
      obtain ⟨b1, o1, eA, _, g1⟩ := (HR.out.below BK.out).get hl
      obtain ⟨b2, o2, eB, _, g2⟩ := (HS.out.below BK.out).get hl
      obtain ⟨x0, y0⟩ : ∃ x, zs[k * 8]? = some x := ⟨_, List.getElem?_eq_getElem (by rw [HN.out]; omega)⟩
      have z0 := ints_at y0
      obtain ⟨x1, y1⟩ : ∃ x, zs[k * 8 + 1]? = some x := ⟨_, List.getElem?_eq_getElem (by rw [HN.out]; omega)⟩
      have z1 := ints_at y1
      obtain ⟨x2, y2⟩ : ∃ x, zs[k * 8 + 2]? = some x := ⟨_, List.getElem?_eq_getElem (by rw [HN.out]; omega)⟩
      have z2 := ints_at y2
      obtain ⟨x3, y3⟩ : ∃ x, zs[k * 8 + 3]? = some x := ⟨_, List.getElem?_eq_getElem (by rw [HN.out]; omega)⟩
      have z3 := ints_at y3
      obtain ⟨x4, y4⟩ : ∃ x, zs[k * 8 + 4]? = some x := ⟨_, List.getElem?_eq_getElem (by rw [HN.out]; omega)⟩
      have z4 := ints_at y4
      obtain ⟨x5, y5⟩ : ∃ x, zs[k * 8 + 5]? = some x := ⟨_, List.getElem?_eq_getElem (by rw [HN.out]; omega)⟩
      have z5 := ints_at y5
      obtain ⟨x6, y6⟩ : ∃ x, zs[k * 8 + 6]? = some x := ⟨_, List.getElem?_eq_getElem (by rw [HN.out]; omega)⟩
      have z6 := ints_at y6
      obtain ⟨x7, y7⟩ : ∃ x, zs[k * 8 + 7]? = some x := ⟨_, List.getElem?_eq_getElem (by rw [HN.out]; omega)⟩
      have z7 := ints_at y7
      have c0 : wr.cell? ⟨b1, o1 + k * 8, none⟩ = some (.int .i64 x0) := g1 _ _ z0
      have c1 : wr.cell? ⟨b1, o1 + k * 8 + 1, none⟩ = some (.int .i64 x1) := g1 _ _ z1
      have c2 : wr.cell? ⟨b1, o1 + k * 8 + 2, none⟩ = some (.int .i64 x2) := g1 _ _ z2
      have c3 : wr.cell? ⟨b1, o1 + k * 8 + 3, none⟩ = some (.int .i64 x3) := g1 _ _ z3
      have c4 : wr.cell? ⟨b1, o1 + k * 8 + 4, none⟩ = some (.int .i64 x4) := g1 _ _ z4
      have c5 : wr.cell? ⟨b1, o1 + k * 8 + 5, none⟩ = some (.int .i64 x5) := g1 _ _ z5
      have c6 : wr.cell? ⟨b1, o1 + k * 8 + 6, none⟩ = some (.int .i64 x6) := g1 _ _ z6
      have c7 : wr.cell? ⟨b1, o1 + k * 8 + 7, none⟩ = some (.int .i64 x7) := g1 _ _ z7
      have e0 : wr.cell? ⟨b2, o2 + k * 8, none⟩ = some (.int .i64 x0) := g2 _ _ z0
      have e1 : wr.cell? ⟨b2, o2 + k * 8 + 1, none⟩ = some (.int .i64 x1) := g2 _ _ z1
      have e2 : wr.cell? ⟨b2, o2 + k * 8 + 2, none⟩ = some (.int .i64 x2) := g2 _ _ z2
      have e3 : wr.cell? ⟨b2, o2 + k * 8 + 3, none⟩ = some (.int .i64 x3) := g2 _ _ z3
      have e4 : wr.cell? ⟨b2, o2 + k * 8 + 4, none⟩ = some (.int .i64 x4) := g2 _ _ z4
      have e5 : wr.cell? ⟨b2, o2 + k * 8 + 5, none⟩ = some (.int .i64 x5) := g2 _ _ z5
      have e6 : wr.cell? ⟨b2, o2 + k * 8 + 6, none⟩ = some (.int .i64 x6) := g2 _ _ z6
      have e7 : wr.cell? ⟨b2, o2 + k * 8 + 7, none⟩ = some (.int .i64 x7) := g2 _ _ z7
      clear g1 g2 hl y0 z0 y1 z1 y2 z2 y3 z3 y4 z4 y5 z5 y6 z6 y7 z7
      subst eA eB
      have hlt' : (k : Int) < (n : Int) := by omega
      have hk0 : (0 : Int) ≤ (k : Int) := by omega
      have p1 : b1 < wr.heap.size := World.block_lt_of_cell? wr _ c1
      have p2 : ∀ j, b1 < wr.heap.size + j := fun j => by omega
      have p3 : b2 < wr.heap.size := World.block_lt_of_cell? wr _ e1
      have p4 : ∀ j, b2 < wr.heap.size + j := fun j => by omega
      have C := Lib.hid (fun W => eqBlock x0 x1 x2 x3 x4 x5 x6 x7 W)
      go_wp2_with fail
      go_region_held3 (fun w' => w'.cell? ⟨b1, o1 + k * 8, none⟩ = some (.int .i64 x0) ∧ w'.cell? ⟨b1, o1 + k * 8 + 1, none⟩ = some (.int .i64 x1) ∧ w'.cell? ⟨b1, o1 + k * 8 + 2, none⟩ = some (.int .i64 x2) ∧ w'.cell? ⟨b1, o1 + k * 8 + 3, none⟩ = some (.int .i64 x3) ∧ w'.cell? ⟨b1, o1 + k * 8 + 4, none⟩ = some (.int .i64 x4) ∧ w'.cell? ⟨b1, o1 + k * 8 + 5, none⟩ = some (.int .i64 x5) ∧ w'.cell? ⟨b1, o1 + k * 8 + 6, none⟩ = some (.int .i64 x6) ∧ w'.cell? ⟨b1, o1 + k * 8 + 7, none⟩ = some (.int .i64 x7) ∧ w'.cell? ⟨b2, o2 + k * 8, none⟩ = some (.int .i64 x0) ∧ w'.cell? ⟨b2, o2 + k * 8 + 1, none⟩ = some (.int .i64 x1) ∧ w'.cell? ⟨b2, o2 + k * 8 + 2, none⟩ = some (.int .i64 x2) ∧ w'.cell? ⟨b2, o2 + k * 8 + 3, none⟩ = some (.int .i64 x3) ∧ w'.cell? ⟨b2, o2 + k * 8 + 4, none⟩ = some (.int .i64 x4) ∧ w'.cell? ⟨b2, o2 + k * 8 + 5, none⟩ = some (.int .i64 x5) ∧ w'.cell? ⟨b2, o2 + k * 8 + 6, none⟩ = some (.int .i64 x6) ∧ w'.cell? ⟨b2, o2 + k * 8 + 7, none⟩ = some (.int .i64 x7)) (simp [go_sem, cell_drewN, *])
        (first | (go_at_call 56; ((with_reducible refine (C.out _).mono ?_); rintro e w9 ⟨rfl, m9, rfl⟩)))
      all_goals go_wp2_with fail
      all_goals go_roundw
      case rel => exact ⟨k + 1, by omega, by go_num, Lib.hid (BK.out.trans (Below.mono (by first | exact below_drewN (by go_grown) _ | go_grown) BK.out.size))⟩
      case measure => simp [intOf]; omega
    · obtain rfl : k = n := by omega
      go_wp2
      go_ret
      exact ⟨rfl, BK.out⟩
theorem szBlockN (A : Option Addr) (n c : Nat) (w : World) (hb : 1048576 < n) (hm : n ≤ 9223372036854775807) :
    Calls Try.prog 24 #[.slice A n c, .int .i64 1048576] w fun e w' => e = .returned (.int .i64 (-1)) ∧ w = w' := by
  have h1 : (1048576 : Int) - (n : Int) < 0 := by omega
  go_enter Try.func24, Try.ntmps24
  go_wp2
  all_goals go_returns
  all_goals first | exact ⟨rfl, rfl⟩ | (exfalso; omega)
theorem szBlockY (A : Option Addr) (n c : Nat) (w : World) (hb : n ≤ 1048576) :
    Calls Try.prog 24 #[.slice A n c, .int .i64 1048576] w fun e w' => e = .returned (.int .i64 (1048576 - (n : Int))) ∧ w = w' := by
  have h1 : ¬ (1048576 : Int) - (n : Int) < 0 := by omega
  go_enter Try.func24, Try.ntmps24
  go_wp2
  all_goals go_returns
  all_goals first | exact ⟨rfl, rfl⟩ | (exfalso; omega)

/-- The marks are laid; what lies in other blocks is as it was. -/
def Laid (w : World) (base g n c k : Nat) (e : Ending) (w' : World) : Prop :=
  e = .returned (.int .i64 ((k : Int) + ((n * 8 : Nat) : Int))) ∧ w'.ownsRow base 55 8 (.slice (some ⟨g, 0, none⟩) n c) n (mk k (n * 8)) ∧ w.grownBy w' (some g)

set_option maxHeartbeats 2000000 in
theorem markBlockS (base g n c k : Nat) (xs : List Value) (w : World) (hn : xs.length = n * 8) (hb : n ≤ 1048576) (hk : k ≤ 8388608) (hr : w.ownsRow base 55 8 (.slice (some ⟨g, 0, none⟩) n c) n xs) :
    Calls Try.prog 22 #[.slice (some ⟨g, 0, none⟩) n c, .int .i64 k] w (Laid w base g n c k) := by
  have HN := Lib.hid hn
  have R0 := Lib.hid (show w.ownsRow base 55 8 (.slice (some ⟨g, 0, none⟩) n c) n (marked k 0 xs) by rw [marked_zero]; exact hr)
  clear hn hr
  go_enter Try.func22, Try.ntmps22
  go_wp2_with fail
  go_loopw [1, 5] (fun q i wr => ∃ j : Nat, j ≤ n ∧ i = .int .i64 j ∧ q = .int .i64 ((k + j * 8 : Nat) : Int) ∧ Hid (wr.ownsRow base 55 8 (.slice (some ⟨g, 0, none⟩) n c) n (marked k (j * 8) xs)) ∧ Hid (w.grownBy wr (some g))) (fun _ i _ => n - (intOf i).toNat)
  case atStart => exact ⟨0, Nat.zero_le _, rfl, by simp, R0, Lib.hid (grown_refl _ _)⟩
  case round =>
    obtain ⟨j, hj, rfl, rfl, RK, GK⟩ := hrel
    clear R0
    obtain ⟨q, hq⟩ : ∃ q : Nat, k + j * 8 = q := ⟨_, rfl⟩
    rw [hq]
    have HQ := Lib.hid hq
    have hq8 : q ≤ 16777216 := by omega
    clear hq
    by_cases hlt : j < n
    · go_wp2_with fail
      go_loopw [1, 6] (fun p i wr => ∃ s : Nat, s ≤ 8 ∧ i = .int .i64 s ∧ p = .int .i64 ((q + s : Nat) : Int) ∧ Hid (wr.ownsRow base 55 8 (.slice (some ⟨g, 0, none⟩) n c) n (marked k (j * 8 + s) xs)) ∧ Hid (w.grownBy wr (some g))) (fun _ i _ => 8 - (intOf i).toNat)
      case atStart => exact ⟨0, by omega, rfl, by simp, RK, GK⟩
      case round =>
        obtain ⟨s, hs, rfl, rfl, RS, GS⟩ := hrel
        clear RK GK
        by_cases hls : s < 8
        · have HL := HN.out
          obtain ⟨v0, z0⟩ : ∃ v, xs[j * 8 + s]? = some v := ⟨_, List.getElem?_eq_getElem (by omega)⟩
          obtain ⟨r1, g1⟩ := RS.out.stored (j * 8 + s) (.int .i64 ((k : Int) + ((j * 8 + s : Nat) : Int)))
          rw [marked_set (by omega)] at r1
          have c1 := (RS.out.cellAt (j * 8 + s) (by omega)).trans (marked_get z0)
          have f1 := RS.out.frozenAt (j * 8 + s)
          have eq9 : (k : Int) + ((j * 8 + s : Nat) : Int) = ((q + s : Nat) : Int) := by have := HQ.out; omega
          rw [eq9] at r1 g1
          have RR := Lib.hid r1
          have GG := Lib.hid (grown_trans GS.out g1)
          obtain ⟨p, hp⟩ : ∃ p : Nat, q + s = p := ⟨_, rfl⟩
          rw [hp] at RR GG ⊢
          have HP := Lib.hid hp
          have hp8 : p ≤ 16777224 := by omega
          clear r1 g1 z0 HL RS GS eq9 hp
          go_wp2_with fail
          go_roundw
          case rel => exact ⟨s + 1, by omega, by go_num, by (have := HP.out; congr 1; omega), RR, GG⟩
          case measure => simp [intOf]; omega
        · obtain rfl : s = 8 := by omega
          go_wp2_with fail
          go_roundw
          case rel => exact ⟨j + 1, by omega, by go_num, by (have := HQ.out; congr 1; omega), by rw [show (j + 1) * 8 = j * 8 + 8 by omega]; exact RS, GS⟩
          case measure => simp [intOf]; omega
    · obtain rfl : j = n := by omega
      have F := Lib.hid (show wr.ownsRow base 55 8 (.slice (some ⟨g, 0, none⟩) j c) j (mk k (j * 8)) by
        have := RK.out
        rw [marked_all (by rw [HN.out]; exact Nat.le_refl _)] at this; exact this)
      go_wp2_with fail
      go_ret
      exact ⟨by first | (rw [show ((k : Int) + ((j * 8 : Nat) : Int)) = (q : Int) by have := HQ.out; omega]; rfl) | (rw [show (k : Int) + (j : Int) * 8 = (q : Int) by have := HQ.out; omega]; rfl), F.out, GK.out⟩

set_option maxHeartbeats 2000000 in
theorem heldBlockS (A : Option Addr) (n c k : Nat) (w : World) (hb : n ≤ 1048576) (hk : k ≤ 8388608) (hr : Rd w w.heap.size A (mk k (n * 8))) :
    Calls Try.prog 23 #[.slice A n c, .int .i64 k] w fun e w' => e = .returned (.int .i64 ((k : Int) + ((n * 8 : Nat) : Int))) ∧ Below w.heap.size w w' := by
  have HR := Lib.hid hr
  clear hr
  go_enter Try.func23, Try.ntmps23
  go_wp2_with fail
  go_loop [1, 5] (fun q i => ∃ j : Nat, j ≤ n ∧ i = .int .i64 j ∧ q = .int .i64 ((k + j * 8 : Nat) : Int)) (fun _ i => n - (intOf i).toNat)
  case atStart => exact ⟨0, Nat.zero_le _, rfl, by simp⟩
  case round =>
    obtain ⟨j, hj, rfl, rfl⟩ := hrel
    obtain ⟨q, hq⟩ : ∃ q : Nat, k + j * 8 = q := ⟨_, rfl⟩
    rw [hq]
    have HQ := Lib.hid hq
    have hq8 : q ≤ 16777216 := by omega
    clear hq
    by_cases hlt : j < n
    · obtain ⟨b, o, eA, hbl, hcell⟩ := HR.out.get (k := j * 8) (by rw [mk_len]; omega)
      have HC := Lib.hid hcell
      clear hcell hbl
      subst eA
      go_wp2_with fail
      go_loop [1, 6] (fun p i => ∃ s : Nat, s ≤ 8 ∧ i = .int .i64 s ∧ p = .int .i64 ((q + s : Nat) : Int)) (fun _ i => 8 - (intOf i).toNat)
      case atStart => exact ⟨0, by omega, rfl, by simp⟩
      case round =>
        obtain ⟨s, hs, rfl, rfl⟩ := hrel
        by_cases hls : s < 8
        · have c1 := HC.out (j * 8 + s) _ (mk_get (by omega))
          rw [show (k : Int) + ((j * 8 + s : Nat) : Int) = ((q + s : Nat) : Int) by have := HQ.out; omega, ← Nat.add_assoc] at c1
          obtain ⟨p, hp⟩ : ∃ p : Nat, q + s = p := ⟨_, rfl⟩
          rw [hp] at c1 ⊢
          have HP := Lib.hid hp
          have hp8 : p ≤ 16777224 := by omega
          clear hp
          go_wp2_with fail
          go_round
          case rel => exact ⟨s + 1, by omega, by go_num, by (have := HP.out; congr 1; omega)⟩
          case measure => simp [intOf]; omega
        · obtain rfl : s = 8 := by omega
          go_wp2_with fail
          go_round
          case rel => exact ⟨j + 1, by omega, by go_num, by (have := HQ.out; congr 1; omega)⟩
          case measure => simp [intOf]; omega
    · obtain rfl : j = n := by omega
      go_wp2_with fail
      go_ret
      exact ⟨by first | (rw [show ((k : Int) + ((j * 8 : Nat) : Int)) = (q : Int) by have := HQ.out; omega]; rfl) | (rw [show (k : Int) + (j : Int) * 8 = (q : Int) by have := HQ.out; omega]; rfl), Below.refl _ _⟩
end Go.Proofs.Ytfhjngkcgdkoaaa.Bl8
