/- What the least box of a list of places is, and what the model answers for it. -/
import Derived.Test.YtejeikfgmiadhabPls4
import Derived.Test.YtejeikfgmiadhabTbq
import Derived.StillTailTactics
set_option linter.unusedVariables false
set_option linter.unusedSimpArgs false
namespace Go.Proofs.Ytejeikfgmiadhab.Bo
open Go.RowKit Go.Proofs.Ytejeikfgmiadhab.Mem Go.Proofs.Ytejeikfgmiadhab.Cm Go.Proofs.Ytejeikfgmiadhab.Pl Go.Proofs.Ytejeikfgmiadhab.Str Go.Proofs.Ytejeikfgmiadhab.Pw Go.Proofs.Ytejeikfgmiadhab.P2 Go.Proofs.Ytejeikfgmiadhab.Bx Go.Proofs.Ytejeikfgmiadhab.Tb Go.Proofs.Ytejeikfgmiadhab.Pls
set_option linter.unusedVariables false

abbrev Q4 := Int × Int × Int × Int
def step (q : Q4) (p : Int × Int) : Q4 := (min q.1 p.1, min q.2.1 p.2, max q.2.2.1 p.1, max q.2.2.2 p.2)
def one (p : Int × Int) : Q4 := (p.1, p.2, p.1, p.2)
/-- The least box of these places; zeros of none. -/
def boxA : List (Int × Int) → Q4
  | [] => (0, 0, 0, 0)
  | p :: ps => ps.foldl step (one p)
def good (ps : List (Int × Int)) : Bool := ps.all fun p => ms p.1 && ms p.2
def okB (ps : List (Int × Int)) : Bool := good ps && decide (0 < ps.length)
def val (ps : List (Int × Int)) : Q4 := if good ps = true then boxA ps else (0, 0, 0, 0)
def bq (q : Q4) : Value := box4 q.1 q.2.1 q.2.2.1 q.2.2.2

theorem one_step (p : Int × Int) : step (one p) p = one p := by simp [step, one]
theorem boxA_take {ps : List (Int × Int)} {k : Nat} {p : Int × Int} (h : ps[k]? = some p) : boxA (ps.take (k + 1)) = step (if k = 0 then one p else boxA (ps.take k)) p := by
  obtain ⟨hk, rfl⟩ := List.getElem?_eq_some_iff.1 h
  rw [List.take_succ_eq_append_getElem hk]
  match k, ps with
  | 0, q :: ps => simp [boxA, one_step]
  | k + 1, q :: ps =>
    have hk2 : k < ps.length := by simpa using hk
    have e : ps.take (k + 1) = ps.take k ++ [ps[k]] := List.take_succ_eq_append_getElem hk2
    have e2 : boxA ((q :: ps).take (k + 1)) = (ps.take k).foldl step (one q) := rfl
    have e3 : boxA ((q :: ps).take (k + 1) ++ [(q :: ps)[k + 1]]) = (ps.take k ++ [ps[k]]).foldl step (one q) := rfl
    rw [if_neg (by omega), e2, e3, List.foldl_append]; rfl
theorem good_take {ps : List (Int × Int)} {k : Nat} {p : Int × Int} (h : ps[k]? = some p) : good (ps.take (k + 1)) = (good (ps.take k) && (ms p.1 && ms p.2)) := by
  obtain ⟨hk, rfl⟩ := List.getElem?_eq_some_iff.1 h
  rw [List.take_succ_eq_append_getElem hk]
  unfold good
  rw [List.all_append]
  simp
theorem good_at {ps : List (Int × Int)} {k : Nat} {p : Int × Int} (h : ps[k]? = some p) (hp : (ms p.1 && ms p.2) = false) : good ps = false := by
  unfold good
  rw [List.all_eq_false]
  exact ⟨p, List.mem_of_getElem? h, by rw [hp]; decide⟩

/-- Block b holds these four, and may be written. -/
structure B4 (w : World) (b : Nat) (x y z u : Int) : Prop where
  c0 : w.cell? ⟨b, 0, none⟩ = some (.int .i64 x)
  c1 : w.cell? ⟨b, 1, none⟩ = some (.int .i64 y)
  c2 : w.cell? ⟨b, 2, none⟩ = some (.int .i64 z)
  c3 : w.cell? ⟨b, 3, none⟩ = some (.int .i64 u)
  f0 : w.frozen? ⟨b, 0, none⟩ = false
  f1 : w.frozen? ⟨b, 1, none⟩ = false
  f2 : w.frozen? ⟨b, 2, none⟩ = false
  f3 : w.frozen? ⟨b, 3, none⟩ = false

theorem cell_set {W : World} {b i j : Nat} {v u : Value} (h : W.cell? ⟨b, j, none⟩ = some u) : (W.setCell ⟨b, i, none⟩ v).cell? ⟨b, j, none⟩ = some (if i = j then v else u) := by
  by_cases e : i = j
  · subst e; rw [if_pos rfl]; exact World.cell?_setCell_same' _ _ _ (by rw [h]; rfl)
  · rw [if_neg e]; exact (World.cell?_setCell_other _ _ _ _ (by simp [e])).trans h
theorem cell_far {W : World} {b b' i j : Nat} {v u : Value} (e : b' ≠ b) (h : W.cell? ⟨b, j, none⟩ = some u) : (W.setCell ⟨b', i, none⟩ v).cell? ⟨b, j, none⟩ = some u := (World.cell?_setCell_other _ _ _ _ (by simp [e])).trans h
theorem frozen_set {W : World} {a p : Addr} {v : Value} (h : W.frozen? p = false) : (W.setCell a v).frozen? p = false := by rw [World.frozen?_setCell]; exact h

section
variable {W W' : World} {b b' i : Nat} {x y z u n : Int} {v : Value}
theorem B4.far (e : b' ≠ b) (h : B4 W b x y z u) : B4 (W.setCell ⟨b', i, none⟩ v) b x y z u := ⟨cell_far e h.c0, cell_far e h.c1, cell_far e h.c2, cell_far e h.c3, frozen_set h.f0, frozen_set h.f1, frozen_set h.f2, frozen_set h.f3⟩
theorem B4.set0 (h : B4 W b x y z u) : B4 (W.setCell ⟨b, 0, none⟩ (.int .i64 n)) b n y z u := ⟨cell_set h.c0, cell_set h.c1, cell_set h.c2, cell_set h.c3, frozen_set h.f0, frozen_set h.f1, frozen_set h.f2, frozen_set h.f3⟩
theorem B4.set1 (h : B4 W b x y z u) : B4 (W.setCell ⟨b, 1, none⟩ (.int .i64 n)) b x n z u := ⟨cell_set h.c0, cell_set h.c1, cell_set h.c2, cell_set h.c3, frozen_set h.f0, frozen_set h.f1, frozen_set h.f2, frozen_set h.f3⟩
theorem B4.set2 (h : B4 W b x y z u) : B4 (W.setCell ⟨b, 2, none⟩ (.int .i64 n)) b x y n u := ⟨cell_set h.c0, cell_set h.c1, cell_set h.c2, cell_set h.c3, frozen_set h.f0, frozen_set h.f1, frozen_set h.f2, frozen_set h.f3⟩
theorem B4.set3 (h : B4 W b x y z u) : B4 (W.setCell ⟨b, 3, none⟩ (.int .i64 n)) b x y z n := ⟨cell_set h.c0, cell_set h.c1, cell_set h.c2, cell_set h.c3, frozen_set h.f0, frozen_set h.f1, frozen_set h.f2, frozen_set h.f3⟩
theorem B4.below (h : B4 W b x y z u) (hb : Below W.heap.size W W') : B4 W' b x y z u := ⟨cell_below hb h.c0, cell_below hb h.c1, cell_below hb h.c2, cell_below hb h.c3, frozen_below hb h.c0 h.f0, frozen_below hb h.c1 h.f1, frozen_below hb h.c2 h.f2, frozen_below hb h.c3 h.f3⟩
end

theorem minQ (a b : Int) (w : World) : Calls Try.prog 61 #[.int .i64 a, .int .i64 b] w fun e w' => e = .returned (.int .i64 (min a b)) ∧ w' = w := (l1Min a b w).mono fun _ _ h => ⟨h.1, h.2.symm⟩
theorem maxQ (a b : Int) (w : World) : Calls Try.prog 62 #[.int .i64 a, .int .i64 b] w fun e w' => e = .returned (.int .i64 (max a b)) ∧ w' = w := (l1Max a b w).mono fun _ _ h => ⟨h.1, h.2.symm⟩

theorem val_no {zs : List (Int × Int)} (h : good zs = false) : Value.tuple #[box4 0 0 0 0, .bool false] = .tuple #[bq (val zs), .bool (okB zs)] := by
  unfold val okB; rw [h]; rfl
theorem val_yes {zs : List (Int × Int)} {q1 q2 q3 q4 : Int} (h : good zs = true) (hq : (q1, q2, q3, q4) = boxA zs) : Value.tuple #[box4 q1 q2 q3 q4, .bool (decide (0 < zs.length))] = .tuple #[bq (val zs), .bool (okB zs)] := by
  unfold val okB bq; rw [h, if_pos rfl, ← hq]; rfl

theorem wp_still_tail {P : Program} {id : Nat} {Q : Exit → Act → World → Prop} {a : Act} {w : World} {l : List Oper} (n : Nat) (hm : P.follows .mixedOrders = true) (hB : Region.lexTailB .any l.toArray n = true)
    (h : ∀ W2, W2 = w.drew → wpStill P l.toArray W2 (fun a' => wpList P l.toArray Q (l.drop n) a' W2) (l.take n) a) : (Code.region id l.toArray true).wp P Q a w := wp_region_still_tail n hm hB (h _ rfl)

set_option maxHeartbeats 4000000 in
set_option maxRecDepth 100000 in
theorem boxOfS (A : Option Addr) (n c : Nat) (zs : List (Int × Int)) (w : World) (hn : zs.length = n) (hb : n ≤ 1048576) (hr : Rd w w.heap.size A (pls zs)) :
    Calls Try.prog 46 #[.slice A n c] w fun e w' => e = .returned (.tuple #[bq (val zs), .bool (okB zs)]) ∧ Below w.heap.size w w' := by
  have HR := Lib.hid hr
  have HN := Lib.hid hn
  have MN := Lib.hid minQ
  have MX := Lib.hid maxQ
  clear hr hn
  go_enter Try.func46, Try.ntmps46
  go_wp2_with fail
  go_loopw [10] (fun i wr => ∃ k : Nat, k ≤ n ∧ i = .int .i64 k ∧ Hid (good (zs.take k) = true) ∧ Hid (Below w.heap.size w wr) ∧ Hid (B4 wr w.heap.size 0 0 0 0) ∧ ∃ q1 q2 q3 q4 : Int, Hid ((q1, q2, q3, q4) = boxA (zs.take k)) ∧ Hid (B4 wr (w.heap.size + 1) q1 q2 q3 q4)) (fun i _ => n - (intOf i).toNat)
  case atStart =>
    refine ⟨0, Nat.zero_le _, rfl, rfl, Lib.hid (by go_grown), Lib.hid (by constructor <;> simp [go_sem]), 0, 0, 0, 0, rfl, Lib.hid (by constructor <;> simp [go_sem])⟩
  case round =>
    obtain ⟨k, hk, rfl, GK, BK, RK, q1, q2, q3, q4, QK, LK⟩ := hrel
    have z0 := RK.out.c0
    have z1 := RK.out.c1
    have z2 := RK.out.c2
    have z3 := RK.out.c3
    have y0 := RK.out.f0
    have y1 := RK.out.f1
    have y2 := RK.out.f2
    have y3 := RK.out.f3
    have a0 := LK.out.c0
    have a1 := LK.out.c1
    have a2 := LK.out.c2
    have a3 := LK.out.c3
    have t0 := LK.out.f0
    have t1 := LK.out.f1
    have t2 := LK.out.f2
    have t3 := LK.out.f3
    have l0 : w.heap.size + 1 < wr.heap.size := World.block_lt_of_cell? wr _ a0
    have l1 : w.heap.size < wr.heap.size := by omega
    have l2 : ∀ j, w.heap.size + 1 < wr.heap.size + j := fun j => by omega
    have l3 : ∀ j, w.heap.size < wr.heap.size + j := fun j => by omega
    by_cases hlt : k < n
    · have hkz : k < zs.length := by rw [HN.out]; exact hlt
      obtain ⟨b, o, eA, hbl, hcell⟩ := HR.out.get (k := k * 2) (by rw [pls_len]; omega)
      obtain ⟨z, hz⟩ : ∃ z, zs[k]? = some z := ⟨_, List.getElem?_eq_getElem hkz⟩
      have HZ := Lib.hid hz
      obtain ⟨g0, g1⟩ := pls_get hz
      obtain ⟨x, y⟩ := z
      have c1 : wr.cell? ⟨b, o + k * 2, none⟩ = some (.int .i64 x) := (BK.out.cell (p := ⟨b, o + k * 2, none⟩) hbl).trans (hcell _ _ g0)
      have c2 : wr.cell? ⟨b, o + k * 2 + 1, none⟩ = some (.int .i64 y) := by
        rw [Nat.add_assoc]; exact (BK.out.cell (p := ⟨b, o + (k * 2 + 1), none⟩) hbl).trans (hcell _ _ g1)
      clear hbl hcell hkz hz g0 g1
      subst eA
      cases hp : (ms x && ms y)
      · have F := Lib.hid (val_no (good_at HZ.out hp))
        have C := Lib.hid (isPlaceS_of hp)
        have HS := Lib.hid (set4 (a := .int .i64 0) (b := .int .i64 0) (c := .int .i64 0) (d := .int .i64 0) z0 z1 z2 z3)
        clear hp
        go_wp2_with fail
        refine (C.out _).mono ?_
        rintro e w' ⟨rfl, rfl⟩
        go_wp2_with fail
        have r0 := HS.out.1
        have r1 := HS.out.2.1
        have r2 := HS.out.2.2.1
        have r3 := HS.out.2.2.2
        (try simp only [Exit.inBlock, Exit.then])
        refine bodyPost_ret (v := .tuple #[box4 0 0 0 0, .bool false]) (by simp [results, Try.results46, go_sem, r0, r1, r2, r3, l1, l3]; try rfl) rfl ?_
        refine ⟨by rw [F.out], ?_⟩
        have h8 := BK.out
        have h9 := h8.size
        go_grown
      · have G1 := Lib.hid (show good (zs.take (k + 1)) = true by rw [good_take HZ.out, GK.out, hp]; rfl)
        have C := Lib.hid (isPlaceS_of hp)
        have E := Lib.hid (boxA_take HZ.out)
        clear hp
        by_cases hk0 : k = 0
        · subst hk0
          simp only [Nat.zero_mul, Nat.add_zero] at c1 c2
          go_wp2_with fail
          refine (C.out _).mono ?_
          rintro e w' ⟨rfl, rfl⟩
          go_wp2_with fail
          refine wp_still_tail 14 (by kernel_rfl) (by kernel_rfl) ?_
          intro V hV
          have LV : B4 V (w.heap.size + 1) x y x y := by rw [hV]; exact (LK.out.set0.set1.set2.set3).below (by go_grown)
          have RV : B4 V w.heap.size 0 0 0 0 := by rw [hV]; exact B4.below (W := (((wr.setCell ⟨w.heap.size + 1, 0, none⟩ (.int .i64 x)).setCell ⟨w.heap.size + 1, 1, none⟩ (.int .i64 y)).setCell ⟨w.heap.size + 1, 2, none⟩ (.int .i64 x)).setCell ⟨w.heap.size + 1, 3, none⟩ (.int .i64 y)) (B4.far (by omega) (B4.far (by omega) (B4.far (by omega) (B4.far (by omega) RK.out)))) (by go_grown)
          have BV : Below w.heap.size w V := BK.out.trans (by rw [hV]; have h9 := BK.out.size; go_grown)
          have p0 : V.cell? ⟨wr.heap.size, 0, none⟩ = some (.int .i64 x) := by rw [hV]; simp [go_sem]
          have p1 : V.cell? ⟨wr.heap.size, 1, none⟩ = some (.int .i64 y) := by rw [hV]; simp [go_sem]
          have d0 := LV.c0
          have d1 := LV.c1
          have e0 := LV.f0
          have e1 := LV.f1
          have HLV := Lib.hid LV
          have HRV := Lib.hid RV
          have HBV := Lib.hid BV
          clear hV LV RV BV z0 z1 z2 z3 y0 y1 y2 y3 a0 a1 a2 a3 t0 t1 t2 t3 c1 c2
          simp only [List.take_succ_cons, List.take_zero, List.drop_succ_cons, List.drop_zero]
          iterate 5 still_step
          still_call (MN.out _ _ _)
          iterate 5 still_step
          still_call (MN.out _ _ _)
          iterate 2 still_step
          refine wpStill_nil ?_
          go_wp2_with fail
          refine wp_still_tail 14 (by kernel_rfl) (by kernel_rfl) ?_
          intro U hU
          have LU : B4 U (w.heap.size + 1) x y x y := by rw [hU]; exact (HLV.out.set0.set1).below ⟨rfl, rfl, rfl, Nat.le_refl _, fun _ _ => rfl⟩
          have RU : B4 U w.heap.size 0 0 0 0 := by rw [hU]; exact (B4.far (by omega) (B4.far (by omega) HRV.out)).below ⟨rfl, rfl, rfl, Nat.le_refl _, fun _ _ => rfl⟩
          have BU : Below w.heap.size w U := HBV.out.trans (by rw [hU]; have h9 := HBV.out.size; go_grown)
          have p2 : U.cell? ⟨wr.heap.size, 0, none⟩ = some (.int .i64 x) := by rw [hU]; exact cell_far (by omega) (cell_far (by omega) p0)
          have p3 : U.cell? ⟨wr.heap.size, 1, none⟩ = some (.int .i64 y) := by rw [hU]; exact cell_far (by omega) (cell_far (by omega) p1)
          have d2 := LU.c2
          have d3 := LU.c3
          have e2 := LU.f2
          have e3 := LU.f3
          have HLU := Lib.hid LU
          have HRU := Lib.hid RU
          have HBU := Lib.hid BU
          clear hU LU RU BU d0 d1 e0 e1 p0 p1
          simp only [List.take_succ_cons, List.take_zero, List.drop_succ_cons, List.drop_zero]
          iterate 5 still_step
          still_call (MX.out _ _ _)
          iterate 5 still_step
          still_call (MX.out _ _ _)
          iterate 2 still_step
          refine wpStill_nil ?_
          go_wp2_with fail
          go_roundw
          case rel =>
            refine ⟨0 + 1, by omega, by go_num, G1, Lib.hid (HBU.out.trans (by have h9 := HBU.out.size; go_grown)), Lib.hid (B4.far (by omega) (B4.far (by omega) HRU.out)), _, _, _, _, ?_, Lib.hid (HLU.out.set2.set3)⟩
            have h7 := E.out
            simp only [if_true] at h7
            rw [one_step] at h7
            exact Lib.hid h7.symm
          case measure => simp [intOf]; omega
        · have hk1 : ¬ ((k : Int) = 0) := by omega
          go_wp2_with fail
          refine (C.out _).mono ?_
          rintro e w' ⟨rfl, rfl⟩
          go_wp2_with fail
          refine wp_still_tail 14 (by kernel_rfl) (by kernel_rfl) ?_
          intro V hV
          have LV : B4 V (w.heap.size + 1) q1 q2 q3 q4 := by rw [hV]; exact LK.out.below (by go_grown)
          have RV : B4 V w.heap.size 0 0 0 0 := by rw [hV]; exact RK.out.below (by go_grown)
          have BV : Below w.heap.size w V := BK.out.trans (by rw [hV]; have h9 := BK.out.size; go_grown)
          have p0 : V.cell? ⟨wr.heap.size, 0, none⟩ = some (.int .i64 x) := by rw [hV]; simp [go_sem]
          have p1 : V.cell? ⟨wr.heap.size, 1, none⟩ = some (.int .i64 y) := by rw [hV]; simp [go_sem]
          have d0 := LV.c0
          have d1 := LV.c1
          have e0 := LV.f0
          have e1 := LV.f1
          have HLV := Lib.hid LV
          have HRV := Lib.hid RV
          have HBV := Lib.hid BV
          clear hV LV RV BV z0 z1 z2 z3 y0 y1 y2 y3 a0 a1 a2 a3 t0 t1 t2 t3 c1 c2
          simp only [List.take_succ_cons, List.take_zero, List.drop_succ_cons, List.drop_zero]
          iterate 5 still_step
          still_call (MN.out _ _ _)
          iterate 5 still_step
          still_call (MN.out _ _ _)
          iterate 2 still_step
          refine wpStill_nil ?_
          go_wp2_with fail
          refine wp_still_tail 14 (by kernel_rfl) (by kernel_rfl) ?_
          intro U hU
          have LU : B4 U (w.heap.size + 1) (min q1 x) (min q2 y) q3 q4 := by rw [hU]; exact (HLV.out.set0.set1).below ⟨rfl, rfl, rfl, Nat.le_refl _, fun _ _ => rfl⟩
          have RU : B4 U w.heap.size 0 0 0 0 := by rw [hU]; exact (B4.far (by omega) (B4.far (by omega) HRV.out)).below ⟨rfl, rfl, rfl, Nat.le_refl _, fun _ _ => rfl⟩
          have BU : Below w.heap.size w U := HBV.out.trans (by rw [hU]; have h9 := HBV.out.size; go_grown)
          have p2 : U.cell? ⟨wr.heap.size, 0, none⟩ = some (.int .i64 x) := by rw [hU]; exact cell_far (by omega) (cell_far (by omega) p0)
          have p3 : U.cell? ⟨wr.heap.size, 1, none⟩ = some (.int .i64 y) := by rw [hU]; exact cell_far (by omega) (cell_far (by omega) p1)
          have d2 := LU.c2
          have d3 := LU.c3
          have e2 := LU.f2
          have e3 := LU.f3
          have HLU := Lib.hid LU
          have HRU := Lib.hid RU
          have HBU := Lib.hid BU
          clear hU LU RU BU d0 d1 e0 e1 p0 p1
          simp only [List.take_succ_cons, List.take_zero, List.drop_succ_cons, List.drop_zero]
          iterate 5 still_step
          still_call (MX.out _ _ _)
          iterate 5 still_step
          still_call (MX.out _ _ _)
          iterate 2 still_step
          refine wpStill_nil ?_
          go_wp2_with fail
          go_roundw
          case rel =>
            refine ⟨k + 1, by omega, by go_num, G1, Lib.hid (HBU.out.trans (by have h9 := HBU.out.size; go_grown)), Lib.hid (B4.far (by omega) (B4.far (by omega) HRU.out)), _, _, _, _, ?_, Lib.hid (HLU.out.set2.set3)⟩
            have h7 := E.out
            rw [if_neg hk0, ← QK.out] at h7
            exact Lib.hid h7.symm
          case measure => simp [intOf]; omega
    · obtain rfl : k = n := by omega
      have HS := Lib.hid (set4 (a := .int .i64 q1) (b := .int .i64 q2) (c := .int .i64 q3) (d := .int .i64 q4) z0 z1 z2 z3)
      have ht : zs.take k = zs := by rw [← HN.out, List.take_length]
      have F := Lib.hid (val_yes (zs := zs) (q1 := q1) (q2 := q2) (q3 := q3) (q4 := q4) (by have := GK.out; rwa [ht] at this) (by have := QK.out; rwa [ht] at this))
      clear ht
      go_wp2_with fail
      have r0 := HS.out.1
      have r1 := HS.out.2.1
      have r2 := HS.out.2.2.1
      have r3 := HS.out.2.2.2
      (try simp only [Exit.inBlock, Exit.then])
      refine bodyPost_ret (v := .tuple #[box4 q1 q2 q3 q4, .bool (decide (0 < k))]) (by simp [results, Try.results46, go_sem, r0, r1, r2, r3]; try rfl) rfl ?_
      have f9 := F.out
      rw [HN.out] at f9
      refine ⟨congrArg Ending.returned f9, BK.out.trans ?_⟩
      have h9 := BK.out.size
      go_grown

end Go.Proofs.Ytejeikfgmiadhab.Bo
