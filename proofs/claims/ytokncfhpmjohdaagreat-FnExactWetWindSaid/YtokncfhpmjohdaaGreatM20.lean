/- What comparing two places answers, of the program and of the model. -/
import Derived.Test.YtokncfhpmjohdaaGreatM3
import Derived.Test.YtokncfhpmjohdaaGreatM1
import Derived.Deep.SlicePairs
import Derived.Deep.RegionHeld3
set_option linter.unusedVariables false
set_option linter.unusedSimpArgs false
namespace Go.Proofs.YtokncfhpmjohdaaGreat.Cp
open Go.RowKit Go.Proofs.YtokncfhpmjohdaaGreat.P2
set_option linter.unusedVariables false

def cv (x y : Int) : Int := if x < y then -1 else if y < x then 1 else 0
def ov (c d : Int) : Int := if c != 0 then c else d
def cpv (x y a b : Int) : Int := ov (cv x a) (cv y b)

theorem isNaN (x : Int) (w : World) : Calls Tryz.prog 179 #[.int .i64 x] w fun e w' => e = .returned (.bool false) ∧ w = w' := by
  go_enter Tryz.func179, Tryz.ntmps179
  go_wp2
  all_goals go_returns
  all_goals first | exact ⟨rfl, rfl⟩ | (refine ⟨?_, rfl⟩; simp)

theorem compare (x y : Int) (w : World) : Calls Tryz.prog 150 #[.int .i64 x, .int .i64 y] w fun e w' => e = .returned (.int .i64 (cv x y)) ∧ w = w' := by
  have N := Lib.hid isNaN
  rcases Int.lt_trichotomy x y with h | h | h
  · have e : cv x y = -1 := by unfold cv; rw [if_pos h]
    rw [e]
    go_enter Tryz.func150, Tryz.ntmps150
    go_wp2_with (go_at_call 179; refine (N.out _ _).mono ?_; rintro e w' ⟨rfl, rfl⟩)
    all_goals first | omega | skip
    all_goals go_returns
    all_goals exact ⟨rfl, rfl⟩
  · subst h
    have e : cv x x = 0 := by unfold cv; simp
    rw [e]
    go_enter Tryz.func150, Tryz.ntmps150
    go_wp2_with (go_at_call 179; refine (N.out _ _).mono ?_; rintro e w' ⟨rfl, rfl⟩)
    all_goals first | omega | skip
    all_goals go_returns
    all_goals exact ⟨rfl, rfl⟩
  · have e : cv x y = 1 := by unfold cv; rw [if_neg (by omega), if_pos h]
    have hn : ¬ x < y := by omega
    rw [e]
    go_enter Tryz.func150, Tryz.ntmps150
    go_wp2_with (go_at_call 179; refine (N.out _ _).mono ?_; rintro e w' ⟨rfl, rfl⟩)
    all_goals first | omega | skip
    all_goals go_returns
    all_goals exact ⟨rfl, rfl⟩

theorem or (c d : Int) (g : Nat) (w : World) (h0 : w.cell? ⟨g, 0, none⟩ = some (.int .i64 c)) (h1 : w.cell? ⟨g, 1, none⟩ = some (.int .i64 d)) :
    Calls Tryz.prog 149 #[.slice (some ⟨g, 0, none⟩) 2 2] w fun e w' => e = .returned (.int .i64 (ov c d)) ∧ w = w' := by
  cases hc : (c != 0)
  · have e : ov c d = d := by unfold ov; rw [hc]; rfl
    rw [e]
    cases hd : (d != 0)
    all_goals
      go_enter Tryz.func149, Tryz.ntmps149
      go_wp2_with (go_rounds 3)
      all_goals go_returns
      refine ⟨?_, rfl⟩
      first | rfl | (have : d = 0 := by simpa using hd
                     subst this; rfl)
  · have e : ov c d = c := by unfold ov; rw [hc]; rfl
    rw [e]
    go_enter Tryz.func149, Tryz.ntmps149
    go_wp2_with (go_rounds 3)
    all_goals go_returns
    exact ⟨rfl, rfl⟩

set_option maxHeartbeats 4000000 in
set_option maxRecDepth 100000 in
theorem cmpI (x y a b : Int) (w : World) :
    Calls Tryz.prog 113 #[.agg #[.int .i64 x, .int .i64 y], .agg #[.int .i64 a, .int .i64 b]] w fun e w' => e = .returned (.int .i64 (cpv x y a b)) ∧ Below w.heap.size w w' := by
  have C := Lib.hid compare
  unfold cpv
  have O := Lib.hid or
  go_enter Tryz.func113, Tryz.ntmps113
  go_wp2_with fail
  go_region_held3 (fun w' => w'.cell? ⟨w.heap.size, 0, none⟩ = some (.int .i64 x) ∧ w'.cell? ⟨w.heap.size, 1, none⟩ = some (.int .i64 y) ∧ w'.cell? ⟨w.heap.size + 1, 0, none⟩ = some (.int .i64 a) ∧ w'.cell? ⟨w.heap.size + 1, 1, none⟩ = some (.int .i64 b)) (simp [go_sem, *])
    (first
      | (go_at_call 150; refine (C.out _ _ _).mono ?_; rintro e w' ⟨rfl, rfl⟩)
      | (go_at_call 149; refine (O.out (cv x a) (cv y b) _ _ (by simp [go_sem, *]) (by simp [go_sem, *])).mono ?_; rintro e w' ⟨rfl, rfl⟩))
  all_goals go_wp2_with fail
  all_goals go_returns
  all_goals exact ⟨rfl, by go_grown⟩

theorem cpv_lt {x y a b : Int} (h : x < a) : cpv x y a b = -1 := by unfold cpv ov cv; simp [h]
theorem cpv_gt {x y a b : Int} (h : a < x) : cpv x y a b = 1 := by unfold cpv ov cv; simp [h, show ¬ x < a by omega]
theorem cpv_eq {x y b : Int} : cpv x y x b = cv y b := by unfold cpv ov cv; simp

theorem cv_lt {x y : Int} (h : x < y) : cv x y = -1 := by unfold cv; rw [if_pos h]
theorem cv_gt {x y : Int} (h : y < x) : cv x y = 1 := by unfold cv; rw [if_neg (by omega), if_pos h]
theorem cv_eq {x : Int} : cv x x = 0 := by unfold cv; simp

set_option maxHeartbeats 4000000 in
set_option maxRecDepth 100000 in
theorem cmpS (x y a b : Int) (w : World) :
    Calls Tryz.prog 73 #[.agg #[.int .i64 x, .int .i64 y], .agg #[.int .i64 a, .int .i64 b]] w fun e w' => e = .returned (.int .i64 (cpv x y a b)) ∧ Below w.heap.size w w' := by
  rcases Int.lt_trichotomy x a with h | h | h
  · rw [cpv_lt h]
    go_enter Tryz.func73, Tryz.ntmps73
    go_wp2
    all_goals first | omega | skip
    all_goals go_returns
    all_goals exact ⟨rfl, by go_grown⟩
  · subst h
    rw [cpv_eq]
    rcases Int.lt_trichotomy y b with h | h | h
    · rw [cv_lt h]
      go_enter Tryz.func73, Tryz.ntmps73
      go_wp2
      all_goals first | omega | skip
      all_goals go_returns
      all_goals exact ⟨rfl, by go_grown⟩
    · subst h
      rw [cv_eq]
      go_enter Tryz.func73, Tryz.ntmps73
      go_wp2
      all_goals first | omega | skip
      all_goals go_returns
      all_goals exact ⟨rfl, by go_grown⟩
    · rw [cv_gt h]
      have h1 : ¬ y < b := by omega
      have h2 : (y == b) = false := by simp; omega
      go_enter Tryz.func73, Tryz.ntmps73
      go_wp2
      all_goals first | omega | skip
      all_goals go_returns
      all_goals exact ⟨rfl, by go_grown⟩
  · rw [cpv_gt h]
    have h1 : ¬ x < a := by omega
    have h2 : (x == a) = false := by simp; omega
    go_enter Tryz.func73, Tryz.ntmps73
    go_wp2
    all_goals first | omega | skip
    all_goals go_returns
    all_goals exact ⟨rfl, by go_grown⟩

end Go.Proofs.YtokncfhpmjohdaaGreat.Cp
namespace Go.Proofs.YtokncfhpmjohdaaGreat.Pls
open Go.RowKit Go.ChangeShapes Go.WideShapes Go.WideElems Go.Deep Go.Proofs.YtokncfhpmjohdaaGreat.Mem Go.Proofs.YtokncfhpmjohdaaGreat.Pw Go.Proofs.YtokncfhpmjohdaaGreat.P2
set_option linter.unusedVariables false

/-- The cells of a list of places. -/
def pls (ps : List (Int × Int)) : List Value := ps.flatMap fun p => [.int .i64 p.1, .int .i64 p.2]
theorem pls_cons (p : Int × Int) (ps : List (Int × Int)) : pls (p :: ps) = .int .i64 p.1 :: .int .i64 p.2 :: pls ps := rfl
theorem pls_len : ∀ ps : List (Int × Int), (pls ps).length = ps.length * 2
  | [] => rfl
  | p :: ps => by rw [pls_cons, List.length_cons, List.length_cons, List.length_cons, pls_len ps]; omega
theorem pls_get : ∀ {ps : List (Int × Int)} {k : Nat} {p : Int × Int}, ps[k]? = some p → (pls ps)[k * 2]? = some (.int .i64 p.1) ∧ (pls ps)[k * 2 + 1]? = some (.int .i64 p.2)
  | [], _, _, h => by simp at h
  | q :: ps, 0, p, h => by simp at h; subst h; exact ⟨rfl, rfl⟩
  | q :: ps, k + 1, p, h => by
    have := pls_get (ps := ps) (k := k) (p := p) (by simpa using h)
    rw [pls_cons, show (k + 1) * 2 = k * 2 + 1 + 1 by omega]
    simpa using this

section
variable {H : Type} {enc : TypeId × Value → H} {P : Program}
/-- A slice of places that came in. -/
theorem take_places {W : World} {r : Reach} {b0 : Nat} {t e : TypeId} {f0 f1 : Field} {v : Value} {d : DataW H} {ps : List MemPlace} (ht : P.underlying t = some (.slice e)) (he : P.underlying e = some (.struct #[f0, f1]))
    (ce : P.cellsOf e = 2) (o0 : f0.offset = 0) (o1 : f1.offset = 1) (c0 : P.cellsOf f0.type = 1) (c1 : P.cellsOf f1.type = 1)
    (h0 : P.underlying f0.type = some (.int .i64)) (h1 : P.underlying f1.type = some (.int .i64))
    (hval : Value.okWide P W r b0 t v) (h : DataW.Trod enc P W 0 (fun _ => true) true t v d ps) :
    ∃ (A : Option Addr) (n c : Nat) (zs : List (Int × Int)), v = .slice A n c ∧ zs.length = n ∧ n ≤ maxLen ∧ Rd W W.heap.size A (pls zs) ∧ ∀ z ∈ zs, (Lit.int .i64 z.1).wf = true ∧ (Lit.int .i64 z.2).wf = true := by
  obtain ⟨a0, len, cap, rfl⟩ := okWide_slice ht hval
  obtain ⟨fuel, hf⟩ := h
  rcases open_slice_pairs ht he ce o0 o1 c0 c1 hf with ⟨hcs, _⟩ | ⟨a, len', cap', m, n, V0, V1, D0, D1, P0, P1, hcs, _, hl, hm, hmm, _, hx⟩
  · simp [Value.cells] at hcs
    obtain ⟨rfl, rfl, rfl⟩ := hcs
    exact ⟨none, 0, 0, [], rfl, rfl, Nat.zero_le _, Rd.nil _ _ _, fun _ h => by cases h⟩
  · simp [Value.cells] at hcs
    obtain ⟨rfl, rfl, rfl⟩ := hcs
    simp only [if_true] at hmm
    subst hmm
    have each : ∀ i, i < len → ∃ q : Int × Int, V0 i = .int .i64 q.1 ∧ V1 i = .int .i64 q.2 ∧ (Lit.int .i64 q.1).wf = true ∧ (Lit.int .i64 q.2).wf = true := by
      intro i hi
      obtain ⟨_, _, g0, g1⟩ := hx i (by omega)
      obtain ⟨x, e0, _, w0⟩ := DataW.trod_int h0 g0
      obtain ⟨y, e1, _, w1⟩ := DataW.trod_int h1 g1
      simp only [List.cons.injEq, and_true] at e0 e1
      exact ⟨(x, y), e0, e1, w0, w1⟩
    obtain ⟨q, hq⟩ := choose_lt each
    refine ⟨some a, len, _, (List.range len).map q, rfl, by simp, by omega, ?_, ?_⟩
    · by_cases hz : len = 0
      · subst hz; exact Or.inl rfl
      · obtain ⟨b, o, spot⟩ := a
        have c00 := (hx 0 (by omega)).1
        have hspot : spot = none := by simpa [Addr.add] using World.cell?_spot c00
        subst hspot
        have hb := World.block_lt_of_cell? W _ c00
        refine Or.inr ⟨b, o, rfl, by simpa [Addr.add] using hb, fun j v hv => ?_⟩
        have hj : j < (pls ((List.range len).map q)).length := (List.getElem?_eq_some_iff.1 hv).1
        rw [pls_len] at hj
        simp only [List.length_map, List.length_range] at hj
        have hi : j / 2 < len := by omega
        have hg := pls_get (ps := (List.range len).map q) (k := j / 2) (p := q (j / 2)) (by simp [hi])
        obtain ⟨k0, k1, _, _⟩ := hx (j / 2) (by omega)
        rw [(hq _ hi).1] at k0
        rw [(hq _ hi).2.1] at k1
        rcases Nat.mod_two_eq_zero_or_one j with e | e
        · have ej : j / 2 * 2 = j := by omega
          rw [ej] at hg k0
          rw [hv] at hg
          have := hg.1
          injection this with this
          subst this
          rw [← add_plain]; exact k0
        · have ej : j / 2 * 2 + 1 = j := by omega
          rw [ej] at hg k1
          rw [hv] at hg
          have := hg.2
          injection this with this
          subst this
          rw [← add_plain]; exact k1
    · intro z hz
      obtain ⟨i, hi, rfl⟩ := List.mem_map.1 hz
      exact (hq i (List.mem_range.1 hi)).2.2
end

theorem infoPlace : (Tryz.prog.info? 44).map (fun i => (i.zero, i.size, i.bytes)) = some (some (.agg #[.int .i64 0, .int .i64 0]), 2, 16) := by kernel_rfl

theorem info_parts2 {P : Program} {e : TypeId} {z : Value} {n b : Nat} (h : (P.info? e).map (fun i => (i.zero, i.size, i.bytes)) = some (some z, n, b)) : ∃ i, P.info? e = some i ∧ i.zero = some z ∧ i.size = n ∧ i.bytes = b := by
  match hi : P.info? e, h with
  | some i, h => simp at h; exact ⟨i, rfl, h.1, h.2.1, h.2.2⟩
  | none, h => simp at h

theorem made_places (n : Nat) : (madeCells (Value.agg #[.int .i64 0, .int .i64 0]).cells (n * 2)).toList = List.replicate (n * 2) (.int .i64 0) := by
  apply List.ext_getElem?
  intro j
  rw [Array.getElem?_toList, List.getElem?_replicate]
  simp only [madeCells, Value.cells]
  by_cases h : j < n * 2
  · have : j % 2 = 0 ∨ j % 2 = 1 := by omega
    rcases this with e | e <;> simp [h, e]
  · simp [h]

theorem owns_below {w w' : World} {base : Nat} {e : TypeId} {size : Nat} {v : Value} {n : Nat} {xs : List Value} (h : w.ownsRow base e size v n xs) (hb : Below w.heap.size w w') : w'.ownsRow base e size v n xs := by
  refine ⟨h.1, h.2.imp id fun ⟨g, cap, cur, e1, e2, e3, e4⟩ => ⟨g, cap, cur, e1, e2, (hb.block g ?_).trans e3, e4⟩⟩
  exact (Array.getElem?_eq_some_iff.1 e3).1

/-- What the copy leaves: a row of its own with these places; what was there is as it was. -/
def Copied (w : World) (n : Nat) (zs : List (Int × Int)) (e : Ending) (w' : World) : Prop :=
  ∃ g, e = .returned (.slice (some ⟨g, 0, none⟩) n n) ∧ w.heap.size ≤ g ∧ w'.ownsRow w.heap.size 44 2 (.slice (some ⟨g, 0, none⟩) n n) n (pls zs) ∧ Below w.heap.size w w'

set_option maxHeartbeats 1000000 in
theorem toPlaceS (A : Option Addr) (n c : Nat) (zs : List (Int × Int)) (w : World) (hn : zs.length = n) (hb : n ≤ 1048576) (hr : Rd w w.heap.size A (pls zs)) :
    Calls Tryz.prog 11 #[.slice A n c] w (Copied w n zs) := by
  obtain ⟨i0, hi, hz0, hz1, hz2⟩ := info_parts2 infoPlace
  have HR := Lib.hid hr
  have HN := Lib.hid hn
  clear hr hn
  go_enter Tryz.func11, Tryz.ntmps11
  go_wp2_with (at_make; refine wpList_make_full _ rfl _ _ 42 rfl w.heap.size 44 i0 (.agg #[.int .i64 0, .int .i64 0]) 2 Tryz.underlying42 hi hz0 hz1 .i64 .i64 n n n rfl rfl rfl rfl (by rw [hz2]; omega) (by unfold maxLen; omega) (Nat.le_refl _) ?_; intro w1 hown hgrow; clear hi hz0 hz1 hz2)
  have R0 := Lib.hid (show w1.ownsRow w.heap.size 44 2 (.slice (some ⟨w.heap.size, 0, none⟩) n n) n (filled (pls zs) (.int .i64 0) 0) by
    rw [filled_zero, pls_len, HN.out]; rw [made_places] at hown; exact hown)
  have B0 := Lib.hid (show Below w.heap.size w w1 from (Below.refl _ _).grown hgrow (Nat.le_refl _) (fun k hk => by cases hk))
  clear hown hgrow
  go_loopw [4] (fun i wr => ∃ k : Nat, k ≤ n ∧ i = .int .i64 k ∧ Hid (wr.ownsRow w.heap.size 44 2 (.slice (some ⟨w.heap.size, 0, none⟩) n n) n (filled (pls zs) (.int .i64 0) (k * 2))) ∧ Hid (Below w.heap.size w wr)) (fun i _ => n - (intOf i).toNat)
  case atStart => exact ⟨0, Nat.zero_le _, rfl, R0, B0⟩
  case round =>
    obtain ⟨k, hk, rfl, RK, BK⟩ := hrel
    by_cases hlt : k < n
    · have hl : (pls zs).length = n * 2 := by rw [pls_len, HN.out]
      obtain ⟨b, o, eA, hbl, hcell⟩ := HR.out.get (k := k * 2) (by omega)
      have hkz : k < zs.length := by rw [HN.out]; exact hlt
      obtain ⟨z, hz⟩ : ∃ z, zs[k]? = some z := ⟨_, List.getElem?_eq_getElem hkz⟩
      obtain ⟨z0, z1⟩ := pls_get hz
      obtain ⟨x, y⟩ := z
      have c1 : wr.cell? ⟨b, o + k * 2, none⟩ = some (.int .i64 x) := (BK.out.cell (p := ⟨b, o + k * 2, none⟩) hbl).trans (hcell _ _ z0)
      have c2 : wr.cell? ⟨b, o + k * 2 + 1, none⟩ = some (.int .i64 y) := by
        rw [Nat.add_assoc]; exact (BK.out.cell (p := ⟨b, o + (k * 2 + 1), none⟩) hbl).trans (hcell _ _ z1)
      have c3 : wr.cell? ⟨w.heap.size, k * 2, none⟩ = some (.int .i64 0) := (RK.out.cellAt (k * 2) (by omega)).trans (filled_get (by omega))
      have f3 := RK.out.frozenAt (k * 2)
      have c4 : wr.cell? ⟨w.heap.size, k * 2 + 1, none⟩ = some (.int .i64 0) := by
        rw [RK.out.cellAt (k * 2 + 1) (by omega)]
        unfold filled
        rw [List.getElem?_append_right (by rw [List.length_take]; omega), List.length_take, Nat.min_eq_left (by omega), List.getElem?_replicate, if_pos (by omega)]
      have f4 := RK.out.frozenAt (k * 2 + 1)
      have q1 : w.heap.size < wr.heap.size := World.block_lt_of_cell? wr _ c3
      have q2 : ∀ j, w.heap.size < wr.heap.size + j := fun j => by omega
      have p1 : b < wr.heap.size := World.block_lt_of_cell? wr _ c1
      have p2 : ∀ j, b < wr.heap.size + j := fun j => by omega
      have Z0 := Lib.hid (filled_put (z := .int .i64 0) z0)
      have Z1 := Lib.hid (filled_put (z := .int .i64 0) z1)
      clear hbl hcell hkz hz R0 B0 z0 z1 hl
      subst eA
      go_wp2_with (go_at_call 41; refine (toPlace _ _ _).mono ?_; rintro e w' ⟨rfl, rfl⟩)
      go_roundw
      case rel =>
        obtain ⟨r1, r2⟩ := RK.out.stored (k * 2) (.int .i64 x)
        rw [Z0.out] at r1
        obtain ⟨r3, r4⟩ := r1.stored (k * 2 + 1) (.int .i64 y)
        rw [Z1.out] at r3
        refine ⟨k + 1, by omega, by go_num, ?_, ?_⟩
        · rw [show (k + 1) * 2 = k * 2 + 1 + 1 by omega]
          exact Lib.hid (owns_below r3 (by go_grown))
        · have b1 := BK.out.grown r2 (by exact BK.out.size) (fun g hg => by cases hg; exact Nat.le_refl _)
          have b2 := b1.grown r4 (by exact b1.size) (fun g hg => by cases hg; exact Nat.le_refl _)
          exact Lib.hid (b2.trans (Below.mono (by go_grown) b2.size))
      case measure => simp [intOf]; omega
    · obtain rfl : k = n := by omega
      go_wp2
      go_ret
      refine ⟨w.heap.size, rfl, Nat.le_refl _, ?_, BK.out⟩
      have := RK.out
      rw [show k * 2 = (pls zs).length by rw [pls_len, HN.out], filled_all] at this
      exact this

set_option maxHeartbeats 1000000 in
theorem eqPlaceS (A B : Option Addr) (n c d : Nat) (zs : List (Int × Int)) (H : Nat) (w : World) (hn : zs.length = n) (hb : n ≤ 1048576) (hH : H ≤ w.heap.size) (hr : Rd w H A (pls zs)) (hs : Rd w H B (pls zs)) :
    Calls Tryz.prog 16 #[.slice A n c, .slice B n d] w fun e w' => e = .returned (.bool true) ∧ Below w.heap.size w w' := by
  have HR := Lib.hid (hr.more hH)
  have HS := Lib.hid (hs.more hH)
  have HN := Lib.hid hn
  clear hr hs hn hH
  go_enter Tryz.func16, Tryz.ntmps16
  go_wp2
  go_loopw [5] (fun i wr => ∃ k : Nat, k ≤ n ∧ i = .int .i64 k ∧ Hid (Below w.heap.size w wr)) (fun i _ => n - (intOf i).toNat)
  case atStart => exact ⟨0, Nat.zero_le _, rfl, Lib.hid (Below.refl _ _)⟩
  case round =>
    obtain ⟨k, hk, rfl, BK⟩ := hrel
    by_cases hlt : k < n
    · have hkz : k < zs.length := by rw [HN.out]; exact hlt
      have hl : k * 2 < (pls zs).length := by rw [pls_len]; omega
      obtain ⟨z, hz⟩ : ∃ z, zs[k]? = some z := ⟨_, List.getElem?_eq_getElem hkz⟩
      obtain ⟨z0, z1⟩ := pls_get hz
      obtain ⟨x, y⟩ := z
      obtain ⟨b1, o1, eA, _, g1⟩ := (HR.out.below BK.out).get hl
      obtain ⟨b2, o2, eB, _, g2⟩ := (HS.out.below BK.out).get hl
      have c1 : wr.cell? ⟨b1, o1 + k * 2, none⟩ = some (.int .i64 x) := g1 _ _ z0
      have c2 : wr.cell? ⟨b1, o1 + k * 2 + 1, none⟩ = some (.int .i64 y) := g1 _ _ z1
      have c3 : wr.cell? ⟨b2, o2 + k * 2, none⟩ = some (.int .i64 x) := g2 _ _ z0
      have c4 : wr.cell? ⟨b2, o2 + k * 2 + 1, none⟩ = some (.int .i64 y) := g2 _ _ z1
      clear g1 g2 hz hl hkz z0 z1
      subst eA eB
      have hlt' : (k : Int) < (n : Int) := by omega
      have hk0 : (0 : Int) ≤ (k : Int) := by omega
      have p1 : b1 < wr.heap.size := World.block_lt_of_cell? wr _ c1
      have p2 : ∀ j, b1 < wr.heap.size + j := fun j => by omega
      have p3 : b2 < wr.heap.size := World.block_lt_of_cell? wr _ c3
      have p4 : ∀ j, b2 < wr.heap.size + j := fun j => by omega
      go_wp2_with fail
      go_region_held3 (fun w' => w'.cell? ⟨b1, o1 + k * 2, none⟩ = some (.int .i64 x) ∧ w'.cell? ⟨b1, o1 + k * 2 + 1, none⟩ = some (.int .i64 y) ∧ w'.cell? ⟨b2, o2 + k * 2, none⟩ = some (.int .i64 x) ∧ w'.cell? ⟨b2, o2 + k * 2 + 1, none⟩ = some (.int .i64 y)) (simp [go_sem, *])
        (first | (go_at_call 50; refine (eqPlace _ _ _).mono ?_; rintro e w' ⟨rfl, rfl⟩))
      all_goals go_wp2_with fail
      all_goals go_roundw
      case rel => exact ⟨k + 1, by omega, by go_num, Lib.hid (BK.out.trans (Below.mono (by go_grown) BK.out.size))⟩
      case measure => simp [intOf]; omega
    · obtain rfl : k = n := by omega
      go_wp2
      go_ret
      exact ⟨rfl, BK.out⟩

end Go.Proofs.YtokncfhpmjohdaaGreat.Pls
