/- The box of the sums of a rose, of the program and of the model. -/
import Derived.Test.YtejeikfgmiadhabWx
import Derived.Test.YtejeikfgmiadhabBxq
set_option linter.unusedVariables false
set_option linter.unusedSimpArgs false
namespace Go.Proofs.Ytejeikfgmiadhab.Wy
open Go.RowKit Go.Proofs.Ytejeikfgmiadhab.Flt Go.Proofs.Ytejeikfgmiadhab.Meas Go.Proofs.Ytejeikfgmiadhab.Mem Go.Proofs.Ytejeikfgmiadhab.Rw Go.Proofs.Ytejeikfgmiadhab.Bk Go.Proofs.Ytejeikfgmiadhab.Cx Go.Proofs.Ytejeikfgmiadhab.Cm Go.Proofs.Ytejeikfgmiadhab.Jt Go.Proofs.Ytejeikfgmiadhab.Pl Go.Proofs.Ytejeikfgmiadhab.Str Go.Proofs.Ytejeikfgmiadhab.Pw Go.Proofs.Ytejeikfgmiadhab.P2 Go.Proofs.Ytejeikfgmiadhab.Gs Go.Proofs.Ytejeikfgmiadhab.Wm Go.Proofs.Ytejeikfgmiadhab.Wi Go.Proofs.Ytejeikfgmiadhab.Wa Go.Proofs.Ytejeikfgmiadhab.Wb Go.Proofs.Ytejeikfgmiadhab.Wc Go.Proofs.Ytejeikfgmiadhab.We Go.Proofs.Ytejeikfgmiadhab.Pls Go.Proofs.Ytejeikfgmiadhab.Bi Go.Proofs.Ytejeikfgmiadhab.Bo Go.Proofs.Ytejeikfgmiadhab.Bx Go.Proofs.Ytejeikfgmiadhab.Tb Go.Proofs.Ytejeikfgmiadhab.Wr Go.Proofs.Ytejeikfgmiadhab.Wx
set_option linter.unusedVariables false
set_option linter.unusedSimpArgs false

/-- Words that tell these places. -/
def Wo (zs : List (Int × Int)) (ws : List (Nat × Nat)) : Prop := ws.length = zs.length ∧ ∀ (k : Nat) x y, zs[k]? = some (x, y) → ∃ a b, ws[k]? = some (a, b) ∧ I32 x a ∧ I32 y b
def ww (ws : List (Nat × Nat)) : List Value := ws.map fun p => .complex .f32 p.1 p.2
theorem ww_len (ws : List (Nat × Nat)) : (ww ws).length = ws.length := List.length_map ..
theorem ww_get {ws : List (Nat × Nat)} {k : Nat} {a b : Nat} (h : ws[k]? = some (a, b)) : (ww ws)[k]? = some (.complex .f32 a b) := by
  unfold ww; rw [List.getElem?_map, h]; rfl
theorem ww_set (ws : List (Nat × Nat)) (k a b : Nat) : (ww ws).set k (.complex .f32 a b) = ww (ws.set k (a, b)) := by
  unfold ww; rw [List.map_set]
theorem Wo.start (zs : List (Int × Int)) : ∃ ws, Wo zs ws ∧ ww ws = cx zs := by
  refine ⟨zs.map fun p => (Meas.f32 p.1, Meas.f32 p.2), ⟨List.length_map .., fun k x y h => ⟨_, _, by rw [List.getElem?_map, h]; rfl, i32_f32 x, i32_f32 y⟩⟩, ?_⟩
  unfold ww cx; rw [List.map_map]; rfl
theorem Wo.set {zs : List (Int × Int)} {ws : List (Nat × Nat)} (h : Wo zs ws) (k : Nat) {x y : Int} {a b : Nat} (hx : I32 x a) (hy : I32 y b) : Wo (zs.set k (x, y)) (ws.set k (a, b)) := by
  refine ⟨by rw [List.length_set, List.length_set]; exact h.1, fun j u v hj => ?_⟩
  rw [List.getElem?_set] at hj
  by_cases e : k = j
  · subst e
    rw [if_pos rfl] at hj
    by_cases hl : k < zs.length
    · rw [if_pos hl] at hj
      injection hj with hj
      injection hj with e1 e2
      subst e1 e2
      exact ⟨a, b, by rw [List.getElem?_set, if_pos rfl, if_pos (by rw [h.1]; exact hl)], hx, hy⟩
    · rw [if_neg hl] at hj; cases hj
  · rw [if_neg e] at hj
    obtain ⟨a', b', h1, h2⟩ := h.2 j u v hj
    exact ⟨a', b', by rw [List.getElem?_set, if_neg e]; exact h1, h2⟩


def sc (t : Int) (p : Int × Int) : Int × Int := (t * p.1, t * p.2)
def sq (t : Int) (q : Q4) : Q4 := (t * q.1, t * q.2.1, t * q.2.2.1, t * q.2.2.2)
theorem min_sc {t a b : Int} (h : 0 ≤ t) : min (t * a) (t * b) = t * min a b := by
  rcases Int.le_total a b with e | e
  · rw [Int.min_eq_left e, Int.min_eq_left (Int.mul_le_mul_of_nonneg_left e h)]
  · rw [Int.min_eq_right e, Int.min_eq_right (Int.mul_le_mul_of_nonneg_left e h)]
theorem max_sc {t a b : Int} (h : 0 ≤ t) : max (t * a) (t * b) = t * max a b := by
  rcases Int.le_total a b with e | e
  · rw [Int.max_eq_right e, Int.max_eq_right (Int.mul_le_mul_of_nonneg_left e h)]
  · rw [Int.max_eq_left e, Int.max_eq_left (Int.mul_le_mul_of_nonneg_left e h)]
theorem step_sc {t : Int} (h : 0 ≤ t) (q : Q4) (p : Int × Int) : Bo.step (sq t q) (sc t p) = sq t (Bo.step q p) := by
  unfold Bo.step sq sc; simp only [min_sc h, max_sc h]
theorem box_sc {t : Int} (h : 0 ≤ t) (zs : List (Int × Int)) : boxA (zs.map (sc t)) = sq t (boxA zs) := by
  cases zs with
  | nil => simp [boxA, sq]
  | cons p ps =>
    have key : ∀ (ps : List (Int × Int)) (q : Q4), (ps.map (sc t)).foldl Bo.step (sq t q) = sq t (ps.foldl Bo.step q) := by
      intro ps
      induction ps with
      | nil => intro q; rfl
      | cons r rs ih => intro q; rw [List.map_cons, List.foldl_cons, List.foldl_cons, step_sc h]; exact ih _
    exact key ps (one p)
theorem mul_bound {t a : Int} (ht : 0 ≤ t ∧ t ≤ 128) (ha : -8 ≤ a ∧ a ≤ 8) : -1024 ≤ t * a ∧ t * a ≤ 1024 := by
  have h1 := Int.mul_le_mul_of_nonneg_left ha.1 ht.1
  have h2 := Int.mul_le_mul_of_nonneg_left ha.2 ht.1
  omega
def inB (D : Int) (q : Q4) : Prop := (-D ≤ q.1 ∧ q.1 ≤ D) ∧ (-D ≤ q.2.1 ∧ q.2.1 ≤ D) ∧ (-D ≤ q.2.2.1 ∧ q.2.2.1 ≤ D) ∧ (-D ≤ q.2.2.2 ∧ q.2.2.2 ≤ D)
theorem box_near {D : Int} (h0 : 0 ≤ D) {zs : List (Int × Int)} (h : Near D zs) : inB D (boxA zs) := by
  cases zs with
  | nil => unfold inB boxA; simp only; omega
  | cons p ps =>
    have key : ∀ (ps : List (Int × Int)) (q : Q4), inB D q → (∀ p ∈ ps, (-D ≤ p.1 ∧ p.1 ≤ D) ∧ (-D ≤ p.2 ∧ p.2 ≤ D)) → inB D (ps.foldl Bo.step q) := by
      intro ps
      induction ps with
      | nil => intro q hq _; exact hq
      | cons r rs ih =>
        intro q hq hp
        rw [List.foldl_cons]
        refine ih _ ?_ (fun p hp' => hp p (List.mem_cons_of_mem _ hp'))
        have := hp r (List.mem_cons_self ..)
        unfold inB at hq ⊢
        unfold Bo.step
        simp only
        omega
    refine key ps (one p) ?_ (fun q hq => h q (List.mem_cons_of_mem _ hq))
    have := h p (List.mem_cons_self ..)
    unfold inB one
    simp only
    omega
/-- The first k places scaled, the others as they were. -/
def ms' (zs : List (Int × Int)) (t : Int) (k : Nat) : List (Int × Int) := (zs.take k).map (sc t) ++ zs.drop k
theorem ms_zero (zs : List (Int × Int)) (t : Int) : ms' zs t 0 = zs := by simp [ms']
theorem ms_all (zs : List (Int × Int)) (t : Int) {k : Nat} (h : zs.length = k) : ms' zs t k = zs.map (sc t) := by subst h; simp [ms']
theorem ms_get {zs : List (Int × Int)} {t : Int} {k : Nat} {z : Int × Int} (h : zs[k]? = some z) : (ms' zs t k)[k]? = some z := by
  obtain ⟨hk, _⟩ := List.getElem?_eq_some_iff.1 h
  unfold ms'; rw [List.getElem?_append_right (by simp; omega), List.length_map, List.length_take, Nat.min_eq_left (by omega), Nat.sub_self, List.getElem?_drop, Nat.add_zero]; exact h
theorem ms_set {zs : List (Int × Int)} {t : Int} {k : Nat} {z : Int × Int} (h : zs[k]? = some z) : (ms' zs t k).set k (sc t z) = ms' zs t (k + 1) := by
  obtain ⟨hk, e⟩ := List.getElem?_eq_some_iff.1 h
  unfold ms'
  rw [List.set_append, if_neg (by simp; omega), List.length_map, List.length_take, Nat.min_eq_left (by omega), Nat.sub_self, List.drop_eq_getElem_cons hk, List.set_cons_zero, List.take_succ_eq_append_getElem hk, e]
  simp
theorem good_sc {zs : List (Int × Int)} (h : Near 8 zs) {t : Int} (ht : 0 ≤ t ∧ t ≤ 128) : good (zs.map (sc t)) = true := by
  unfold good
  rw [List.all_eq_true]
  intro p hp
  obtain ⟨q, hq, rfl⟩ := List.mem_map.1 hp
  have := h q hq
  have b1 := mul_bound ht this.1
  have b2 := mul_bound ht this.2
  exact pl_mk (x := t * q.1) (y := t * q.2) (by omega) (by omega)

/-- A complex number times a whole number. -/
theorem whole_up {P : Program} {n : Int} {x : Nat} (hn : n.natAbs ≤ 128) (h : U32 n x) : ∃ y, (∀ w, (Op.Complex.conv .f32 x .f64).run P w = .ok y w) ∧ W64 n y := by
  have f1 : Fits Ieee.single n 0 := fits_single _ _ (by omega) (by decide) (by decide)
  have f2 : Fits Ieee.double n 0 := fits_double _ _ (by omega) (by decide) (by decide)
  have hy : W64 n (Ieee.double.write (Ieee.single.read x)) := conv_is f1 h
  obtain ⟨s, m, e, h1⟩ := number_is f1 h
  obtain ⟨s', m', e', h2⟩ := number_is f2 hy
  exact ⟨_, fun w => run_float_float (by decide) x w s m e s' m' e' h1 h2, hy⟩
theorem mulW {P : Program} {a b : Int} {x y : Nat} (ha : a.natAbs < 16777216) (hb : b.natAbs ≤ 128) (hx : I64 a x) (hy : W64 b y) : ∃ r, (∀ w, (Op.Complex.mul x y).run P w = .ok r w) ∧ I64 (a * b) r := by
  obtain ⟨r, h1, h2⟩ := mul_is (s64 a ha) (fits_double b 0 (by omega) (by decide) (by decide)) hx hy
  exact ⟨r, fun w => run_carith w h1, h2⟩
theorem cscale {P : Program} {a b c : Int} {x y u : Nat} (ha : -8 ≤ a ∧ a ≤ 8) (hb : -8 ≤ b ∧ b ≤ 8) (hc : 0 ≤ c ∧ c ≤ 128) (hx : I32 a x) (hy : I32 b y) (hu : U32 c u) :
    ∃ re im, (∀ t w, (binOp .mul t (.complex .f32 x y) (.complex .f32 u 0)).run P w = .ok (.complex .f32 re im) w) ∧ I32 (c * a) re ∧ I32 (c * b) im := by
  obtain ⟨x', cx, hx'⟩ := conv_up (P := P) (by omega) hx
  obtain ⟨y', cy, hy'⟩ := conv_up (P := P) (by omega) hy
  obtain ⟨u', cu, hu'⟩ := whole_up (P := P) (by omega) hu
  obtain ⟨v', cv, hv'⟩ := whole_up (P := P) (n := 0) (by decide) u32_0
  have n1 := mul_bound hc ha
  have n4 := mul_bound hc hb
  rw [Int.mul_comm] at n1 n4
  obtain ⟨r1, m1, i1⟩ := mulW (P := P) (by omega) (by omega) hx' hu'
  obtain ⟨r2, m2, i2⟩ := mulW (P := P) (by omega) (by omega) hy' hv'
  obtain ⟨r3, m3, i3⟩ := mulW (P := P) (by omega) (by omega) hx' hv'
  obtain ⟨r4, m4, i4⟩ := mulW (P := P) (by omega) (by omega) hy' hu'
  rw [Int.mul_zero] at i2 i3
  obtain ⟨r5, m5, i5⟩ := sub64 (P := P) (by omega) (by decide) i1 i2
  obtain ⟨r6, m6, i6⟩ := add64 (P := P) (by decide) (by omega) i3 i4
  obtain ⟨re, c5, j5⟩ := conv_down (P := P) (by omega) i5
  obtain ⟨im, c6, j6⟩ := conv_down (P := P) (by omega) i6
  refine ⟨re, im, fun t w => ?_, by rw [Int.mul_comm]; rw [Int.sub_zero] at j5; exact j5, by rw [Int.mul_comm]; rw [Int.zero_add] at j6; exact j6⟩
  simp [binOp, Op.complexOp, Op.Complex.product, cx, cy, cu, cv, m1, m2, m3, m4, m5, m6, c5, c6]
theorem u32_int (t : Int) : U32 t (floatOfInt .f32 t) := ⟨decide (t < 0), fun _ => rfl, rfl⟩

def rB (ps : List (Int × Int)) (t : Int) : Bool := rs ps && decide (0 ≤ t) && decide (t ≤ 128)
def rQ (ps : List (Int × Int)) (t : Int) : Q4 := if rB ps t = true then sq t (boxA ps) else (0, 0, 0, 0)
theorem r_no {ps : List (Int × Int)} {t : Int} (h : rs ps = false ∨ t < 0 ∨ 128 < t) : rB ps t = false ∧ rQ ps t = (0, 0, 0, 0) := by
  have : rB ps t = false := by
    unfold rB
    rcases h with h | h | h
    · rw [h]; rfl
    · rw [decide_eq_false (p := 0 ≤ t) (by omega)]; simp
    · rw [decide_eq_false (p := t ≤ 128) (by omega)]; simp
  exact ⟨this, by unfold rQ; rw [this]; rfl⟩
theorem r_yes {ps : List (Int × Int)} {t : Int} (h : rs ps = true) (ht : 0 ≤ t ∧ t ≤ 128) : rB ps t = true ∧ rQ ps t = sq t (boxA ps) := by
  have : rB ps t = true := by unfold rB; rw [h, decide_eq_true ht.1, decide_eq_true ht.2]; rfl
  exact ⟨this, by unfold rQ; rw [this, if_pos rfl]⟩
theorem r_cases (ps : List (Int × Int)) (t : Int) : rs ps = false ∨ rs ps = true ∧ t < 0 ∨ rs ps = true ∧ 0 ≤ t ∧ 128 < t ∨ rs ps = true ∧ 0 ≤ t ∧ t ≤ 128 := by
  cases rs ps
  · exact Or.inl rfl
  by_cases h : t < 0
  · exact Or.inr (Or.inl ⟨rfl, h⟩)
  by_cases h2 : 128 < t
  · exact Or.inr (Or.inr (Or.inl ⟨rfl, by omega, h2⟩))
  · exact Or.inr (Or.inr (Or.inr ⟨rfl, by omega, by omega⟩))
abbrev z4 : Array Value := #[.int .i64 0, .int .i64 0, .int .i64 0, .int .i64 0]

set_option maxRecDepth 100000 in
set_option maxHeartbeats 2000000 in
theorem roseBoxS (A : Option Addr) (n c : Nat) (ps : List (Int × Int)) (t : Int) (w : World) (hn : ps.length = n) (hb : n ≤ 1048576) (hr : Rd w w.heap.size A (pls ps)) :
    Calls Try.prog 30 #[.slice A n c, .int .i64 t] w fun e w' => e = .returned (.tuple #[bq (rQ ps t), .bool (rB ps t)]) ∧ Below w.heap.size w w' := by
  have HR := Lib.hid ((rd_alloc (o := .cells z4 39) hr (Nat.le_refl _)).more (B' := (w.alloc (.cells z4 39)).heap.size) (by simp))
  have R0 := Bk.new w z4 39
  have HR0 := Lib.hid hr
  have BX := Lib.hid (fun W h => boxOfS A n c ps W hn hb h)
  rcases r_cases ps t with hx | ⟨hx, ht⟩ | ⟨hx, ht0, ht⟩ | ⟨hx, ht0, ht⟩
  · obtain ⟨e1, e2⟩ := r_no (ps := ps) (t := t) (Or.inl hx)
    rw [e1, e2]
    obtain ⟨⟨q1, q2, q3, q4⟩, hq⟩ : ∃ q, val ps = q := ⟨_, rfl⟩
    obtain ⟨bb, hbb⟩ : ∃ b, okB ps = b := ⟨_, rfl⟩
    rw [hq, hbb] at BX
    have E := Lib.hid (roseS (A := A) (c := c) (H := w.heap.size) hn hb hx)
    clear hx hr hn e1 e2 hq hbb
    unfold bq at BX
    go_enter Try.func30, Try.ntmps30
    go_wp2_with fail
    refine (BX.out _ HR.out).mono ?_
    rintro e u ⟨rfl, b1⟩
    have Ru := Lib.hid (R0.below b1)
    have HR1 := Lib.hid (rd_alloc (o := .cells #[.int .i64 q1, .int .i64 q2, .int .i64 q3, .int .i64 q4] 39) (HR.out.below b1) b1.size)
    have B1 := Lib.hid (show Below w.heap.size w u from Below.trans (by go_grown) (b1.mono (by simp)))
    have HR9 := Lib.hid (show Rd (u.alloc (.cells #[.int .i64 q1, .int .i64 q2, .int .i64 q3, .int .i64 q4] 39)) w.heap.size A (pls ps) from (HR0.out.below (B1.out.alloc B1.out.size _)))
    have Pu := Bk.new u #[.int .i64 q1, .int .i64 q2, .int .i64 q3, .int .i64 q4] 39
    clear b1 R0
    go_wp2_with fail
    refine (E.out _ (by have := B1.out.size; simp; omega) HR9.out).mono ?_
    rintro e v ⟨rfl, b2⟩
    have R := Lib.hid ((Ru.out.alloc).below b2)
    have P := Lib.hid (Pu.below b2)
    have B2 := Lib.hid (show Below w.heap.size w v from B1.out.trans (Below.mono (Below.trans (B := u.heap.size) (by go_grown) (b2.mono (by simp))) B1.out.size))
    clear b2 Pu
    have z0 := R.out.cell (i := 0) rfl
    have z1 := R.out.cell (i := 1) rfl
    have z2 := R.out.cell (i := 2) rfl
    have z3 := R.out.cell (i := 3) rfl
    have y0 := R.out.frozen 0
    have y1 := R.out.frozen 1
    have y2 := R.out.frozen 2
    have y3 := R.out.frozen 3
    have HS4 := Lib.hid (set4 (a := .int .i64 (0)) (b := .int .i64 (0)) (c := .int .i64 (0)) (d := .int .i64 (0)) z0 z1 z2 z3)
    go_wp2_with fail
    have r0 := HS4.out.1
    have r1 := HS4.out.2.1
    have r2 := HS4.out.2.2.1
    have r3 := HS4.out.2.2.2
    (try simp only [Exit.inBlock, Exit.then])
    refine bodyPost_ret (v := .tuple #[box4 (0) (0) (0) (0), .bool false]) (by simp [results, Try.results30, go_sem, r0, r1, r2, r3]; try rfl) rfl ?_
    exact ⟨rfl, B2.out.trans (by have h9 := B2.out.size; go_grown)⟩
  · obtain ⟨e1, e2⟩ := r_no (ps := ps) (t := t) (Or.inr (Or.inl ht))
    rw [e1, e2]
    obtain ⟨⟨q1, q2, q3, q4⟩, hq⟩ : ∃ q, val ps = q := ⟨_, rfl⟩
    obtain ⟨bb, hbb⟩ : ∃ b, okB ps = b := ⟨_, rfl⟩
    rw [hq, hbb] at BX
    have E := Lib.hid (roseS (A := A) (c := c) (H := w.heap.size) hn hb hx)
    clear hx hr hn e1 e2 hq hbb
    unfold bq at BX
    go_enter Try.func30, Try.ntmps30
    go_wp2_with fail
    refine (BX.out _ HR.out).mono ?_
    rintro e u ⟨rfl, b1⟩
    have Ru := Lib.hid (R0.below b1)
    have HR1 := Lib.hid (rd_alloc (o := .cells #[.int .i64 q1, .int .i64 q2, .int .i64 q3, .int .i64 q4] 39) (HR.out.below b1) b1.size)
    have B1 := Lib.hid (show Below w.heap.size w u from Below.trans (by go_grown) (b1.mono (by simp)))
    have HR9 := Lib.hid (show Rd (u.alloc (.cells #[.int .i64 q1, .int .i64 q2, .int .i64 q3, .int .i64 q4] 39)) w.heap.size A (pls ps) from (HR0.out.below (B1.out.alloc B1.out.size _)))
    have Pu := Bk.new u #[.int .i64 q1, .int .i64 q2, .int .i64 q3, .int .i64 q4] 39
    clear b1 R0
    go_wp2_with fail
    refine (E.out _ (by have := B1.out.size; simp; omega) HR9.out).mono ?_
    rintro e v ⟨rfl, b2⟩
    have R := Lib.hid ((Ru.out.alloc).below b2)
    have P := Lib.hid (Pu.below b2)
    have B2 := Lib.hid (show Below w.heap.size w v from B1.out.trans (Below.mono (Below.trans (B := u.heap.size) (by go_grown) (b2.mono (by simp))) B1.out.size))
    clear b2 Pu
    have z0 := R.out.cell (i := 0) rfl
    have z1 := R.out.cell (i := 1) rfl
    have z2 := R.out.cell (i := 2) rfl
    have z3 := R.out.cell (i := 3) rfl
    have y0 := R.out.frozen 0
    have y1 := R.out.frozen 1
    have y2 := R.out.frozen 2
    have y3 := R.out.frozen 3
    have HS4 := Lib.hid (set4 (a := .int .i64 (0)) (b := .int .i64 (0)) (c := .int .i64 (0)) (d := .int .i64 (0)) z0 z1 z2 z3)
    go_wp2_with fail
    have r0 := HS4.out.1
    have r1 := HS4.out.2.1
    have r2 := HS4.out.2.2.1
    have r3 := HS4.out.2.2.2
    (try simp only [Exit.inBlock, Exit.then])
    refine bodyPost_ret (v := .tuple #[box4 (0) (0) (0) (0), .bool false]) (by simp [results, Try.results30, go_sem, r0, r1, r2, r3]; try rfl) rfl ?_
    exact ⟨rfl, B2.out.trans (by have h9 := B2.out.size; go_grown)⟩
  · obtain ⟨e1, e2⟩ := r_no (ps := ps) (t := t) (Or.inr (Or.inr ht))
    rw [e1, e2]
    obtain ⟨⟨q1, q2, q3, q4⟩, hq⟩ : ∃ q, val ps = q := ⟨_, rfl⟩
    obtain ⟨bb, hbb⟩ : ∃ b, okB ps = b := ⟨_, rfl⟩
    rw [hq, hbb] at BX
    have h1 : ¬ t < 0 := by omega
    have E := Lib.hid (roseS (A := A) (c := c) (H := w.heap.size) hn hb hx)
    clear hx hr hn e1 e2 hq hbb
    unfold bq at BX
    go_enter Try.func30, Try.ntmps30
    go_wp2_with fail
    refine (BX.out _ HR.out).mono ?_
    rintro e u ⟨rfl, b1⟩
    have Ru := Lib.hid (R0.below b1)
    have HR1 := Lib.hid (rd_alloc (o := .cells #[.int .i64 q1, .int .i64 q2, .int .i64 q3, .int .i64 q4] 39) (HR.out.below b1) b1.size)
    have B1 := Lib.hid (show Below w.heap.size w u from Below.trans (by go_grown) (b1.mono (by simp)))
    have HR9 := Lib.hid (show Rd (u.alloc (.cells #[.int .i64 q1, .int .i64 q2, .int .i64 q3, .int .i64 q4] 39)) w.heap.size A (pls ps) from (HR0.out.below (B1.out.alloc B1.out.size _)))
    have Pu := Bk.new u #[.int .i64 q1, .int .i64 q2, .int .i64 q3, .int .i64 q4] 39
    clear b1 R0
    go_wp2_with fail
    refine (E.out _ (by have := B1.out.size; simp; omega) HR9.out).mono ?_
    rintro e v ⟨rfl, b2⟩
    have R := Lib.hid ((Ru.out.alloc).below b2)
    have P := Lib.hid (Pu.below b2)
    have B2 := Lib.hid (show Below w.heap.size w v from B1.out.trans (Below.mono (Below.trans (B := u.heap.size) (by go_grown) (b2.mono (by simp))) B1.out.size))
    clear b2 Pu
    have z0 := R.out.cell (i := 0) rfl
    have z1 := R.out.cell (i := 1) rfl
    have z2 := R.out.cell (i := 2) rfl
    have z3 := R.out.cell (i := 3) rfl
    have y0 := R.out.frozen 0
    have y1 := R.out.frozen 1
    have y2 := R.out.frozen 2
    have y3 := R.out.frozen 3
    have HS4 := Lib.hid (set4 (a := .int .i64 (0)) (b := .int .i64 (0)) (c := .int .i64 (0)) (d := .int .i64 (0)) z0 z1 z2 z3)
    go_wp2_with fail
    have r0 := HS4.out.1
    have r1 := HS4.out.2.1
    have r2 := HS4.out.2.2.1
    have r3 := HS4.out.2.2.2
    (try simp only [Exit.inBlock, Exit.then])
    refine bodyPost_ret (v := .tuple #[box4 (0) (0) (0) (0), .bool false]) (by simp [results, Try.results30, go_sem, r0, r1, r2, r3]; try rfl) rfl ?_
    exact ⟨rfl, B2.out.trans (by have h9 := B2.out.size; go_grown)⟩
  · obtain ⟨e1, e2⟩ := r_yes hx ⟨ht0, ht⟩
    obtain ⟨⟨q1, q2, q3, q4⟩, hq⟩ : ∃ q, val ps = q := ⟨_, rfl⟩
    obtain ⟨bb, hbb⟩ : ∃ b, okB ps = b := ⟨_, rfl⟩
    rw [hq, hbb] at BX
    have hqb := box_near (D := 8) (by decide) (near_rs hx)
    have hqv : boxA ps = (q1, q2, q3, q4) := by rw [← hq]; unfold val; rw [good_rs hx, if_pos rfl]
    rw [hqv] at e2 hqb
    unfold inB at hqb
    simp only at hqb
    rw [e1, e2]
    have m1 : wrap64 (t * q1) = t * q1 := IntWalk.wrap64_in _ (by have := mul_bound ⟨ht0, ht⟩ hqb.1; omega)
    have m2 : wrap64 (t * q2) = t * q2 := IntWalk.wrap64_in _ (by have := mul_bound ⟨ht0, ht⟩ hqb.2.1; omega)
    have m3 : wrap64 (t * q3) = t * q3 := IntWalk.wrap64_in _ (by have := mul_bound ⟨ht0, ht⟩ hqb.2.2.1; omega)
    have m4 : wrap64 (t * q4) = t * q4 := IntWalk.wrap64_in _ (by have := mul_bound ⟨ht0, ht⟩ hqb.2.2.2; omega)
    have h1 : ¬ t < 0 := by omega
    have h2 : ¬ 128 < t := by omega
    clear hqb hqv
    have E := Lib.hid (roseS (A := A) (c := c) (H := w.heap.size) hn hb hx)
    clear hx hr hn e1 e2 hq hbb
    unfold bq at BX
    go_enter Try.func30, Try.ntmps30
    go_wp2_with fail
    refine (BX.out _ HR.out).mono ?_
    rintro e u ⟨rfl, b1⟩
    have Ru := Lib.hid (R0.below b1)
    have HR1 := Lib.hid (rd_alloc (o := .cells #[.int .i64 q1, .int .i64 q2, .int .i64 q3, .int .i64 q4] 39) (HR.out.below b1) b1.size)
    have B1 := Lib.hid (show Below w.heap.size w u from Below.trans (by go_grown) (b1.mono (by simp)))
    have HR9 := Lib.hid (show Rd (u.alloc (.cells #[.int .i64 q1, .int .i64 q2, .int .i64 q3, .int .i64 q4] 39)) w.heap.size A (pls ps) from (HR0.out.below (B1.out.alloc B1.out.size _)))
    have Pu := Bk.new u #[.int .i64 q1, .int .i64 q2, .int .i64 q3, .int .i64 q4] 39
    clear b1 R0
    go_wp2_with fail
    refine (E.out _ (by have := B1.out.size; simp; omega) HR9.out).mono ?_
    rintro e v ⟨rfl, b2⟩
    have R := Lib.hid ((Ru.out.alloc).below b2)
    have P := Lib.hid (Pu.below b2)
    have B2 := Lib.hid (show Below w.heap.size w v from B1.out.trans (Below.mono (Below.trans (B := u.heap.size) (by go_grown) (b2.mono (by simp))) B1.out.size))
    clear b2 Pu
    have x0 := P.out.cell (i := 0) rfl
    have x1 := P.out.cell (i := 1) rfl
    have x2 := P.out.cell (i := 2) rfl
    have x3 := P.out.cell (i := 3) rfl
    have z0 := R.out.cell (i := 0) rfl
    have z1 := R.out.cell (i := 1) rfl
    have z2 := R.out.cell (i := 2) rfl
    have z3 := R.out.cell (i := 3) rfl
    have y0 := R.out.frozen 0
    have y1 := R.out.frozen 1
    have y2 := R.out.frozen 2
    have y3 := R.out.frozen 3
    have HS4 := Lib.hid (set4 (a := .int .i64 (t * q1)) (b := .int .i64 (t * q2)) (c := .int .i64 (t * q3)) (d := .int .i64 (t * q4)) z0 z1 z2 z3)
    go_wp2_with fail
    have r0 := HS4.out.1
    have r1 := HS4.out.2.1
    have r2 := HS4.out.2.2.1
    have r3 := HS4.out.2.2.2
    (try simp only [Exit.inBlock, Exit.then])
    refine bodyPost_ret (v := .tuple #[box4 (t * q1) (t * q2) (t * q3) (t * q4), .bool true]) (by simp [results, Try.results30, go_sem, r0, r1, r2, r3]; try rfl) rfl ?_
    exact ⟨rfl, B2.out.trans (by have h9 := B2.out.size; go_grown)⟩

end Go.Proofs.Ytejeikfgmiadhab.Wy
