/- The box of the sums of a rose, of the program and of the model. -/
import Derived.Test.YtejeikfgmiadhaaWx
import Derived.Test.YtejeikfgmiadhaaBxq
set_option linter.unusedVariables false
set_option linter.unusedSimpArgs false
namespace Go.Proofs.Ytejeikfgmiadhaa.Wy
open Go.RowKit Go.Proofs.Ytejeikfgmiadhaa.Flt Go.Proofs.Ytejeikfgmiadhaa.Meas Go.Proofs.Ytejeikfgmiadhaa.Mem Go.Proofs.Ytejeikfgmiadhaa.Rw Go.Proofs.Ytejeikfgmiadhaa.Bk Go.Proofs.Ytejeikfgmiadhaa.Cx Go.Proofs.Ytejeikfgmiadhaa.Cm Go.Proofs.Ytejeikfgmiadhaa.Jt Go.Proofs.Ytejeikfgmiadhaa.Pl Go.Proofs.Ytejeikfgmiadhaa.Str Go.Proofs.Ytejeikfgmiadhaa.Pw Go.Proofs.Ytejeikfgmiadhaa.P2 Go.Proofs.Ytejeikfgmiadhaa.Gs Go.Proofs.Ytejeikfgmiadhaa.Wm Go.Proofs.Ytejeikfgmiadhaa.Wi Go.Proofs.Ytejeikfgmiadhaa.Wa Go.Proofs.Ytejeikfgmiadhaa.Wb Go.Proofs.Ytejeikfgmiadhaa.Wc Go.Proofs.Ytejeikfgmiadhaa.We Go.Proofs.Ytejeikfgmiadhaa.Pls Go.Proofs.Ytejeikfgmiadhaa.Bi Go.Proofs.Ytejeikfgmiadhaa.Bo Go.Proofs.Ytejeikfgmiadhaa.Bx Go.Proofs.Ytejeikfgmiadhaa.Tb Go.Proofs.Ytejeikfgmiadhaa.Wr Go.Proofs.Ytejeikfgmiadhaa.Wx
set_option linter.unusedVariables false
set_option linter.unusedSimpArgs false

/-- Words that tell these places. -/
def Wo (zs : List (Int × Int)) (ws : List (Nat × Nat)) : Prop := ws.length = zs.length ∧ ∀ (k : Nat) x y, zs[k]? = some (x, y) → ∃ a b, ws[k]? = some (a, b) ∧ I32 x a ∧ I32 y b
def ww (ws : List (Nat × Nat)) : List Value := ws.map fun p => .complex .f32 p.1 p.2
theorem ww_len (ws : List (Nat × Nat)) : (ww ws).length = ws.length := List.length_map ..
theorem ww_get {ws : List (Nat × Nat)} {k : Nat} {a b : Nat} (h : ws[k]? = some (a, b)) : (ww ws)[k]? = some (.complex .f32 a b) := by
  unfold ww; rw [List.getElem?_map, h]; rfl
theorem ww_set (ws : List (Nat × Nat)) (k a b : Nat) : (ww ws).set k (.complex .f32 a b) = ww (ws.set k (a, b)) := by
  unfold ww; rw [List.map_set]
theorem Wo.start (zs : List (Int × Int)) : ∃ ws, Wo zs ws ∧ ww ws = cx zs := by
  refine ⟨zs.map fun p => (Meas.f32 p.1, Meas.f32 p.2), ⟨List.length_map .., fun k x y h => ⟨_, _, by rw [List.getElem?_map, h]; rfl, i32_f32 x, i32_f32 y⟩⟩, ?_⟩
  unfold ww cx; rw [List.map_map]; rfl
theorem Wo.set {zs : List (Int × Int)} {ws : List (Nat × Nat)} (h : Wo zs ws) (k : Nat) {x y : Int} {a b : Nat} (hx : I32 x a) (hy : I32 y b) : Wo (zs.set k (x, y)) (ws.set k (a, b)) := by
  refine ⟨by rw [List.length_set, List.length_set]; exact h.1, fun j u v hj => ?_⟩
  rw [List.getElem?_set] at hj
  by_cases e : k = j
  · subst e
    rw [if_pos rfl] at hj
    by_cases hl : k < zs.length
    · rw [if_pos hl] at hj
      injection hj with hj
      injection hj with e1 e2
      subst e1 e2
      exact ⟨a, b, by rw [List.getElem?_set, if_pos rfl, if_pos (by rw [h.1]; exact hl)], hx, hy⟩
    · rw [if_neg hl] at hj; cases hj
  · rw [if_neg e] at hj
    obtain ⟨a', b', h1, h2⟩ := h.2 j u v hj
    exact ⟨a', b', by rw [List.getElem?_set, if_neg e]; exact h1, h2⟩

set_option maxHeartbeats 4000000 in
theorem leastBoxW (A : Option Addr) (n c : Nat) (zs : List (Int × Int)) (H : Nat) (w : World) (hn : zs.length = n) (h0 : 0 < n) (hb : n ≤ 1048576) (hg : good zs = true) (hH : H ≤ w.heap.size) (ws : List (Nat × Nat)) (hws : Wo zs ws) (hr : Rd w H A (ww ws)) :
    Calls Try.prog 19 #[.slice A n c] w fun e w' => e = .returned (bq (boxA zs)) ∧ Below w.heap.size w w' := by
  have HR := Lib.hid (hr.more hH)
  have HN := Lib.hid hn
  have HG := Lib.hid (show ∀ (k : Nat) x y, zs[k]? = some (x, y) → V x ∧ V y from fun k x y h => ms_le (List.all_eq_true.1 hg _ (List.mem_of_getElem? h)))
  have WS := Lib.hid hws
  have hl0 : 0 < (ww ws).length := by rw [ww_len, hws.1]; omega
  obtain ⟨p, hp⟩ : ∃ p, zs[0]? = some p := ⟨_, List.getElem?_eq_getElem (by omega)⟩
  obtain ⟨x0, y0⟩ := p
  obtain ⟨b, o, eA, hbl, hcell⟩ := HR.out.get hl0
  obtain ⟨a0, b0, hw0, ia0, ib0⟩ := hws.2 0 _ _ hp
  have c0 : w.cell? ⟨b, o, none⟩ = some (.complex .f32 a0 b0) := hcell 0 _ (ww_get hw0)
  have I0 := Lib.hid (And.intro ia0 ib0)
  have HP := Lib.hid hp
  have hn0 : (0 : Int) < (n : Int) := by omega
  have lg2 : ∀ j, b < w.heap.size + j := fun j => by omega
  have hcell := Lib.hid hcell
  subst eA
  clear hr hn hg hl0 hp hws hw0 ia0 ib0
  go_enter Try.func19, Try.ntmps19
  go_wp2_with fail
  go_region_held3 (fun w' => w'.cell? ⟨b, o, none⟩ = some (.complex .f32 a0 b0)) (simp [go_sem, *]) (fail)
  go_wp2_with fail
  go_loop [3, 4, 19] (fun lo hi i => ∃ k : Nat, k ≤ n ∧ i = .int .i64 k ∧ ∃ r1 r2 r3 r4 : Nat, lo = .complex .f32 r1 r2 ∧ hi = .complex .f32 r3 r4 ∧ ∃ q1 q2 q3 q4 : Int, Hid ((q1, q2, q3, q4) = sofar zs (x0, y0) k) ∧ Hid (I32 q1 r1 ∧ I32 q2 r2 ∧ I32 q3 r3 ∧ I32 q4 r4) ∧ Hid (V q1 ∧ V q2 ∧ V q3 ∧ V q4)) (fun _ _ i => n - (intOf i).toNat)
  case atStart =>
    obtain ⟨hx, hy⟩ := HG.out 0 _ _ HP.out
    exact ⟨0, Nat.zero_le _, rfl, _, _, _, _, rfl, rfl, x0, y0, x0, y0, rfl, Lib.hid ⟨I0.out.1, I0.out.2, I0.out.1, I0.out.2⟩, Lib.hid ⟨hx, hy, hx, hy⟩⟩
  case round =>
    obtain ⟨k, hk, rfl, r1, r2, r3, r4, rfl, rfl, q1, q2, q3, q4, QK, IK, VK⟩ := hrel
    obtain ⟨v1, v2, v3, v4⟩ := VK.out
    obtain ⟨i1, i2, i3, i4⟩ := IK.out
    by_cases hlt : k < n
    · have hkz : k < zs.length := by rw [HN.out]; exact hlt
      obtain ⟨z, hz⟩ : ∃ z, zs[k]? = some z := ⟨_, List.getElem?_eq_getElem hkz⟩
      obtain ⟨x, y⟩ := z
      obtain ⟨hx, hy⟩ := HG.out k _ _ hz
      obtain ⟨a1, b1, hw1, ia1, ib1⟩ := WS.out.2 k _ _ hz
      have c1 : w.cell? ⟨b, o + k, none⟩ = some (.complex .f32 a1 b1) := hcell.out k _ (ww_get hw1)
      have E := Lib.hid (sofar_next HP.out hz)
      obtain ⟨s1, g1, j1⟩ := fmin (P := Try.prog) (by omega) (by omega) i1 ia1
      obtain ⟨s2, g2, j2⟩ := fmin (P := Try.prog) (by omega) (by omega) i2 ib1
      obtain ⟨s3, g3, j3⟩ := fmax (P := Try.prog) (by omega) (by omega) i3 ia1
      obtain ⟨s4, g4, j4⟩ := fmax (P := Try.prog) (by omega) (by omega) i4 ib1
      have J := Lib.hid (And.intro j1 (And.intro j2 (And.intro j3 j4)))
      have VV := Lib.hid (And.intro (V.min v1 hx) (And.intro (V.min v2 hy) (And.intro (V.max v3 hx) (V.max v4 hy))))
      clear hw1 ia1 ib1 hkz hz hx hy j1 j2 j3 j4 v1 v2 v3 v4 i1 i2 i3 i4 IK VK
      go_wp2_with fail
      go_round
      case rel =>
        refine ⟨k + 1, by omega, by go_num, s1, s2, s3, s4, rfl, rfl, _, _, _, _, ?_, J, VV⟩
        have h7 := E.out
        rw [← QK.out] at h7
        exact Lib.hid h7.symm
      case measure => simp [intOf]; omega
    · obtain rfl : k = n := by omega
      have E := Lib.hid (show (q1, q2, q3, q4) = boxA zs by
        have := QK.out
        unfold sofar at this
        rwa [if_neg (by omega), ← HN.out, List.take_length] at this)
      have D1 := Lib.hid (toldYes v1 v2 i1 i2)
      have D2 := Lib.hid (toldYes v3 v4 i3 i4)
      clear v1 v2 v3 v4 i1 i2 i3 i4 IK VK
      go_wp2_with fail
      refine (D1.out _).mono ?_
      rintro e w' ⟨rfl, rfl⟩
      go_wp2_with fail
      refine (D2.out _).mono ?_
      rintro e w' ⟨rfl, rfl⟩
      go_wp2_with fail
      go_returns
      refine ⟨?_, by go_grown⟩
      rw [← E.out]; rfl


def sc (t : Int) (p : Int × Int) : Int × Int := (t * p.1, t * p.2)
def sq (t : Int) (q : Q4) : Q4 := (t * q.1, t * q.2.1, t * q.2.2.1, t * q.2.2.2)
theorem min_sc {t a b : Int} (h : 0 ≤ t) : min (t * a) (t * b) = t * min a b := by
  rcases Int.le_total a b with e | e
  · rw [Int.min_eq_left e, Int.min_eq_left (Int.mul_le_mul_of_nonneg_left e h)]
  · rw [Int.min_eq_right e, Int.min_eq_right (Int.mul_le_mul_of_nonneg_left e h)]
theorem max_sc {t a b : Int} (h : 0 ≤ t) : max (t * a) (t * b) = t * max a b := by
  rcases Int.le_total a b with e | e
  · rw [Int.max_eq_right e, Int.max_eq_right (Int.mul_le_mul_of_nonneg_left e h)]
  · rw [Int.max_eq_left e, Int.max_eq_left (Int.mul_le_mul_of_nonneg_left e h)]
theorem step_sc {t : Int} (h : 0 ≤ t) (q : Q4) (p : Int × Int) : Bo.step (sq t q) (sc t p) = sq t (Bo.step q p) := by
  unfold Bo.step sq sc; simp only [min_sc h, max_sc h]
theorem box_sc {t : Int} (h : 0 ≤ t) (zs : List (Int × Int)) : boxA (zs.map (sc t)) = sq t (boxA zs) := by
  cases zs with
  | nil => simp [boxA, sq]
  | cons p ps =>
    have key : ∀ (ps : List (Int × Int)) (q : Q4), (ps.map (sc t)).foldl Bo.step (sq t q) = sq t (ps.foldl Bo.step q) := by
      intro ps
      induction ps with
      | nil => intro q; rfl
      | cons r rs ih => intro q; rw [List.map_cons, List.foldl_cons, List.foldl_cons, step_sc h]; exact ih _
    exact key ps (one p)
theorem mul_bound {t a : Int} (ht : 0 ≤ t ∧ t ≤ 128) (ha : -8 ≤ a ∧ a ≤ 8) : -1024 ≤ t * a ∧ t * a ≤ 1024 := by
  have h1 := Int.mul_le_mul_of_nonneg_left ha.1 ht.1
  have h2 := Int.mul_le_mul_of_nonneg_left ha.2 ht.1
  omega
def inB (D : Int) (q : Q4) : Prop := (-D ≤ q.1 ∧ q.1 ≤ D) ∧ (-D ≤ q.2.1 ∧ q.2.1 ≤ D) ∧ (-D ≤ q.2.2.1 ∧ q.2.2.1 ≤ D) ∧ (-D ≤ q.2.2.2 ∧ q.2.2.2 ≤ D)
theorem box_near {D : Int} (h0 : 0 ≤ D) {zs : List (Int × Int)} (h : Near D zs) : inB D (boxA zs) := by
  cases zs with
  | nil => unfold inB boxA; simp only; omega
  | cons p ps =>
    have key : ∀ (ps : List (Int × Int)) (q : Q4), inB D q → (∀ p ∈ ps, (-D ≤ p.1 ∧ p.1 ≤ D) ∧ (-D ≤ p.2 ∧ p.2 ≤ D)) → inB D (ps.foldl Bo.step q) := by
      intro ps
      induction ps with
      | nil => intro q hq _; exact hq
      | cons r rs ih =>
        intro q hq hp
        rw [List.foldl_cons]
        refine ih _ ?_ (fun p hp' => hp p (List.mem_cons_of_mem _ hp'))
        have := hp r (List.mem_cons_self ..)
        unfold inB at hq ⊢
        unfold Bo.step
        simp only
        omega
    refine key ps (one p) ?_ (fun q hq => h q (List.mem_cons_of_mem _ hq))
    have := h p (List.mem_cons_self ..)
    unfold inB one
    simp only
    omega
/-- The first k places scaled, the others as they were. -/
def ms' (zs : List (Int × Int)) (t : Int) (k : Nat) : List (Int × Int) := (zs.take k).map (sc t) ++ zs.drop k
theorem ms_zero (zs : List (Int × Int)) (t : Int) : ms' zs t 0 = zs := by simp [ms']
theorem ms_all (zs : List (Int × Int)) (t : Int) {k : Nat} (h : zs.length = k) : ms' zs t k = zs.map (sc t) := by subst h; simp [ms']
theorem ms_get {zs : List (Int × Int)} {t : Int} {k : Nat} {z : Int × Int} (h : zs[k]? = some z) : (ms' zs t k)[k]? = some z := by
  obtain ⟨hk, _⟩ := List.getElem?_eq_some_iff.1 h
  unfold ms'; rw [List.getElem?_append_right (by simp; omega), List.length_map, List.length_take, Nat.min_eq_left (by omega), Nat.sub_self, List.getElem?_drop, Nat.add_zero]; exact h
theorem ms_set {zs : List (Int × Int)} {t : Int} {k : Nat} {z : Int × Int} (h : zs[k]? = some z) : (ms' zs t k).set k (sc t z) = ms' zs t (k + 1) := by
  obtain ⟨hk, e⟩ := List.getElem?_eq_some_iff.1 h
  unfold ms'
  rw [List.set_append, if_neg (by simp; omega), List.length_map, List.length_take, Nat.min_eq_left (by omega), Nat.sub_self, List.drop_eq_getElem_cons hk, List.set_cons_zero, List.take_succ_eq_append_getElem hk, e]
  simp
theorem good_sc {zs : List (Int × Int)} (h : Near 8 zs) {t : Int} (ht : 0 ≤ t ∧ t ≤ 128) : good (zs.map (sc t)) = true := by
  unfold good
  rw [List.all_eq_true]
  intro p hp
  obtain ⟨q, hq, rfl⟩ := List.mem_map.1 hp
  have := h q hq
  have b1 := mul_bound ht this.1
  have b2 := mul_bound ht this.2
  exact pl_mk (x := t * q.1) (y := t * q.2) (by omega) (by omega)

/-- A complex number times a whole number. -/
theorem whole_up {P : Program} {n : Int} {x : Nat} (hn : n.natAbs ≤ 128) (h : U32 n x) : ∃ y, (∀ w, (Op.Complex.conv .f32 x .f64).run P w = .ok y w) ∧ W64 n y := by
  have f1 : Fits Ieee.single n 0 := fits_single _ _ (by omega) (by decide) (by decide)
  have f2 : Fits Ieee.double n 0 := fits_double _ _ (by omega) (by decide) (by decide)
  have hy : W64 n (Ieee.double.write (Ieee.single.read x)) := conv_is f1 h
  obtain ⟨s, m, e, h1⟩ := number_is f1 h
  obtain ⟨s', m', e', h2⟩ := number_is f2 hy
  exact ⟨_, fun w => run_float_float (by decide) x w s m e s' m' e' h1 h2, hy⟩
theorem mulW {P : Program} {a b : Int} {x y : Nat} (ha : a.natAbs < 16777216) (hb : b.natAbs ≤ 128) (hx : I64 a x) (hy : W64 b y) : ∃ r, (∀ w, (Op.Complex.mul x y).run P w = .ok r w) ∧ I64 (a * b) r := by
  obtain ⟨r, h1, h2⟩ := mul_is (s64 a ha) (fits_double b 0 (by omega) (by decide) (by decide)) hx hy
  exact ⟨r, fun w => run_carith w h1, h2⟩
theorem cscale {P : Program} {a b c : Int} {x y u : Nat} (ha : -8 ≤ a ∧ a ≤ 8) (hb : -8 ≤ b ∧ b ≤ 8) (hc : 0 ≤ c ∧ c ≤ 128) (hx : I32 a x) (hy : I32 b y) (hu : U32 c u) :
    ∃ re im, (∀ t w, (binOp .mul t (.complex .f32 x y) (.complex .f32 u 0)).run P w = .ok (.complex .f32 re im) w) ∧ I32 (c * a) re ∧ I32 (c * b) im := by
  obtain ⟨x', cx, hx'⟩ := conv_up (P := P) (by omega) hx
  obtain ⟨y', cy, hy'⟩ := conv_up (P := P) (by omega) hy
  obtain ⟨u', cu, hu'⟩ := whole_up (P := P) (by omega) hu
  obtain ⟨v', cv, hv'⟩ := whole_up (P := P) (n := 0) (by decide) u32_0
  have n1 := mul_bound hc ha
  have n4 := mul_bound hc hb
  rw [Int.mul_comm] at n1 n4
  obtain ⟨r1, m1, i1⟩ := mulW (P := P) (by omega) (by omega) hx' hu'
  obtain ⟨r2, m2, i2⟩ := mulW (P := P) (by omega) (by omega) hy' hv'
  obtain ⟨r3, m3, i3⟩ := mulW (P := P) (by omega) (by omega) hx' hv'
  obtain ⟨r4, m4, i4⟩ := mulW (P := P) (by omega) (by omega) hy' hu'
  rw [Int.mul_zero] at i2 i3
  obtain ⟨r5, m5, i5⟩ := sub64 (P := P) (by omega) (by decide) i1 i2
  obtain ⟨r6, m6, i6⟩ := add64 (P := P) (by decide) (by omega) i3 i4
  obtain ⟨re, c5, j5⟩ := conv_down (P := P) (by omega) i5
  obtain ⟨im, c6, j6⟩ := conv_down (P := P) (by omega) i6
  refine ⟨re, im, fun t w => ?_, by rw [Int.mul_comm]; rw [Int.sub_zero] at j5; exact j5, by rw [Int.mul_comm]; rw [Int.zero_add] at j6; exact j6⟩
  simp [binOp, Op.complexOp, Op.Complex.product, cx, cy, cu, cv, m1, m2, m3, m4, m5, m6, c5, c6]
theorem u32_int (t : Int) : U32 t (floatOfInt .f32 t) := ⟨decide (t < 0), fun _ => rfl, rfl⟩

def rB (ps : List (Int × Int)) (t : Int) : Bool := rs ps && decide (0 ≤ t) && decide (t ≤ 128)
def rQ (ps : List (Int × Int)) (t : Int) : Q4 := if rB ps t = true then sq t (boxA ps) else (0, 0, 0, 0)
theorem r_no {ps : List (Int × Int)} {t : Int} (h : rs ps = false ∨ t < 0 ∨ 128 < t) : rB ps t = false ∧ rQ ps t = (0, 0, 0, 0) := by
  have : rB ps t = false := by
    unfold rB
    rcases h with h | h | h
    · rw [h]; rfl
    · rw [decide_eq_false (p := 0 ≤ t) (by omega)]; simp
    · rw [decide_eq_false (p := t ≤ 128) (by omega)]; simp
  exact ⟨this, by unfold rQ; rw [this]; rfl⟩
theorem r_yes {ps : List (Int × Int)} {t : Int} (h : rs ps = true) (ht : 0 ≤ t ∧ t ≤ 128) : rB ps t = true ∧ rQ ps t = sq t (boxA ps) := by
  have : rB ps t = true := by unfold rB; rw [h, decide_eq_true ht.1, decide_eq_true ht.2]; rfl
  exact ⟨this, by unfold rQ; rw [this, if_pos rfl]⟩
theorem r_cases (ps : List (Int × Int)) (t : Int) : rs ps = false ∨ rs ps = true ∧ t < 0 ∨ rs ps = true ∧ 0 ≤ t ∧ 128 < t ∨ rs ps = true ∧ 0 ≤ t ∧ t ≤ 128 := by
  cases rs ps
  · exact Or.inl rfl
  by_cases h : t < 0
  · exact Or.inr (Or.inl ⟨rfl, h⟩)
  by_cases h2 : 128 < t
  · exact Or.inr (Or.inr (Or.inl ⟨rfl, by omega, h2⟩))
  · exact Or.inr (Or.inr (Or.inr ⟨rfl, by omega, by omega⟩))
abbrev z4 : Array Value := #[.int .i64 0, .int .i64 0, .int .i64 0, .int .i64 0]

set_option maxRecDepth 100000 in
set_option maxHeartbeats 2000000 in
theorem roseBoxS (A : Option Addr) (n c : Nat) (ps : List (Int × Int)) (t : Int) (w : World) (hn : ps.length = n) (hb : n ≤ 1048576) (hr : Rd w w.heap.size A (pls ps)) :
    Calls Try.prog 12 #[.slice A n c, .int .i64 t] w fun e w' => e = .returned (.tuple #[bq (rQ ps t), .bool (rB ps t)]) ∧ Below w.heap.size w w' := by
  have HR := Lib.hid ((rd_alloc (o := .cells z4 30) hr (Nat.le_refl _)).more (B' := (w.alloc (.cells z4 30)).heap.size) (by simp))
  have R0 := Bk.new w z4 30
  have HR0 := Lib.hid hr
  have BX := Lib.hid (fun W h => boxOfS A n c ps W hn hb h)
  rcases r_cases ps t with hx | ⟨hx, ht⟩ | ⟨hx, ht0, ht⟩ | ⟨hx, ht0, ht⟩
  · obtain ⟨e1, e2⟩ := r_no (ps := ps) (t := t) (Or.inl hx)
    rw [e1, e2]
    obtain ⟨⟨q1, q2, q3, q4⟩, hq⟩ : ∃ q, val ps = q := ⟨_, rfl⟩
    obtain ⟨bb, hbb⟩ : ∃ b, okB ps = b := ⟨_, rfl⟩
    rw [hq, hbb] at BX
    have E := Lib.hid (roseS (A := A) (c := c) (H := w.heap.size) hn hb hx)
    clear hx hr hn e1 e2 hq hbb
    unfold bq at BX
    go_enter Try.func12, Try.ntmps12
    go_wp2_with fail
    refine (BX.out _ HR.out).mono ?_
    rintro e u ⟨rfl, b1⟩
    have Ru := Lib.hid (R0.below b1)
    have HR1 := Lib.hid (rd_alloc (o := .cells #[.int .i64 q1, .int .i64 q2, .int .i64 q3, .int .i64 q4] 30) (HR.out.below b1) b1.size)
    have B1 := Lib.hid (show Below w.heap.size w u from Below.trans (by go_grown) (b1.mono (by simp)))
    have HR9 := Lib.hid (show Rd (u.alloc (.cells #[.int .i64 q1, .int .i64 q2, .int .i64 q3, .int .i64 q4] 30)) w.heap.size A (pls ps) from (HR0.out.below (B1.out.alloc B1.out.size _)))
    have Pu := Bk.new u #[.int .i64 q1, .int .i64 q2, .int .i64 q3, .int .i64 q4] 30
    clear b1 R0
    go_wp2_with fail
    refine (E.out _ (by have := B1.out.size; simp; omega) HR9.out).mono ?_
    rintro e v ⟨rfl, b2⟩
    have R := Lib.hid ((Ru.out.alloc).below b2)
    have P := Lib.hid (Pu.below b2)
    have B2 := Lib.hid (show Below w.heap.size w v from B1.out.trans (Below.mono (Below.trans (B := u.heap.size) (by go_grown) (b2.mono (by simp))) B1.out.size))
    clear b2 Pu
    have z0 := R.out.cell (i := 0) rfl
    have z1 := R.out.cell (i := 1) rfl
    have z2 := R.out.cell (i := 2) rfl
    have z3 := R.out.cell (i := 3) rfl
    have y0 := R.out.frozen 0
    have y1 := R.out.frozen 1
    have y2 := R.out.frozen 2
    have y3 := R.out.frozen 3
    have HS4 := Lib.hid (set4 (a := .int .i64 (0)) (b := .int .i64 (0)) (c := .int .i64 (0)) (d := .int .i64 (0)) z0 z1 z2 z3)
    go_wp2_with fail
    have r0 := HS4.out.1
    have r1 := HS4.out.2.1
    have r2 := HS4.out.2.2.1
    have r3 := HS4.out.2.2.2
    (try simp only [Exit.inBlock, Exit.then])
    refine bodyPost_ret (v := .tuple #[box4 (0) (0) (0) (0), .bool false]) (by simp [results, Try.results12, go_sem, r0, r1, r2, r3]; try rfl) rfl ?_
    exact ⟨rfl, B2.out.trans (by have h9 := B2.out.size; go_grown)⟩
  · obtain ⟨e1, e2⟩ := r_no (ps := ps) (t := t) (Or.inr (Or.inl ht))
    rw [e1, e2]
    obtain ⟨⟨q1, q2, q3, q4⟩, hq⟩ : ∃ q, val ps = q := ⟨_, rfl⟩
    obtain ⟨bb, hbb⟩ : ∃ b, okB ps = b := ⟨_, rfl⟩
    rw [hq, hbb] at BX
    have E := Lib.hid (roseS (A := A) (c := c) (H := w.heap.size) hn hb hx)
    clear hx hr hn e1 e2 hq hbb
    unfold bq at BX
    go_enter Try.func12, Try.ntmps12
    go_wp2_with fail
    refine (BX.out _ HR.out).mono ?_
    rintro e u ⟨rfl, b1⟩
    have Ru := Lib.hid (R0.below b1)
    have HR1 := Lib.hid (rd_alloc (o := .cells #[.int .i64 q1, .int .i64 q2, .int .i64 q3, .int .i64 q4] 30) (HR.out.below b1) b1.size)
    have B1 := Lib.hid (show Below w.heap.size w u from Below.trans (by go_grown) (b1.mono (by simp)))
    have HR9 := Lib.hid (show Rd (u.alloc (.cells #[.int .i64 q1, .int .i64 q2, .int .i64 q3, .int .i64 q4] 30)) w.heap.size A (pls ps) from (HR0.out.below (B1.out.alloc B1.out.size _)))
    have Pu := Bk.new u #[.int .i64 q1, .int .i64 q2, .int .i64 q3, .int .i64 q4] 30
    clear b1 R0
    go_wp2_with fail
    refine (E.out _ (by have := B1.out.size; simp; omega) HR9.out).mono ?_
    rintro e v ⟨rfl, b2⟩
    have R := Lib.hid ((Ru.out.alloc).below b2)
    have P := Lib.hid (Pu.below b2)
    have B2 := Lib.hid (show Below w.heap.size w v from B1.out.trans (Below.mono (Below.trans (B := u.heap.size) (by go_grown) (b2.mono (by simp))) B1.out.size))
    clear b2 Pu
    have z0 := R.out.cell (i := 0) rfl
    have z1 := R.out.cell (i := 1) rfl
    have z2 := R.out.cell (i := 2) rfl
    have z3 := R.out.cell (i := 3) rfl
    have y0 := R.out.frozen 0
    have y1 := R.out.frozen 1
    have y2 := R.out.frozen 2
    have y3 := R.out.frozen 3
    have HS4 := Lib.hid (set4 (a := .int .i64 (0)) (b := .int .i64 (0)) (c := .int .i64 (0)) (d := .int .i64 (0)) z0 z1 z2 z3)
    go_wp2_with fail
    have r0 := HS4.out.1
    have r1 := HS4.out.2.1
    have r2 := HS4.out.2.2.1
    have r3 := HS4.out.2.2.2
    (try simp only [Exit.inBlock, Exit.then])
    refine bodyPost_ret (v := .tuple #[box4 (0) (0) (0) (0), .bool false]) (by simp [results, Try.results12, go_sem, r0, r1, r2, r3]; try rfl) rfl ?_
    exact ⟨rfl, B2.out.trans (by have h9 := B2.out.size; go_grown)⟩
  · obtain ⟨e1, e2⟩ := r_no (ps := ps) (t := t) (Or.inr (Or.inr ht))
    rw [e1, e2]
    obtain ⟨⟨q1, q2, q3, q4⟩, hq⟩ : ∃ q, val ps = q := ⟨_, rfl⟩
    obtain ⟨bb, hbb⟩ : ∃ b, okB ps = b := ⟨_, rfl⟩
    rw [hq, hbb] at BX
    have h1 : ¬ t < 0 := by omega
    have E := Lib.hid (roseS (A := A) (c := c) (H := w.heap.size) hn hb hx)
    clear hx hr hn e1 e2 hq hbb
    unfold bq at BX
    go_enter Try.func12, Try.ntmps12
    go_wp2_with fail
    refine (BX.out _ HR.out).mono ?_
    rintro e u ⟨rfl, b1⟩
    have Ru := Lib.hid (R0.below b1)
    have HR1 := Lib.hid (rd_alloc (o := .cells #[.int .i64 q1, .int .i64 q2, .int .i64 q3, .int .i64 q4] 30) (HR.out.below b1) b1.size)
    have B1 := Lib.hid (show Below w.heap.size w u from Below.trans (by go_grown) (b1.mono (by simp)))
    have HR9 := Lib.hid (show Rd (u.alloc (.cells #[.int .i64 q1, .int .i64 q2, .int .i64 q3, .int .i64 q4] 30)) w.heap.size A (pls ps) from (HR0.out.below (B1.out.alloc B1.out.size _)))
    have Pu := Bk.new u #[.int .i64 q1, .int .i64 q2, .int .i64 q3, .int .i64 q4] 30
    clear b1 R0
    go_wp2_with fail
    refine (E.out _ (by have := B1.out.size; simp; omega) HR9.out).mono ?_
    rintro e v ⟨rfl, b2⟩
    have R := Lib.hid ((Ru.out.alloc).below b2)
    have P := Lib.hid (Pu.below b2)
    have B2 := Lib.hid (show Below w.heap.size w v from B1.out.trans (Below.mono (Below.trans (B := u.heap.size) (by go_grown) (b2.mono (by simp))) B1.out.size))
    clear b2 Pu
    have z0 := R.out.cell (i := 0) rfl
    have z1 := R.out.cell (i := 1) rfl
    have z2 := R.out.cell (i := 2) rfl
    have z3 := R.out.cell (i := 3) rfl
    have y0 := R.out.frozen 0
    have y1 := R.out.frozen 1
    have y2 := R.out.frozen 2
    have y3 := R.out.frozen 3
    have HS4 := Lib.hid (set4 (a := .int .i64 (0)) (b := .int .i64 (0)) (c := .int .i64 (0)) (d := .int .i64 (0)) z0 z1 z2 z3)
    go_wp2_with fail
    have r0 := HS4.out.1
    have r1 := HS4.out.2.1
    have r2 := HS4.out.2.2.1
    have r3 := HS4.out.2.2.2
    (try simp only [Exit.inBlock, Exit.then])
    refine bodyPost_ret (v := .tuple #[box4 (0) (0) (0) (0), .bool false]) (by simp [results, Try.results12, go_sem, r0, r1, r2, r3]; try rfl) rfl ?_
    exact ⟨rfl, B2.out.trans (by have h9 := B2.out.size; go_grown)⟩
  · obtain ⟨e1, e2⟩ := r_yes hx ⟨ht0, ht⟩
    obtain ⟨⟨q1, q2, q3, q4⟩, hq⟩ : ∃ q, val ps = q := ⟨_, rfl⟩
    obtain ⟨bb, hbb⟩ : ∃ b, okB ps = b := ⟨_, rfl⟩
    rw [hq, hbb] at BX
    have hqb := box_near (D := 8) (by decide) (near_rs hx)
    have hqv : boxA ps = (q1, q2, q3, q4) := by rw [← hq]; unfold val; rw [good_rs hx, if_pos rfl]
    rw [hqv] at e2 hqb
    unfold inB at hqb
    simp only at hqb
    rw [e1, e2]
    have m1 : wrap64 (t * q1) = t * q1 := IntWalk.wrap64_in _ (by have := mul_bound ⟨ht0, ht⟩ hqb.1; omega)
    have m2 : wrap64 (t * q2) = t * q2 := IntWalk.wrap64_in _ (by have := mul_bound ⟨ht0, ht⟩ hqb.2.1; omega)
    have m3 : wrap64 (t * q3) = t * q3 := IntWalk.wrap64_in _ (by have := mul_bound ⟨ht0, ht⟩ hqb.2.2.1; omega)
    have m4 : wrap64 (t * q4) = t * q4 := IntWalk.wrap64_in _ (by have := mul_bound ⟨ht0, ht⟩ hqb.2.2.2; omega)
    have h1 : ¬ t < 0 := by omega
    have h2 : ¬ 128 < t := by omega
    clear hqb hqv
    have E := Lib.hid (roseS (A := A) (c := c) (H := w.heap.size) hn hb hx)
    clear hx hr hn e1 e2 hq hbb
    unfold bq at BX
    go_enter Try.func12, Try.ntmps12
    go_wp2_with fail
    refine (BX.out _ HR.out).mono ?_
    rintro e u ⟨rfl, b1⟩
    have Ru := Lib.hid (R0.below b1)
    have HR1 := Lib.hid (rd_alloc (o := .cells #[.int .i64 q1, .int .i64 q2, .int .i64 q3, .int .i64 q4] 30) (HR.out.below b1) b1.size)
    have B1 := Lib.hid (show Below w.heap.size w u from Below.trans (by go_grown) (b1.mono (by simp)))
    have HR9 := Lib.hid (show Rd (u.alloc (.cells #[.int .i64 q1, .int .i64 q2, .int .i64 q3, .int .i64 q4] 30)) w.heap.size A (pls ps) from (HR0.out.below (B1.out.alloc B1.out.size _)))
    have Pu := Bk.new u #[.int .i64 q1, .int .i64 q2, .int .i64 q3, .int .i64 q4] 30
    clear b1 R0
    go_wp2_with fail
    refine (E.out _ (by have := B1.out.size; simp; omega) HR9.out).mono ?_
    rintro e v ⟨rfl, b2⟩
    have R := Lib.hid ((Ru.out.alloc).below b2)
    have P := Lib.hid (Pu.below b2)
    have B2 := Lib.hid (show Below w.heap.size w v from B1.out.trans (Below.mono (Below.trans (B := u.heap.size) (by go_grown) (b2.mono (by simp))) B1.out.size))
    clear b2 Pu
    have x0 := P.out.cell (i := 0) rfl
    have x1 := P.out.cell (i := 1) rfl
    have x2 := P.out.cell (i := 2) rfl
    have x3 := P.out.cell (i := 3) rfl
    have z0 := R.out.cell (i := 0) rfl
    have z1 := R.out.cell (i := 1) rfl
    have z2 := R.out.cell (i := 2) rfl
    have z3 := R.out.cell (i := 3) rfl
    have y0 := R.out.frozen 0
    have y1 := R.out.frozen 1
    have y2 := R.out.frozen 2
    have y3 := R.out.frozen 3
    have HS4 := Lib.hid (set4 (a := .int .i64 (t * q1)) (b := .int .i64 (t * q2)) (c := .int .i64 (t * q3)) (d := .int .i64 (t * q4)) z0 z1 z2 z3)
    go_wp2_with fail
    have r0 := HS4.out.1
    have r1 := HS4.out.2.1
    have r2 := HS4.out.2.2.1
    have r3 := HS4.out.2.2.2
    (try simp only [Exit.inBlock, Exit.then])
    refine bodyPost_ret (v := .tuple #[box4 (t * q1) (t * q2) (t * q3) (t * q4), .bool true]) (by simp [results, Try.results12, go_sem, r0, r1, r2, r3]; try rfl) rfl ?_
    exact ⟨rfl, B2.out.trans (by have h9 := B2.out.size; go_grown)⟩

end Go.Proofs.Ytejeikfgmiadhaa.Wy
