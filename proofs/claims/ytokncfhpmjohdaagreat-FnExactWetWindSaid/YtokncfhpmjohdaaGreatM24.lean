/- Where the drops of a jet can land for a rose, in numbers: how far to each side, and the box of it. -/
import Derived.Test.YtokncfhpmjohdaaGreatWz
import Derived.Test.YtokncfhpmjohdaaGreatM23
import Derived.Test.YtokncfhpmjohdaaGreatM15
import Derived.Deep.RegionHeld3
set_option linter.unusedVariables false
set_option linter.unusedSimpArgs false
namespace Go.Proofs.YtokncfhpmjohdaaGreat.Fw10
open Go.RowKit Go.Proofs.YtokncfhpmjohdaaGreat.Mem Go.Proofs.YtokncfhpmjohdaaGreat.Jt Go.Proofs.YtokncfhpmjohdaaGreat.Pl
open Go.Proofs.YtokncfhpmjohdaaGreat.Wm hiding G
open Go.Proofs.YtokncfhpmjohdaaGreat.Wx Go.Proofs.YtokncfhpmjohdaaGreat.Wy Go.Proofs.YtokncfhpmjohdaaGreat.Wz
open Go.Proofs.YtokncfhpmjohdaaGreat.Bo (Q4 boxA)
open Go.Proofs.YtokncfhpmjohdaaGreat.Wr (rs rs_len rs_each)
open Go.Proofs.YtokncfhpmjohdaaGreat.Dp (wy wy_le)
open Go.Proofs.YtokncfhpmjohdaaGreat.Bxi (bx)
set_option linter.unusedVariables false
set_option linter.unusedSimpArgs false

theorem wv0 (p : Int × Int) : wv 0 p = p.1 := rfl
theorem wv1 (p : Int × Int) : wv 1 p = p.2 := rfl
theorem wv2 (p : Int × Int) : wv 2 p = -p.1 := rfl
theorem wv3 (p : Int × Int) : wv 3 p = -p.2 := rfl
theorem fold_in {h : Int} (ps : List (Int × Int)) : ∀ b, ps.foldl (wstep h) b = b ∨ ps.foldl (wstep h) b ∈ ps := by
  induction ps with
  | nil => intro b; exact Or.inl rfl
  | cons p ps ih =>
    intro b
    rw [List.foldl_cons]
    rcases ih (wstep h b p) with e | e
    · rw [e]
      unfold wstep
      split
      · exact Or.inr (List.mem_cons_self ..)
      · exact Or.inl rfl
    · exact Or.inr (List.mem_cons_of_mem _ e)
theorem wor_in {h : Int} {ps : List (Int × Int)} (hp : 1 ≤ ps.length) : wor h ps ∈ ps := by
  cases ps with
  | nil => simp at hp
  | cons p ps =>
    rcases fold_in (h := h) ps p with e | e
    · show ps.foldl (wstep h) p ∈ p :: ps
      rw [e]; exact List.mem_cons_self ..
    · exact List.mem_cons_of_mem _ e


/-- How many ticks a drop flies. -/
def nN (l : Int) : Nat := (l + 1).toNat
/-- Where it lands without a wind. -/
def land (x y h t l : Int) : Int × Int := (wy x (tx h.toNat t 0) (nN l), wy y (ty h.toNat t 0) (nN l))
/-- Where it lands when the worst drift of a heading blows at all ticks. -/
def far (x y h t l : Int) (ps : List (Int × Int)) (k : Int) : Int × Int := ((land x y h t l).1 + (nN l : Int) * (wor k ps).1, (land x y h t l).2 + (nN l : Int) * (wor k ps).2)
/-- The box of all places where it can land. -/
def lbox (x y h t l : Int) (ps : List (Int × Int)) : Q4 := ((land x y h t l).1 + (nN l : Int) * (boxA ps).1, (land x y h t l).2 + (nN l : Int) * (boxA ps).2.1, (land x y h t l).1 + (nN l : Int) * (boxA ps).2.2.1, (land x y h t l).2 + (nN l : Int) * (boxA ps).2.2.2)
theorem nN_le {x y h t l : Int} (hj : jt x y h t l = true) : (nN l : Int) = l + 1 ∧ nN l ≤ 33 := by
  have := (jt_iff.1 hj).2.2.2.2
  unfold nN; omega
theorem tx_le {h t : Int} (hh : 0 ≤ h ∧ h ≤ 3) (ht : 0 ≤ t ∧ t ≤ 16) : (-16 ≤ tx h.toNat t 0 ∧ tx h.toNat t 0 ≤ 16) ∧ (-16 ≤ ty h.toNat t 0 ∧ ty h.toNat t 0 ≤ 16) := by
  have : h.toNat = 0 ∨ h.toNat = 1 ∨ h.toNat = 2 ∨ h.toNat = 3 := by omega
  rcases this with e | e | e | e
  all_goals
    rw [e]
    simp only [tx, ty]
    omega
theorem land_le {x y h t l : Int} (hj : jt x y h t l = true) : (-1552 ≤ (land x y h t l).1 ∧ (land x y h t l).1 ≤ 1552) ∧ (-1552 ≤ (land x y h t l).2 ∧ (land x y h t l).2 ≤ 1552) := by
  obtain ⟨hx, hy, hh, ht, _⟩ := jt_iff.1 hj
  have := tx_le hh ht
  have hn := (nN_le hj).2
  exact ⟨wy_le hx this.1 hn, wy_le hy this.2 hn⟩
theorem mul33 {n : Nat} {a : Int} (hn : n ≤ 33) (ha : -8 ≤ a ∧ a ≤ 8) : -264 ≤ (n : Int) * a ∧ (n : Int) * a ≤ 264 := by
  have h1 := Int.mul_le_mul_of_nonneg_left (c := (n : Int)) ha.1 (by omega)
  have h2 := Int.mul_le_mul_of_nonneg_left (c := (n : Int)) ha.2 (by omega)
  omega
theorem rose_in {ps : List (Int × Int)} (hr : rs ps = true) {p : Int × Int} (hp : p ∈ ps) : (-8 ≤ p.1 ∧ p.1 ≤ 8) ∧ (-8 ≤ p.2 ∧ p.2 ≤ 8) := by
  obtain ⟨k, hk, rfl⟩ := List.getElem_of_mem hp
  exact rs_each hr (List.getElem?_eq_getElem hk)
theorem wor_mem {ps : List (Int × Int)} (hr : rs ps = true) (k : Int) : wor k ps ∈ ps := wor_in (rs_len hr).1
theorem wor_le {ps : List (Int × Int)} (hr : rs ps = true) (k : Int) : (-8 ≤ (wor k ps).1 ∧ (wor k ps).1 ≤ 8) ∧ (-8 ≤ (wor k ps).2 ∧ (wor k ps).2 ≤ 8) := rose_in hr (wor_mem hr k)
theorem far_le {x y h t l : Int} {ps : List (Int × Int)} (hj : jt x y h t l = true) (hr : rs ps = true) (k : Int) : (-1816 ≤ (far x y h t l ps k).1 ∧ (far x y h t l ps k).1 ≤ 1816) ∧ (-1816 ≤ (far x y h t l ps k).2 ∧ (far x y h t l ps k).2 ≤ 1816) := by
  have h1 := land_le hj
  have h2 := wor_le hr k
  have h3 := mul33 (nN_le hj).2 h2.1
  have h4 := mul33 (nN_le hj).2 h2.2
  unfold far; simp only; omega
/-- How far a box goes in the direction of a heading. -/
def sideV (x y z u : Int) (k : Int) : Int := max (wv k (x, y)) (wv k (z, u))
/-- Whether a drop can land outside of a box, on the side of a heading. -/
def wetK (jx jy h t l : Int) (ps : List (Int × Int)) (x y z u : Int) (k : Nat) : Bool := decide (sideV x y z u (k : Int) < wv (k : Int) (far jx jy h t l ps (k : Int)))
/-- The first heading on whose side it can. -/
def wetH (jx jy h t l : Int) (ps : List (Int × Int)) (x y z u : Int) : Option Nat := [0, 1, 2, 3].find? (wetK jx jy h t l ps x y z u)
theorem bx_iff {x y z u : Int} (h : bx x y z u = true) : x ≤ z ∧ y ≤ u := by
  unfold bx at h
  simp only [Bool.and_eq_true, decide_eq_true_eq] at h
  exact ⟨h.1.2, h.2⟩
end Go.Proofs.YtokncfhpmjohdaaGreat.Fw10
namespace Go.Proofs.YtokncfhpmjohdaaGreat.Fa10
open Go.RowKit Go.ChangeShapes Go.WideShapes Go.WideElems Go.Deep Go.Proofs.YtokncfhpmjohdaaGreat.Mem Go.Proofs.YtokncfhpmjohdaaGreat.Rw Go.Proofs.YtokncfhpmjohdaaGreat.P2 Go.Proofs.YtokncfhpmjohdaaGreat.Bk Go.Proofs.YtokncfhpmjohdaaGreat.Jt Go.Proofs.YtokncfhpmjohdaaGreat.Cm Go.Proofs.YtokncfhpmjohdaaGreat.Cx Go.Proofs.YtokncfhpmjohdaaGreat.Pl Go.Proofs.YtokncfhpmjohdaaGreat.Hd Go.Proofs.YtokncfhpmjohdaaGreat.Str
open Go.Proofs.YtokncfhpmjohdaaGreat.Wz Go.Proofs.YtokncfhpmjohdaaGreat.Fw10
open Go.Proofs.YtokncfhpmjohdaaGreat.Wr (rs)
open Go.Proofs.YtokncfhpmjohdaaGreat.Pls (pls)
open Go.Proofs.YtokncfhpmjohdaaGreat.Bo (boxA)
open Go.Proofs.YtokncfhpmjohdaaGreat.Bxi (bx)
open Go.Proofs.YtokncfhpmjohdaaGreat.Dp (landV landI flightI fl_yes inF_iff told2_yes told2_no)
set_option linter.unusedVariables false
set_option linter.unusedSimpArgs false

theorem complexW (x y : Int) (hx : x.natAbs < 16777216) (hy : y.natAbs < 16777216) (w : World) : Calls Tryz.prog 94 #[.agg #[.int .i64 x, .int .i64 y]] w fun e w' => e = .returned (.complex .f32 (Meas.f32 x) (Meas.f32 y)) ∧ Below w.heap.size w w' :=
  (Pw.complexOf x y hx hy w).mono fun e w9 ⟨h1, h2⟩ => ⟨h1, by rw [h2]; exact ((Below.refl _ _).alloc (Nat.le_refl _) _).drew⟩
theorem gt_w {V U : Int} {b : Bool} (hb : b = decide (U < V)) (hV : -8192 ≤ V ∧ V ≤ 8192) (hU : -8192 ≤ U ∧ U ≤ 8192) {r s : Nat} (h1 : I32 V r) (h2 : I32 U s) : (FloatKind.f32.format.order r s == some Ordering.gt) = b := by
  subst hb
  have : FloatKind.f32.format.order r s = some (compare V U) := order_is (s32 V (by omega)) (s32 U (by omega)) h1 h2
  rw [this]
  by_cases h : U < V
  · rw [decide_eq_true h]
    have e : compare V U = .gt := Meas.cmp_gt h
    rw [e]; rfl
  · rw [decide_eq_false h]
    rcases Int.lt_or_eq_of_le (Int.not_lt.1 h) with h | h
    · rw [Meas.cmp_lt h]; rfl
    · subst h; rw [Meas.cmp_eq rfl]; rfl
set_option maxRecDepth 100000 in
set_option maxHeartbeats 2000000 in
theorem wayW {x y h : Int} {p q : Nat} (hh : hd h = true) (hx : (-8192 ≤ x ∧ x ≤ 8192) ∧ (-8192 ≤ y ∧ y ≤ 8192)) (hp : I32 x p) (hq : I32 y q) (w : World) :
    Calls Tryz.prog 89 #[.complex .f32 p q, .int .i64 h] w fun e w' => (∃ r, e = .returned (.float .f32 r) ∧ I32 (wv h (x, y)) r) ∧ Below w.heap.size w w' := by
  obtain ⟨h0, h3⟩ := hd_yes hh
  have U := Lib.hid units
  have n0 : ∀ W, (Op.unary .neg (.float .f32 0)).run Tryz.prog W = .ok (.float .f32 2147483648) W := fun W => by rfl
  have n1 : ∀ W, (Op.unary .neg (.float .f32 1065353216)).run Tryz.prog W = .ok (.float .f32 3212836864) W := fun W => by rfl
  have n2 : ∀ W, (Op.unary .neg (.float .f32 3212836864)).run Tryz.prog W = .ok (.float .f32 1065353216) W := fun W => by rfl
  obtain ⟨r0, i0, M0, j0, k0⟩ := cmul (P := Tryz.prog) (a := x) (b := y) (c := 1) (d := 0) (by omega) (by omega) (by decide) (by decide) hp hq u32_1 u32_m0
  obtain ⟨r1, i1, M1, j1, k1⟩ := cmul (P := Tryz.prog) (a := x) (b := y) (c := 0) (d := -1) (by omega) (by omega) (by decide) (by decide) hp hq u32_0 u32_m1
  obtain ⟨r2, i2, M2, j2, k2⟩ := cmul (P := Tryz.prog) (a := x) (b := y) (c := -1) (d := 0) (by omega) (by omega) (by decide) (by decide) hp hq u32_m1 u32_m0
  obtain ⟨r3, i3, M3, j3, k3⟩ := cmul (P := Tryz.prog) (a := x) (b := y) (c := 0) (d := 1) (by omega) (by omega) (by decide) (by decide) hp hq u32_0 u32_1
  have J0 := Lib.hid (show I32 (wv 0 (x, y)) r0 by show I32 x r0; rw [show x = x * 1 - y * 0 by omega]; exact j0)
  have J1 := Lib.hid (show I32 (wv 1 (x, y)) r1 by show I32 y r1; rw [show y = x * 0 - y * -1 by omega]; exact j1)
  have J2 := Lib.hid (show I32 (wv 2 (x, y)) r2 by show I32 (-x) r2; rw [show -x = x * -1 - y * 0 by omega]; exact j2)
  have J3 := Lib.hid (show I32 (wv 3 (x, y)) r3 by show I32 (-y) r3; rw [show -y = x * 0 - y * 1 by omega]; exact j3)
  clear j0 j1 j2 j3 k0 k1 k2 k3 hx hh hp hq
  have hc : h = 0 ∨ h = 1 ∨ h = 2 ∨ h = 3 := by omega
  clear h0 h3
  rcases hc with rfl | rfl | rfl | rfl
  · go_enter Tryz.func89, Tryz.ntmps89
    go_wp2_with fail
    refine (U.out _).mono ?_
    rintro e w' ⟨rfl, rfl⟩
    go_wp2_with fail
    go_ret
    exact ⟨⟨_, rfl, J0.out⟩, by go_grown⟩
  · go_enter Tryz.func89, Tryz.ntmps89
    go_wp2_with fail
    refine (U.out _).mono ?_
    rintro e w' ⟨rfl, rfl⟩
    go_wp2_with fail
    go_ret
    exact ⟨⟨_, rfl, J1.out⟩, by go_grown⟩
  · go_enter Tryz.func89, Tryz.ntmps89
    go_wp2_with fail
    refine (U.out _).mono ?_
    rintro e w' ⟨rfl, rfl⟩
    go_wp2_with fail
    go_ret
    exact ⟨⟨_, rfl, J2.out⟩, by go_grown⟩
  · go_enter Tryz.func89, Tryz.ntmps89
    go_wp2_with fail
    refine (U.out _).mono ?_
    rintro e w' ⟨rfl, rfl⟩
    go_wp2_with fail
    go_ret
    exact ⟨⟨_, rfl, J3.out⟩, by go_grown⟩
theorem wv_le {h x y B : Int} (hx : -B ≤ x ∧ x ≤ B) (hy : -B ≤ y ∧ y ≤ B) : -B ≤ wv h (x, y) ∧ wv h (x, y) ≤ B := Pw.txle hx hy
theorem ms_le {x : Int} (h : ms x = true) : -4096 ≤ x ∧ x ≤ 4096 := by
  unfold ms at h
  simp only [Bool.and_eq_true, decide_eq_true_eq] at h
  exact h
theorem bx_le {x y z u : Int} (h : bx x y z u = true) : ((-4096 ≤ x ∧ x ≤ 4096) ∧ (-4096 ≤ y ∧ y ≤ 4096)) ∧ (-4096 ≤ z ∧ z ≤ 4096) ∧ (-4096 ≤ u ∧ u ≤ 4096) := by
  unfold bx at h
  simp only [Bool.and_eq_true] at h
  exact ⟨⟨ms_le h.1.1.1.1, ms_le h.1.1.1.2⟩, ms_le h.1.1.2.1, ms_le h.1.1.2.2⟩
theorem hd_nat {k : Nat} (h : k < 4) : hd (k : Int) = true := by
  match k, h with
  | 0, _ => rfl
  | 1, _ => rfl
  | 2, _ => rfl
  | 3, _ => rfl
theorem landV_yes {x y h t l : Int} (hj : jt x y h t l = true) : landV x y h t l = .tuple #[.agg #[.int .i64 (land x y h t l).1, .int .i64 (land x y h t l).2], .bool true] := by
  have hl := (jt_iff.1 hj).2.2.2.2
  unfold landV
  rw [fl_yes hj, told2_yes (inF_iff.2 ⟨hj, by omega, by omega⟩)]
  rfl

set_option maxRecDepth 100000 in
set_option maxHeartbeats 4000000 in
theorem sideOf {x y z u k : Int} (hb : bx x y z u = true) (hk : hd k = true) (w : World) :
    Calls Tryz.prog 91 #[.agg #[.int .i64 x, .int .i64 y, .int .i64 z, .int .i64 u], .int .i64 k] w fun e w' => (∃ r, e = .returned (.float .f32 r) ∧ I32 (sideV x y z u k) r) ∧ Below w.heap.size w w' := by
  obtain ⟨⟨h1, h2⟩, h3, h4⟩ := bx_le hb
  have CA := Lib.hid (fun (W : World) => complexW x y (by omega) (by omega) W)
  have CB := Lib.hid (fun (W : World) => complexW z u (by omega) (by omega) W)
  have WA := Lib.hid (fun (W : World) => wayW hk (x := x) (y := y) (by omega) (i32_f32 x) (i32_f32 y) W)
  have WB := Lib.hid (fun (W : World) => wayW hk (x := z) (y := u) (by omega) (i32_f32 z) (i32_f32 u) W)
  have la := wv_le (h := k) h1 h2
  have lb := wv_le (h := k) h3 h4
  have KB := Bk.new w #[.int .i64 x, .int .i64 y, .int .i64 z, .int .i64 u] 46
  have c0 := KB.cell (i := 0) rfl
  have c1 := KB.cell (i := 1) rfl
  have c2 := KB.cell (i := 2) rfl
  have c3 := KB.cell (i := 3) rfl
  have B0 := Lib.hid ((Below.refl w.heap.size w).alloc (Nat.le_refl _) (.cells #[.int .i64 x, .int .i64 y, .int .i64 z, .int .i64 u] 46))
  have hu : undef = Value.tuple #[] := rfl
  clear h1 h2 h3 h4 hb hk KB
  go_enter Tryz.func91, Tryz.ntmps91
  go_wp2_with fail
  refine wp_region_noPanic ?_
  refine wp_region_held_drew (S := (fun w' => w'.cell? ⟨w.heap.size, 0, none⟩ = some (.int .i64 x) ∧ w'.cell? ⟨w.heap.size, 1, none⟩ = some (.int .i64 y) ∧ w'.cell? ⟨w.heap.size, 2, none⟩ = some (.int .i64 z) ∧ w'.cell? ⟨w.heap.size, 3, none⟩ = some (.int .i64 u) ∧ Below w.heap.size w w')) (by kernel_rfl) ?_ (fun hH => ?_)
  · exact ⟨c0, c1, c2, c3, B0.out.drew⟩
  refine wpAnyH_take (i := 0) (oi := { dst := some 5, op := _, type := _, pos := _, after := _, guard := _ }) (v := ?_) rfl (by kernel_rfl) (by kernel_rfl) (by kernel_rfl) (fun _ _ _ h => h) (Or.inl ⟨by rfl, ?_⟩) hH ?_
  rotate_left 1
  · intro W hSw
    (try dsimp only at hSw)
    go_simp
    (try with_reducible rfl)
  try simp only [Act.put, List.setIfInBounds_toArray, List.set_cons_zero, List.set_cons_succ]
  refine wpAnyH_take (i := 1) (oi := { dst := some 6, op := _, type := _, pos := _, after := _, guard := _ }) (v := ?_) rfl (by kernel_rfl) (by kernel_rfl) (by kernel_rfl) (fun _ _ _ h => h) (Or.inl ⟨by rfl, ?_⟩) hH ?_
  rotate_left 1
  · intro W hSw
    (try dsimp only at hSw)
    go_simp
    (try with_reducible rfl)
  try simp only [Act.put, List.setIfInBounds_toArray, List.set_cons_zero, List.set_cons_succ]
  refine wpAnyH_take (i := 3) (oi := { dst := some 8, op := _, type := _, pos := _, after := _, guard := _ }) (v := ?_) rfl (by kernel_rfl) (by kernel_rfl) (by kernel_rfl) (fun _ _ _ h => h) (Or.inl ⟨by rfl, ?_⟩) hH ?_
  rotate_left 1
  · intro W hSw
    (try dsimp only at hSw)
    go_simp
    (try with_reducible rfl)
  try simp only [Act.put, List.setIfInBounds_toArray, List.set_cons_zero, List.set_cons_succ]
  refine wpAnyH_take (i := 5) (oi := { dst := some 10, op := _, type := _, pos := _, after := _, guard := _ }) (v := ?_) rfl (by kernel_rfl) (by kernel_rfl) (by kernel_rfl) (fun _ _ _ h => h) (Or.inl ⟨by rfl, ?_⟩) hH ?_
  rotate_left 1
  · intro W hSw
    (try dsimp only at hSw)
    go_simp
    (try with_reducible rfl)
  try simp only [Act.put, List.setIfInBounds_toArray, List.set_cons_zero, List.set_cons_succ]
  refine wpAnyH_take (i := 6) (oi := { dst := some 11, op := _, type := _, pos := _, after := _, guard := _ }) (v := ?_) rfl (by kernel_rfl) (by kernel_rfl) (by kernel_rfl) (fun _ _ _ h => h) (Or.inl ⟨by rfl, ?_⟩) hH ?_
  rotate_left 1
  · intro W hSw
    (try dsimp only at hSw)
    go_simp
    (try with_reducible rfl)
  try simp only [Act.put, List.setIfInBounds_toArray, List.set_cons_zero, List.set_cons_succ]
  refine wpAnyH_take (i := 8) (oi := { dst := some 13, op := _, type := _, pos := _, after := _, guard := _ }) (v := ?_) rfl (by kernel_rfl) (by kernel_rfl) (by kernel_rfl) (fun _ _ _ h => h) (Or.inl ⟨by rfl, ?_⟩) hH ?_
  rotate_left 1
  · intro W hSw
    (try dsimp only at hSw)
    go_simp
    (try with_reducible rfl)
  try simp only [Act.put, List.setIfInBounds_toArray, List.set_cons_zero, List.set_cons_succ]
  refine wpAnyH_ready (rs := [2]) (by kernel_rfl) (by simp) (AllReadyH.cons rfl (fun K hK => ?_) AllReadyH.nil)
  go_simp
  go_at_call 94; ((with_reducible refine (CA.out _).mono ?_); rintro e9 r1 ⟨rfl, hb1⟩); go_wp2_with fail
  refine hK.out _ _ ?_ (fun hG => ?_)
  · exact ⟨cell_below hb1 hH.1, cell_below hb1 hH.2.1, cell_below hb1 hH.2.2.1, cell_below hb1 hH.2.2.2.1, hH.2.2.2.2.trans (hb1.mono hH.2.2.2.2.size)⟩
  replace hH := hG
  clear hK K hG
  try simp only [Act.put, List.setIfInBounds_toArray, List.set_cons_zero, List.set_cons_succ]
  refine wpAnyH_ready (rs := [4]) (by kernel_rfl) (by simp) (AllReadyH.cons rfl (fun K hK => ?_) AllReadyH.nil)
  go_simp
  go_at_call 89; ((with_reducible refine (WA.out _).mono ?_); rintro e9 r2 ⟨⟨ra, rfl, ja⟩, hb2⟩); go_wp2_with fail
  refine hK.out _ _ ?_ (fun hG => ?_)
  · exact ⟨cell_below hb2 hH.1, cell_below hb2 hH.2.1, cell_below hb2 hH.2.2.1, cell_below hb2 hH.2.2.2.1, hH.2.2.2.2.trans (hb2.mono hH.2.2.2.2.size)⟩
  replace hH := hG
  clear hK K hG
  try simp only [Act.put, List.setIfInBounds_toArray, List.set_cons_zero, List.set_cons_succ]
  refine wpAnyH_ready (rs := [7]) (by kernel_rfl) (by simp) (AllReadyH.cons rfl (fun K hK => ?_) AllReadyH.nil)
  go_simp
  go_at_call 94; ((with_reducible refine (CB.out _).mono ?_); rintro e9 r3 ⟨rfl, hb3⟩); go_wp2_with fail
  refine hK.out _ _ ?_ (fun hG => ?_)
  · exact ⟨cell_below hb3 hH.1, cell_below hb3 hH.2.1, cell_below hb3 hH.2.2.1, cell_below hb3 hH.2.2.2.1, hH.2.2.2.2.trans (hb3.mono hH.2.2.2.2.size)⟩
  replace hH := hG
  clear hK K hG
  try simp only [Act.put, List.setIfInBounds_toArray, List.set_cons_zero, List.set_cons_succ]
  refine wpAnyH_ready (rs := [9]) (by kernel_rfl) (by simp) (AllReadyH.cons rfl (fun K hK => ?_) AllReadyH.nil)
  go_simp
  go_at_call 89; ((with_reducible refine (WB.out _).mono ?_); rintro e9 r4 ⟨⟨rb, rfl, jb⟩, hb4⟩); obtain ⟨rm, hmx, jm⟩ := Tb.fmax (P := Tryz.prog) (a := wv k (x, y)) (b := wv k (z, u)) (by omega) (by omega) ja jb; go_wp2_with fail
  refine hK.out _ _ ?_ (fun hG => ?_)
  · exact ⟨cell_below hb4 hH.1, cell_below hb4 hH.2.1, cell_below hb4 hH.2.2.1, cell_below hb4 hH.2.2.2.1, hH.2.2.2.2.trans (hb4.mono hH.2.2.2.2.size)⟩
  replace hH := hG
  clear hK K hG
  try simp only [Act.put, List.setIfInBounds_toArray, List.set_cons_zero, List.set_cons_succ]
  refine wpAnyH_take (i := 10) (oi := { dst := some 15, op := _, type := _, pos := _, after := _, guard := _ }) (v := ?_) rfl (by kernel_rfl) (by kernel_rfl) (by kernel_rfl) (fun _ _ _ h => h) (Or.inl ⟨by rfl, ?_⟩) hH ?_
  rotate_left 1
  · intro W hSw
    (try dsimp only at hSw)
    go_simp
    (try with_reducible rfl)
  try simp only [Act.put, List.setIfInBounds_toArray, List.set_cons_zero, List.set_cons_succ]
  refine wpAnyH_take (i := 11) (oi := { dst := some 4, op := _, type := _, pos := _, after := _, guard := _ }) (v := ?_) rfl (by kernel_rfl) (by kernel_rfl) (by kernel_rfl) (fun _ _ _ h => h) (Or.inl ⟨by rfl, ?_⟩) hH ?_
  rotate_left 1
  · intro W hSw
    (try dsimp only at hSw)
    go_simp
    (try with_reducible rfl)
  try simp only [Act.put, List.setIfInBounds_toArray, List.set_cons_zero, List.set_cons_succ]
  refine wpAnyH_done (by kernel_rfl) ?_ _
  refine NoPanic.normal ?_
  have BX := hH.2.2.2.2
  clear hH
  go_wp2_with fail
  go_returns
  exact ⟨⟨rm, rfl, jm⟩, BX⟩

set_option maxRecDepth 100000 in
set_option maxHeartbeats 4000000 in
theorem farthest {x y h t l k : Int} (A : Option Addr) (n c : Nat) (ps : List (Int × Int)) (hj : jt x y h t l = true) (hp : rs ps = true) (hk : hd k = true) (w : World) (hn : ps.length = n) (hb : n ≤ 1048576) (hr : Rd w w.heap.size A (pls ps)) :
    Calls Tryz.prog 90 #[jv x y h t l, .slice A n c, .int .i64 k] w fun e w' => (∃ a b, e = .returned (.complex .f32 a b) ∧ I32 (far x y h t l ps k).1 a ∧ I32 (far x y h t l ps k).2 b) ∧ Below w.heap.size w w' := by
  have hl := land_le hj
  have hwo := wor_le hp k
  obtain ⟨lx, hlx⟩ : ∃ a, (land x y h t l).1 = a := ⟨_, rfl⟩
  obtain ⟨ly, hly⟩ : ∃ a, (land x y h t l).2 = a := ⟨_, rfl⟩
  obtain ⟨dx, hdx⟩ : ∃ a, (wor k ps).1 = a := ⟨_, rfl⟩
  obtain ⟨dy, hdy⟩ : ∃ a, (wor k ps).2 = a := ⟨_, rfl⟩
  obtain ⟨hN, hN2⟩ := nN_le hj
  obtain ⟨N, hN9⟩ : ∃ a, nN l = a := ⟨_, rfl⟩
  have HV := Lib.hid (show far x y h t l ps k = (lx + (N : Int) * dx, ly + (N : Int) * dy) by unfold far; rw [hlx, hly, hdx, hdy, hN9])
  rw [HV.out]
  have CL := Lib.hid (fun (W : World) => (by have := landI x y h t l W; rw [landV_yes hj, hlx, hly] at this; exact this : Calls Tryz.prog 135 #[jv x y h t l] W fun e w' => e = .returned (.tuple #[.agg #[.int .i64 lx, .int .i64 ly], .bool true]) ∧ Below W.heap.size W w'))
  have CF := Lib.hid (fun (W : World) => (by have := flightI x y h t l W; rw [fl_yes hj, ← hN, hN9] at this; exact this : Calls Tryz.prog 132 #[jv x y h t l] W fun e w' => e = .returned (.int .i64 (N : Int)) ∧ Below W.heap.size W w'))
  have CW := Lib.hid (fun (W : World) (h : Below w.heap.size w W) => (by have := worstI A n c ps k W hn hb ((hr.below h).more h.size); rw [w_yes hp hk] at this; unfold Wa.pq at this; rw [hdx, hdy] at this; exact this : Calls Tryz.prog 46 #[.slice A n c, .int .i64 k] W fun e w' => e = .returned (.agg #[.int .i64 dx, .int .i64 dy]) ∧ Below W.heap.size W w'))
  rw [hlx, hly] at hl
  rw [hdx, hdy] at hwo
  rw [hN9] at hN2
  have CA := Lib.hid (fun (W : World) => complexW lx ly (by omega) (by omega) W)
  have CB := Lib.hid (fun (W : World) => complexW dx dy (by omega) (by omega) W)
  have K0 := Lib.hid (Bk.new w #[.int .i64 x, .int .i64 y, .int .i64 h, .int .i64 t, .int .i64 l] 69)
  have B0 := Lib.hid ((Below.refl w.heap.size w).alloc (Nat.le_refl _) (.cells #[.int .i64 x, .int .i64 y, .int .i64 h, .int .i64 t, .int .i64 l] 69))
  have c0 := K0.out.cell (i := 0) rfl
  have c1 := K0.out.cell (i := 1) rfl
  have c2 := K0.out.cell (i := 2) rfl
  have c3 := K0.out.cell (i := 3) rfl
  have c4 := K0.out.cell (i := 4) rfl
  clear hlx hly hdx hdy hN9 hN hr hn hb hj hp hk HV
  go_enter Tryz.func90, Tryz.ntmps90
  go_wp2_with fail
  refine (CL.out _).mono ?_
  rintro e w1 ⟨rfl, hb1⟩
  have K1 := Lib.hid ((K0.out.below hb1).alloc (o := .cells #[.int .i64 lx, .int .i64 ly] 44))
  have B1a := B0.out.trans (hb1.mono B0.out.size)
  have KP := Bk.new w1 #[.int .i64 lx, .int .i64 ly] 44
  have p0 := KP.cell (i := 0) rfl
  have p1 := KP.cell (i := 1) rfl
  have B1 := Lib.hid (B1a.alloc B1a.size (.cells #[.int .i64 lx, .int .i64 ly] 44))
  clear hb1 K0 B0 CL c0 c1 c2 c3 c4 B1a KP
  go_wp2_with fail
  refine (CA.out _).mono ?_
  rintro e w2 ⟨rfl, hb2⟩
  have K2 := Lib.hid (K1.out.below hb2)
  have B2 := Lib.hid (B1.out.trans (hb2.mono B1.out.size))
  have CW2 := Lib.hid (CW.out _ B2.out)
  clear hb2 K1 B1 CA CW p0 p1
  go_wp2_with fail
  refine CW2.out.mono ?_
  rintro e w3 ⟨rfl, hb3⟩
  have K3 := Lib.hid (K2.out.below hb3)
  have B3 := Lib.hid (B2.out.trans (hb3.mono B2.out.size))
  clear hb3 K2 B2 CW2
  go_wp2_with fail
  refine (CB.out _).mono ?_
  rintro e w4 ⟨rfl, hb4⟩
  have K4 := Lib.hid (K3.out.below hb4)
  have B4 := Lib.hid (B3.out.trans (hb4.mono B3.out.size))
  have c0 := K4.out.cell (i := 0) rfl
  have c1 := K4.out.cell (i := 1) rfl
  have c2 := K4.out.cell (i := 2) rfl
  have c3 := K4.out.cell (i := 3) rfl
  have c4 := K4.out.cell (i := 4) rfl
  clear hb4 K3 B3 CB K4
  go_wp2_with fail
  refine (CF.out _).mono ?_
  rintro e w5 ⟨rfl, hb5⟩
  have B5 := Lib.hid (B4.out.trans (hb5.mono B4.out.size))
  clear hb5 B4 CF c0 c1 c2 c3 c4
  obtain ⟨d1, hd1⟩ : ∃ a, Meas.f32 dx = a := ⟨_, rfl⟩
  obtain ⟨d2, hd2⟩ : ∃ a, Meas.f32 dy = a := ⟨_, rfl⟩
  have ID := Lib.hid (show I32 dx d1 ∧ I32 dy d2 by rw [← hd1, ← hd2]; exact ⟨i32_f32 _, i32_f32 _⟩)
  obtain ⟨z1, hz1⟩ : ∃ a, Meas.f32 lx = a := ⟨_, rfl⟩
  obtain ⟨z2, hz2⟩ : ∃ a, Meas.f32 ly = a := ⟨_, rfl⟩
  have IZ := Lib.hid (show I32 (lx + ((0 : Nat) : Int) * dx) z1 ∧ I32 (ly + ((0 : Nat) : Int) * dy) z2 by rw [← hz1, ← hz2]; simp only [Int.natCast_zero, Int.zero_mul, Int.add_zero]; exact ⟨i32_f32 _, i32_f32 _⟩)
  simp only [hd1, hd2, hz1, hz2]
  clear hd1 hd2 hz1 hz2
  go_wp2_with fail
  go_loopw [9, 24] (fun v i wr => ∃ q : Nat, q ≤ N ∧ i = .int .i64 q ∧ (∃ a b, v = .complex .f32 a b ∧ Hid (I32 (lx + (q : Int) * dx) a ∧ I32 (ly + (q : Int) * dy) b)) ∧ Hid (Below w.heap.size w wr)) (fun _ i _ => N - (intOf i).toNat)
  case atStart => exact ⟨0, Nat.zero_le _, rfl, ⟨z1, z2, rfl, IZ⟩, B5⟩
  case round =>
    obtain ⟨q, hq, rfl, ⟨a, b, rfl, IK⟩, BK⟩ := hrel
    clear IZ B5
    by_cases hlt : q < N
    · have m1 := mul33 (n := q) (by omega) hwo.1
      have m2 := mul33 (n := q) (by omega) hwo.2
      obtain ⟨r1, r2, e2, k1, k2⟩ := csum (P := Tryz.prog) .add 1 (Or.inl ⟨rfl, rfl⟩) (a := lx + (q : Int) * dx) (b := ly + (q : Int) * dy) (c := dx) (d := dy) (by omega) (by omega) (by omega) (by omega) IK.out.1 IK.out.2 ID.out.1 ID.out.2
      have IN := Lib.hid (show I32 (lx + ((q + 1 : Nat) : Int) * dx) r1 ∧ I32 (ly + ((q + 1 : Nat) : Int) * dy) r2 by
        rw [show ((q + 1 : Nat) : Int) = (q : Int) + 1 by omega, Int.add_mul, Int.add_mul, ← Int.add_assoc, ← Int.add_assoc]
        exact ⟨k1, k2⟩)
      clear k1 k2 m1 m2 IK
      go_wp2_with fail
      go_roundw
      case rel => exact ⟨q + 1, by omega, by go_num, ⟨r1, r2, rfl, IN⟩, BK⟩
      case measure => simp [intOf]; omega
    · obtain rfl : N = q := by omega
      go_wp2_with fail
      go_ret
      exact ⟨⟨a, b, rfl, IK.out.1, IK.out.2⟩, BK.out⟩

/-- What wetHeading tells. -/
def wetHV : Option Nat → Value
  | some k => .tuple #[.int .i64 (k : Int), .bool true]
  | none => .tuple #[.int .i64 0, .bool false]
theorem find_at {f : Nat → Bool} {k : Nat} (hk : k < 4) (hf : f k = true) (h : ∀ j, j < k → f j = false) : [0, 1, 2, 3].find? f = some k := by
  match k, hk with
  | 0, _ => simp [List.find?, hf]
  | 1, _ => simp [List.find?, hf, h 0 (by omega)]
  | 2, _ => simp [List.find?, hf, h 0 (by omega), h 1 (by omega)]
  | 3, _ => simp [List.find?, hf, h 0 (by omega), h 1 (by omega), h 2 (by omega)]
theorem find_no {f : Nat → Bool} (h : ∀ j, j < 4 → f j = false) : [0, 1, 2, 3].find? f = none := by
  simp [List.find?, h 0 (by omega), h 1 (by omega), h 2 (by omega), h 3 (by omega)]

set_option maxRecDepth 100000 in
set_option maxHeartbeats 4000000 in
theorem wetHeading {jx jy h t l : Int} (A : Option Addr) (n c : Nat) (ps : List (Int × Int)) (x y z u : Int) (hj : jt jx jy h t l = true) (hp : rs ps = true) (hb : bx x y z u = true) (w : World) (hn : ps.length = n) (hnb : n ≤ 1048576) (hr : Rd w w.heap.size A (pls ps)) :
    Calls Tryz.prog 44 #[jv jx jy h t l, .slice A n c, .agg #[.int .i64 x, .int .i64 y, .int .i64 z, .int .i64 u]] w fun e w' => e = .returned (wetHV (wetH jx jy h t l ps x y z u)) ∧ Below w.heap.size w w' := by
  have hz1 : (w.alloc (.cells #[.int .i64 jx, .int .i64 jy, .int .i64 h, .int .i64 t, .int .i64 l] 69)).heap.size = w.heap.size + 1 := by simp [go_sem]
  have b0a := (Below.refl w.heap.size w).alloc (Nat.le_refl _) (.cells #[.int .i64 jx, .int .i64 jy, .int .i64 h, .int .i64 t, .int .i64 l] 69)
  have B0 := Lib.hid (b0a.alloc b0a.size (.cells #[.int .i64 x, .int .i64 y, .int .i64 z, .int .i64 u] 46))
  have KJ := Lib.hid ((Bk.new w #[.int .i64 jx, .int .i64 jy, .int .i64 h, .int .i64 t, .int .i64 l] 69).alloc (o := .cells #[.int .i64 x, .int .i64 y, .int .i64 z, .int .i64 u] 46))
  have KB := Bk.new (w.alloc (.cells #[.int .i64 jx, .int .i64 jy, .int .i64 h, .int .i64 t, .int .i64 l] 69)) #[.int .i64 x, .int .i64 y, .int .i64 z, .int .i64 u] 46
  rw [hz1] at KB
  have KB := Lib.hid KB
  obtain ⟨fw, hfw⟩ : ∃ f, wetK jx jy h t l ps x y z u = f := ⟨_, rfl⟩
  have HF := Lib.hid (fun (k : Nat) => (by rw [← hfw]; rfl : fw k = decide (sideV x y z u (k : Int) < wv (k : Int) (far jx jy h t l ps (k : Int)))))
  have hgoal : wetH jx jy h t l ps x y z u = [0, 1, 2, 3].find? fw := by unfold wetH; rw [hfw]
  rw [hgoal]
  have CF := Lib.hid (fun (k : Nat) (hk : k < 4) (W : World) (h9 : Below w.heap.size w W) => farthest A n c ps hj hp (hd_nat hk) W hn hnb ((hr.below h9).more h9.size))
  have CS := Lib.hid (fun (k : Nat) (hk : k < 4) (W : World) => sideOf hb (hd_nat hk) W)
  have HFL := Lib.hid (fun (k : Nat) => far_le hj hp (k : Int))
  have HSL := Lib.hid (show ∀ k : Nat, -8192 ≤ sideV x y z u (k : Int) ∧ sideV x y z u (k : Int) ≤ 8192 from fun k => by
    obtain ⟨⟨h1, h2⟩, h3, h4⟩ := bx_le hb
    have := wv_le (h := (k : Int)) h1 h2
    have := wv_le (h := (k : Int)) h3 h4
    unfold sideV; omega)
  have A0 := Lib.hid (show ∀ j, j < 0 → fw j = false from fun j h => by omega)
  clear hfw hgoal hj hp hb hn hnb hr b0a hz1
  go_enter Tryz.func44, Tryz.ntmps44
  go_wp2_with fail
  go_loopw [9] (fun i wr => ∃ k : Nat, k ≤ 4 ∧ i = .int .i64 k ∧ Hid (∀ j, j < k → fw j = false) ∧ Hid (Bk wr w.heap.size #[.int .i64 jx, .int .i64 jy, .int .i64 h, .int .i64 t, .int .i64 l] 69) ∧ Hid (Bk wr (w.heap.size + 1) #[.int .i64 x, .int .i64 y, .int .i64 z, .int .i64 u] 46) ∧ Hid (Below w.heap.size w wr)) (fun i _ => 4 - (intOf i).toNat)
  case atStart => exact ⟨0, Nat.zero_le _, rfl, A0, KJ, KB, B0⟩
  case round =>
    obtain ⟨k, hk, rfl, AK, KJ9, KB9, BK⟩ := hrel
    clear A0 KJ KB B0
    by_cases hlt : k < 4
    · have hk4 : (k : Int) < 4 := by omega
      have c0 := KJ9.out.cell (i := 0) rfl
      have c1 := KJ9.out.cell (i := 1) rfl
      have c2 := KJ9.out.cell (i := 2) rfl
      have c3 := KJ9.out.cell (i := 3) rfl
      have c4 := KJ9.out.cell (i := 4) rfl
      have d0 := KB9.out.cell (i := 0) rfl
      have d1 := KB9.out.cell (i := 1) rfl
      have d2 := KB9.out.cell (i := 2) rfl
      have d3 := KB9.out.cell (i := 3) rfl
      have hfl := HFL.out k
      have hsl := HSL.out k
      have hwl := wv_le (h := (k : Int)) hfl.1 hfl.2
      obtain ⟨fx, hfx⟩ : ∃ a, (far jx jy h t l ps (k : Int)).1 = a := ⟨_, rfl⟩
      obtain ⟨fy, hfy⟩ : ∃ a, (far jx jy h t l ps (k : Int)).2 = a := ⟨_, rfl⟩
      have efar : far jx jy h t l ps (k : Int) = (fx, fy) := by rw [← hfx, ← hfy]
      rw [efar] at hfl hwl
      obtain ⟨q, hq⟩ : ∃ q, fw k = q := ⟨_, rfl⟩
      have hq2 := Lib.hid (show q = decide (sideV x y z u (k : Int) < wv (k : Int) (fx, fy)) by rw [← hq, HF.out, efar])
      have hq := Lib.hid hq
      have CF9 := Lib.hid (fun (W : World) (h9 : Below w.heap.size w W) => (by have := CF.out k hlt W h9; rw [efar] at this; exact this))
      have CW9 := Lib.hid (fun (a b : Nat) (ha : I32 fx a) (hb : I32 fy b) (W : World) => wayW (hd_nat hlt) (x := fx) (y := fy) (by omega) ha hb W)
      have CS9 := Lib.hid (fun (W : World) => CS.out k hlt W)
      clear hfx hfy efar
      go_upto_region 4 with fail
      refine wp_region_noPanic ?_
      refine wp_region_held_drew (S := (fun w' => w'.cell? ⟨w.heap.size, 0, none⟩ = some (.int .i64 jx) ∧ w'.cell? ⟨w.heap.size, 1, none⟩ = some (.int .i64 jy) ∧ w'.cell? ⟨w.heap.size, 2, none⟩ = some (.int .i64 h) ∧ w'.cell? ⟨w.heap.size, 3, none⟩ = some (.int .i64 t) ∧ w'.cell? ⟨w.heap.size, 4, none⟩ = some (.int .i64 l) ∧ w'.cell? ⟨w.heap.size + 1, 0, none⟩ = some (.int .i64 x) ∧ w'.cell? ⟨w.heap.size + 1, 1, none⟩ = some (.int .i64 y) ∧ w'.cell? ⟨w.heap.size + 1, 2, none⟩ = some (.int .i64 z) ∧ w'.cell? ⟨w.heap.size + 1, 3, none⟩ = some (.int .i64 u) ∧ Bk w' w.heap.size #[.int .i64 jx, .int .i64 jy, .int .i64 h, .int .i64 t, .int .i64 l] 69 ∧ Bk w' (w.heap.size + 1) #[.int .i64 x, .int .i64 y, .int .i64 z, .int .i64 u] 46 ∧ Below w.heap.size w w')) (by kernel_rfl) ?_ (fun hH => ?_)
      · exact ⟨c0, c1, c2, c3, c4, d0, d1, d2, d3, KJ9.out.drew, KB9.out.drew, BK.out.drew⟩
      refine wpAnyH_take (i := 0) (oi := { dst := some 12, op := _, type := _, pos := _, after := _, guard := _ }) (v := ?_) rfl (by kernel_rfl) (by kernel_rfl) (by kernel_rfl) (fun _ _ _ h => h) (Or.inl ⟨by rfl, ?_⟩) hH ?_
      rotate_left 1
      · intro W hSw
        (try dsimp only at hSw)
        go_simp
        (try with_reducible rfl)
      try simp only [Act.put, List.setIfInBounds_toArray, List.set_cons_zero, List.set_cons_succ]
      refine wpAnyH_take (i := 1) (oi := { dst := some 13, op := _, type := _, pos := _, after := _, guard := _ }) (v := ?_) rfl (by kernel_rfl) (by kernel_rfl) (by kernel_rfl) (fun _ _ _ h => h) (Or.inl ⟨by rfl, ?_⟩) hH ?_
      rotate_left 1
      · intro W hSw
        (try dsimp only at hSw)
        go_simp
        (try with_reducible rfl)
      try simp only [Act.put, List.setIfInBounds_toArray, List.set_cons_zero, List.set_cons_succ]
      refine wpAnyH_take (i := 2) (oi := { dst := some 14, op := _, type := _, pos := _, after := _, guard := _ }) (v := ?_) rfl (by kernel_rfl) (by kernel_rfl) (by kernel_rfl) (fun _ _ _ h => h) (Or.inl ⟨by rfl, ?_⟩) hH ?_
      rotate_left 1
      · intro W hSw
        (try dsimp only at hSw)
        go_simp
        (try with_reducible rfl)
      try simp only [Act.put, List.setIfInBounds_toArray, List.set_cons_zero, List.set_cons_succ]
      refine wpAnyH_take (i := 4) (oi := { dst := some 16, op := _, type := _, pos := _, after := _, guard := _ }) (v := ?_) rfl (by kernel_rfl) (by kernel_rfl) (by kernel_rfl) (fun _ _ _ h => h) (Or.inl ⟨by rfl, ?_⟩) hH ?_
      rotate_left 1
      · intro W hSw
        (try dsimp only at hSw)
        go_simp
        (try with_reducible rfl)
      try simp only [Act.put, List.setIfInBounds_toArray, List.set_cons_zero, List.set_cons_succ]
      refine wpAnyH_take (i := 6) (oi := { dst := some 18, op := _, type := _, pos := _, after := _, guard := _ }) (v := ?_) rfl (by kernel_rfl) (by kernel_rfl) (by kernel_rfl) (fun _ _ _ h => h) (Or.inl ⟨by rfl, ?_⟩) hH ?_
      rotate_left 1
      · intro W hSw
        (try dsimp only at hSw)
        go_simp
        (try with_reducible rfl)
      try simp only [Act.put, List.setIfInBounds_toArray, List.set_cons_zero, List.set_cons_succ]
      refine wpAnyH_take (i := 7) (oi := { dst := some 19, op := _, type := _, pos := _, after := _, guard := _ }) (v := ?_) rfl (by kernel_rfl) (by kernel_rfl) (by kernel_rfl) (fun _ _ _ h => h) (Or.inl ⟨by rfl, ?_⟩) hH ?_
      rotate_left 1
      · intro W hSw
        (try dsimp only at hSw)
        go_simp
        (try with_reducible rfl)
      try simp only [Act.put, List.setIfInBounds_toArray, List.set_cons_zero, List.set_cons_succ]
      refine wpAnyH_ready (rs := [3]) (by kernel_rfl) (by simp) (AllReadyH.cons rfl (fun K hK => ?_) AllReadyH.nil)
      go_simp
      go_at_call 90; ((with_reducible refine (CF9.out _ hH.2.2.2.2.2.2.2.2.2.2.2).mono ?_); rintro e9 r1 ⟨⟨za, zb, rfl, ja, jb⟩, hb1⟩); go_wp2_with fail
      refine hK.out _ _ ?_ (fun hG => ?_)
      · exact ⟨cell_below hb1 hH.1, cell_below hb1 hH.2.1, cell_below hb1 hH.2.2.1, cell_below hb1 hH.2.2.2.1, cell_below hb1 hH.2.2.2.2.1, cell_below hb1 hH.2.2.2.2.2.1, cell_below hb1 hH.2.2.2.2.2.2.1, cell_below hb1 hH.2.2.2.2.2.2.2.1, cell_below hb1 hH.2.2.2.2.2.2.2.2.1, hH.2.2.2.2.2.2.2.2.2.1.below hb1, hH.2.2.2.2.2.2.2.2.2.2.1.below hb1, hH.2.2.2.2.2.2.2.2.2.2.2.trans (hb1.mono hH.2.2.2.2.2.2.2.2.2.2.2.size)⟩
      replace hH := hG
      clear hK K hG
      try simp only [Act.put, List.setIfInBounds_toArray, List.set_cons_zero, List.set_cons_succ]
      refine wpAnyH_ready (rs := [5]) (by kernel_rfl) (by simp) (AllReadyH.cons rfl (fun K hK => ?_) AllReadyH.nil)
      go_simp
      go_at_call 89; ((with_reducible refine (CW9.out za zb ja jb _).mono ?_); rintro e9 r2 ⟨⟨rw9, rfl, jw⟩, hb2⟩); go_wp2_with fail
      refine hK.out _ _ ?_ (fun hG => ?_)
      · exact ⟨cell_below hb2 hH.1, cell_below hb2 hH.2.1, cell_below hb2 hH.2.2.1, cell_below hb2 hH.2.2.2.1, cell_below hb2 hH.2.2.2.2.1, cell_below hb2 hH.2.2.2.2.2.1, cell_below hb2 hH.2.2.2.2.2.2.1, cell_below hb2 hH.2.2.2.2.2.2.2.1, cell_below hb2 hH.2.2.2.2.2.2.2.2.1, hH.2.2.2.2.2.2.2.2.2.1.below hb2, hH.2.2.2.2.2.2.2.2.2.2.1.below hb2, hH.2.2.2.2.2.2.2.2.2.2.2.trans (hb2.mono hH.2.2.2.2.2.2.2.2.2.2.2.size)⟩
      replace hH := hG
      clear hK K hG
      try simp only [Act.put, List.setIfInBounds_toArray, List.set_cons_zero, List.set_cons_succ]
      refine wpAnyH_ready (rs := [8]) (by kernel_rfl) (by simp) (AllReadyH.cons rfl (fun K hK => ?_) AllReadyH.nil)
      go_simp
      go_at_call 91; ((with_reducible refine (CS9.out _).mono ?_); rintro e9 r3 ⟨⟨rs9, rfl, js⟩, hb3⟩); have hgt := gt_w hq2.out (by omega) hsl jw js; go_wp2_with fail
      refine hK.out _ _ ?_ (fun hG => ?_)
      · exact ⟨cell_below hb3 hH.1, cell_below hb3 hH.2.1, cell_below hb3 hH.2.2.1, cell_below hb3 hH.2.2.2.1, cell_below hb3 hH.2.2.2.2.1, cell_below hb3 hH.2.2.2.2.2.1, cell_below hb3 hH.2.2.2.2.2.2.1, cell_below hb3 hH.2.2.2.2.2.2.2.1, cell_below hb3 hH.2.2.2.2.2.2.2.2.1, hH.2.2.2.2.2.2.2.2.2.1.below hb3, hH.2.2.2.2.2.2.2.2.2.2.1.below hb3, hH.2.2.2.2.2.2.2.2.2.2.2.trans (hb3.mono hH.2.2.2.2.2.2.2.2.2.2.2.size)⟩
      replace hH := hG
      clear hK K hG
      try simp only [Act.put, List.setIfInBounds_toArray, List.set_cons_zero, List.set_cons_succ]
      refine wpAnyH_take (i := 9) (oi := { dst := some 21, op := _, type := _, pos := _, after := _, guard := _ }) (v := ?_) rfl (by kernel_rfl) (by kernel_rfl) (by kernel_rfl) (fun _ _ _ h => h) (Or.inl ⟨by rfl, ?_⟩) hH ?_
      rotate_left 1
      · intro W hSw
        (try dsimp only at hSw)
        go_simp
        (try with_reducible rfl)
      try simp only [Act.put, List.setIfInBounds_toArray, List.set_cons_zero, List.set_cons_succ]
      refine wpAnyH_done (by kernel_rfl) ?_ _
      refine NoPanic.normal ?_
      have KJX := Lib.hid hH.2.2.2.2.2.2.2.2.2.1
      have KBX := Lib.hid hH.2.2.2.2.2.2.2.2.2.2.1
      have BX := Lib.hid hH.2.2.2.2.2.2.2.2.2.2.2
      have HQ := hq
      clear hH hb1 hb2 hb3 hgt jw js ja jb hq hq2 CF9 CW9 CS9 KJ9 KB9 BK c0 c1 c2 c3 c4 d0 d1 d2 d3
      cases q
      · have AN := Lib.hid (show ∀ j, j < k + 1 → fw j = false from fun j hj => by
          by_cases e : j = k
          · subst e; exact HQ.out
          · exact AK.out j (by omega))
        clear AK HQ
        go_wp2_with fail
        go_roundw
        case rel => first | exact ⟨k + 1, by omega, by go_num, AN, KJX, KBX, BX⟩ | ((repeat apply Exists.intro); exact ⟨⟨k + 1, by omega, by go_num, AN, KJX, KBX, BX⟩, rfl⟩)
        case measure => simp [intOf]; omega
      · have HV := Lib.hid (find_at hlt HQ.out AK.out)
        clear KJX KBX
        go_wp2_with fail
        go_returns
        exact ⟨by rw [HV.out]; rfl, BX.out⟩
    · obtain rfl : k = 4 := by omega
      have HV := Lib.hid (find_no AK.out)
      clear KJ9 KB9
      go_wp2_with fail
      go_returns
      exact ⟨by rw [HV.out]; rfl, BK.out⟩
end Go.Proofs.YtokncfhpmjohdaaGreat.Fa10
