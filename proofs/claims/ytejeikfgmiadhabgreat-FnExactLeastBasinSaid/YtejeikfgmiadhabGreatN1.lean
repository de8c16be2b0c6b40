/- Where the drops of a jet can land for a rose, in numbers: how far to each side, and the box of it. -/
import Derived.Test.YtejeikfgmiadhabGreatWz
import Derived.Test.YtejeikfgmiadhabGreatM32
import Derived.Test.YtejeikfgmiadhabGreatM23
import Derived.Test.YtejeikfgmiadhabGreatM33
import Derived.Deep.RegionHeld3
import Derived.Test.YtejeikfgmiadhabGreatM24
import Derived.Test.YtejeikfgmiadhabGreatM4
import Derived.Test.YtejeikfgmiadhabGreatM31
import Derived.Test.YtejeikfgmiadhabGreatN2
import Derived.Test.YtejeikfgmiadhabGreatSw9
import Derived.Test.YtejeikfgmiadhabGreatM30
import Derived.Maps.AppendAt
set_option linter.unusedVariables false
set_option linter.unusedSimpArgs false
namespace Go.Proofs.YtejeikfgmiadhabGreat.Fw10
open Go.RowKit Go.Proofs.YtejeikfgmiadhabGreat.Mem Go.Proofs.YtejeikfgmiadhabGreat.Jt Go.Proofs.YtejeikfgmiadhabGreat.Pl
open Go.Proofs.YtejeikfgmiadhabGreat.Wm hiding G
open Go.Proofs.YtejeikfgmiadhabGreat.Wx Go.Proofs.YtejeikfgmiadhabGreat.Wy Go.Proofs.YtejeikfgmiadhabGreat.Wz
open Go.Proofs.YtejeikfgmiadhabGreat.Bo (Q4 boxA)
open Go.Proofs.YtejeikfgmiadhabGreat.Wr (rs rs_len rs_each)
open Go.Proofs.YtejeikfgmiadhabGreat.Dp (wy wy_le)
open Go.Proofs.YtejeikfgmiadhabGreat.Bxi (bx ib)
set_option linter.unusedVariables false
set_option linter.unusedSimpArgs false

def inQ (q : Q4) (p : Int × Int) : Prop := q.1 ≤ p.1 ∧ q.2.1 ≤ p.2 ∧ p.1 ≤ q.2.2.1 ∧ p.2 ≤ q.2.2.2
theorem in_step (ps : List (Int × Int)) : ∀ q : Q4, ((ps.foldl Bo.step q).1 ≤ q.1 ∧ (ps.foldl Bo.step q).2.1 ≤ q.2.1 ∧ q.2.2.1 ≤ (ps.foldl Bo.step q).2.2.1 ∧ q.2.2.2 ≤ (ps.foldl Bo.step q).2.2.2) ∧ ∀ p ∈ ps, inQ (ps.foldl Bo.step q) p := by
  induction ps with
  | nil => intro q; exact ⟨⟨Int.le_refl _, Int.le_refl _, Int.le_refl _, Int.le_refl _⟩, fun p h => by cases h⟩
  | cons a ps ih =>
    intro q
    rw [List.foldl_cons]
    obtain ⟨⟨a1, a2, a3, a4⟩, h⟩ := ih (Bo.step q a)
    generalize ps.foldl Bo.step (Bo.step q a) = F at *
    have e1 : (Bo.step q a).1 = min q.1 a.1 := rfl
    have e2 : (Bo.step q a).2.1 = min q.2.1 a.2 := rfl
    have e3 : (Bo.step q a).2.2.1 = max q.2.2.1 a.1 := rfl
    have e4 : (Bo.step q a).2.2.2 = max q.2.2.2 a.2 := rfl
    rw [e1] at a1; rw [e2] at a2; rw [e3] at a3; rw [e4] at a4
    refine ⟨⟨by omega, by omega, by omega, by omega⟩, fun p hp => ?_⟩
    rcases List.mem_cons.1 hp with e | e
    · subst e
      exact ⟨by omega, by omega, by omega, by omega⟩
    · exact h p e
theorem in_box {ps : List (Int × Int)} {p : Int × Int} (h : p ∈ ps) : inQ (boxA ps) p := by
  cases ps with
  | nil => cases h
  | cons a ps =>
    obtain ⟨⟨a1, a2, a3, a4⟩, k⟩ := in_step ps (Bo.one a)
    rcases List.mem_cons.1 h with e | e
    · subst e; exact ⟨a1, a2, a3, a4⟩
    · exact k p e
theorem wv0 (p : Int × Int) : wv 0 p = p.1 := rfl
theorem wv1 (p : Int × Int) : wv 1 p = p.2 := rfl
theorem wv2 (p : Int × Int) : wv 2 p = -p.1 := rfl
theorem wv3 (p : Int × Int) : wv 3 p = -p.2 := rfl
theorem fold_par (f : Q4 → Int) (g : Int × Int → Int) (h : Int) (H : ∀ q b p, f q = g b → f (Bo.step q p) = g (wstep h b p)) (ps : List (Int × Int)) :
    ∀ q b, f q = g b → f (ps.foldl Bo.step q) = g (ps.foldl (wstep h) b) := by
  induction ps with
  | nil => intro q b e; exact e
  | cons p ps ih => intro q b e; rw [List.foldl_cons, List.foldl_cons]; exact ih _ _ (H q b p e)
theorem box_side (f : Q4 → Int) (g : Int × Int → Int) (h : Int) (H : ∀ q b p, f q = g b → f (Bo.step q p) = g (wstep h b p)) (h1 : ∀ p, f (Bo.one p) = g p) {ps : List (Int × Int)} (hp : 1 ≤ ps.length) : f (boxA ps) = g (wor h ps) := by
  cases ps with
  | nil => simp at hp
  | cons p ps => exact fold_par f g h H ps _ _ (h1 p)
theorem sides {ps : List (Int × Int)} (hp : 1 ≤ ps.length) :
    (boxA ps).2.2.1 = (wor 0 ps).1 ∧ (boxA ps).2.2.2 = (wor 1 ps).2 ∧ (boxA ps).1 = (wor 2 ps).1 ∧ (boxA ps).2.1 = (wor 3 ps).2 := by
  refine ⟨box_side (fun q => q.2.2.1) (fun p => p.1) 0 ?_ (fun _ => rfl) hp, box_side (fun q => q.2.2.2) (fun p => p.2) 1 ?_ (fun _ => rfl) hp, box_side (fun q => q.1) (fun p => p.1) 2 ?_ (fun _ => rfl) hp, box_side (fun q => q.2.1) (fun p => p.2) 3 ?_ (fun _ => rfl) hp⟩
  · intro q b p e
    show max q.2.2.1 p.1 = (wstep 0 b p).1
    have e : q.2.2.1 = b.1 := e
    unfold wstep; rw [wv0, wv0]; split <;> omega
  · intro q b p e
    show max q.2.2.2 p.2 = (wstep 1 b p).2
    have e : q.2.2.2 = b.2 := e
    unfold wstep; rw [wv1, wv1]; split <;> omega
  · intro q b p e
    show min q.1 p.1 = (wstep 2 b p).1
    have e : q.1 = b.1 := e
    unfold wstep; rw [wv2, wv2]; split <;> omega
  · intro q b p e
    show min q.2.1 p.2 = (wstep 3 b p).2
    have e : q.2.1 = b.2 := e
    unfold wstep; rw [wv3, wv3]; split <;> omega

theorem fold_in {h : Int} (ps : List (Int × Int)) : ∀ b, ps.foldl (wstep h) b = b ∨ ps.foldl (wstep h) b ∈ ps := by
  induction ps with
  | nil => intro b; exact Or.inl rfl
  | cons p ps ih =>
    intro b
    rw [List.foldl_cons]
    rcases ih (wstep h b p) with e | e
    · rw [e]
      unfold wstep
      split
      · exact Or.inr (List.mem_cons_self ..)
      · exact Or.inl rfl
    · exact Or.inr (List.mem_cons_of_mem _ e)
theorem wor_in {h : Int} {ps : List (Int × Int)} (hp : 1 ≤ ps.length) : wor h ps ∈ ps := by
  cases ps with
  | nil => simp at hp
  | cons p ps =>
    rcases fold_in (h := h) ps p with e | e
    · show ps.foldl (wstep h) p ∈ p :: ps
      rw [e]; exact List.mem_cons_self ..
    · exact List.mem_cons_of_mem _ e


/-- How many ticks a drop flies. -/
def nN (l : Int) : Nat := (l + 1).toNat
/-- Where it lands without a wind. -/
def land (x y h t l : Int) : Int × Int := (wy x (tx h.toNat t 0) (nN l), wy y (ty h.toNat t 0) (nN l))
/-- Where it lands when the worst drift of a heading blows at all ticks. -/
def far (x y h t l : Int) (ps : List (Int × Int)) (k : Int) : Int × Int := ((land x y h t l).1 + (nN l : Int) * (wor k ps).1, (land x y h t l).2 + (nN l : Int) * (wor k ps).2)
/-- The box of all places where it can land. -/
def lbox (x y h t l : Int) (ps : List (Int × Int)) : Q4 := ((land x y h t l).1 + (nN l : Int) * (boxA ps).1, (land x y h t l).2 + (nN l : Int) * (boxA ps).2.1, (land x y h t l).1 + (nN l : Int) * (boxA ps).2.2.1, (land x y h t l).2 + (nN l : Int) * (boxA ps).2.2.2)
theorem nN_le {x y h t l : Int} (hj : jt x y h t l = true) : (nN l : Int) = l + 1 ∧ nN l ≤ 33 := by
  have := (jt_iff.1 hj).2.2.2.2
  unfold nN; omega
theorem tx_le {h t : Int} (hh : 0 ≤ h ∧ h ≤ 3) (ht : 0 ≤ t ∧ t ≤ 16) : (-16 ≤ tx h.toNat t 0 ∧ tx h.toNat t 0 ≤ 16) ∧ (-16 ≤ ty h.toNat t 0 ∧ ty h.toNat t 0 ≤ 16) := by
  have : h.toNat = 0 ∨ h.toNat = 1 ∨ h.toNat = 2 ∨ h.toNat = 3 := by omega
  rcases this with e | e | e | e
  all_goals
    rw [e]
    simp only [tx, ty]
    omega
theorem land_le {x y h t l : Int} (hj : jt x y h t l = true) : (-1552 ≤ (land x y h t l).1 ∧ (land x y h t l).1 ≤ 1552) ∧ (-1552 ≤ (land x y h t l).2 ∧ (land x y h t l).2 ≤ 1552) := by
  obtain ⟨hx, hy, hh, ht, _⟩ := jt_iff.1 hj
  have := tx_le hh ht
  have hn := (nN_le hj).2
  exact ⟨wy_le hx this.1 hn, wy_le hy this.2 hn⟩
theorem mul33 {n : Nat} {a : Int} (hn : n ≤ 33) (ha : -8 ≤ a ∧ a ≤ 8) : -264 ≤ (n : Int) * a ∧ (n : Int) * a ≤ 264 := by
  have h1 := Int.mul_le_mul_of_nonneg_left (c := (n : Int)) ha.1 (by omega)
  have h2 := Int.mul_le_mul_of_nonneg_left (c := (n : Int)) ha.2 (by omega)
  omega
theorem rose_in {ps : List (Int × Int)} (hr : rs ps = true) {p : Int × Int} (hp : p ∈ ps) : (-8 ≤ p.1 ∧ p.1 ≤ 8) ∧ (-8 ≤ p.2 ∧ p.2 ≤ 8) := by
  obtain ⟨k, hk, rfl⟩ := List.getElem_of_mem hp
  exact rs_each hr (List.getElem?_eq_getElem hk)
theorem wor_mem {ps : List (Int × Int)} (hr : rs ps = true) (k : Int) : wor k ps ∈ ps := wor_in (rs_len hr).1
theorem wor_le {ps : List (Int × Int)} (hr : rs ps = true) (k : Int) : (-8 ≤ (wor k ps).1 ∧ (wor k ps).1 ≤ 8) ∧ (-8 ≤ (wor k ps).2 ∧ (wor k ps).2 ≤ 8) := rose_in hr (wor_mem hr k)
theorem far_le {x y h t l : Int} {ps : List (Int × Int)} (hj : jt x y h t l = true) (hr : rs ps = true) (k : Int) : (-1816 ≤ (far x y h t l ps k).1 ∧ (far x y h t l ps k).1 ≤ 1816) ∧ (-1816 ≤ (far x y h t l ps k).2 ∧ (far x y h t l ps k).2 ≤ 1816) := by
  have h1 := land_le hj
  have h2 := wor_le hr k
  have h3 := mul33 (nN_le hj).2 h2.1
  have h4 := mul33 (nN_le hj).2 h2.2
  unfold far; simp only; omega
/-- What the worst drifts do, times the ticks. -/
theorem far_rel {ps : List (Int × Int)} (hr : rs ps = true) (n : Nat) (k : Int) : (n : Int) * (boxA ps).1 ≤ (n : Int) * (wor k ps).1 ∧ (n : Int) * (wor k ps).1 ≤ (n : Int) * (boxA ps).2.2.1 ∧ (n : Int) * (boxA ps).2.1 ≤ (n : Int) * (wor k ps).2 ∧ (n : Int) * (wor k ps).2 ≤ (n : Int) * (boxA ps).2.2.2 := by
  obtain ⟨a1, a2, a3, a4⟩ := in_box (wor_mem hr k)
  exact ⟨Int.mul_le_mul_of_nonneg_left a1 (by omega), Int.mul_le_mul_of_nonneg_left a3 (by omega), Int.mul_le_mul_of_nonneg_left a2 (by omega), Int.mul_le_mul_of_nonneg_left a4 (by omega)⟩
theorem far_box {x y h t l : Int} {ps : List (Int × Int)} (hr : rs ps = true) : boxA [far x y h t l ps 0, far x y h t l ps 1, far x y h t l ps 2, far x y h t l ps 3] = lbox x y h t l ps := by
  obtain ⟨s1, s2, s3, s4⟩ := sides (rs_len hr).1
  have r0 := far_rel hr (nN l) 0
  have r1 := far_rel hr (nN l) 1
  have r2 := far_rel hr (nN l) 2
  have r3 := far_rel hr (nN l) 3
  unfold lbox far
  rw [s1, s2, s3, s4] at *
  simp only [boxA, List.foldl, Bo.step, Bo.one, Prod.mk.injEq]
  omega
theorem lbox_le {x y h t l : Int} {ps : List (Int × Int)} (hj : jt x y h t l = true) (hr : rs ps = true) : ((-1816 ≤ (lbox x y h t l ps).1 ∧ (lbox x y h t l ps).1 ≤ 1816) ∧ (-1816 ≤ (lbox x y h t l ps).2.1 ∧ (lbox x y h t l ps).2.1 ≤ 1816)) ∧ (-1816 ≤ (lbox x y h t l ps).2.2.1 ∧ (lbox x y h t l ps).2.2.1 ≤ 1816) ∧ (-1816 ≤ (lbox x y h t l ps).2.2.2 ∧ (lbox x y h t l ps).2.2.2 ≤ 1816) := by
  obtain ⟨s1, s2, s3, s4⟩ := sides (rs_len hr).1
  have r0 := (far_le hj hr 0).1
  have r1 := (far_le hj hr 1).2
  have r2 := (far_le hj hr 2).1
  have r3 := (far_le hj hr 3).2
  unfold far at r0 r1 r2 r3
  unfold lbox
  rw [s1, s2, s3, s4]
  simp only at *
  omega

/-- How far a box goes in the direction of a heading. -/
def sideV (x y z u : Int) (k : Int) : Int := max (wv k (x, y)) (wv k (z, u))
/-- Whether a drop can land outside of a box, on the side of a heading. -/
def wetK (jx jy h t l : Int) (ps : List (Int × Int)) (x y z u : Int) (k : Nat) : Bool := decide (sideV x y z u (k : Int) < wv (k : Int) (far jx jy h t l ps (k : Int)))
/-- The first heading on whose side it can. -/
def wetH (jx jy h t l : Int) (ps : List (Int × Int)) (x y z u : Int) : Option Nat := [0, 1, 2, 3].find? (wetK jx jy h t l ps x y z u)
/-- Whether it can land in the box only. -/
def within (q : Q4) (x y z u : Int) : Bool := ib x y z u q.1 q.2.1 && ib x y z u q.2.2.1 q.2.2.2
end Go.Proofs.YtejeikfgmiadhabGreat.Fw10
namespace Go.Proofs.YtejeikfgmiadhabGreat.Fa10
open Go.RowKit Go.ChangeShapes Go.WideShapes Go.WideElems Go.Deep Go.Proofs.YtejeikfgmiadhabGreat.Mem Go.Proofs.YtejeikfgmiadhabGreat.Rw Go.Proofs.YtejeikfgmiadhabGreat.P2 Go.Proofs.YtejeikfgmiadhabGreat.Bk Go.Proofs.YtejeikfgmiadhabGreat.Jt Go.Proofs.YtejeikfgmiadhabGreat.Cm Go.Proofs.YtejeikfgmiadhabGreat.Cx Go.Proofs.YtejeikfgmiadhabGreat.Pl Go.Proofs.YtejeikfgmiadhabGreat.Hd Go.Proofs.YtejeikfgmiadhabGreat.Str
open Go.Proofs.YtejeikfgmiadhabGreat.Wz Go.Proofs.YtejeikfgmiadhabGreat.Fw10
open Go.Proofs.YtejeikfgmiadhabGreat.Wr (rs)
open Go.Proofs.YtejeikfgmiadhabGreat.Pls (pls)
open Go.Proofs.YtejeikfgmiadhabGreat.Bo (boxA)
open Go.Proofs.YtejeikfgmiadhabGreat.Bxi (bx ib)
open Go.Proofs.YtejeikfgmiadhabGreat.Dp (landV landI flightI fl_yes inF_iff told2_yes told2_no)
set_option linter.unusedVariables false
set_option linter.unusedSimpArgs false

theorem complexW (x y : Int) (hx : x.natAbs < 16777216) (hy : y.natAbs < 16777216) (w : World) : Calls Tryz.prog 108 #[.agg #[.int .i64 x, .int .i64 y]] w fun e w' => e = .returned (.complex .f32 (Meas.f32 x) (Meas.f32 y)) ∧ Below w.heap.size w w' :=
  (Pw.complexOf x y hx hy w).mono fun e w9 ⟨h1, h2⟩ => ⟨h1, by rw [h2]; exact ((Below.refl _ _).alloc (Nat.le_refl _) _).drew⟩
theorem gt_w {V U : Int} {b : Bool} (hb : b = decide (U < V)) (hV : -8192 ≤ V ∧ V ≤ 8192) (hU : -8192 ≤ U ∧ U ≤ 8192) {r s : Nat} (h1 : I32 V r) (h2 : I32 U s) : (FloatKind.f32.format.order r s == some Ordering.gt) = b := by
  subst hb
  have : FloatKind.f32.format.order r s = some (compare V U) := order_is (s32 V (by omega)) (s32 U (by omega)) h1 h2
  rw [this]
  by_cases h : U < V
  · rw [decide_eq_true h]
    have e : compare V U = .gt := Meas.cmp_gt h
    rw [e]; rfl
  · rw [decide_eq_false h]
    rcases Int.lt_or_eq_of_le (Int.not_lt.1 h) with h | h
    · rw [Meas.cmp_lt h]; rfl
    · subst h; rw [Meas.cmp_eq rfl]; rfl
set_option maxRecDepth 100000 in
set_option maxHeartbeats 2000000 in
theorem wayW {x y h : Int} {p q : Nat} (hh : hd h = true) (hx : (-8192 ≤ x ∧ x ≤ 8192) ∧ (-8192 ≤ y ∧ y ≤ 8192)) (hp : I32 x p) (hq : I32 y q) (w : World) :
    Calls Tryz.prog 104 #[.complex .f32 p q, .int .i64 h] w fun e w' => (∃ r, e = .returned (.float .f32 r) ∧ I32 (wv h (x, y)) r) ∧ Below w.heap.size w w' := by
  obtain ⟨h0, h3⟩ := hd_yes hh
  have U := Lib.hid units
  have n0 : ∀ W, (Op.unary .neg (.float .f32 0)).run Tryz.prog W = .ok (.float .f32 2147483648) W := fun W => by rfl
  have n1 : ∀ W, (Op.unary .neg (.float .f32 1065353216)).run Tryz.prog W = .ok (.float .f32 3212836864) W := fun W => by rfl
  have n2 : ∀ W, (Op.unary .neg (.float .f32 3212836864)).run Tryz.prog W = .ok (.float .f32 1065353216) W := fun W => by rfl
  obtain ⟨r0, i0, M0, j0, k0⟩ := cmul (P := Tryz.prog) (a := x) (b := y) (c := 1) (d := 0) (by omega) (by omega) (by decide) (by decide) hp hq u32_1 u32_m0
  obtain ⟨r1, i1, M1, j1, k1⟩ := cmul (P := Tryz.prog) (a := x) (b := y) (c := 0) (d := -1) (by omega) (by omega) (by decide) (by decide) hp hq u32_0 u32_m1
  obtain ⟨r2, i2, M2, j2, k2⟩ := cmul (P := Tryz.prog) (a := x) (b := y) (c := -1) (d := 0) (by omega) (by omega) (by decide) (by decide) hp hq u32_m1 u32_m0
  obtain ⟨r3, i3, M3, j3, k3⟩ := cmul (P := Tryz.prog) (a := x) (b := y) (c := 0) (d := 1) (by omega) (by omega) (by decide) (by decide) hp hq u32_0 u32_1
  have J0 := Lib.hid (show I32 (wv 0 (x, y)) r0 by show I32 x r0; rw [show x = x * 1 - y * 0 by omega]; exact j0)
  have J1 := Lib.hid (show I32 (wv 1 (x, y)) r1 by show I32 y r1; rw [show y = x * 0 - y * -1 by omega]; exact j1)
  have J2 := Lib.hid (show I32 (wv 2 (x, y)) r2 by show I32 (-x) r2; rw [show -x = x * -1 - y * 0 by omega]; exact j2)
  have J3 := Lib.hid (show I32 (wv 3 (x, y)) r3 by show I32 (-y) r3; rw [show -y = x * 0 - y * 1 by omega]; exact j3)
  clear j0 j1 j2 j3 k0 k1 k2 k3 hx hh hp hq
  have hc : h = 0 ∨ h = 1 ∨ h = 2 ∨ h = 3 := by omega
  clear h0 h3
  rcases hc with rfl | rfl | rfl | rfl
  · go_enter Tryz.func104, Tryz.ntmps104
    go_wp2_with fail
    refine (U.out _).mono ?_
    rintro e w' ⟨rfl, rfl⟩
    go_wp2_with fail
    go_ret
    exact ⟨⟨_, rfl, J0.out⟩, by go_grown⟩
  · go_enter Tryz.func104, Tryz.ntmps104
    go_wp2_with fail
    refine (U.out _).mono ?_
    rintro e w' ⟨rfl, rfl⟩
    go_wp2_with fail
    go_ret
    exact ⟨⟨_, rfl, J1.out⟩, by go_grown⟩
  · go_enter Tryz.func104, Tryz.ntmps104
    go_wp2_with fail
    refine (U.out _).mono ?_
    rintro e w' ⟨rfl, rfl⟩
    go_wp2_with fail
    go_ret
    exact ⟨⟨_, rfl, J2.out⟩, by go_grown⟩
  · go_enter Tryz.func104, Tryz.ntmps104
    go_wp2_with fail
    refine (U.out _).mono ?_
    rintro e w' ⟨rfl, rfl⟩
    go_wp2_with fail
    go_ret
    exact ⟨⟨_, rfl, J3.out⟩, by go_grown⟩
theorem wv_le {h x y B : Int} (hx : -B ≤ x ∧ x ≤ B) (hy : -B ≤ y ∧ y ≤ B) : -B ≤ wv h (x, y) ∧ wv h (x, y) ≤ B := Pw.txle hx hy
theorem ms_le {x : Int} (h : ms x = true) : -4096 ≤ x ∧ x ≤ 4096 := by
  unfold ms at h
  simp only [Bool.and_eq_true, decide_eq_true_eq] at h
  exact h
theorem bx_le {x y z u : Int} (h : bx x y z u = true) : ((-4096 ≤ x ∧ x ≤ 4096) ∧ (-4096 ≤ y ∧ y ≤ 4096)) ∧ (-4096 ≤ z ∧ z ≤ 4096) ∧ (-4096 ≤ u ∧ u ≤ 4096) := by
  unfold bx at h
  simp only [Bool.and_eq_true] at h
  exact ⟨⟨ms_le h.1.1.1.1, ms_le h.1.1.1.2⟩, ms_le h.1.1.2.1, ms_le h.1.1.2.2⟩
theorem hd_nat {k : Nat} (h : k < 4) : hd (k : Int) = true := by
  match k, h with
  | 0, _ => rfl
  | 1, _ => rfl
  | 2, _ => rfl
  | 3, _ => rfl
theorem landV_yes {x y h t l : Int} (hj : jt x y h t l = true) : landV x y h t l = .tuple #[.agg #[.int .i64 (land x y h t l).1, .int .i64 (land x y h t l).2], .bool true] := by
  have hl := (jt_iff.1 hj).2.2.2.2
  unfold landV
  rw [fl_yes hj, told2_yes (inF_iff.2 ⟨hj, by omega, by omega⟩)]
  rfl

set_option maxRecDepth 100000 in
set_option maxHeartbeats 4000000 in
theorem sideOf {x y z u k : Int} (hb : bx x y z u = true) (hk : hd k = true) (w : World) :
    Calls Tryz.prog 105 #[.agg #[.int .i64 x, .int .i64 y, .int .i64 z, .int .i64 u], .int .i64 k] w fun e w' => (∃ r, e = .returned (.float .f32 r) ∧ I32 (sideV x y z u k) r) ∧ Below w.heap.size w w' := by
  obtain ⟨⟨h1, h2⟩, h3, h4⟩ := bx_le hb
  have CA := Lib.hid (fun (W : World) => complexW x y (by omega) (by omega) W)
  have CB := Lib.hid (fun (W : World) => complexW z u (by omega) (by omega) W)
  have WA := Lib.hid (fun (W : World) => wayW hk (x := x) (y := y) (by omega) (i32_f32 x) (i32_f32 y) W)
  have WB := Lib.hid (fun (W : World) => wayW hk (x := z) (y := u) (by omega) (i32_f32 z) (i32_f32 u) W)
  have la := wv_le (h := k) h1 h2
  have lb := wv_le (h := k) h3 h4
  have KB := Bk.new w #[.int .i64 x, .int .i64 y, .int .i64 z, .int .i64 u] 33
  have c0 := KB.cell (i := 0) rfl
  have c1 := KB.cell (i := 1) rfl
  have c2 := KB.cell (i := 2) rfl
  have c3 := KB.cell (i := 3) rfl
  have B0 := Lib.hid ((Below.refl w.heap.size w).alloc (Nat.le_refl _) (.cells #[.int .i64 x, .int .i64 y, .int .i64 z, .int .i64 u] 33))
  have hu : undef = Value.tuple #[] := rfl
  clear h1 h2 h3 h4 hb hk KB
  go_enter Tryz.func105, Tryz.ntmps105
  go_wp2_with fail
  refine wp_region_noPanic ?_
  refine wp_region_held_drew (S := (fun w' => w'.cell? ⟨w.heap.size, 0, none⟩ = some (.int .i64 x) ∧ w'.cell? ⟨w.heap.size, 1, none⟩ = some (.int .i64 y) ∧ w'.cell? ⟨w.heap.size, 2, none⟩ = some (.int .i64 z) ∧ w'.cell? ⟨w.heap.size, 3, none⟩ = some (.int .i64 u) ∧ Below w.heap.size w w')) (by kernel_rfl) ?_ (fun hH => ?_)
  · exact ⟨c0, c1, c2, c3, B0.out.drew⟩
  refine wpAnyH_take (i := 0) (oi := { dst := some 5, op := _, type := _, pos := _, after := _, guard := _ }) (v := ?_) rfl (by kernel_rfl) (by kernel_rfl) (by kernel_rfl) (fun _ _ _ h => h) (Or.inl ⟨by rfl, ?_⟩) hH ?_
  rotate_left 1
  · intro W hSw
    (try dsimp only at hSw)
    go_simp
    (try with_reducible rfl)
  try simp only [Act.put, List.setIfInBounds_toArray, List.set_cons_zero, List.set_cons_succ]
  refine wpAnyH_take (i := 1) (oi := { dst := some 6, op := _, type := _, pos := _, after := _, guard := _ }) (v := ?_) rfl (by kernel_rfl) (by kernel_rfl) (by kernel_rfl) (fun _ _ _ h => h) (Or.inl ⟨by rfl, ?_⟩) hH ?_
  rotate_left 1
  · intro W hSw
    (try dsimp only at hSw)
    go_simp
    (try with_reducible rfl)
  try simp only [Act.put, List.setIfInBounds_toArray, List.set_cons_zero, List.set_cons_succ]
  refine wpAnyH_take (i := 3) (oi := { dst := some 8, op := _, type := _, pos := _, after := _, guard := _ }) (v := ?_) rfl (by kernel_rfl) (by kernel_rfl) (by kernel_rfl) (fun _ _ _ h => h) (Or.inl ⟨by rfl, ?_⟩) hH ?_
  rotate_left 1
  · intro W hSw
    (try dsimp only at hSw)
    go_simp
    (try with_reducible rfl)
  try simp only [Act.put, List.setIfInBounds_toArray, List.set_cons_zero, List.set_cons_succ]
  refine wpAnyH_take (i := 5) (oi := { dst := some 10, op := _, type := _, pos := _, after := _, guard := _ }) (v := ?_) rfl (by kernel_rfl) (by kernel_rfl) (by kernel_rfl) (fun _ _ _ h => h) (Or.inl ⟨by rfl, ?_⟩) hH ?_
  rotate_left 1
  · intro W hSw
    (try dsimp only at hSw)
    go_simp
    (try with_reducible rfl)
  try simp only [Act.put, List.setIfInBounds_toArray, List.set_cons_zero, List.set_cons_succ]
  refine wpAnyH_take (i := 6) (oi := { dst := some 11, op := _, type := _, pos := _, after := _, guard := _ }) (v := ?_) rfl (by kernel_rfl) (by kernel_rfl) (by kernel_rfl) (fun _ _ _ h => h) (Or.inl ⟨by rfl, ?_⟩) hH ?_
  rotate_left 1
  · intro W hSw
    (try dsimp only at hSw)
    go_simp
    (try with_reducible rfl)
  try simp only [Act.put, List.setIfInBounds_toArray, List.set_cons_zero, List.set_cons_succ]
  refine wpAnyH_take (i := 8) (oi := { dst := some 13, op := _, type := _, pos := _, after := _, guard := _ }) (v := ?_) rfl (by kernel_rfl) (by kernel_rfl) (by kernel_rfl) (fun _ _ _ h => h) (Or.inl ⟨by rfl, ?_⟩) hH ?_
  rotate_left 1
  · intro W hSw
    (try dsimp only at hSw)
    go_simp
    (try with_reducible rfl)
  try simp only [Act.put, List.setIfInBounds_toArray, List.set_cons_zero, List.set_cons_succ]
  refine wpAnyH_ready (rs := [2]) (by kernel_rfl) (by simp) (AllReadyH.cons rfl (fun K hK => ?_) AllReadyH.nil)
  go_simp
  go_at_call 108; ((with_reducible refine (CA.out _).mono ?_); rintro e9 r1 ⟨rfl, hb1⟩); go_wp2_with fail
  refine hK.out _ _ ?_ (fun hG => ?_)
  · exact ⟨cell_below hb1 hH.1, cell_below hb1 hH.2.1, cell_below hb1 hH.2.2.1, cell_below hb1 hH.2.2.2.1, hH.2.2.2.2.trans (hb1.mono hH.2.2.2.2.size)⟩
  replace hH := hG
  clear hK K hG
  try simp only [Act.put, List.setIfInBounds_toArray, List.set_cons_zero, List.set_cons_succ]
  refine wpAnyH_ready (rs := [4]) (by kernel_rfl) (by simp) (AllReadyH.cons rfl (fun K hK => ?_) AllReadyH.nil)
  go_simp
  go_at_call 104; ((with_reducible refine (WA.out _).mono ?_); rintro e9 r2 ⟨⟨ra, rfl, ja⟩, hb2⟩); go_wp2_with fail
  refine hK.out _ _ ?_ (fun hG => ?_)
  · exact ⟨cell_below hb2 hH.1, cell_below hb2 hH.2.1, cell_below hb2 hH.2.2.1, cell_below hb2 hH.2.2.2.1, hH.2.2.2.2.trans (hb2.mono hH.2.2.2.2.size)⟩
  replace hH := hG
  clear hK K hG
  try simp only [Act.put, List.setIfInBounds_toArray, List.set_cons_zero, List.set_cons_succ]
  refine wpAnyH_ready (rs := [7]) (by kernel_rfl) (by simp) (AllReadyH.cons rfl (fun K hK => ?_) AllReadyH.nil)
  go_simp
  go_at_call 108; ((with_reducible refine (CB.out _).mono ?_); rintro e9 r3 ⟨rfl, hb3⟩); go_wp2_with fail
  refine hK.out _ _ ?_ (fun hG => ?_)
  · exact ⟨cell_below hb3 hH.1, cell_below hb3 hH.2.1, cell_below hb3 hH.2.2.1, cell_below hb3 hH.2.2.2.1, hH.2.2.2.2.trans (hb3.mono hH.2.2.2.2.size)⟩
  replace hH := hG
  clear hK K hG
  try simp only [Act.put, List.setIfInBounds_toArray, List.set_cons_zero, List.set_cons_succ]
  refine wpAnyH_ready (rs := [9]) (by kernel_rfl) (by simp) (AllReadyH.cons rfl (fun K hK => ?_) AllReadyH.nil)
  go_simp
  go_at_call 104; ((with_reducible refine (WB.out _).mono ?_); rintro e9 r4 ⟨⟨rb, rfl, jb⟩, hb4⟩); obtain ⟨rm, hmx, jm⟩ := Tb.fmax (P := Tryz.prog) (a := wv k (x, y)) (b := wv k (z, u)) (by omega) (by omega) ja jb; go_wp2_with fail
  refine hK.out _ _ ?_ (fun hG => ?_)
  · exact ⟨cell_below hb4 hH.1, cell_below hb4 hH.2.1, cell_below hb4 hH.2.2.1, cell_below hb4 hH.2.2.2.1, hH.2.2.2.2.trans (hb4.mono hH.2.2.2.2.size)⟩
  replace hH := hG
  clear hK K hG
  try simp only [Act.put, List.setIfInBounds_toArray, List.set_cons_zero, List.set_cons_succ]
  refine wpAnyH_take (i := 10) (oi := { dst := some 15, op := _, type := _, pos := _, after := _, guard := _ }) (v := ?_) rfl (by kernel_rfl) (by kernel_rfl) (by kernel_rfl) (fun _ _ _ h => h) (Or.inl ⟨by rfl, ?_⟩) hH ?_
  rotate_left 1
  · intro W hSw
    (try dsimp only at hSw)
    go_simp
    (try with_reducible rfl)
  try simp only [Act.put, List.setIfInBounds_toArray, List.set_cons_zero, List.set_cons_succ]
  refine wpAnyH_take (i := 11) (oi := { dst := some 4, op := _, type := _, pos := _, after := _, guard := _ }) (v := ?_) rfl (by kernel_rfl) (by kernel_rfl) (by kernel_rfl) (fun _ _ _ h => h) (Or.inl ⟨by rfl, ?_⟩) hH ?_
  rotate_left 1
  · intro W hSw
    (try dsimp only at hSw)
    go_simp
    (try with_reducible rfl)
  try simp only [Act.put, List.setIfInBounds_toArray, List.set_cons_zero, List.set_cons_succ]
  refine wpAnyH_done (by kernel_rfl) ?_ _
  refine NoPanic.normal ?_
  have BX := hH.2.2.2.2
  clear hH
  go_wp2_with fail
  go_returns
  exact ⟨⟨rm, rfl, jm⟩, BX⟩

set_option maxRecDepth 100000 in
set_option maxHeartbeats 4000000 in
theorem farthest {x y h t l k : Int} (A : Option Addr) (n c : Nat) (ps : List (Int × Int)) (hj : jt x y h t l = true) (hp : rs ps = true) (hk : hd k = true) (w : World) (hn : ps.length = n) (hb : n ≤ 1048576) (hr : Rd w w.heap.size A (pls ps)) :
    Calls Tryz.prog 93 #[jv x y h t l, .slice A n c, .int .i64 k] w fun e w' => (∃ a b, e = .returned (.complex .f32 a b) ∧ I32 (far x y h t l ps k).1 a ∧ I32 (far x y h t l ps k).2 b) ∧ Below w.heap.size w w' := by
  have hl := land_le hj
  have hwo := wor_le hp k
  obtain ⟨lx, hlx⟩ : ∃ a, (land x y h t l).1 = a := ⟨_, rfl⟩
  obtain ⟨ly, hly⟩ : ∃ a, (land x y h t l).2 = a := ⟨_, rfl⟩
  obtain ⟨dx, hdx⟩ : ∃ a, (wor k ps).1 = a := ⟨_, rfl⟩
  obtain ⟨dy, hdy⟩ : ∃ a, (wor k ps).2 = a := ⟨_, rfl⟩
  obtain ⟨hN, hN2⟩ := nN_le hj
  obtain ⟨N, hN9⟩ : ∃ a, nN l = a := ⟨_, rfl⟩
  have HV := Lib.hid (show far x y h t l ps k = (lx + (N : Int) * dx, ly + (N : Int) * dy) by unfold far; rw [hlx, hly, hdx, hdy, hN9])
  rw [HV.out]
  have CL := Lib.hid (fun (W : World) => (by have := landI x y h t l W; rw [landV_yes hj, hlx, hly] at this; exact this : Calls Tryz.prog 136 #[jv x y h t l] W fun e w' => e = .returned (.tuple #[.agg #[.int .i64 lx, .int .i64 ly], .bool true]) ∧ Below W.heap.size W w'))
  have CF := Lib.hid (fun (W : World) => (by have := flightI x y h t l W; rw [fl_yes hj, ← hN, hN9] at this; exact this : Calls Tryz.prog 134 #[jv x y h t l] W fun e w' => e = .returned (.int .i64 (N : Int)) ∧ Below W.heap.size W w'))
  have CW := Lib.hid (fun (W : World) (h : Below w.heap.size w W) => (by have := worstI A n c ps k W hn hb ((hr.below h).more h.size); rw [w_yes hp hk] at this; unfold Wa.pq at this; rw [hdx, hdy] at this; exact this : Calls Tryz.prog 56 #[.slice A n c, .int .i64 k] W fun e w' => e = .returned (.agg #[.int .i64 dx, .int .i64 dy]) ∧ Below W.heap.size W w'))
  rw [hlx, hly] at hl
  rw [hdx, hdy] at hwo
  rw [hN9] at hN2
  have CA := Lib.hid (fun (W : World) => complexW lx ly (by omega) (by omega) W)
  have CB := Lib.hid (fun (W : World) => complexW dx dy (by omega) (by omega) W)
  have K0 := Lib.hid (Bk.new w #[.int .i64 x, .int .i64 y, .int .i64 h, .int .i64 t, .int .i64 l] 70)
  have B0 := Lib.hid ((Below.refl w.heap.size w).alloc (Nat.le_refl _) (.cells #[.int .i64 x, .int .i64 y, .int .i64 h, .int .i64 t, .int .i64 l] 70))
  have c0 := K0.out.cell (i := 0) rfl
  have c1 := K0.out.cell (i := 1) rfl
  have c2 := K0.out.cell (i := 2) rfl
  have c3 := K0.out.cell (i := 3) rfl
  have c4 := K0.out.cell (i := 4) rfl
  clear hlx hly hdx hdy hN9 hN hr hn hb hj hp hk HV
  go_enter Tryz.func93, Tryz.ntmps93
  go_wp2_with fail
  refine (CL.out _).mono ?_
  rintro e w1 ⟨rfl, hb1⟩
  have K1 := Lib.hid ((K0.out.below hb1).alloc (o := .cells #[.int .i64 lx, .int .i64 ly] 31))
  have B1a := B0.out.trans (hb1.mono B0.out.size)
  have KP := Bk.new w1 #[.int .i64 lx, .int .i64 ly] 31
  have p0 := KP.cell (i := 0) rfl
  have p1 := KP.cell (i := 1) rfl
  have B1 := Lib.hid (B1a.alloc B1a.size (.cells #[.int .i64 lx, .int .i64 ly] 31))
  clear hb1 K0 B0 CL c0 c1 c2 c3 c4 B1a KP
  go_wp2_with fail
  refine (CA.out _).mono ?_
  rintro e w2 ⟨rfl, hb2⟩
  have K2 := Lib.hid (K1.out.below hb2)
  have B2 := Lib.hid (B1.out.trans (hb2.mono B1.out.size))
  have CW2 := Lib.hid (CW.out _ B2.out)
  clear hb2 K1 B1 CA CW p0 p1
  go_wp2_with fail
  refine CW2.out.mono ?_
  rintro e w3 ⟨rfl, hb3⟩
  have K3 := Lib.hid (K2.out.below hb3)
  have B3 := Lib.hid (B2.out.trans (hb3.mono B2.out.size))
  clear hb3 K2 B2 CW2
  go_wp2_with fail
  refine (CB.out _).mono ?_
  rintro e w4 ⟨rfl, hb4⟩
  have K4 := Lib.hid (K3.out.below hb4)
  have B4 := Lib.hid (B3.out.trans (hb4.mono B3.out.size))
  have c0 := K4.out.cell (i := 0) rfl
  have c1 := K4.out.cell (i := 1) rfl
  have c2 := K4.out.cell (i := 2) rfl
  have c3 := K4.out.cell (i := 3) rfl
  have c4 := K4.out.cell (i := 4) rfl
  clear hb4 K3 B3 CB K4
  go_wp2_with fail
  refine (CF.out _).mono ?_
  rintro e w5 ⟨rfl, hb5⟩
  have B5 := Lib.hid (B4.out.trans (hb5.mono B4.out.size))
  clear hb5 B4 CF c0 c1 c2 c3 c4
  obtain ⟨d1, hd1⟩ : ∃ a, Meas.f32 dx = a := ⟨_, rfl⟩
  obtain ⟨d2, hd2⟩ : ∃ a, Meas.f32 dy = a := ⟨_, rfl⟩
  have ID := Lib.hid (show I32 dx d1 ∧ I32 dy d2 by rw [← hd1, ← hd2]; exact ⟨i32_f32 _, i32_f32 _⟩)
  obtain ⟨z1, hz1⟩ : ∃ a, Meas.f32 lx = a := ⟨_, rfl⟩
  obtain ⟨z2, hz2⟩ : ∃ a, Meas.f32 ly = a := ⟨_, rfl⟩
  have IZ := Lib.hid (show I32 (lx + ((0 : Nat) : Int) * dx) z1 ∧ I32 (ly + ((0 : Nat) : Int) * dy) z2 by rw [← hz1, ← hz2]; simp only [Int.natCast_zero, Int.zero_mul, Int.add_zero]; exact ⟨i32_f32 _, i32_f32 _⟩)
  simp only [hd1, hd2, hz1, hz2]
  clear hd1 hd2 hz1 hz2
  go_wp2_with fail
  go_loopw [9, 24] (fun v i wr => ∃ q : Nat, q ≤ N ∧ i = .int .i64 q ∧ (∃ a b, v = .complex .f32 a b ∧ Hid (I32 (lx + (q : Int) * dx) a ∧ I32 (ly + (q : Int) * dy) b)) ∧ Hid (Below w.heap.size w wr)) (fun _ i _ => N - (intOf i).toNat)
  case atStart => exact ⟨0, Nat.zero_le _, rfl, ⟨z1, z2, rfl, IZ⟩, B5⟩
  case round =>
    obtain ⟨q, hq, rfl, ⟨a, b, rfl, IK⟩, BK⟩ := hrel
    clear IZ B5
    by_cases hlt : q < N
    · have m1 := mul33 (n := q) (by omega) hwo.1
      have m2 := mul33 (n := q) (by omega) hwo.2
      obtain ⟨r1, r2, e2, k1, k2⟩ := csum (P := Tryz.prog) .add 1 (Or.inl ⟨rfl, rfl⟩) (a := lx + (q : Int) * dx) (b := ly + (q : Int) * dy) (c := dx) (d := dy) (by omega) (by omega) (by omega) (by omega) IK.out.1 IK.out.2 ID.out.1 ID.out.2
      have IN := Lib.hid (show I32 (lx + ((q + 1 : Nat) : Int) * dx) r1 ∧ I32 (ly + ((q + 1 : Nat) : Int) * dy) r2 by
        rw [show ((q + 1 : Nat) : Int) = (q : Int) + 1 by omega, Int.add_mul, Int.add_mul, ← Int.add_assoc, ← Int.add_assoc]
        exact ⟨k1, k2⟩)
      clear k1 k2 m1 m2 IK
      go_wp2_with fail
      go_roundw
      case rel => exact ⟨q + 1, by omega, by go_num, ⟨r1, r2, rfl, IN⟩, BK⟩
      case measure => simp [intOf]; omega
    · obtain rfl : N = q := by omega
      go_wp2_with fail
      go_ret
      exact ⟨⟨a, b, rfl, IK.out.1, IK.out.2⟩, BK.out⟩

/-- What wetHeading tells. -/
def wetHV : Option Nat → Value
  | some k => .tuple #[.int .i64 (k : Int), .bool true]
  | none => .tuple #[.int .i64 0, .bool false]
theorem find_at {f : Nat → Bool} {k : Nat} (hk : k < 4) (hf : f k = true) (h : ∀ j, j < k → f j = false) : [0, 1, 2, 3].find? f = some k := by
  match k, hk with
  | 0, _ => simp [List.find?, hf]
  | 1, _ => simp [List.find?, hf, h 0 (by omega)]
  | 2, _ => simp [List.find?, hf, h 0 (by omega), h 1 (by omega)]
  | 3, _ => simp [List.find?, hf, h 0 (by omega), h 1 (by omega), h 2 (by omega)]
theorem find_no {f : Nat → Bool} (h : ∀ j, j < 4 → f j = false) : [0, 1, 2, 3].find? f = none := by
  simp [List.find?, h 0 (by omega), h 1 (by omega), h 2 (by omega), h 3 (by omega)]

set_option maxRecDepth 100000 in
set_option maxHeartbeats 4000000 in
theorem wetHeading {jx jy h t l : Int} (A : Option Addr) (n c : Nat) (ps : List (Int × Int)) (x y z u : Int) (hj : jt jx jy h t l = true) (hp : rs ps = true) (hb : bx x y z u = true) (w : World) (hn : ps.length = n) (hnb : n ≤ 1048576) (hr : Rd w w.heap.size A (pls ps)) :
    Calls Tryz.prog 54 #[jv jx jy h t l, .slice A n c, .agg #[.int .i64 x, .int .i64 y, .int .i64 z, .int .i64 u]] w fun e w' => e = .returned (wetHV (wetH jx jy h t l ps x y z u)) ∧ Below w.heap.size w w' := by
  have hz1 : (w.alloc (.cells #[.int .i64 jx, .int .i64 jy, .int .i64 h, .int .i64 t, .int .i64 l] 70)).heap.size = w.heap.size + 1 := by simp [go_sem]
  have b0a := (Below.refl w.heap.size w).alloc (Nat.le_refl _) (.cells #[.int .i64 jx, .int .i64 jy, .int .i64 h, .int .i64 t, .int .i64 l] 70)
  have B0 := Lib.hid (b0a.alloc b0a.size (.cells #[.int .i64 x, .int .i64 y, .int .i64 z, .int .i64 u] 33))
  have KJ := Lib.hid ((Bk.new w #[.int .i64 jx, .int .i64 jy, .int .i64 h, .int .i64 t, .int .i64 l] 70).alloc (o := .cells #[.int .i64 x, .int .i64 y, .int .i64 z, .int .i64 u] 33))
  have KB := Bk.new (w.alloc (.cells #[.int .i64 jx, .int .i64 jy, .int .i64 h, .int .i64 t, .int .i64 l] 70)) #[.int .i64 x, .int .i64 y, .int .i64 z, .int .i64 u] 33
  rw [hz1] at KB
  have KB := Lib.hid KB
  obtain ⟨fw, hfw⟩ : ∃ f, wetK jx jy h t l ps x y z u = f := ⟨_, rfl⟩
  have HF := Lib.hid (fun (k : Nat) => (by rw [← hfw]; rfl : fw k = decide (sideV x y z u (k : Int) < wv (k : Int) (far jx jy h t l ps (k : Int)))))
  have hgoal : wetH jx jy h t l ps x y z u = [0, 1, 2, 3].find? fw := by unfold wetH; rw [hfw]
  rw [hgoal]
  have CF := Lib.hid (fun (k : Nat) (hk : k < 4) (W : World) (h9 : Below w.heap.size w W) => farthest A n c ps hj hp (hd_nat hk) W hn hnb ((hr.below h9).more h9.size))
  have CS := Lib.hid (fun (k : Nat) (hk : k < 4) (W : World) => sideOf hb (hd_nat hk) W)
  have HFL := Lib.hid (fun (k : Nat) => far_le hj hp (k : Int))
  have HSL := Lib.hid (show ∀ k : Nat, -8192 ≤ sideV x y z u (k : Int) ∧ sideV x y z u (k : Int) ≤ 8192 from fun k => by
    obtain ⟨⟨h1, h2⟩, h3, h4⟩ := bx_le hb
    have := wv_le (h := (k : Int)) h1 h2
    have := wv_le (h := (k : Int)) h3 h4
    unfold sideV; omega)
  have A0 := Lib.hid (show ∀ j, j < 0 → fw j = false from fun j h => by omega)
  clear hfw hgoal hj hp hb hn hnb hr b0a hz1
  go_enter Tryz.func54, Tryz.ntmps54
  go_wp2_with fail
  go_loopw [9] (fun i wr => ∃ k : Nat, k ≤ 4 ∧ i = .int .i64 k ∧ Hid (∀ j, j < k → fw j = false) ∧ Hid (Bk wr w.heap.size #[.int .i64 jx, .int .i64 jy, .int .i64 h, .int .i64 t, .int .i64 l] 70) ∧ Hid (Bk wr (w.heap.size + 1) #[.int .i64 x, .int .i64 y, .int .i64 z, .int .i64 u] 33) ∧ Hid (Below w.heap.size w wr)) (fun i _ => 4 - (intOf i).toNat)
  case atStart => exact ⟨0, Nat.zero_le _, rfl, A0, KJ, KB, B0⟩
  case round =>
    obtain ⟨k, hk, rfl, AK, KJ9, KB9, BK⟩ := hrel
    clear A0 KJ KB B0
    by_cases hlt : k < 4
    · have hk4 : (k : Int) < 4 := by omega
      have c0 := KJ9.out.cell (i := 0) rfl
      have c1 := KJ9.out.cell (i := 1) rfl
      have c2 := KJ9.out.cell (i := 2) rfl
      have c3 := KJ9.out.cell (i := 3) rfl
      have c4 := KJ9.out.cell (i := 4) rfl
      have d0 := KB9.out.cell (i := 0) rfl
      have d1 := KB9.out.cell (i := 1) rfl
      have d2 := KB9.out.cell (i := 2) rfl
      have d3 := KB9.out.cell (i := 3) rfl
      have hfl := HFL.out k
      have hsl := HSL.out k
      have hwl := wv_le (h := (k : Int)) hfl.1 hfl.2
      obtain ⟨fx, hfx⟩ : ∃ a, (far jx jy h t l ps (k : Int)).1 = a := ⟨_, rfl⟩
      obtain ⟨fy, hfy⟩ : ∃ a, (far jx jy h t l ps (k : Int)).2 = a := ⟨_, rfl⟩
      have efar : far jx jy h t l ps (k : Int) = (fx, fy) := by rw [← hfx, ← hfy]
      rw [efar] at hfl hwl
      obtain ⟨q, hq⟩ : ∃ q, fw k = q := ⟨_, rfl⟩
      have hq2 := Lib.hid (show q = decide (sideV x y z u (k : Int) < wv (k : Int) (fx, fy)) by rw [← hq, HF.out, efar])
      have hq := Lib.hid hq
      have CF9 := Lib.hid (fun (W : World) (h9 : Below w.heap.size w W) => (by have := CF.out k hlt W h9; rw [efar] at this; exact this))
      have CW9 := Lib.hid (fun (a b : Nat) (ha : I32 fx a) (hb : I32 fy b) (W : World) => wayW (hd_nat hlt) (x := fx) (y := fy) (by omega) ha hb W)
      have CS9 := Lib.hid (fun (W : World) => CS.out k hlt W)
      clear hfx hfy efar
      go_upto_region 4 with fail
      refine wp_region_noPanic ?_
      refine wp_region_held_drew (S := (fun w' => w'.cell? ⟨w.heap.size, 0, none⟩ = some (.int .i64 jx) ∧ w'.cell? ⟨w.heap.size, 1, none⟩ = some (.int .i64 jy) ∧ w'.cell? ⟨w.heap.size, 2, none⟩ = some (.int .i64 h) ∧ w'.cell? ⟨w.heap.size, 3, none⟩ = some (.int .i64 t) ∧ w'.cell? ⟨w.heap.size, 4, none⟩ = some (.int .i64 l) ∧ w'.cell? ⟨w.heap.size + 1, 0, none⟩ = some (.int .i64 x) ∧ w'.cell? ⟨w.heap.size + 1, 1, none⟩ = some (.int .i64 y) ∧ w'.cell? ⟨w.heap.size + 1, 2, none⟩ = some (.int .i64 z) ∧ w'.cell? ⟨w.heap.size + 1, 3, none⟩ = some (.int .i64 u) ∧ Bk w' w.heap.size #[.int .i64 jx, .int .i64 jy, .int .i64 h, .int .i64 t, .int .i64 l] 70 ∧ Bk w' (w.heap.size + 1) #[.int .i64 x, .int .i64 y, .int .i64 z, .int .i64 u] 33 ∧ Below w.heap.size w w')) (by kernel_rfl) ?_ (fun hH => ?_)
      · exact ⟨c0, c1, c2, c3, c4, d0, d1, d2, d3, KJ9.out.drew, KB9.out.drew, BK.out.drew⟩
      refine wpAnyH_take (i := 0) (oi := { dst := some 12, op := _, type := _, pos := _, after := _, guard := _ }) (v := ?_) rfl (by kernel_rfl) (by kernel_rfl) (by kernel_rfl) (fun _ _ _ h => h) (Or.inl ⟨by rfl, ?_⟩) hH ?_
      rotate_left 1
      · intro W hSw
        (try dsimp only at hSw)
        go_simp
        (try with_reducible rfl)
      try simp only [Act.put, List.setIfInBounds_toArray, List.set_cons_zero, List.set_cons_succ]
      refine wpAnyH_take (i := 1) (oi := { dst := some 13, op := _, type := _, pos := _, after := _, guard := _ }) (v := ?_) rfl (by kernel_rfl) (by kernel_rfl) (by kernel_rfl) (fun _ _ _ h => h) (Or.inl ⟨by rfl, ?_⟩) hH ?_
      rotate_left 1
      · intro W hSw
        (try dsimp only at hSw)
        go_simp
        (try with_reducible rfl)
      try simp only [Act.put, List.setIfInBounds_toArray, List.set_cons_zero, List.set_cons_succ]
      refine wpAnyH_take (i := 2) (oi := { dst := some 14, op := _, type := _, pos := _, after := _, guard := _ }) (v := ?_) rfl (by kernel_rfl) (by kernel_rfl) (by kernel_rfl) (fun _ _ _ h => h) (Or.inl ⟨by rfl, ?_⟩) hH ?_
      rotate_left 1
      · intro W hSw
        (try dsimp only at hSw)
        go_simp
        (try with_reducible rfl)
      try simp only [Act.put, List.setIfInBounds_toArray, List.set_cons_zero, List.set_cons_succ]
      refine wpAnyH_take (i := 4) (oi := { dst := some 16, op := _, type := _, pos := _, after := _, guard := _ }) (v := ?_) rfl (by kernel_rfl) (by kernel_rfl) (by kernel_rfl) (fun _ _ _ h => h) (Or.inl ⟨by rfl, ?_⟩) hH ?_
      rotate_left 1
      · intro W hSw
        (try dsimp only at hSw)
        go_simp
        (try with_reducible rfl)
      try simp only [Act.put, List.setIfInBounds_toArray, List.set_cons_zero, List.set_cons_succ]
      refine wpAnyH_take (i := 6) (oi := { dst := some 18, op := _, type := _, pos := _, after := _, guard := _ }) (v := ?_) rfl (by kernel_rfl) (by kernel_rfl) (by kernel_rfl) (fun _ _ _ h => h) (Or.inl ⟨by rfl, ?_⟩) hH ?_
      rotate_left 1
      · intro W hSw
        (try dsimp only at hSw)
        go_simp
        (try with_reducible rfl)
      try simp only [Act.put, List.setIfInBounds_toArray, List.set_cons_zero, List.set_cons_succ]
      refine wpAnyH_take (i := 7) (oi := { dst := some 19, op := _, type := _, pos := _, after := _, guard := _ }) (v := ?_) rfl (by kernel_rfl) (by kernel_rfl) (by kernel_rfl) (fun _ _ _ h => h) (Or.inl ⟨by rfl, ?_⟩) hH ?_
      rotate_left 1
      · intro W hSw
        (try dsimp only at hSw)
        go_simp
        (try with_reducible rfl)
      try simp only [Act.put, List.setIfInBounds_toArray, List.set_cons_zero, List.set_cons_succ]
      refine wpAnyH_ready (rs := [3]) (by kernel_rfl) (by simp) (AllReadyH.cons rfl (fun K hK => ?_) AllReadyH.nil)
      go_simp
      go_at_call 93; ((with_reducible refine (CF9.out _ hH.2.2.2.2.2.2.2.2.2.2.2).mono ?_); rintro e9 r1 ⟨⟨za, zb, rfl, ja, jb⟩, hb1⟩); go_wp2_with fail
      refine hK.out _ _ ?_ (fun hG => ?_)
      · exact ⟨cell_below hb1 hH.1, cell_below hb1 hH.2.1, cell_below hb1 hH.2.2.1, cell_below hb1 hH.2.2.2.1, cell_below hb1 hH.2.2.2.2.1, cell_below hb1 hH.2.2.2.2.2.1, cell_below hb1 hH.2.2.2.2.2.2.1, cell_below hb1 hH.2.2.2.2.2.2.2.1, cell_below hb1 hH.2.2.2.2.2.2.2.2.1, hH.2.2.2.2.2.2.2.2.2.1.below hb1, hH.2.2.2.2.2.2.2.2.2.2.1.below hb1, hH.2.2.2.2.2.2.2.2.2.2.2.trans (hb1.mono hH.2.2.2.2.2.2.2.2.2.2.2.size)⟩
      replace hH := hG
      clear hK K hG
      try simp only [Act.put, List.setIfInBounds_toArray, List.set_cons_zero, List.set_cons_succ]
      refine wpAnyH_ready (rs := [5]) (by kernel_rfl) (by simp) (AllReadyH.cons rfl (fun K hK => ?_) AllReadyH.nil)
      go_simp
      go_at_call 104; ((with_reducible refine (CW9.out za zb ja jb _).mono ?_); rintro e9 r2 ⟨⟨rw9, rfl, jw⟩, hb2⟩); go_wp2_with fail
      refine hK.out _ _ ?_ (fun hG => ?_)
      · exact ⟨cell_below hb2 hH.1, cell_below hb2 hH.2.1, cell_below hb2 hH.2.2.1, cell_below hb2 hH.2.2.2.1, cell_below hb2 hH.2.2.2.2.1, cell_below hb2 hH.2.2.2.2.2.1, cell_below hb2 hH.2.2.2.2.2.2.1, cell_below hb2 hH.2.2.2.2.2.2.2.1, cell_below hb2 hH.2.2.2.2.2.2.2.2.1, hH.2.2.2.2.2.2.2.2.2.1.below hb2, hH.2.2.2.2.2.2.2.2.2.2.1.below hb2, hH.2.2.2.2.2.2.2.2.2.2.2.trans (hb2.mono hH.2.2.2.2.2.2.2.2.2.2.2.size)⟩
      replace hH := hG
      clear hK K hG
      try simp only [Act.put, List.setIfInBounds_toArray, List.set_cons_zero, List.set_cons_succ]
      refine wpAnyH_ready (rs := [8]) (by kernel_rfl) (by simp) (AllReadyH.cons rfl (fun K hK => ?_) AllReadyH.nil)
      go_simp
      go_at_call 105; ((with_reducible refine (CS9.out _).mono ?_); rintro e9 r3 ⟨⟨rs9, rfl, js⟩, hb3⟩); have hgt := gt_w hq2.out (by omega) hsl jw js; go_wp2_with fail
      refine hK.out _ _ ?_ (fun hG => ?_)
      · exact ⟨cell_below hb3 hH.1, cell_below hb3 hH.2.1, cell_below hb3 hH.2.2.1, cell_below hb3 hH.2.2.2.1, cell_below hb3 hH.2.2.2.2.1, cell_below hb3 hH.2.2.2.2.2.1, cell_below hb3 hH.2.2.2.2.2.2.1, cell_below hb3 hH.2.2.2.2.2.2.2.1, cell_below hb3 hH.2.2.2.2.2.2.2.2.1, hH.2.2.2.2.2.2.2.2.2.1.below hb3, hH.2.2.2.2.2.2.2.2.2.2.1.below hb3, hH.2.2.2.2.2.2.2.2.2.2.2.trans (hb3.mono hH.2.2.2.2.2.2.2.2.2.2.2.size)⟩
      replace hH := hG
      clear hK K hG
      try simp only [Act.put, List.setIfInBounds_toArray, List.set_cons_zero, List.set_cons_succ]
      refine wpAnyH_take (i := 9) (oi := { dst := some 21, op := _, type := _, pos := _, after := _, guard := _ }) (v := ?_) rfl (by kernel_rfl) (by kernel_rfl) (by kernel_rfl) (fun _ _ _ h => h) (Or.inl ⟨by rfl, ?_⟩) hH ?_
      rotate_left 1
      · intro W hSw
        (try dsimp only at hSw)
        go_simp
        (try with_reducible rfl)
      try simp only [Act.put, List.setIfInBounds_toArray, List.set_cons_zero, List.set_cons_succ]
      refine wpAnyH_done (by kernel_rfl) ?_ _
      refine NoPanic.normal ?_
      have KJX := Lib.hid hH.2.2.2.2.2.2.2.2.2.1
      have KBX := Lib.hid hH.2.2.2.2.2.2.2.2.2.2.1
      have BX := Lib.hid hH.2.2.2.2.2.2.2.2.2.2.2
      have HQ := hq
      clear hH hb1 hb2 hb3 hgt jw js ja jb hq hq2 CF9 CW9 CS9 KJ9 KB9 BK c0 c1 c2 c3 c4 d0 d1 d2 d3
      cases q
      · have AN := Lib.hid (show ∀ j, j < k + 1 → fw j = false from fun j hj => by
          by_cases e : j = k
          · subst e; exact HQ.out
          · exact AK.out j (by omega))
        clear AK HQ
        go_wp2_with fail
        go_roundw
        case rel => first | exact ⟨k + 1, by omega, by go_num, AN, KJX, KBX, BX⟩ | ((repeat apply Exists.intro); exact ⟨⟨k + 1, by omega, by go_num, AN, KJX, KBX, BX⟩, rfl⟩)
        case measure => simp [intOf]; omega
      · have HV := Lib.hid (find_at hlt HQ.out AK.out)
        clear KJX KBX
        go_wp2_with fail
        go_returns
        exact ⟨by rw [HV.out]; rfl, BX.out⟩
    · obtain rfl : k = 4 := by omega
      have HV := Lib.hid (find_no AK.out)
      clear KJ9 KB9
      go_wp2_with fail
      go_returns
      exact ⟨by rw [HV.out]; rfl, BK.out⟩
end Go.Proofs.YtejeikfgmiadhabGreat.Fa10
namespace Go.Proofs.YtejeikfgmiadhabGreat.Lb10
open Go.RowKit Go.ChangeShapes Go.WideShapes Go.WideElems Go.Deep Go.Proofs.YtejeikfgmiadhabGreat.Mem Go.Proofs.YtejeikfgmiadhabGreat.Rw Go.Proofs.YtejeikfgmiadhabGreat.P2 Go.Proofs.YtejeikfgmiadhabGreat.Bk Go.Proofs.YtejeikfgmiadhabGreat.Jt Go.Proofs.YtejeikfgmiadhabGreat.Cm Go.Proofs.YtejeikfgmiadhabGreat.Cx Go.Proofs.YtejeikfgmiadhabGreat.Pl Go.Proofs.YtejeikfgmiadhabGreat.Hd Go.Proofs.YtejeikfgmiadhabGreat.Str
open Go.Proofs.YtejeikfgmiadhabGreat.Wz Go.Proofs.YtejeikfgmiadhabGreat.Fw10 Go.Proofs.YtejeikfgmiadhabGreat.Fa10 Go.Proofs.YtejeikfgmiadhabGreat.Wy
open Go.Proofs.YtejeikfgmiadhabGreat.Wr (rs)
open Go.Proofs.YtejeikfgmiadhabGreat.Pls (pls)
open Go.Proofs.YtejeikfgmiadhabGreat.Bo (boxA Q4 bq)
open Go.Proofs.YtejeikfgmiadhabGreat.Tb (box4 set4)
open Go.Proofs.YtejeikfgmiadhabGreat.Tw9 (step_store_row row_grown row_bk)
open Go.Proofs.YtejeikfgmiadhabGreat.Bxi (bx ib)
open Go.Proofs.YtejeikfgmiadhabGreat.Dp (landV landI flightI fl_yes inF_iff told2_yes told2_no)
set_option linter.unusedVariables false
set_option linter.unusedSimpArgs false

def lbB (x y h t l : Int) (ps : List (Int × Int)) : Bool := jt x y h t l && rs ps
/-- The box of all places where a drop can land; zeros if there is none. -/
def lbQ (x y h t l : Int) (ps : List (Int × Int)) : Q4 := if lbB x y h t l ps = true then lbox x y h t l ps else (0, 0, 0, 0)
theorem lb_no {x y h t l : Int} {ps : List (Int × Int)} (e : jt x y h t l = false ∨ rs ps = false) : lbB x y h t l ps = false ∧ lbQ x y h t l ps = (0, 0, 0, 0) := by
  have : lbB x y h t l ps = false := by unfold lbB; rcases e with e | e <;> rw [e] <;> simp
  exact ⟨this, by unfold lbQ; rw [this]; rfl⟩
theorem lb_yes {x y h t l : Int} {ps : List (Int × Int)} (hj : jt x y h t l = true) (hp : rs ps = true) : lbB x y h t l ps = true ∧ lbQ x y h t l ps = lbox x y h t l ps := by
  have : lbB x y h t l ps = true := by unfold lbB; rw [hj, hp]; rfl
  exact ⟨this, by unfold lbQ; rw [this]; rfl⟩
theorem jetI {x y h t l : Int} {b : Bool} (e : jt x y h t l = b) (w : World) : Calls Tryz.prog 92 #[jv x y h t l] w fun e w' => e = .returned (.bool b) ∧ Below w.heap.size w w' :=
  (isJetI_of e w).mono fun _ _ k => ⟨k.1, by rw [k.2]; exact (Below.refl _ _).alloc (Nat.le_refl _) _⟩
theorem l2AddB (x y a b : Int) (h1 : wrap64 (x + a) = x + a) (h2 : wrap64 (y + b) = y + b) (w : World) :
    Calls Tryz.prog 79 #[.agg #[.int .i64 x, .int .i64 y], .agg #[.int .i64 a, .int .i64 b]] w fun e w' => e = .returned (.agg #[.int .i64 (x + a), .int .i64 (y + b)]) ∧ Below w.heap.size w w' := by
  go_enter Tryz.func79, Tryz.ntmps79
  go_wp2
  go_returns
  exact ⟨rfl, by go_grown⟩

set_option maxRecDepth 100000 in
set_option maxHeartbeats 4000000 in
theorem landBoxI (x y h t l : Int) (A : Option Addr) (n c : Nat) (ps : List (Int × Int)) (w : World) (hn : ps.length = n) (hb : n ≤ 1048576) (hr : Rd w w.heap.size A (pls ps)) :
    Calls Tryz.prog 43 #[jv x y h t l, .slice A n c] w fun e w' => e = .returned (.tuple #[bq (lbQ x y h t l ps), .bool (lbB x y h t l ps)]) ∧ Below w.heap.size w w' := by
  have hz1 : (w.alloc (.cells #[.int .i64 x, .int .i64 y, .int .i64 h, .int .i64 t, .int .i64 l] 70)).heap.size = w.heap.size + 1 := by simp [go_sem]
  have b0a := (Below.refl w.heap.size w).alloc (Nat.le_refl _) (.cells #[.int .i64 x, .int .i64 y, .int .i64 h, .int .i64 t, .int .i64 l] 70)
  have B0 := Lib.hid (b0a.alloc b0a.size (.cells #[.int .i64 0, .int .i64 0, .int .i64 0, .int .i64 0] 33))
  have KJ := Lib.hid ((Bk.new w #[.int .i64 x, .int .i64 y, .int .i64 h, .int .i64 t, .int .i64 l] 70).alloc (o := .cells #[.int .i64 0, .int .i64 0, .int .i64 0, .int .i64 0] 33))
  have KB := Bk.new (w.alloc (.cells #[.int .i64 x, .int .i64 y, .int .i64 h, .int .i64 t, .int .i64 l] 70)) #[.int .i64 0, .int .i64 0, .int .i64 0, .int .i64 0] 33
  rw [hz1] at KB
  have KB := Lib.hid KB
  have c0 := KJ.out.cell (i := 0) rfl
  have c1 := KJ.out.cell (i := 1) rfl
  have c2 := KJ.out.cell (i := 2) rfl
  have c3 := KJ.out.cell (i := 3) rfl
  have c4 := KJ.out.cell (i := 4) rfl
  obtain ⟨bj, hj⟩ : ∃ b, jt x y h t l = b := ⟨_, rfl⟩
  obtain ⟨br, hp⟩ : ∃ b, rs ps = b := ⟨_, rfl⟩
  have CJ := Lib.hid (fun (W : World) => jetI hj W)
  have CR := Lib.hid (fun (W : World) (h9 : Below w.heap.size w W) => Wx.roseI (A := A) (c := c) (H := w.heap.size) hn hb hp W h9.size (hr.below h9))
  cases bj
  · obtain ⟨e1, e2⟩ := lb_no (Or.inl hj : _ ∨ rs ps = false)
    rw [e1, e2]
    clear hn hb hr hz1 b0a hj hp e1 e2 CR
    go_enter Tryz.func43, Tryz.ntmps43
    go_wp2_with fail
    refine (CJ.out _).mono ?_
    rintro e v ⟨rfl, b1⟩
    have R := Lib.hid (KB.out.below b1)
    have B9 := Lib.hid (B0.out.trans (b1.mono B0.out.size))
    clear b1 KB KJ c0 c1 c2 c3 c4 CJ B0
    have z0 := R.out.cell (i := 0) rfl
    have z1 := R.out.cell (i := 1) rfl
    have z2 := R.out.cell (i := 2) rfl
    have z3 := R.out.cell (i := 3) rfl
    have y0 := R.out.frozen 0
    have y1 := R.out.frozen 1
    have y2 := R.out.frozen 2
    have y3 := R.out.frozen 3
    have l9 := R.out.lt
    have HS4 := Lib.hid (set4 (a := .int .i64 (0)) (b := .int .i64 (0)) (c := .int .i64 (0)) (d := .int .i64 (0)) z0 z1 z2 z3)
    go_wp2_with fail
    have r0 := HS4.out.1
    have r1 := HS4.out.2.1
    have r2 := HS4.out.2.2.1
    have r3 := HS4.out.2.2.2
    (try simp only [Exit.inBlock, Exit.then])
    refine bodyPost_ret (v := .tuple #[box4 (0) (0) (0) (0), .bool false]) (by simp [results, Tryz.results43, go_sem, r0, r1, r2, r3]; try rfl) rfl ?_
    exact ⟨rfl, B9.out.trans (by have h9 := B9.out.size; go_grown)⟩
  have E0 : True := trivial
  cases br
  · obtain ⟨e1, e2⟩ := lb_no (Or.inr hp : jt x y h t l = false ∨ _)
    rw [e1, e2]
    clear hn hb hr hz1 b0a hj hp e1 e2
    go_enter Tryz.func43, Tryz.ntmps43
    go_wp2_with fail
    refine (CJ.out _).mono ?_
    rintro e v1 ⟨rfl, b1⟩
    have K1 := Lib.hid (KB.out.below b1)
    have B1 := Lib.hid (B0.out.trans (b1.mono B0.out.size))
    clear b1 KB KJ c0 c1 c2 c3 c4 CJ B0
    go_wp2_with fail
    refine (CR.out _ B1.out).mono ?_
    rintro e v ⟨rfl, b1⟩
    have R := Lib.hid (K1.out.below b1)
    have B9 := Lib.hid (B1.out.trans (b1.mono B1.out.size))
    clear b1 K1 B1 CR
    have z0 := R.out.cell (i := 0) rfl
    have z1 := R.out.cell (i := 1) rfl
    have z2 := R.out.cell (i := 2) rfl
    have z3 := R.out.cell (i := 3) rfl
    have y0 := R.out.frozen 0
    have y1 := R.out.frozen 1
    have y2 := R.out.frozen 2
    have y3 := R.out.frozen 3
    have l9 := R.out.lt
    have HS4 := Lib.hid (set4 (a := .int .i64 (0)) (b := .int .i64 (0)) (c := .int .i64 (0)) (d := .int .i64 (0)) z0 z1 z2 z3)
    go_wp2_with fail
    have r0 := HS4.out.1
    have r1 := HS4.out.2.1
    have r2 := HS4.out.2.2.1
    have r3 := HS4.out.2.2.2
    (try simp only [Exit.inBlock, Exit.then])
    refine bodyPost_ret (v := .tuple #[box4 (0) (0) (0) (0), .bool false]) (by simp [results, Tryz.results43, go_sem, r0, r1, r2, r3]; try rfl) rfl ?_
    exact ⟨rfl, B9.out.trans (by have h9 := B9.out.size; go_grown)⟩
  obtain ⟨e1, e2⟩ := lb_yes hj hp
  rw [e1, e2]
  obtain ⟨⟨q1, q2, q3, q4⟩, hq⟩ : ∃ q, lbox x y h t l ps = q := ⟨_, rfl⟩
  rw [hq]
  have HB := Lib.hid ((far_box (x := x) (y := y) (h := h) (t := t) (l := l) hp).trans hq)
  clear hq
  have CF := Lib.hid (fun (k : Nat) (hk : k < 4) (W : World) (h9 : Below w.heap.size w W) => farthest A n c ps hj hp (hd_nat hk) W hn hb ((hr.below h9).more h9.size))
  have GG := Lib.hid (show Bo.good [far x y h t l ps 0, far x y h t l ps 1, far x y h t l ps 2, far x y h t l ps 3] = true by
    have f0 := far_le hj hp 0
    have f1 := far_le hj hp 1
    have f2 := far_le hj hp 2
    have f3 := far_le hj hp 3
    have key : ∀ p : Int × Int, (-1816 ≤ p.1 ∧ p.1 ≤ 1816) ∧ (-1816 ≤ p.2 ∧ p.2 ≤ 1816) → (ms p.1 && ms p.2) = true := fun p hp => by
      unfold ms; simp only [Bool.and_eq_true, decide_eq_true_eq]; omega
    unfold Bo.good
    simp only [List.all_cons, List.all_nil, Bool.and_true, key _ f0, key _ f1, key _ f2, key _ f3])
  obtain ⟨i0, hi, hi0, hi1, hi2⟩ := info_of Wc.infoC
  clear hn hb hr hz1 b0a hj hp e1 e2
  go_enter Tryz.func43, Tryz.ntmps43
  go_wp2_with fail
  refine (CJ.out _).mono ?_
  rintro e v1 ⟨rfl, b1⟩
  have K1 := Lib.hid (KB.out.below b1)
  have J1 := Lib.hid (KJ.out.below b1)
  have B1 := Lib.hid (B0.out.trans (b1.mono B0.out.size))
  clear b1 KB KJ c0 c1 c2 c3 c4 CJ B0
  go_wp2_with fail
  refine (CR.out _ B1.out).mono ?_
  rintro e v2 ⟨rfl, b1⟩
  have K2 := Lib.hid (K1.out.below b1)
  have J2 := Lib.hid (J1.out.below b1)
  have B2 := Lib.hid (B1.out.trans (b1.mono B1.out.size))
  have hs2 : w.heap.size + 1 < v2.heap.size := K2.out.lt
  clear b1 K1 J1 B1 CR
  go_wp2_with (at_make; refine wpList_make_full _ rfl _ _ 134 rfl v2.heap.size 81 i0 (.complex .f32 0 0) 1 Tryz.underlying134 hi hi0 hi1 .i64 .i64 4 4 4 rfl rfl rfl rfl (by rw [hi2]; omega) (by unfold maxLen; omega) (Nat.le_refl _) ?_; intro w1 hown hgrow; clear hi hi0 hi1 hi2)
  have R0 := Lib.hid (show w1.ownsRow v2.heap.size 81 1 (.slice (some ⟨v2.heap.size, 0, none⟩) 4 4) 4 (ww (List.replicate 4 (0, 0))) by
    rw [Wc.made_c] at hown
    rw [show ww (List.replicate 4 (0, 0)) = List.replicate 4 (.complex .f32 0 0) by unfold ww; rw [List.map_replicate]]
    exact hown)
  have K3 := Lib.hid (K2.out.grown hgrow (by intro e9; cases e9))
  have J3 := Lib.hid (J2.out.grown hgrow (by intro e9; cases e9))
  have B3 := Lib.hid (B2.out.grown hgrow B2.out.size (fun k hk => by cases hk))
  have W0 := Lib.hid (show ∀ j : Nat, j < 0 → ∃ a b, (List.replicate 4 ((0 : Nat), (0 : Nat)))[j]? = some (a, b) ∧ I32 (far x y h t l ps (j : Int)).1 a ∧ I32 (far x y h t l ps (j : Int)).2 b from fun j h => by omega)
  clear hown hgrow K2 J2 B2
  go_loopw [20] (fun i wr => ∃ (k : Nat) (ws : List (Nat × Nat)), k ≤ 4 ∧ i = .int .i64 k ∧ Hid (ws.length = 4) ∧ Hid (∀ j, j < k → ∃ a b, ws[j]? = some (a, b) ∧ I32 (far x y h t l ps (j : Int)).1 a ∧ I32 (far x y h t l ps (j : Int)).2 b) ∧ Hid (wr.ownsRow v2.heap.size 81 1 (.slice (some ⟨v2.heap.size, 0, none⟩) 4 4) 4 (ww ws)) ∧ Hid (Bk wr w.heap.size #[.int .i64 x, .int .i64 y, .int .i64 h, .int .i64 t, .int .i64 l] 70) ∧ Hid (Bk wr (w.heap.size + 1) #[.int .i64 0, .int .i64 0, .int .i64 0, .int .i64 0] 33) ∧ Hid (Below w.heap.size w wr)) (fun i _ => 4 - (intOf i).toNat)
  case atStart => exact ⟨0, _, Nat.zero_le _, rfl, Lib.hid (by simp), W0, R0, J3, K3, B3⟩
  case round =>
    obtain ⟨k, ws, hk, rfl, HL, WK, RK, JK, KK, BK⟩ := hrel
    clear W0 R0 J3 K3 B3
    by_cases hlt : k < 4
    · have c0 := JK.out.cell (i := 0) rfl
      have c1 := JK.out.cell (i := 1) rfl
      have c2 := JK.out.cell (i := 2) rfl
      have c3 := JK.out.cell (i := 3) rfl
      have c4 := JK.out.cell (i := 4) rfl
      have hk4 : (k : Int) < 4 := by omega
      have CF9 := Lib.hid (CF.out k hlt wr BK.out)
      go_wp2_with fail
      refine CF9.out.mono ?_
      rintro e v5 ⟨⟨a, b, rfl, ja, jb⟩, b5⟩
      have R5 := owns_below RK.out b5
      have J5 := JK.out.below b5
      have K5 := KK.out.below b5
      have B5 := BK.out.trans (b5.mono BK.out.size)
      obtain ⟨⟨pa, pb⟩, hpw⟩ : ∃ p, ws[k]? = some p := ⟨_, List.getElem?_eq_getElem (by rw [HL.out]; exact hlt)⟩
      have x0 : v5.cell? ⟨v2.heap.size, k, none⟩ = some (.complex .f32 pa pb) := (R5.cellAt k (by omega)).trans (ww_get hpw)
      have f0 := R5.frozenAt k
      obtain ⟨r6, g6⟩ := R5.stored k (.complex .f32 a b)
      rw [ww_set] at r6
      have R6 := Lib.hid r6
      have hne1 : w.heap.size ≠ v2.heap.size := by omega
      have hne2 : w.heap.size + 1 ≠ v2.heap.size := by omega
      have J6 := Lib.hid (J5.grown g6 (fun e9 => hne1 (Option.some.inj e9).symm))
      have K6 := Lib.hid (K5.grown g6 (fun e9 => hne2 (Option.some.inj e9).symm))
      have B6 := Lib.hid (B5.grown g6 B5.size (fun q9 e9 => by have e9 := Option.some.inj e9; omega))
      have L6 := Lib.hid (show (ws.set k (a, b)).length = 4 by rw [List.length_set]; exact HL.out)
      have W6 := Lib.hid (show ∀ j, j < k + 1 → ∃ a' b', (ws.set k (a, b))[j]? = some (a', b') ∧ I32 (far x y h t l ps (j : Int)).1 a' ∧ I32 (far x y h t l ps (j : Int)).2 b' from fun j hj => by
        by_cases e : j = k
        · subst e; exact ⟨a, b, by rw [List.getElem?_set_self (by rw [HL.out]; exact hlt)], ja, jb⟩
        · obtain ⟨a', b', h1, h2⟩ := WK.out j (by omega)
          exact ⟨a', b', by rw [List.getElem?_set_ne (fun e' => e e'.symm)]; exact h1, h2⟩)
      clear hpw b5 R5 J5 K5 B5 r6 g6 ja jb CF9 WK RK JK KK BK HL c0 c1 c2 c3 c4
      go_wp2_with fail
      go_roundw
      case rel => first | exact ⟨k + 1, _, by omega, by go_num, L6, W6, R6, J6, K6, B6⟩ | ((repeat apply Exists.intro); exact ⟨⟨k + 1, _, by omega, by go_num, L6, W6, R6, J6, K6, B6⟩, rfl⟩)
      case measure => simp [intOf]; omega
    · obtain rfl : k = 4 := by omega
      have WO := Lib.hid (show Wo [far x y h t l ps 0, far x y h t l ps 1, far x y h t l ps 2, far x y h t l ps 3] ws from ⟨by rw [HL.out]; rfl, fun j a b hj => by
        match j, hj with
        | 0, hj => (simp only [List.getElem?_cons_zero, Option.some.injEq] at hj; have := WK.out 0 (by omega); simp only [Int.natCast_zero] at this; rw [hj] at this; exact this)
        | 1, hj => (simp only [List.getElem?_cons_succ, List.getElem?_cons_zero, Option.some.injEq] at hj; have := WK.out 1 (by omega); simp only [show ((1 : Nat) : Int) = 1 from rfl] at this; rw [hj] at this; exact this)
        | 2, hj => (simp only [List.getElem?_cons_succ, List.getElem?_cons_zero, Option.some.injEq] at hj; have := WK.out 2 (by omega); simp only [show ((2 : Nat) : Int) = 2 from rfl] at this; rw [hj] at this; exact this)
        | 3, hj => (simp only [List.getElem?_cons_succ, List.getElem?_cons_zero, Option.some.injEq] at hj; have := WK.out 3 (by omega); simp only [show ((3 : Nat) : Int) = 3 from rfl] at this; rw [hj] at this; exact this)
        | j + 4, hj => simp at hj⟩)
      have CL := Lib.hid (leastBoxW (some ⟨v2.heap.size, 0, none⟩) 4 4 _ _ wr rfl (by decide) (by decide) GG.out (Nat.le_refl _) ws WO.out (Rd.own RK.out))
      rw [HB.out] at CL
      unfold Bo.bq at CL
      clear WK JK RK HL GG CF
      go_wp2_with fail
      refine CL.out.mono ?_
      rintro e v9 ⟨rfl, b9⟩
      have R := Lib.hid (KK.out.below b9)
      have B9 := Lib.hid (BK.out.trans (b9.mono BK.out.size))
      clear b9 CL KK BK
      have z0 := R.out.cell (i := 0) rfl
      have z1 := R.out.cell (i := 1) rfl
      have z2 := R.out.cell (i := 2) rfl
      have z3 := R.out.cell (i := 3) rfl
      have y0 := R.out.frozen 0
      have y1 := R.out.frozen 1
      have y2 := R.out.frozen 2
      have y3 := R.out.frozen 3
      have l9 := R.out.lt
      have HS4 := Lib.hid (set4 (a := .int .i64 (q1)) (b := .int .i64 (q2)) (c := .int .i64 (q3)) (d := .int .i64 (q4)) z0 z1 z2 z3)
      go_wp2_with fail
      have r0 := HS4.out.1
      have r1 := HS4.out.2.1
      have r2 := HS4.out.2.2.1
      have r3 := HS4.out.2.2.2
      (try simp only [Exit.inBlock, Exit.then])
      refine bodyPost_ret (v := .tuple #[box4 (q1) (q2) (q3) (q4), .bool true]) (by simp [results, Tryz.results43, go_sem, r0, r1, r2, r3]; try rfl) rfl ?_
      exact ⟨rfl, B9.out.trans (by have h9 := B9.out.size; go_grown)⟩

theorem landV_no {x y h t l : Int} (hj : jt x y h t l = false) : landV x y h t l = .tuple #[.agg #[.int .i64 0, .int .i64 0], .bool false] := by
  unfold landV
  exact told2_no (by rw [← Bool.not_eq_true, inF_iff]; rintro ⟨h1, _⟩; rw [hj] at h1; cases h1)

set_option maxRecDepth 100000 in
set_option maxHeartbeats 4000000 in
theorem landBoxS (x y h t l : Int) (A : Option Addr) (n c : Nat) (ps : List (Int × Int)) (w : World) (hn : ps.length = n) (hb : n ≤ 1048576) (hr : Rd w w.heap.size A (pls ps)) :
    Calls Tryz.prog 35 #[jv x y h t l, .slice A n c] w fun e w' => e = .returned (.tuple #[bq (lbQ x y h t l ps), .bool (lbB x y h t l ps)]) ∧ Below w.heap.size w w' := by
  have hz1 : (w.alloc (.cells #[.int .i64 x, .int .i64 y, .int .i64 h, .int .i64 t, .int .i64 l] 70)).heap.size = w.heap.size + 1 := by simp [go_sem]
  have b0a := (Below.refl w.heap.size w).alloc (Nat.le_refl _) (.cells #[.int .i64 x, .int .i64 y, .int .i64 h, .int .i64 t, .int .i64 l] 70)
  have B0 := Lib.hid (b0a.alloc b0a.size (.cells #[.int .i64 0, .int .i64 0, .int .i64 0, .int .i64 0] 33))
  have KJ := Lib.hid ((Bk.new w #[.int .i64 x, .int .i64 y, .int .i64 h, .int .i64 t, .int .i64 l] 70).alloc (o := .cells #[.int .i64 0, .int .i64 0, .int .i64 0, .int .i64 0] 33))
  have KB := Bk.new (w.alloc (.cells #[.int .i64 x, .int .i64 y, .int .i64 h, .int .i64 t, .int .i64 l] 70)) #[.int .i64 0, .int .i64 0, .int .i64 0, .int .i64 0] 33
  rw [hz1] at KB
  have KB := Lib.hid KB
  have c0 := KJ.out.cell (i := 0) rfl
  have c1 := KJ.out.cell (i := 1) rfl
  have c2 := KJ.out.cell (i := 2) rfl
  have c3 := KJ.out.cell (i := 3) rfl
  have c4 := KJ.out.cell (i := 4) rfl
  cases hj : jt x y h t l
  · obtain ⟨e1, e2⟩ := lb_no (Or.inl hj : _ ∨ rs ps = false)
    rw [e1, e2]
    obtain ⟨⟨q1, q2, q3, q4⟩, hq⟩ : ∃ q, rQ ps 0 = q := ⟨_, rfl⟩
    obtain ⟨bb, hbb⟩ : ∃ b, rB ps 0 = b := ⟨_, rfl⟩
    have CL := Lib.hid (fun (W : World) => (by have := Dp.landS x y h t l W; rw [landV_no hj] at this; exact this : Calls Tryz.prog 76 #[jv x y h t l] W fun e w' => e = .returned (.tuple #[.agg #[.int .i64 0, .int .i64 0], .bool false]) ∧ Below W.heap.size W w'))
    have CF := Lib.hid (fun (W : World) => (by have := Dp.flightS x y h t l W; rw [Dp.fl_no hj] at this; exact this : Calls Tryz.prog 78 #[jv x y h t l] W fun e w' => e = .returned (.int .i64 0) ∧ Below W.heap.size W w'))
    have CR := Lib.hid (fun (W : World) (h9 : Below w.heap.size w W) => (by have := roseBoxS A n c ps 0 W hn hb ((hr.below h9).more h9.size); rw [hq, hbb] at this; unfold Bo.bq at this; exact this : Calls Tryz.prog 77 #[.slice A n c, .int .i64 0] W fun e w' => e = .returned (.tuple #[box4 q1 q2 q3 q4, .bool bb]) ∧ Below W.heap.size W w'))
    clear hn hb hr hz1 b0a hj e1 e2 hq hbb
    go_enter Tryz.func35, Tryz.ntmps35
    go_wp2_with fail
    refine (CL.out _).mono ?_
    rintro e w1 ⟨rfl, hb1⟩
    have J1 := Lib.hid ((KJ.out.below hb1).alloc (o := .cells #[.int .i64 0, .int .i64 0] 31))
    have K1 := Lib.hid ((KB.out.below hb1).alloc (o := .cells #[.int .i64 0, .int .i64 0] 31))
    have P1 := Lib.hid (Bk.new w1 #[.int .i64 0, .int .i64 0] 31)
    have B1a := B0.out.trans (hb1.mono B0.out.size)
    have hl1 : w.heap.size + 1 < w1.heap.size := (KB.out.below hb1).lt
    have B1 := Lib.hid (B1a.alloc B1a.size (.cells #[.int .i64 0, .int .i64 0] 31))
    clear hb1 B1a KJ KB B0 c0 c1 c2 c3 c4 CL
    have c0 := J1.out.cell (i := 0) rfl
    have c1 := J1.out.cell (i := 1) rfl
    have c2 := J1.out.cell (i := 2) rfl
    have c3 := J1.out.cell (i := 3) rfl
    have c4 := J1.out.cell (i := 4) rfl
    go_wp2_with fail
    refine (CF.out _).mono ?_
    rintro e w2 ⟨rfl, hb2⟩
    have K2 := Lib.hid (K1.out.below hb2)
    have P2 := Lib.hid (P1.out.below hb2)
    have B2 := Lib.hid (B1.out.trans (hb2.mono B1.out.size))
    have CR2 := Lib.hid (CR.out _ B2.out)
    clear hb2 K1 P1 J1 B1 c0 c1 c2 c3 c4 CF CR
    go_wp2_with fail
    refine CR2.out.mono ?_
    rintro e w3 ⟨rfl, hb3⟩
    have K3 := Lib.hid ((K2.out.below hb3).alloc (o := .cells #[.int .i64 q1, .int .i64 q2, .int .i64 q3, .int .i64 q4] 33))
    have P3 := Lib.hid ((P2.out.below hb3).alloc (o := .cells #[.int .i64 q1, .int .i64 q2, .int .i64 q3, .int .i64 q4] 33))
    have KR3 := Lib.hid (K2.out.below hb3)
    have Q3 := Lib.hid (Bk.new w3 #[.int .i64 q1, .int .i64 q2, .int .i64 q3, .int .i64 q4] 33)
    have B3a := B2.out.trans (hb3.mono B2.out.size)
    have B3 := Lib.hid (B3a.alloc B3a.size (.cells #[.int .i64 q1, .int .i64 q2, .int .i64 q3, .int .i64 q4] 33))
    have BA3 := Lib.hid B3a
    have hl3 : w.heap.size + 1 < w3.heap.size := (K2.out.below hb3).lt
    have hp3 : w1.heap.size < w3.heap.size := (P2.out.below hb3).lt
    clear hb3 B3a K2 P2 B2 CR2
    have e0 := K3.out.cell (i := 0) rfl
    have e1 := K3.out.cell (i := 1) rfl
    have e2 := K3.out.cell (i := 2) rfl
    have e3 := K3.out.cell (i := 3) rfl
    have v0 := K3.out.frozen 0
    have v1 := K3.out.frozen 1
    have v2 := K3.out.frozen 2
    have v3 := K3.out.frozen 3
    have z0 := KR3.out.cell (i := 0) rfl
    have z1 := KR3.out.cell (i := 1) rfl
    have z2 := KR3.out.cell (i := 2) rfl
    have z3 := KR3.out.cell (i := 3) rfl
    have y0 := KR3.out.frozen 0
    have y1 := KR3.out.frozen 1
    have y2 := KR3.out.frozen 2
    have y3 := KR3.out.frozen 3
    have l9 := KR3.out.lt
    have HS4 := Lib.hid (set4 (a := .int .i64 (0)) (b := .int .i64 (0)) (c := .int .i64 (0)) (d := .int .i64 (0)) z0 z1 z2 z3)
    go_wp2_with fail
    have r0 := cell_alloc (o := .cells #[.int .i64 q1, .int .i64 q2, .int .i64 q3, .int .i64 q4] 33) HS4.out.1
    have r1 := cell_alloc (o := .cells #[.int .i64 q1, .int .i64 q2, .int .i64 q3, .int .i64 q4] 33) HS4.out.2.1
    have r2 := cell_alloc (o := .cells #[.int .i64 q1, .int .i64 q2, .int .i64 q3, .int .i64 q4] 33) HS4.out.2.2.1
    have r3 := cell_alloc (o := .cells #[.int .i64 q1, .int .i64 q2, .int .i64 q3, .int .i64 q4] 33) HS4.out.2.2.2
    (try simp only [Exit.inBlock, Exit.then])
    refine bodyPost_ret (v := .tuple #[box4 (0) (0) (0) (0), .bool false]) (by simp [results, Tryz.results35, go_sem, r0, r1, r2, r3]; try rfl) rfl ?_
    exact ⟨rfl, BA3.out.trans (by have h9 := BA3.out.size; go_grown)⟩
  cases hp : rs ps
  · obtain ⟨e1, e2⟩ := lb_no (Or.inr hp : jt x y h t l = false ∨ _)
    rw [e1, e2]
    obtain ⟨r1, r2⟩ := r_no (ps := ps) (t := l + 1) (Or.inl hp)
    obtain ⟨lx, hlx⟩ : ∃ a, (land x y h t l).1 = a := ⟨_, rfl⟩
    obtain ⟨ly, hly⟩ : ∃ a, (land x y h t l).2 = a := ⟨_, rfl⟩
    have CL := Lib.hid (fun (W : World) => (by have := Dp.landS x y h t l W; rw [landV_yes hj, hlx, hly] at this; exact this : Calls Tryz.prog 76 #[jv x y h t l] W fun e w' => e = .returned (.tuple #[.agg #[.int .i64 lx, .int .i64 ly], .bool true]) ∧ Below W.heap.size W w'))
    have CF := Lib.hid (fun (W : World) => (by have := Dp.flightS x y h t l W; rw [Dp.fl_yes hj] at this; exact this : Calls Tryz.prog 78 #[jv x y h t l] W fun e w' => e = .returned (.int .i64 (l + 1)) ∧ Below W.heap.size W w'))
    have CR := Lib.hid (fun (W : World) (h9 : Below w.heap.size w W) => (by have := roseBoxS A n c ps (l + 1) W hn hb ((hr.below h9).more h9.size); rw [r1, r2] at this; unfold Bo.bq at this; exact this : Calls Tryz.prog 77 #[.slice A n c, .int .i64 (l + 1)] W fun e w' => e = .returned (.tuple #[box4 0 0 0 0, .bool false]) ∧ Below W.heap.size W w'))
    clear hn hb hr hz1 b0a hj hp e1 e2 r1 r2 hlx hly
    go_enter Tryz.func35, Tryz.ntmps35
    go_wp2_with fail
    refine (CL.out _).mono ?_
    rintro e w1 ⟨rfl, hb1⟩
    have J1 := Lib.hid ((KJ.out.below hb1).alloc (o := .cells #[.int .i64 lx, .int .i64 ly] 31))
    have K1 := Lib.hid ((KB.out.below hb1).alloc (o := .cells #[.int .i64 lx, .int .i64 ly] 31))
    have P1 := Lib.hid (Bk.new w1 #[.int .i64 lx, .int .i64 ly] 31)
    have B1a := B0.out.trans (hb1.mono B0.out.size)
    have hl1 : w.heap.size + 1 < w1.heap.size := (KB.out.below hb1).lt
    have B1 := Lib.hid (B1a.alloc B1a.size (.cells #[.int .i64 lx, .int .i64 ly] 31))
    clear hb1 B1a KJ KB B0 c0 c1 c2 c3 c4 CL
    have c0 := J1.out.cell (i := 0) rfl
    have c1 := J1.out.cell (i := 1) rfl
    have c2 := J1.out.cell (i := 2) rfl
    have c3 := J1.out.cell (i := 3) rfl
    have c4 := J1.out.cell (i := 4) rfl
    go_wp2_with fail
    refine (CF.out _).mono ?_
    rintro e w2 ⟨rfl, hb2⟩
    have K2 := Lib.hid (K1.out.below hb2)
    have P2 := Lib.hid (P1.out.below hb2)
    have B2 := Lib.hid (B1.out.trans (hb2.mono B1.out.size))
    have CR2 := Lib.hid (CR.out _ B2.out)
    clear hb2 K1 P1 J1 B1 c0 c1 c2 c3 c4 CF CR
    go_wp2_with fail
    refine CR2.out.mono ?_
    rintro e w3 ⟨rfl, hb3⟩
    have K3 := Lib.hid ((K2.out.below hb3).alloc (o := .cells #[.int .i64 0, .int .i64 0, .int .i64 0, .int .i64 0] 33))
    have P3 := Lib.hid ((P2.out.below hb3).alloc (o := .cells #[.int .i64 0, .int .i64 0, .int .i64 0, .int .i64 0] 33))
    have KR3 := Lib.hid (K2.out.below hb3)
    have Q3 := Lib.hid (Bk.new w3 #[.int .i64 0, .int .i64 0, .int .i64 0, .int .i64 0] 33)
    have B3a := B2.out.trans (hb3.mono B2.out.size)
    have B3 := Lib.hid (B3a.alloc B3a.size (.cells #[.int .i64 0, .int .i64 0, .int .i64 0, .int .i64 0] 33))
    have BA3 := Lib.hid B3a
    have hl3 : w.heap.size + 1 < w3.heap.size := (K2.out.below hb3).lt
    have hp3 : w1.heap.size < w3.heap.size := (P2.out.below hb3).lt
    clear hb3 B3a K2 P2 B2 CR2
    have e0 := K3.out.cell (i := 0) rfl
    have e1 := K3.out.cell (i := 1) rfl
    have e2 := K3.out.cell (i := 2) rfl
    have e3 := K3.out.cell (i := 3) rfl
    have v0 := K3.out.frozen 0
    have v1 := K3.out.frozen 1
    have v2 := K3.out.frozen 2
    have v3 := K3.out.frozen 3
    have z0 := KR3.out.cell (i := 0) rfl
    have z1 := KR3.out.cell (i := 1) rfl
    have z2 := KR3.out.cell (i := 2) rfl
    have z3 := KR3.out.cell (i := 3) rfl
    have y0 := KR3.out.frozen 0
    have y1 := KR3.out.frozen 1
    have y2 := KR3.out.frozen 2
    have y3 := KR3.out.frozen 3
    have l9 := KR3.out.lt
    have HS4 := Lib.hid (set4 (a := .int .i64 (0)) (b := .int .i64 (0)) (c := .int .i64 (0)) (d := .int .i64 (0)) z0 z1 z2 z3)
    go_wp2_with fail
    have r0 := cell_alloc (o := .cells #[.int .i64 0, .int .i64 0, .int .i64 0, .int .i64 0] 33) HS4.out.1
    have r1 := cell_alloc (o := .cells #[.int .i64 0, .int .i64 0, .int .i64 0, .int .i64 0] 33) HS4.out.2.1
    have r2 := cell_alloc (o := .cells #[.int .i64 0, .int .i64 0, .int .i64 0, .int .i64 0] 33) HS4.out.2.2.1
    have r3 := cell_alloc (o := .cells #[.int .i64 0, .int .i64 0, .int .i64 0, .int .i64 0] 33) HS4.out.2.2.2
    (try simp only [Exit.inBlock, Exit.then])
    refine bodyPost_ret (v := .tuple #[box4 (0) (0) (0) (0), .bool false]) (by simp [results, Tryz.results35, go_sem, r0, r1, r2, r3]; try rfl) rfl ?_
    exact ⟨rfl, BA3.out.trans (by have h9 := BA3.out.size; go_grown)⟩
  obtain ⟨e1, e2⟩ := lb_yes hj hp
  rw [e1, e2]
  have hl := (jt_iff.1 hj).2.2.2.2
  obtain ⟨r1, r2⟩ := r_yes hp (t := l + 1) (by omega)
  have hN := (nN_le hj).1
  have hla := land_le hj
  have hlb := lbox_le hj hp
  obtain ⟨lx, hlx⟩ : ∃ a, (land x y h t l).1 = a := ⟨_, rfl⟩
  obtain ⟨ly, hly⟩ : ∃ a, (land x y h t l).2 = a := ⟨_, rfl⟩
  obtain ⟨q1, hq1⟩ : ∃ a, (l + 1) * (boxA ps).1 = a := ⟨_, rfl⟩
  obtain ⟨q2, hq2⟩ : ∃ a, (l + 1) * (boxA ps).2.1 = a := ⟨_, rfl⟩
  obtain ⟨q3, hq3⟩ : ∃ a, (l + 1) * (boxA ps).2.2.1 = a := ⟨_, rfl⟩
  obtain ⟨q4, hq4⟩ : ∃ a, (l + 1) * (boxA ps).2.2.2 = a := ⟨_, rfl⟩
  have hsq : sq (l + 1) (boxA ps) = (q1, q2, q3, q4) := by unfold sq; rw [hq1, hq2, hq3, hq4]
  have hlq : lbox x y h t l ps = (lx + q1, ly + q2, lx + q3, ly + q4) := by unfold lbox; rw [hN, hlx, hly, hq1, hq2, hq3, hq4]
  rw [hlq] at hlb ⊢
  rw [hlx, hly] at hla
  simp only at hlb
  have CL := Lib.hid (fun (W : World) => (by have := Dp.landS x y h t l W; rw [landV_yes hj, hlx, hly] at this; exact this : Calls Tryz.prog 76 #[jv x y h t l] W fun e w' => e = .returned (.tuple #[.agg #[.int .i64 lx, .int .i64 ly], .bool true]) ∧ Below W.heap.size W w'))
  have CF := Lib.hid (fun (W : World) => (by have := Dp.flightS x y h t l W; rw [Dp.fl_yes hj] at this; exact this : Calls Tryz.prog 78 #[jv x y h t l] W fun e w' => e = .returned (.int .i64 (l + 1)) ∧ Below W.heap.size W w'))
  have CR := Lib.hid (fun (W : World) (h9 : Below w.heap.size w W) => (by have := roseBoxS A n c ps (l + 1) W hn hb ((hr.below h9).more h9.size); rw [r1, r2, hsq] at this; unfold Bo.bq at this; exact this : Calls Tryz.prog 77 #[.slice A n c, .int .i64 (l + 1)] W fun e w' => e = .returned (.tuple #[box4 q1 q2 q3 q4, .bool true]) ∧ Below W.heap.size W w'))
  have A1 := Lib.hid (fun (W : World) => l2AddB lx ly q1 q2 (IntWalk.wrap64_in _ (by omega)) (IntWalk.wrap64_in _ (by omega)) W)
  have A2 := Lib.hid (fun (W : World) => l2AddB lx ly q3 q4 (IntWalk.wrap64_in _ (by omega)) (IntWalk.wrap64_in _ (by omega)) W)
  have hu : undef = Value.tuple #[] := rfl
  unfold Bo.bq
  clear hn hb hr hz1 b0a hj hp e1 e2 r1 r2 hN hla hlb hlx hly hq1 hq2 hq3 hq4 hsq hlq hl
  go_enter Tryz.func35, Tryz.ntmps35
  go_wp2_with fail
  refine (CL.out _).mono ?_
  rintro e w1 ⟨rfl, hb1⟩
  have J1 := Lib.hid ((KJ.out.below hb1).alloc (o := .cells #[.int .i64 lx, .int .i64 ly] 31))
  have K1 := Lib.hid ((KB.out.below hb1).alloc (o := .cells #[.int .i64 lx, .int .i64 ly] 31))
  have P1 := Lib.hid (Bk.new w1 #[.int .i64 lx, .int .i64 ly] 31)
  have B1a := B0.out.trans (hb1.mono B0.out.size)
  have hl1 : w.heap.size + 1 < w1.heap.size := (KB.out.below hb1).lt
  have B1 := Lib.hid (B1a.alloc B1a.size (.cells #[.int .i64 lx, .int .i64 ly] 31))
  clear hb1 B1a KJ KB B0 c0 c1 c2 c3 c4 CL
  have c0 := J1.out.cell (i := 0) rfl
  have c1 := J1.out.cell (i := 1) rfl
  have c2 := J1.out.cell (i := 2) rfl
  have c3 := J1.out.cell (i := 3) rfl
  have c4 := J1.out.cell (i := 4) rfl
  go_wp2_with fail
  refine (CF.out _).mono ?_
  rintro e w2 ⟨rfl, hb2⟩
  have K2 := Lib.hid (K1.out.below hb2)
  have P2 := Lib.hid (P1.out.below hb2)
  have B2 := Lib.hid (B1.out.trans (hb2.mono B1.out.size))
  have CR2 := Lib.hid (CR.out _ B2.out)
  clear hb2 K1 P1 J1 B1 c0 c1 c2 c3 c4 CF CR
  go_wp2_with fail
  refine CR2.out.mono ?_
  rintro e w3 ⟨rfl, hb3⟩
  have K3 := Lib.hid ((K2.out.below hb3).alloc (o := .cells #[.int .i64 q1, .int .i64 q2, .int .i64 q3, .int .i64 q4] 33))
  have P3 := Lib.hid ((P2.out.below hb3).alloc (o := .cells #[.int .i64 q1, .int .i64 q2, .int .i64 q3, .int .i64 q4] 33))
  have KR3 := Lib.hid (K2.out.below hb3)
  have Q3 := Lib.hid (Bk.new w3 #[.int .i64 q1, .int .i64 q2, .int .i64 q3, .int .i64 q4] 33)
  have B3a := B2.out.trans (hb3.mono B2.out.size)
  have B3 := Lib.hid (B3a.alloc B3a.size (.cells #[.int .i64 q1, .int .i64 q2, .int .i64 q3, .int .i64 q4] 33))
  have BA3 := Lib.hid B3a
  have hl3 : w.heap.size + 1 < w3.heap.size := (K2.out.below hb3).lt
  have hp3 : w1.heap.size < w3.heap.size := (P2.out.below hb3).lt
  clear hb3 B3a K2 P2 B2 CR2
  have hs3 : (w3.alloc (.cells #[.int .i64 q1, .int .i64 q2, .int .i64 q3, .int .i64 q4] 33)).heap.size = w3.heap.size + 1 := by simp [go_sem]
  go_upto_region 5 with fail
  refine wp_region_noPanic ?_
  refine wp_region_held_drew (S := (fun w' => w'.cell? ⟨w1.heap.size, 0, none⟩ = some (.int .i64 lx) ∧ w'.cell? ⟨w1.heap.size, 1, none⟩ = some (.int .i64 ly) ∧ w'.cell? ⟨w3.heap.size, 0, none⟩ = some (.int .i64 q1) ∧ w'.cell? ⟨w3.heap.size, 1, none⟩ = some (.int .i64 q2) ∧ w'.cell? ⟨w3.heap.size, 2, none⟩ = some (.int .i64 q3) ∧ w'.cell? ⟨w3.heap.size, 3, none⟩ = some (.int .i64 q4) ∧ Below w.heap.size w w')) (by kernel_rfl) ?_ (fun hH => ?_)
  · exact ⟨P3.out.drew.cell (i := 0) rfl, P3.out.drew.cell (i := 1) rfl, Q3.out.drew.cell (i := 0) rfl, Q3.out.drew.cell (i := 1) rfl, Q3.out.drew.cell (i := 2) rfl, Q3.out.drew.cell (i := 3) rfl, B3.out.drew⟩
  refine wpAnyH_take (i := 0) (oi := { dst := some 29, op := _, type := _, pos := _, after := _, guard := _ }) (v := ?_) rfl (by kernel_rfl) (by kernel_rfl) (by kernel_rfl) (fun _ _ _ h => h) (Or.inl ⟨by rfl, ?_⟩) hH ?_
  rotate_left 1
  · intro W hSw
    (try dsimp only at hSw)
    go_simp
    (try with_reducible rfl)
  try simp only [Act.put, List.setIfInBounds_toArray, List.set_cons_zero, List.set_cons_succ]
  refine wpAnyH_take (i := 1) (oi := { dst := some 30, op := _, type := _, pos := _, after := _, guard := _ }) (v := ?_) rfl (by kernel_rfl) (by kernel_rfl) (by kernel_rfl) (fun _ _ _ h => h) (Or.inl ⟨by rfl, ?_⟩) hH ?_
  rotate_left 1
  · intro W hSw
    (try dsimp only at hSw)
    go_simp
    (try with_reducible rfl)
  try simp only [Act.put, List.setIfInBounds_toArray, List.set_cons_zero, List.set_cons_succ]
  refine wpAnyH_take (i := 2) (oi := { dst := some 31, op := _, type := _, pos := _, after := _, guard := _ }) (v := ?_) rfl (by kernel_rfl) (by kernel_rfl) (by kernel_rfl) (fun _ _ _ h => h) (Or.inl ⟨by rfl, ?_⟩) hH ?_
  rotate_left 1
  · intro W hSw
    (try dsimp only at hSw)
    go_simp
    (try with_reducible rfl)
  try simp only [Act.put, List.setIfInBounds_toArray, List.set_cons_zero, List.set_cons_succ]
  refine wpAnyH_take (i := 4) (oi := { dst := some 33, op := _, type := _, pos := _, after := _, guard := _ }) (v := ?_) rfl (by kernel_rfl) (by kernel_rfl) (by kernel_rfl) (fun _ _ _ h => h) (Or.inl ⟨by rfl, ?_⟩) hH ?_
  rotate_left 1
  · intro W hSw
    (try dsimp only at hSw)
    go_simp
    (try with_reducible rfl)
  try simp only [Act.put, List.setIfInBounds_toArray, List.set_cons_zero, List.set_cons_succ]
  refine wpAnyH_take (i := 5) (oi := { dst := some 34, op := _, type := _, pos := _, after := _, guard := _ }) (v := ?_) rfl (by kernel_rfl) (by kernel_rfl) (by kernel_rfl) (fun _ _ _ h => h) (Or.inl ⟨by rfl, ?_⟩) hH ?_
  rotate_left 1
  · intro W hSw
    (try dsimp only at hSw)
    go_simp
    (try with_reducible rfl)
  try simp only [Act.put, List.setIfInBounds_toArray, List.set_cons_zero, List.set_cons_succ]
  refine wpAnyH_take (i := 6) (oi := { dst := some 35, op := _, type := _, pos := _, after := _, guard := _ }) (v := ?_) rfl (by kernel_rfl) (by kernel_rfl) (by kernel_rfl) (fun _ _ _ h => h) (Or.inl ⟨by rfl, ?_⟩) hH ?_
  rotate_left 1
  · intro W hSw
    (try dsimp only at hSw)
    go_simp
    (try with_reducible rfl)
  try simp only [Act.put, List.setIfInBounds_toArray, List.set_cons_zero, List.set_cons_succ]
  refine wpAnyH_ready (rs := [3]) (by kernel_rfl) (by simp) (AllReadyH.cons rfl (fun K hK => ?_) AllReadyH.nil)
  go_simp
  go_at_call 79; ((with_reducible refine (A1.out _).mono ?_); rintro e9 r1 ⟨rfl, hb1⟩); have R1 := K3.out.drew.below hb1; go_wp2_with fail
  refine hK.out _ _ ?_ (fun hG => ?_)
  · exact ⟨cell_below hb1 hH.1, cell_below hb1 hH.2.1, cell_below hb1 hH.2.2.1, cell_below hb1 hH.2.2.2.1, cell_below hb1 hH.2.2.2.2.1, cell_below hb1 hH.2.2.2.2.2.1, hH.2.2.2.2.2.2.trans (hb1.mono hH.2.2.2.2.2.2.size)⟩
  replace hH := hG
  clear hK K hG
  try simp only [Act.put, List.setIfInBounds_toArray, List.set_cons_zero, List.set_cons_succ]
  refine wpAnyH_ready (rs := [7]) (by kernel_rfl) (by simp) (AllReadyH.cons rfl (fun K hK => ?_) AllReadyH.nil)
  go_simp
  go_at_call 79; ((with_reducible refine (A2.out _).mono ?_); rintro e9 r2 ⟨rfl, hb2⟩); have R2 := R1.below hb2; go_wp2_with fail
  refine hK.out _ _ ?_ (fun hG => ?_)
  · exact ⟨cell_below hb2 hH.1, cell_below hb2 hH.2.1, cell_below hb2 hH.2.2.1, cell_below hb2 hH.2.2.2.1, cell_below hb2 hH.2.2.2.2.1, cell_below hb2 hH.2.2.2.2.2.1, hH.2.2.2.2.2.2.trans (hb2.mono hH.2.2.2.2.2.2.size)⟩
  replace hH := hG
  clear hK K hG
  try simp only [Act.put, List.setIfInBounds_toArray, List.set_cons_zero, List.set_cons_succ]
  refine wpAnyH_take (i := 8) (oi := { dst := some 37, op := _, type := _, pos := _, after := _, guard := _ }) (v := ?_) rfl (by kernel_rfl) (by kernel_rfl) (by kernel_rfl) (fun _ _ _ h => h) (Or.inl ⟨by rfl, ?_⟩) hH ?_
  rotate_left 1
  · intro W hSw
    (try dsimp only at hSw)
    go_simp
    (try with_reducible rfl)
  try simp only [Act.put, List.setIfInBounds_toArray, List.set_cons_zero, List.set_cons_succ]
  refine wpAnyH_ready (rs := [9]) (by kernel_rfl) (by simp) (AllReadyH.cons rfl (fun K hK => ?_) AllReadyH.nil)
  (refine step_store_row rfl 33 (.tmp 4) (.tmp 37) rfl (w.heap.size + 1) #[.int .i64 (lx + q1), .int .i64 (ly + q2), .int .i64 (lx + q3), .int .i64 (ly + q4)] (by simp [Act.eval, Act.put]) (by simp [Act.eval, Act.put]) 33 #[.int .i64 0, .int .i64 0, .int .i64 0, .int .i64 0] R2 (by kernel_rfl) rfl (by simp [Value.oneCell']) ?_; refine (show K (Act.put _ none _) _ from ?_); have hgR := row_grown r2 (w.heap.size + 1) #[.int .i64 (lx + q1), .int .i64 (ly + q2), .int .i64 (lx + q3), .int .i64 (ly + q4)])
  refine hK.out _ _ ?_ (fun hG => ?_)
  · exact ⟨hgR.cell hH.1 (fun e => by have e := Option.some.inj e; (have e9 : w1.heap.size = w.heap.size + 1 := e); omega), hgR.cell hH.2.1 (fun e => by have e := Option.some.inj e; (have e9 : w1.heap.size = w.heap.size + 1 := e); omega), hgR.cell hH.2.2.1 (fun e => by have e := Option.some.inj e; (have e9 : w3.heap.size = w.heap.size + 1 := e); omega), hgR.cell hH.2.2.2.1 (fun e => by have e := Option.some.inj e; (have e9 : w3.heap.size = w.heap.size + 1 := e); omega), hgR.cell hH.2.2.2.2.1 (fun e => by have e := Option.some.inj e; (have e9 : w3.heap.size = w.heap.size + 1 := e); omega), hgR.cell hH.2.2.2.2.2.1 (fun e => by have e := Option.some.inj e; (have e9 : w3.heap.size = w.heap.size + 1 := e); omega), hH.2.2.2.2.2.2.grown hgR hH.2.2.2.2.2.2.size (fun z9 e9 => by have e9 := Option.some.inj e9; omega)⟩
  replace hH := hG
  clear hK K hG
  try simp only [Act.put, List.setIfInBounds_toArray, List.set_cons_zero, List.set_cons_succ]
  refine wpAnyH_take (i := 10) (oi := { dst := some 5, op := _, type := _, pos := _, after := _, guard := _ }) (v := ?_) rfl (by kernel_rfl) (by kernel_rfl) (by kernel_rfl) (fun _ _ _ h => h) (Or.inl ⟨by rfl, ?_⟩) hH ?_
  rotate_left 1
  · intro W hSw
    (try dsimp only at hSw)
    go_simp
    (try with_reducible rfl)
  try simp only [Act.put, List.setIfInBounds_toArray, List.set_cons_zero, List.set_cons_succ]
  refine wpAnyH_done (by kernel_rfl) ?_ _
  refine NoPanic.normal ?_
  have KX := row_bk #[.int .i64 (lx + q1), .int .i64 (ly + q2), .int .i64 (lx + q3), .int .i64 (ly + q4)] R2
  have r0 := KX.cell (i := 0) rfl
  have r1' := KX.cell (i := 1) rfl
  have r2' := KX.cell (i := 2) rfl
  have r3' := KX.cell (i := 3) rfl
  have BX := hH.2.2.2.2.2.2
  clear hH
  go_wp2_with fail
  (try simp only [Exit.inBlock, Exit.then])
  refine bodyPost_ret (v := .tuple #[box4 (lx + q1) (ly + q2) (lx + q3) (ly + q4), .bool true]) (by simp [results, Tryz.results35, go_sem, r0, r1', r2', r3']; try rfl) rfl ?_
  exact ⟨rfl, BX⟩
end Go.Proofs.YtejeikfgmiadhabGreat.Lb10
namespace Go.Proofs.YtejeikfgmiadhabGreat.Bi
open Go.RowKit Go.Proofs.YtejeikfgmiadhabGreat.Mem Go.Proofs.YtejeikfgmiadhabGreat.Cx Go.Proofs.YtejeikfgmiadhabGreat.Cm Go.Proofs.YtejeikfgmiadhabGreat.Pl Go.Proofs.YtejeikfgmiadhabGreat.Str Go.Proofs.YtejeikfgmiadhabGreat.Pw Go.Proofs.YtejeikfgmiadhabGreat.P2 Go.Proofs.YtejeikfgmiadhabGreat.Bx Go.Proofs.YtejeikfgmiadhabGreat.Tb Go.Proofs.YtejeikfgmiadhabGreat.Pls Go.Proofs.YtejeikfgmiadhabGreat.Bo
set_option linter.unusedVariables false

set_option maxHeartbeats 2000000 in
theorem boxOfI (A : Option Addr) (n c : Nat) (zs : List (Int × Int)) (w : World) (hn : zs.length = n) (hb : n ≤ 1048576) (hr : Rd w w.heap.size A (pls zs)) :
    Calls Tryz.prog 44 #[.slice A n c] w fun e w' => e = .returned (.tuple #[bq (val zs), .bool (okB zs)]) ∧ Below w.heap.size w w' := by
  have HR := Lib.hid hr
  have HN := Lib.hid hn
  have hu : undef = Value.tuple #[] := rfl
  clear hr hn
  go_enter Tryz.func44, Tryz.ntmps44
  go_wp2_with fail
  have R0 : B4 (w.alloc (.cells #[.int .i64 0, .int .i64 0, .int .i64 0, .int .i64 0] 33)) w.heap.size 0 0 0 0 := by constructor <;> simp [go_sem]
  refine (complexesOf A n c zs _ HN.out hb ((HR.out.below (by go_grown)).more (by simp))).mono ?_
  rintro e v ⟨hb1, ⟨hg, rfl⟩ | ⟨hg, g, rfl, own⟩⟩
  · have R := R0.below hb1
    have hB := Lib.hid (show Below w.heap.size w v from Below.trans (by go_grown) (hb1.mono (by simp)))
    have F := Lib.hid (val_no hg)
    clear R0 hb1 hg
    have z0 := R.c0
    have z1 := R.c1
    have z2 := R.c2
    have z3 := R.c3
    have y0 := R.f0
    have y1 := R.f1
    have y2 := R.f2
    have y3 := R.f3
    have HS := Lib.hid (set4 (a := .int .i64 (0)) (b := .int .i64 (0)) (c := .int .i64 (0)) (d := .int .i64 (0)) z0 z1 z2 z3)
    clear R
    go_wp2_with fail
    have r0 := HS.out.1
    have r1 := HS.out.2.1
    have r2 := HS.out.2.2.1
    have r3 := HS.out.2.2.2
    (try simp only [Exit.inBlock, Exit.then])
    refine bodyPost_ret (v := .tuple #[box4 (0) (0) (0) (0), .bool false]) (by simp [results, Tryz.results44, go_sem, r0, r1, r2, r3]; try rfl) rfl ?_
    refine ⟨congrArg Ending.returned F.out, hB.out.trans (by have h9 := hB.out.size; go_grown)⟩
  · have R := R0.below hb1
    have hB := Lib.hid (show Below w.heap.size w v from Below.trans (by go_grown) (hb1.mono (by simp)))
    by_cases hn0 : n = 0
    · have F := Lib.hid (val_nil (zs := zs) (HN.out.trans hn0))
      subst hn0
      clear R0 hb1 hg own
      have z0 := R.c0
      have z1 := R.c1
      have z2 := R.c2
      have z3 := R.c3
      have y0 := R.f0
      have y1 := R.f1
      have y2 := R.f2
      have y3 := R.f3
      have HS := Lib.hid (set4 (a := .int .i64 (0)) (b := .int .i64 (0)) (c := .int .i64 (0)) (d := .int .i64 (0)) z0 z1 z2 z3)
      clear R
      go_wp2_with fail
      have r0 := HS.out.1
      have r1 := HS.out.2.1
      have r2 := HS.out.2.2.1
      have r3 := HS.out.2.2.2
      (try simp only [Exit.inBlock, Exit.then])
      refine bodyPost_ret (v := .tuple #[box4 (0) (0) (0) (0), .bool false]) (by simp [results, Tryz.results44, go_sem, r0, r1, r2, r3]; try rfl) rfl ?_
      refine ⟨congrArg Ending.returned F.out, hB.out.trans (by have h9 := hB.out.size; go_grown)⟩
    · have hk1 : ¬ ((n : Int) = 0) := by omega
      have OW := Lib.hid own
      have HG := Lib.hid hg
      clear R0 hb1 hg own
      go_wp2_with fail
      refine (leastBox _ n n zs _ _ HN.out (by omega) hb HG.out (Nat.le_refl _) (Rd.own OW.out)).mono ?_
      rintro e u ⟨rfl, hb2⟩
      replace R := R.below hb2
      replace hB := Lib.hid (hB.out.trans (hb2.mono hB.out.size))
      have F := Lib.hid (val_yes (zs := zs) (q1 := (boxA zs).1) (q2 := (boxA zs).2.1) (q3 := (boxA zs).2.2.1) (q4 := (boxA zs).2.2.2) HG.out rfl)
      rw [HN.out, decide_eq_true (show 0 < n by omega)] at F
      unfold bq
      generalize (boxA zs).1 = q1 at *
      generalize (boxA zs).2.1 = q2 at *
      generalize (boxA zs).2.2.1 = q3 at *
      generalize (boxA zs).2.2.2 = q4 at *
      clear hb2 OW
      have z0 := R.c0
      have z1 := R.c1
      have z2 := R.c2
      have z3 := R.c3
      have y0 := R.f0
      have y1 := R.f1
      have y2 := R.f2
      have y3 := R.f3
      have HS := Lib.hid (set4 (a := .int .i64 (q1)) (b := .int .i64 (q2)) (c := .int .i64 (q3)) (d := .int .i64 (q4)) z0 z1 z2 z3)
      clear R
      go_wp2_with fail
      have r0 := HS.out.1
      have r1 := HS.out.2.1
      have r2 := HS.out.2.2.1
      have r3 := HS.out.2.2.2
      (try simp only [Exit.inBlock, Exit.then])
      refine bodyPost_ret (v := .tuple #[box4 (q1) (q2) (q3) (q4), .bool true]) (by simp [results, Tryz.results44, go_sem, r0, r1, r2, r3]; try rfl) rfl ?_
      refine ⟨congrArg Ending.returned F.out, hB.out.trans (by have h9 := hB.out.size; go_grown)⟩

end Go.Proofs.YtejeikfgmiadhabGreat.Bi
namespace Go.Proofs.YtejeikfgmiadhabGreat.Le10
open Go.RowKit Go.ChangeShapes Go.WideShapes Go.WideElems Go.Deep Go.Proofs.YtejeikfgmiadhabGreat.Mem Go.Proofs.YtejeikfgmiadhabGreat.Rw Go.Proofs.YtejeikfgmiadhabGreat.P2 Go.Proofs.YtejeikfgmiadhabGreat.Bk Go.Proofs.YtejeikfgmiadhabGreat.Jt Go.Proofs.YtejeikfgmiadhabGreat.Cm Go.Proofs.YtejeikfgmiadhabGreat.Cx Go.Proofs.YtejeikfgmiadhabGreat.Pl Go.Proofs.YtejeikfgmiadhabGreat.Hd Go.Proofs.YtejeikfgmiadhabGreat.Str
open Go.Proofs.YtejeikfgmiadhabGreat.Wz Go.Proofs.YtejeikfgmiadhabGreat.Fw10 Go.Proofs.YtejeikfgmiadhabGreat.Fa10 Go.Proofs.YtejeikfgmiadhabGreat.Wy
open Go.Proofs.YtejeikfgmiadhabGreat.Wr (rs)
open Go.Proofs.YtejeikfgmiadhabGreat.Pls (pls pls_len infoPlace)
open Go.Proofs.YtejeikfgmiadhabGreat.Bo (boxA Q4 bq)
open Go.Proofs.YtejeikfgmiadhabGreat.Tb (box4 set4)
open Go.Proofs.YtejeikfgmiadhabGreat.Tw9 (step_store_row row_grown row_bk)
open Go.Proofs.YtejeikfgmiadhabGreat.Bxi (bx ib)
open Go.Proofs.YtejeikfgmiadhabGreat.Dp (landV landI flightI fl_yes inF_iff told2_yes told2_no)
open Go.Proofs.YtejeikfgmiadhabGreat.Lb10 (lbB lbQ landBoxI landBoxS)
open Go.Proofs.YtejeikfgmiadhabGreat.Sp Go.Proofs.YtejeikfgmiadhabGreat.Sq
open Go.Proofs.YtejeikfgmiadhabGreat.Sv hiding D C G
open Go.Proofs.YtejeikfgmiadhabGreat.Bo (okB val good)
open Go.Proofs.YtejeikfgmiadhabGreat.Tw9 (T9 WOk tls tls_get Thr)
open Go.Proofs.YtejeikfgmiadhabGreat.Tm9 (bls bls_get)
set_option linter.unusedVariables false
set_option linter.unusedSimpArgs false

theorem cT {w : World} {base g n c k : Nat} {us : List T9} {u : T9} (o : w.ownsRow base 83 9 (.slice (some ⟨g, 0, none⟩) n c) n (tls us)) (h : us[k]? = some u) (hk : k < n) :
    w.cell? ⟨g, k * 9, none⟩ = some (.string u.z.d.nm) ∧ w.cell? ⟨g, k * 9 + 1, none⟩ = some (.int .i64 u.z.b) ∧ w.cell? ⟨g, k * 9 + 2, none⟩ = some (.int .i64 (u.z.b + (u.z.l + 1))) ∧ w.cell? ⟨g, k * 9 + 3, none⟩ = some (.int .i64 u.z.d.x) ∧ w.cell? ⟨g, k * 9 + 4, none⟩ = some (.int .i64 u.z.d.y) ∧ w.cell? ⟨g, k * 9 + 5, none⟩ = some (.int .i64 u.z.d.hd) ∧ w.cell? ⟨g, k * 9 + 6, none⟩ = some (.int .i64 u.z.d.tl) ∧ w.cell? ⟨g, k * 9 + 7, none⟩ = some (.int .i64 u.z.l) ∧ w.cell? ⟨g, k * 9 + 8, none⟩ = some (.complex .f32 u.re u.im) :=
  have g := tls_get h
  ⟨(o.cellAt (k * 9) (by omega)).trans g.1, (o.cellAt (k * 9 + 1) (by omega)).trans g.2.1, (o.cellAt (k * 9 + 2) (by omega)).trans g.2.2.1, (o.cellAt (k * 9 + 3) (by omega)).trans g.2.2.2.1, (o.cellAt (k * 9 + 4) (by omega)).trans g.2.2.2.2.1, (o.cellAt (k * 9 + 5) (by omega)).trans g.2.2.2.2.2.1, (o.cellAt (k * 9 + 6) (by omega)).trans g.2.2.2.2.2.2.1, (o.cellAt (k * 9 + 7) (by omega)).trans g.2.2.2.2.2.2.2.1, (o.cellAt (k * 9 + 8) (by omega)).trans g.2.2.2.2.2.2.2.2⟩
theorem cB {w : World} {base g n c k : Nat} {us : List B} {z : B} (o : w.ownsRow base 72 7 (.slice (some ⟨g, 0, none⟩) n c) n (bls us)) (h : us[k]? = some z) (hk : k < n) :
    w.cell? ⟨g, k * 7, none⟩ = some (.string z.d.nm) ∧ w.cell? ⟨g, k * 7 + 1, none⟩ = some (.int .i64 z.b) ∧ w.cell? ⟨g, k * 7 + 2, none⟩ = some (.int .i64 z.d.x) ∧ w.cell? ⟨g, k * 7 + 3, none⟩ = some (.int .i64 z.d.y) ∧ w.cell? ⟨g, k * 7 + 4, none⟩ = some (.int .i64 z.d.hd) ∧ w.cell? ⟨g, k * 7 + 5, none⟩ = some (.int .i64 z.d.tl) ∧ w.cell? ⟨g, k * 7 + 6, none⟩ = some (.int .i64 z.l) :=
  have g := bls_get h
  ⟨(o.cellAt (k * 7) (by omega)).trans g.1, (o.cellAt (k * 7 + 1) (by omega)).trans g.2.1, (o.cellAt (k * 7 + 2) (by omega)).trans g.2.2.1, (o.cellAt (k * 7 + 3) (by omega)).trans g.2.2.2.1, (o.cellAt (k * 7 + 4) (by omega)).trans g.2.2.2.2.1, (o.cellAt (k * 7 + 5) (by omega)).trans g.2.2.2.2.2.1, (o.cellAt (k * 7 + 6) (by omega)).trans g.2.2.2.2.2.2⟩

/-- The corners of the box of the landings of a drop. -/
def cn (ps : List (Int × Int)) (z : B) : List (Int × Int) := [((lbQ z.d.x z.d.y z.d.hd z.d.tl z.l ps).1, (lbQ z.d.x z.d.y z.d.hd z.d.tl z.l ps).2.1), ((lbQ z.d.x z.d.y z.d.hd z.d.tl z.l ps).2.2.1, (lbQ z.d.x z.d.y z.d.hd z.d.tl z.l ps).2.2.2)]
def cnL (ps : List (Int × Int)) (l : List B) : List (Int × Int) := l.flatMap (cn ps)
theorem cnL_len (ps : List (Int × Int)) : ∀ l : List B, (cnL ps l).length = l.length * 2
  | [] => rfl
  | z :: l => by
    have h := cnL_len ps l
    unfold cnL at h ⊢
    rw [List.flatMap_cons, List.length_append, h, List.length_cons, show (cn ps z).length = 2 from rfl]; omega
theorem cnL_snoc {ps : List (Int × Int)} {l : List B} {k : Nat} {z : B} (h : l[k]? = some z) {q1 q2 q3 q4 : Int} (hq : lbQ z.d.x z.d.y z.d.hd z.d.tl z.l ps = (q1, q2, q3, q4)) : pls (cnL ps (l.take k)) ++ [.int .i64 q1, .int .i64 q2, .int .i64 q3, .int .i64 q4] = pls (cnL ps (l.take (k + 1))) := by
  obtain ⟨hk, rfl⟩ := List.getElem?_eq_some_iff.1 h
  rw [List.take_succ_eq_append_getElem hk]
  have e : cnL ps (l.take k ++ [l[k]]) = cnL ps (l.take k) ++ [(q1, q2), (q3, q4)] := by
    unfold cnL; rw [List.flatMap_append]; simp [cn, hq]
  rw [e]
  unfold pls
  rw [List.flatMap_append]
  rfl
noncomputable def leB (ds : List D) (cs : List C) (gs : List G) (T : Int) (ps : List (Int × Int)) : Bool := rs ps && okB (cnL ps (all9 ds cs gs T))
/-- The least basin; zeros if there is none. -/
noncomputable def leQ (ds : List D) (cs : List C) (gs : List G) (T : Int) (ps : List (Int × Int)) : Q4 := if rs ps = true then val (cnL ps (all9 ds cs gs T)) else (0, 0, 0, 0)
theorem le_no {ds : List D} {cs : List C} {gs : List G} {T : Int} {ps : List (Int × Int)} (h : rs ps = false) : leB ds cs gs T ps = false ∧ leQ ds cs gs T ps = (0, 0, 0, 0) := by
  unfold leB leQ; rw [h]; exact ⟨rfl, rfl⟩
theorem le_none {ds : List D} {cs : List C} {gs : List G} {T : Int} {ps : List (Int × Int)} (h : show9 ds cs gs T = false) : leB ds cs gs T ps = false ∧ leQ ds cs gs T ps = (0, 0, 0, 0) := by
  unfold leB leQ; rw [all9_no h]
  have e1 : okB (cnL ps []) = false := by unfold okB; rw [show (cnL ps []).length = 0 from rfl]; simp
  have e2 : val (cnL ps []) = (0, 0, 0, 0) := rfl
  rw [e1, e2]
  refine ⟨Bool.and_false _, ?_⟩
  split <;> rfl
theorem le_yes {ds : List D} {cs : List C} {gs : List G} {T : Int} {ps : List (Int × Int)} {zs : List B} (h : rs ps = true) (hz : all9 ds cs gs T = zs) : leB ds cs gs T ps = okB (cnL ps zs) ∧ leQ ds cs gs T ps = val (cnL ps zs) := by
  unfold leB leQ; rw [h, hz]; exact ⟨Bool.true_and _, rfl⟩
theorem append_place (w : World) (base g n c : Nat) (xs : List Value) (hown : w.ownsRow base 31 2 (.slice (some ⟨g, 0, none⟩) n c) n xs) (a : Addr) (m c2 : Nat) (news : List Value) (hl : news.length = m * 2) (hnews : ∀ j u, news[j]? = some u → w.cell? (a.add j) = some u) (h1 : ∀ u ∈ news, u.oneCell' = true) (hs : n + m ≤ 2097152) (hbase : base ≤ w.heap.size) :
    ∃ (g' c' : Nat) (w' : World), (Builtin.append_ #[42, 42] 42 #[.slice (some ⟨g, 0, none⟩) n c, .slice (some a) m c2]).run Tryz.prog w = .ok (.slice (some ⟨g', 0, none⟩) (n + m) c') w' ∧ w'.ownsRow base 31 2 (.slice (some ⟨g', 0, none⟩) (n + m) c') (n + m) (xs ++ news) ∧ w.grownBy w' (some g) := by
  obtain ⟨i0, hi, hz0, hz1, hz2⟩ := info_of infoPlace
  obtain ⟨v', w', hr, h2, h3, h4, _⟩ := run_append_own_at (P := Tryz.prog) w base 42 42 31 i0 (.agg #[.int .i64 0, .int .i64 0]) 2 16 Tryz.underlying42 hi hz0 hz1 hz2 rfl (by decide) _ n xs hown a m c2 news hl hnews h1 (by unfold maxLen; omega) (by omega) hbase
  have hg : ∃ g c, v' = .slice (some ⟨g, 0, none⟩) (n + m) c := by
    rcases h2.2 with ⟨e1, _⟩ | ⟨g, cap, cur, e1, _⟩
    · exact absurd (h4.1 e1).1 (by intro h; cases h)
    · exact ⟨g, cap, e1⟩
  obtain ⟨g', c', rfl⟩ := hg
  exact ⟨g', c', w', hr, h2, h3⟩
theorem wpList_append_place {ops : Array Oper} {rest : List Oper} {o : Oper} {a : Act} {w w' : World} {Q : Exit → Act → World → Prop}
    (hg : o.guard = none) (s x : Operand) (hop : o.op = Op.call { callee := Callee.builtin Builtin.append, args := #[s, x], argTypes := #[42, 42] }) (hty : o.type = 42)
    (v v2 v' : Value) (hs : a.eval s = v) (hx : a.eval x = v2) (hrun : (Builtin.append_ #[42, 42] 42 #[v, v2]).run Tryz.prog w = .ok v' w') (hK : wpList Tryz.prog ops Q rest (a.put o.dst v') w') : wpList Tryz.prog ops Q (o :: rest) a w := by
  refine wpList_plain hg fun K' hK' => ?_
  unfold Oper.wp
  simp [execOp, hop, hty, resolve, invoke, builtin, hs, hx, hrun, Result.andThen]
  exact hK' _ _ hK

set_option maxRecDepth 100000 in
set_option maxHeartbeats 4000000 in
theorem leastI (A0 : Option Addr) (n0 c0 : Nat) (A1 : Option Addr) (n1 c1 : Nat) (A2 : Option Addr) (n2 c2 : Nat) (T : Int) (ds : List D) (cs : List C) (gs : List G) (A9 : Option Addr) (n9 c9 : Nat) (ps : List (Int × Int)) (w : World) (hf : Fit n0 n1 n2 ds cs gs) (hr : SR w A0 A1 A2 ds cs gs) (hn9 : ps.length = n9) (hb9 : n9 ≤ 1048576) (hr9 : Rd w w.heap.size A9 (pls ps)) :
    Calls Tryz.prog 12 #[sv A0 n0 c0 A1 n1 c1 A2 n2 c2 T, .slice A9 n9 c9] w fun e w' => e = .returned (.tuple #[bq (leQ ds cs gs T ps), .bool (leB ds cs gs T ps)]) ∧ Below w.heap.size w w' := by
  have b0a := (Below.refl w.heap.size w).alloc (Nat.le_refl _) (.cells (sc A0 n0 c0 A1 n1 c1 A2 n2 c2 T) 40)
  have hz1 : (w.alloc (.cells (sc A0 n0 c0 A1 n1 c1 A2 n2 c2 T) 40)).heap.size = w.heap.size + 1 := by simp [go_sem]
  have B0 := Lib.hid (b0a.alloc b0a.size (.cells #[.int .i64 0, .int .i64 0, .int .i64 0, .int .i64 0] 33))
  have KS := Lib.hid ((Bk.new w (sc A0 n0 c0 A1 n1 c1 A2 n2 c2 T) 40).alloc (o := .cells #[.int .i64 0, .int .i64 0, .int .i64 0, .int .i64 0] 33))
  have KB := Bk.new (w.alloc (.cells (sc A0 n0 c0 A1 n1 c1 A2 n2 c2 T) 40)) #[.int .i64 0, .int .i64 0, .int .i64 0, .int .i64 0] 33
  rw [hz1] at KB
  have KB := Lib.hid KB
  have hz2 : ((w.alloc (.cells (sc A0 n0 c0 A1 n1 c1 A2 n2 c2 T) 40)).alloc (.cells #[.int .i64 0, .int .i64 0, .int .i64 0, .int .i64 0] 33)).heap.size = w.heap.size + 1 + 1 := by simp [go_sem]
  obtain ⟨br, hp⟩ : ∃ b, rs ps = b := ⟨_, rfl⟩
  have CR := Lib.hid (fun (W : World) (h9 : Below w.heap.size w W) => Wx.roseI (A := A9) (c := c9) (H := w.heap.size) hn9 hb9 hp W h9.size (hr9.below h9))
  have hu : undef = Value.tuple #[] := rfl
  cases br
  · obtain ⟨e1, e2⟩ := le_no (ds := ds) (cs := cs) (gs := gs) (T := T) hp
    rw [e1, e2]
    clear hf hr hn9 hb9 hr9 b0a hz1 hz2 hp e1 e2 KS
    go_enter Tryz.func12, Tryz.ntmps12
    go_wp2_with fail
    refine (CR.out _ B0.out).mono ?_
    rintro e v ⟨rfl, b1⟩
    have R := Lib.hid (KB.out.below b1)
    have B9 := Lib.hid (B0.out.trans (b1.mono B0.out.size))
    clear b1 KB CR B0
    have z0 := R.out.cell (i := 0) rfl
    have z1 := R.out.cell (i := 1) rfl
    have z2 := R.out.cell (i := 2) rfl
    have z3 := R.out.cell (i := 3) rfl
    have y0 := R.out.frozen 0
    have y1 := R.out.frozen 1
    have y2 := R.out.frozen 2
    have y3 := R.out.frozen 3
    have l9 := R.out.lt
    have HS4 := Lib.hid (set4 (a := .int .i64 (0)) (b := .int .i64 (0)) (c := .int .i64 (0)) (d := .int .i64 (0)) z0 z1 z2 z3)
    go_wp2_with fail
    have r0 := HS4.out.1
    have r1 := HS4.out.2.1
    have r2 := HS4.out.2.2.1
    have r3 := HS4.out.2.2.2
    (try simp only [Exit.inBlock, Exit.then])
    refine bodyPost_ret (v := .tuple #[box4 (0) (0) (0) (0), .bool false]) (by simp [results, Tryz.results12, go_sem, r0, r1, r2, r3]; try rfl) rfl ?_
    exact ⟨rfl, B9.out.trans (by have h9 := B9.out.size; go_grown)⟩
  obtain ⟨zs, hzs⟩ : ∃ zs, all9 ds cs gs T = zs := ⟨_, rfl⟩
  obtain ⟨m, hm⟩ : ∃ m, zs.length = m := ⟨_, rfl⟩
  have hmb : m ≤ 512 := by have := all9_len ds cs gs T; rw [hzs, hm] at this; exact this
  have HMB := Lib.hid hmb
  have HM := Lib.hid hm
  obtain ⟨hv1, hv2⟩ := le_yes (ds := ds) (cs := cs) (gs := gs) (T := T) hp hzs
  obtain ⟨⟨p1, p2, p3, p4⟩, hvq⟩ : ∃ q, val (cnL ps zs) = q := ⟨_, rfl⟩
  obtain ⟨pb, hvb⟩ : ∃ b, okB (cnL ps zs) = b := ⟨_, rfl⟩
  rw [hv1, hv2, hvq, hvb]
  have HVQ := Lib.hid hvq
  have HVB := Lib.hid hvb
  clear hv1 hv2 hvq hvb
  have CT := Lib.hid (fun (W : World) (h : SR W A0 A1 A2 ds cs gs) => (by have := Ti9.thrownIn A0 n0 c0 A1 n1 c1 A2 n2 c2 T ds cs gs W hf h; unfold Tw9.RowT at this; rw [hzs, hm] at this; exact this :
    Calls Tryz.prog 42 #[sv A0 n0 c0 A1 n1 c1 A2 n2 c2 T] W (fun e w' => ∃ g c, e = .returned (.slice (some ⟨g, 0, none⟩) m c) ∧ Thr w' W.heap.size (.slice (some ⟨g, 0, none⟩) m c) m zs ∧ Below W.heap.size W w')))
  have HN9 := Lib.hid (And.intro hn9 hb9)
  have HR9 := Lib.hid hr9
  have HS0 := Lib.hid hr
  clear hf hr hn9 hb9 hr9 b0a hz1 hz2 hp hzs hm
  go_enter Tryz.func12, Tryz.ntmps12
  go_wp2_with fail
  refine (CR.out _ B0.out).mono ?_
  rintro e w1 ⟨rfl, hb⟩
  have b1 := B0.out.trans (hb.mono B0.out.size)
  have hw1 : w.heap.size + 1 < w1.heap.size := (KB.out.below hb).lt
  have B1 := Lib.hid (b1.alloc b1.size (.cells #[] 31))
  have S1 := Lib.hid (HS0.out.below B1.out)
  have K1 := Lib.hid ((KB.out.below hb).alloc (o := .cells #[] 31))
  have Q1 := Lib.hid ((KS.out.below hb).alloc (o := .cells #[] 31))
  have R1 := Lib.hid (World.ownsRow_lit (base := w.heap.size + 1 + 1) (e := 31) (size := 2) w1 #[] 0 (by omega) (Nat.zero_le _) rfl : (w1.alloc (.cells #[] 31)).ownsRow (w.heap.size + 1 + 1) 31 2 (.slice (some ⟨w1.heap.size, 0, none⟩) 0 0) 0 [])
  have s0 := Q1.out.cell (i := 0) rfl
  have s1 := Q1.out.cell (i := 1) rfl
  have s2 := Q1.out.cell (i := 2) rfl
  have s3 := Q1.out.cell (i := 3) rfl
  clear hb b1 hw1 KB KS B0 CR HS0
  go_wp2_with fail
  refine (CT.out _ S1.out).mono ?_
  rintro e w2 ⟨gL, cL, rfl, hT, hb⟩
  obtain ⟨ts, ht1, ht2, ht3, oT⟩ := Ti9.thr_more hT B1.out.size
  have HTL := Lib.hid ht3
  have HTZ := Lib.hid ht1
  have B2 := Lib.hid (B1.out.trans (hb.mono B1.out.size))
  have K2 := Lib.hid (K1.out.below hb)
  have R2 := Lib.hid (owns_below R1.out hb)
  have O2 := Lib.hid oT
  clear hb hT ht1 ht2 ht3 oT CT S1 K1 Q1 R1 B1 s0 s1 s2 s3
  go_wp2_with fail
  go_loopw [6, 10, 19] (fun v ok9 i wr => ∃ k : Nat, k ≤ m ∧ i = .int .i64 k ∧ (∃ q gv cv, Hid (q = k * 2) ∧ v = .slice (some ⟨gv, 0, none⟩) q cv ∧ Hid (wr.ownsRow (w.heap.size + 1 + 1) 31 2 (.slice (some ⟨gv, 0, none⟩) q cv) q (pls (cnL ps (zs.take k))))) ∧ Hid (wr.ownsRow w.heap.size 83 9 (.slice (some ⟨gL, 0, none⟩) m cL) m (tls ts)) ∧ Hid (Bk wr (w.heap.size + 1) #[.int .i64 0, .int .i64 0, .int .i64 0, .int .i64 0] 33) ∧ Hid (Below w.heap.size w wr)) (fun _ _ i _ => m - (intOf i).toNat)
  case atStart => exact ⟨0, Nat.zero_le _, rfl, ⟨0, _, 0, Lib.hid rfl, rfl, R2⟩, O2, K2, B2⟩
  case round =>
    obtain ⟨k, hk, rfl, ⟨q, gv, cv, HQ, rfl, RK⟩, OK, KK, BK⟩ := hrel
    clear O2 B2 K2 R2
    have hbs := BK.out.size
    by_cases hlt : k < m
    · obtain ⟨u, hu9⟩ : ∃ u, ts[k]? = some u := ⟨_, List.getElem?_eq_getElem (by rw [HTL.out]; exact hlt)⟩
      have hz9 : zs[k]? = some u.z := by rw [← HTZ.out, List.getElem?_map, hu9]; rfl
      obtain ⟨x0, x1, x2, x3, x4, x5, x6, x7, x8⟩ := cT OK.out hu9 hlt
      obtain ⟨z, hzz⟩ : ∃ z, u.z = z := ⟨_, rfl⟩
      obtain ⟨re, hre⟩ : ∃ z, u.re = z := ⟨_, rfl⟩
      obtain ⟨im, him⟩ : ∃ z, u.im = z := ⟨_, rfl⟩
      rw [hzz] at hz9 x0 x1 x2 x3 x4 x5 x6 x7
      rw [hre, him] at x8
      clear hzz hre him hu9

      have HZ9 := Lib.hid hz9
      obtain ⟨⟨q1, q2, q3, q4⟩, hq⟩ : ∃ q, lbQ z.d.x z.d.y z.d.hd z.d.tl z.l ps = q := ⟨_, rfl⟩
      obtain ⟨bb, hbb⟩ : ∃ b, lbB z.d.x z.d.y z.d.hd z.d.tl z.l ps = b := ⟨_, rfl⟩
      have CB := Lib.hid (fun (W : World) (h9 : Below w.heap.size w W) => (by have := landBoxI z.d.x z.d.y z.d.hd z.d.tl z.l A9 n9 c9 ps W HN9.out.1 HN9.out.2 ((HR9.out.below h9).more h9.size); rw [hq, hbb] at this; unfold Bo.bq at this; exact this :
        Calls Tryz.prog 43 #[jv z.d.x z.d.y z.d.hd z.d.tl z.l, .slice A9 n9 c9] W fun e w' => e = .returned (.tuple #[box4 q1 q2 q3 q4, .bool bb]) ∧ Below W.heap.size W w'))
      have hSN := cnL_snoc hz9 hq
      have SN := Lib.hid hSN
      have O1 := Lib.hid (OK.out.alloc (.cells #[.string z.d.nm, .int .i64 z.b, .int .i64 (z.b + (z.l + 1)), .int .i64 z.d.x, .int .i64 z.d.y, .int .i64 z.d.hd, .int .i64 z.d.tl, .int .i64 z.l, .complex .f32 re im] 83))
      have R1 := Lib.hid (RK.out.alloc (.cells #[.string z.d.nm, .int .i64 z.b, .int .i64 (z.b + (z.l + 1)), .int .i64 z.d.x, .int .i64 z.d.y, .int .i64 z.d.hd, .int .i64 z.d.tl, .int .i64 z.l, .complex .f32 re im] 83))
      have K1 := Lib.hid (KK.out.alloc (o := .cells #[.string z.d.nm, .int .i64 z.b, .int .i64 (z.b + (z.l + 1)), .int .i64 z.d.x, .int .i64 z.d.y, .int .i64 z.d.hd, .int .i64 z.d.tl, .int .i64 z.l, .complex .f32 re im] 83))
      have B1 := Lib.hid (BK.out.alloc hbs (.cells #[.string z.d.nm, .int .i64 z.b, .int .i64 (z.b + (z.l + 1)), .int .i64 z.d.x, .int .i64 z.d.y, .int .i64 z.d.hd, .int .i64 z.d.tl, .int .i64 z.l, .complex .f32 re im] 83))
      have KU := Lib.hid (Bk.new wr #[.string z.d.nm, .int .i64 z.b, .int .i64 (z.b + (z.l + 1)), .int .i64 z.d.x, .int .i64 z.d.y, .int .i64 z.d.hd, .int .i64 z.d.tl, .int .i64 z.l, .complex .f32 re im] 83)
      have CB9 := Lib.hid (CB.out _ B1.out)
      clear hz9 hq hbb hSN RK OK KK BK hbs CB
      go_wp2_with fail
      refine CB9.out.mono ?_
      rintro e w3 ⟨rfl, hb⟩
      have R3 := Lib.hid ((owns_below R1.out hb).alloc (.cells #[.int .i64 q1, .int .i64 q2, .int .i64 q3, .int .i64 q4] 33))
      have O3 := Lib.hid ((owns_below O1.out hb).alloc (.cells #[.int .i64 q1, .int .i64 q2, .int .i64 q3, .int .i64 q4] 33))
      have K3 := Lib.hid ((K1.out.below hb).alloc (o := .cells #[.int .i64 q1, .int .i64 q2, .int .i64 q3, .int .i64 q4] 33))
      have b3 := B1.out.trans (hb.mono B1.out.size)
      have B3 := Lib.hid (b3.alloc b3.size (.cells #[.int .i64 q1, .int .i64 q2, .int .i64 q3, .int .i64 q4] 33))
      have hne : gv ≠ gL := Ti9.own_ne_own R1.out O1.out (by decide)
      have hge : w.heap.size + 1 + 1 ≤ gv := (R1.out.lt _ rfl).1
      have hw3 : w.heap.size + 1 < w3.heap.size := (K1.out.below hb).lt
      clear hb R1 O1 K1 B1 KU CB9 b3 x0 x1 x2 x3 x4 x5 x6 x7 x8
      obtain ⟨gX, cX, u9, hrun, ho9, hg9⟩ := append_place ((w3.alloc (.cells #[.int .i64 q1, .int .i64 q2, .int .i64 q3, .int .i64 q4] 33)).alloc (.cells #[.int .i64 q1, .int .i64 q2, .int .i64 q3, .int .i64 q4] 31)) (w.heap.size + 1 + 1) gv q cv _ (R3.out.alloc _) ⟨w3.heap.size + 1, 0, none⟩ 2 2 [.int .i64 q1, .int .i64 q2, .int .i64 q3, .int .i64 q4] rfl (by intro j z9 hj9; match j, hj9 with | 0, hj9 => (simp at hj9; subst hj9; simp [Addr.add, go_sem]) | 1, hj9 => (simp at hj9; subst hj9; simp [Addr.add, go_sem]) | 2, hj9 => (simp at hj9; subst hj9; simp [Addr.add, go_sem]) | 3, hj9 => (simp at hj9; subst hj9; simp [Addr.add, go_sem])) (by intro z9 hz9; simp at hz9; rcases hz9 with rfl | rfl | rfl | rfl <;> rfl) (by have := HQ.out; have := HMB.out; omega) (by simp; omega)
      rw [SN.out] at ho9
      have HQ9 := Lib.hid (show q + 2 = (k + 1) * 2 by have := HQ.out; omega)
      have RX := Lib.hid ho9
      have OX := Lib.hid (owns_grown (O3.out.alloc (.cells #[.int .i64 q1, .int .i64 q2, .int .i64 q3, .int .i64 q4] 31)) hg9 (Ti9.ne_blk hne))
      have KX := Lib.hid ((K3.out.alloc (o := .cells #[.int .i64 q1, .int .i64 q2, .int .i64 q3, .int .i64 q4] 31)).grown hg9 (fun e => by have e := Option.some.inj e; omega))
      have BX := Lib.hid ((B3.out.alloc B3.out.size (.cells #[.int .i64 q1, .int .i64 q2, .int .i64 q3, .int .i64 q4] 31)).grown hg9 (by have := B3.out.size; simp; omega) (fun z9 e9 => by have e9 := Option.some.inj e9; omega))
      clear ho9 hg9 R3 O3 K3 B3
      go_wp2_with (at_builtin; refine wpList_append_place rfl _ _ rfl rfl _ _ _ rfl rfl hrun ?_)
      go_roundw
      case rel => exact ⟨k + 1, by omega, by go_num, ⟨q + 2, gX, cX, HQ9, rfl, RX⟩, OX, KX, BX⟩
      case measure => simp [intOf]; omega
    · obtain rfl : m = k := by omega
      have hTK : zs.take m = zs := List.take_of_length_le (by rw [HM.out]; exact Nat.le_refl _)
      rw [hTK] at RK
      have CB := Lib.hid (by have := Bi.boxOfI (some ⟨gv, 0, none⟩) q cv (cnL ps zs) wr (by rw [cnL_len, HM.out]; exact HQ.out.symm) (by have := HQ.out; have := HMB.out; omega) (Rd.own RK.out); rw [HVQ.out, HVB.out] at this; unfold Bo.bq at this; exact this :
        Calls Tryz.prog 44 #[.slice (some ⟨gv, 0, none⟩) q cv] wr fun e w' => e = .returned (.tuple #[box4 p1 p2 p3 p4, .bool pb]) ∧ Below wr.heap.size wr w')
      clear OK RK hTK
      go_wp2_with fail
      refine CB.out.mono ?_
      rintro e w9 ⟨rfl, b9⟩
      have R := Lib.hid (KK.out.below b9)
      have B9 := Lib.hid (BK.out.trans (b9.mono BK.out.size))
      clear b9 CB KK BK
      have z0 := R.out.cell (i := 0) rfl
      have z1 := R.out.cell (i := 1) rfl
      have z2 := R.out.cell (i := 2) rfl
      have z3 := R.out.cell (i := 3) rfl
      have y0 := R.out.frozen 0
      have y1 := R.out.frozen 1
      have y2 := R.out.frozen 2
      have y3 := R.out.frozen 3
      have l9 := R.out.lt
      have HS4 := Lib.hid (set4 (a := .int .i64 (p1)) (b := .int .i64 (p2)) (c := .int .i64 (p3)) (d := .int .i64 (p4)) z0 z1 z2 z3)
      go_wp2_with fail
      have r0 := HS4.out.1
      have r1 := HS4.out.2.1
      have r2 := HS4.out.2.2.1
      have r3 := HS4.out.2.2.2
      (try simp only [Exit.inBlock, Exit.then])
      refine bodyPost_ret (v := .tuple #[box4 (p1) (p2) (p3) (p4), .bool pb]) (by simp [results, Tryz.results12, go_sem, r0, r1, r2, r3]; try rfl) rfl ?_
      exact ⟨rfl, B9.out.trans (by have h9 := B9.out.size; go_grown)⟩

set_option maxRecDepth 100000 in
set_option maxHeartbeats 4000000 in
theorem leastS (A0 : Option Addr) (n0 c0 : Nat) (A1 : Option Addr) (n1 c1 : Nat) (A2 : Option Addr) (n2 c2 : Nat) (T : Int) (ds : List D) (cs : List C) (gs : List G) (A9 : Option Addr) (n9 c9 : Nat) (ps : List (Int × Int)) (w : World) (hf : Fit n0 n1 n2 ds cs gs) (hr : SR w A0 A1 A2 ds cs gs) (hn9 : ps.length = n9) (hb9 : n9 ≤ 1048576) (hr9 : Rd w w.heap.size A9 (pls ps)) (hsz : ∀ z ∈ ds, z.nm.size ≤ 1048576 ∧ z.ln.size ≤ 1048576) (hsc : ∀ z ∈ cs, z.nm.size ≤ 1048576) :
    Calls Tryz.prog 9 #[sv A0 n0 c0 A1 n1 c1 A2 n2 c2 T, .slice A9 n9 c9] w fun e w' => e = .returned (.tuple #[bq (leQ ds cs gs T ps), .bool (leB ds cs gs T ps)]) ∧ Below w.heap.size w w' := by
  have b0a := (Below.refl w.heap.size w).alloc (Nat.le_refl _) (.cells (sc A0 n0 c0 A1 n1 c1 A2 n2 c2 T) 40)
  have hz1 : (w.alloc (.cells (sc A0 n0 c0 A1 n1 c1 A2 n2 c2 T) 40)).heap.size = w.heap.size + 1 := by simp [go_sem]
  have B0 := Lib.hid (b0a.alloc b0a.size (.cells #[.int .i64 0, .int .i64 0, .int .i64 0, .int .i64 0] 33))
  have KS := Lib.hid ((Bk.new w (sc A0 n0 c0 A1 n1 c1 A2 n2 c2 T) 40).alloc (o := .cells #[.int .i64 0, .int .i64 0, .int .i64 0, .int .i64 0] 33))
  have KB := Bk.new (w.alloc (.cells (sc A0 n0 c0 A1 n1 c1 A2 n2 c2 T) 40)) #[.int .i64 0, .int .i64 0, .int .i64 0, .int .i64 0] 33
  rw [hz1] at KB
  have KB := Lib.hid KB
  have hz2 : ((w.alloc (.cells (sc A0 n0 c0 A1 n1 c1 A2 n2 c2 T) 40)).alloc (.cells #[.int .i64 0, .int .i64 0, .int .i64 0, .int .i64 0] 33)).heap.size = w.heap.size + 1 + 1 := by simp [go_sem]
  have K3 := Lib.hid (KB.out.alloc (o := .cells #[] 31))
  have K4 := Lib.hid (KS.out.alloc (o := .cells #[] 31))
  have B3 := Lib.hid (B0.out.alloc B0.out.size (.cells #[] 31))
  have R0 := Lib.hid (by have := World.ownsRow_lit (base := w.heap.size + 1 + 1) (e := 31) (size := 2) ((w.alloc (.cells (sc A0 n0 c0 A1 n1 c1 A2 n2 c2 T) 40)).alloc (.cells #[.int .i64 0, .int .i64 0, .int .i64 0, .int .i64 0] 33)) #[] 0 (by rw [hz2]; omega) (Nat.zero_le _) rfl; rw [hz2] at this; exact this : (((w.alloc (.cells (sc A0 n0 c0 A1 n1 c1 A2 n2 c2 T) 40)).alloc (.cells #[.int .i64 0, .int .i64 0, .int .i64 0, .int .i64 0] 33)).alloc (.cells #[] 31)).ownsRow (w.heap.size + 1 + 1) 31 2 (.slice (some ⟨w.heap.size + 1 + 1, 0, none⟩) 0 0) 0 [])
  obtain ⟨r, hrr⟩ : ∃ r, show9 ds cs gs T = r := ⟨_, rfl⟩
  have CS := Lib.hid (fun (W : World) (h : SR W A0 A1 A2 ds cs gs) => (by have := Sw9.isShowS A0 n0 c0 A1 n1 c1 A2 n2 c2 T ds cs gs W hf h hsz hsc; rw [hrr] at this; exact this : Calls Tryz.prog 32 #[sv A0 n0 c0 A1 n1 c1 A2 n2 c2 T] W fun e w' => e = .returned (.bool r) ∧ Below W.heap.size W w'))
  have HS := Lib.hid (hr.below B3.out)
  obtain ⟨br, hp⟩ : ∃ b, rs ps = b := ⟨_, rfl⟩
  have CR := Lib.hid (fun (W : World) (h9 : Below w.heap.size w W) => Wx.roseS (A := A9) (c := c9) (H := w.heap.size) hn9 hb9 hp W h9.size (hr9.below h9))
  have hu : undef = Value.tuple #[] := rfl
  have s0 := K4.out.cell (i := 0) rfl
  have s1 := K4.out.cell (i := 1) rfl
  have s2 := K4.out.cell (i := 2) rfl
  have s3 := K4.out.cell (i := 3) rfl
  clear b0a hz1 hz2 KB KS B0 hsz hsc
  cases r
  · have HE := Lib.hid (le_none hrr : leB ds cs gs T ps = false ∧ leQ ds cs gs T ps = (0, 0, 0, 0))
    rw [HE.out.1, HE.out.2]
    clear HE hrr hp hf hr hn9 hb9 hr9 CR R0
    go_enter Tryz.func9, Tryz.ntmps9
    go_wp2_with fail
    refine (CS.out _ HS.out).mono ?_
    rintro e v ⟨rfl, b1⟩
    have R := Lib.hid (K3.out.below b1)
    have B9 := Lib.hid (B3.out.trans (b1.mono B3.out.size))
    clear b1 K3 K4 CS B3 HS s0 s1 s2 s3
    have z0 := R.out.cell (i := 0) rfl
    have z1 := R.out.cell (i := 1) rfl
    have z2 := R.out.cell (i := 2) rfl
    have z3 := R.out.cell (i := 3) rfl
    have y0 := R.out.frozen 0
    have y1 := R.out.frozen 1
    have y2 := R.out.frozen 2
    have y3 := R.out.frozen 3
    have l9 := R.out.lt
    have HS4 := Lib.hid (set4 (a := .int .i64 (0)) (b := .int .i64 (0)) (c := .int .i64 (0)) (d := .int .i64 (0)) z0 z1 z2 z3)
    go_wp2_with fail
    have r0 := HS4.out.1
    have r1 := HS4.out.2.1
    have r2 := HS4.out.2.2.1
    have r3 := HS4.out.2.2.2
    (try simp only [Exit.inBlock, Exit.then])
    refine bodyPost_ret (v := .tuple #[box4 (0) (0) (0) (0), .bool false]) (by simp [results, Tryz.results9, go_sem, r0, r1, r2, r3]; try rfl) rfl ?_
    exact ⟨rfl, B9.out.trans (by have h9 := B9.out.size; go_grown)⟩
  cases br
  · have HE := Lib.hid (le_no hp : leB ds cs gs T ps = false ∧ leQ ds cs gs T ps = (0, 0, 0, 0))
    rw [HE.out.1, HE.out.2]
    clear HE hrr hp hf hr hn9 hb9 hr9 R0
    go_enter Tryz.func9, Tryz.ntmps9
    go_wp2_with fail
    refine (CS.out _ HS.out).mono ?_
    rintro e v1 ⟨rfl, b1⟩
    have K5 := Lib.hid (K3.out.below b1)
    have B5 := Lib.hid (B3.out.trans (b1.mono B3.out.size))
    clear b1 K3 K4 CS B3 HS s0 s1 s2 s3
    go_wp2_with fail
    refine (CR.out _ B5.out).mono ?_
    rintro e v ⟨rfl, b1⟩
    have R := Lib.hid (K5.out.below b1)
    have B9 := Lib.hid (B5.out.trans (b1.mono B5.out.size))
    clear b1 K5 B5 CR
    have z0 := R.out.cell (i := 0) rfl
    have z1 := R.out.cell (i := 1) rfl
    have z2 := R.out.cell (i := 2) rfl
    have z3 := R.out.cell (i := 3) rfl
    have y0 := R.out.frozen 0
    have y1 := R.out.frozen 1
    have y2 := R.out.frozen 2
    have y3 := R.out.frozen 3
    have l9 := R.out.lt
    have HS4 := Lib.hid (set4 (a := .int .i64 (0)) (b := .int .i64 (0)) (c := .int .i64 (0)) (d := .int .i64 (0)) z0 z1 z2 z3)
    go_wp2_with fail
    have r0 := HS4.out.1
    have r1 := HS4.out.2.1
    have r2 := HS4.out.2.2.1
    have r3 := HS4.out.2.2.2
    (try simp only [Exit.inBlock, Exit.then])
    refine bodyPost_ret (v := .tuple #[box4 (0) (0) (0) (0), .bool false]) (by simp [results, Tryz.results9, go_sem, r0, r1, r2, r3]; try rfl) rfl ?_
    exact ⟨rfl, B9.out.trans (by have h9 := B9.out.size; go_grown)⟩
  obtain ⟨zs, hzs⟩ : ∃ zs, all9 ds cs gs T = zs := ⟨_, rfl⟩
  obtain ⟨m, hm⟩ : ∃ m, zs.length = m := ⟨_, rfl⟩
  have hmb : m ≤ 512 := by have := all9_len ds cs gs T; rw [hzs, hm] at this; exact this
  have HMB := Lib.hid hmb
  have HM := Lib.hid hm
  obtain ⟨hv1, hv2⟩ := le_yes (ds := ds) (cs := cs) (gs := gs) (T := T) hp hzs
  obtain ⟨⟨p1, p2, p3, p4⟩, hvq⟩ : ∃ q, val (cnL ps zs) = q := ⟨_, rfl⟩
  obtain ⟨pb, hvb⟩ : ∃ b, okB (cnL ps zs) = b := ⟨_, rfl⟩
  rw [hv1, hv2, hvq, hvb]
  have HVQ := Lib.hid hvq
  have HVB := Lib.hid hvb
  clear hv1 hv2 hvq hvb
  have CA := Lib.hid (fun (W : World) (h : SR W A0 A1 A2 ds cs gs) => (by have := Tm9.l9All A0 n0 c0 A1 n1 c1 A2 n2 c2 T ds cs gs W hf h hrr; unfold Tm9.RowM at this; rw [hzs, hm] at this; exact this :
    Calls Tryz.prog 34 #[sv A0 n0 c0 A1 n1 c1 A2 n2 c2 T] W (fun e w' => ∃ g c, e = .returned (.slice (some ⟨g, 0, none⟩) m c) ∧ w'.ownsRow W.heap.size 72 7 (.slice (some ⟨g, 0, none⟩) m c) m (bls zs) ∧ Below W.heap.size W w')))
  have HN9 := Lib.hid (And.intro hn9 hb9)
  have HR9 := Lib.hid hr9
  clear hf hr hn9 hb9 hr9 hrr hp hzs hm
  go_enter Tryz.func9, Tryz.ntmps9
  go_wp2_with fail
  refine (CS.out _ HS.out).mono ?_
  rintro e w1 ⟨rfl, hb⟩
  have B1 := Lib.hid (B3.out.trans (hb.mono B3.out.size))
  have S1 := Lib.hid (HS.out.below hb)
  have K1 := Lib.hid (K3.out.below hb)
  have Q1 := Lib.hid (K4.out.below hb)
  have R1 := Lib.hid (owns_below R0.out hb)
  clear hb K3 K4 B3 HS CS R0 s0 s1 s2 s3
  go_wp2_with fail
  refine (CR.out _ B1.out).mono ?_
  rintro e w5 ⟨rfl, hb⟩
  have B5 := Lib.hid (B1.out.trans (hb.mono B1.out.size))
  have S5 := Lib.hid (S1.out.below hb)
  have K5 := Lib.hid (K1.out.below hb)
  have Q5 := Lib.hid (Q1.out.below hb)
  have R5 := Lib.hid (owns_below R1.out hb)
  clear hb K1 Q1 B1 S1 R1 CR
  have s0 := Q5.out.cell (i := 0) rfl
  have s1 := Q5.out.cell (i := 1) rfl
  have s2 := Q5.out.cell (i := 2) rfl
  have s3 := Q5.out.cell (i := 3) rfl
  go_wp2_with fail
  refine (CA.out _ S5.out).mono ?_
  rintro e w2 ⟨gL, cL, rfl, oL, hb⟩
  have B2 := Lib.hid (B5.out.trans (hb.mono B5.out.size))
  have K2 := Lib.hid (K5.out.below hb)
  have R2 := Lib.hid (owns_below R5.out hb)
  have O2 := Lib.hid (owns_base oL (Nat.le_trans B5.out.size (oL.lt gL rfl).1))
  clear hb oL CA S5 K5 Q5 R5 B5 s0 s1 s2 s3
  go_wp2_with fail
  go_loopw [6, 10, 24] (fun v ok9 i wr => ∃ k : Nat, k ≤ m ∧ i = .int .i64 k ∧ (∃ q gv cv, Hid (q = k * 2) ∧ v = .slice (some ⟨gv, 0, none⟩) q cv ∧ Hid (wr.ownsRow (w.heap.size + 1 + 1) 31 2 (.slice (some ⟨gv, 0, none⟩) q cv) q (pls (cnL ps (zs.take k))))) ∧ Hid (wr.ownsRow w.heap.size 72 7 (.slice (some ⟨gL, 0, none⟩) m cL) m (bls zs)) ∧ Hid (Bk wr (w.heap.size + 1) #[.int .i64 0, .int .i64 0, .int .i64 0, .int .i64 0] 33) ∧ Hid (Below w.heap.size w wr)) (fun _ _ i _ => m - (intOf i).toNat)
  case atStart => exact ⟨0, Nat.zero_le _, rfl, ⟨0, _, 0, Lib.hid rfl, rfl, R2⟩, O2, K2, B2⟩
  case round =>
    obtain ⟨k, hk, rfl, ⟨q, gv, cv, HQ, rfl, RK⟩, OK, KK, BK⟩ := hrel
    clear O2 B2 K2 R2
    have hbs := BK.out.size
    by_cases hlt : k < m
    · obtain ⟨z, hz9⟩ : ∃ z, zs[k]? = some z := ⟨_, List.getElem?_eq_getElem (by rw [HM.out]; exact hlt)⟩
      obtain ⟨x0, x1, x2, x3, x4, x5, x6⟩ := cB OK.out hz9 hlt

      have HZ9 := Lib.hid hz9
      obtain ⟨⟨q1, q2, q3, q4⟩, hq⟩ : ∃ q, lbQ z.d.x z.d.y z.d.hd z.d.tl z.l ps = q := ⟨_, rfl⟩
      obtain ⟨bb, hbb⟩ : ∃ b, lbB z.d.x z.d.y z.d.hd z.d.tl z.l ps = b := ⟨_, rfl⟩
      have CB := Lib.hid (fun (W : World) (h9 : Below w.heap.size w W) => (by have := landBoxS z.d.x z.d.y z.d.hd z.d.tl z.l A9 n9 c9 ps W HN9.out.1 HN9.out.2 ((HR9.out.below h9).more h9.size); rw [hq, hbb] at this; unfold Bo.bq at this; exact this :
        Calls Tryz.prog 35 #[jv z.d.x z.d.y z.d.hd z.d.tl z.l, .slice A9 n9 c9] W fun e w' => e = .returned (.tuple #[box4 q1 q2 q3 q4, .bool bb]) ∧ Below W.heap.size W w'))
      have hSN := cnL_snoc hz9 hq
      have SN := Lib.hid hSN
      have O1 := Lib.hid (OK.out.alloc (.cells #[.string z.d.nm, .int .i64 z.b, .int .i64 z.d.x, .int .i64 z.d.y, .int .i64 z.d.hd, .int .i64 z.d.tl, .int .i64 z.l] 72))
      have R1 := Lib.hid (RK.out.alloc (.cells #[.string z.d.nm, .int .i64 z.b, .int .i64 z.d.x, .int .i64 z.d.y, .int .i64 z.d.hd, .int .i64 z.d.tl, .int .i64 z.l] 72))
      have K1 := Lib.hid (KK.out.alloc (o := .cells #[.string z.d.nm, .int .i64 z.b, .int .i64 z.d.x, .int .i64 z.d.y, .int .i64 z.d.hd, .int .i64 z.d.tl, .int .i64 z.l] 72))
      have B1 := Lib.hid (BK.out.alloc hbs (.cells #[.string z.d.nm, .int .i64 z.b, .int .i64 z.d.x, .int .i64 z.d.y, .int .i64 z.d.hd, .int .i64 z.d.tl, .int .i64 z.l] 72))
      have KU := Lib.hid (Bk.new wr #[.string z.d.nm, .int .i64 z.b, .int .i64 z.d.x, .int .i64 z.d.y, .int .i64 z.d.hd, .int .i64 z.d.tl, .int .i64 z.l] 72)
      have CB9 := Lib.hid (CB.out _ B1.out)
      clear hz9 hq hbb hSN RK OK KK BK hbs CB
      go_wp2_with fail
      refine CB9.out.mono ?_
      rintro e w3 ⟨rfl, hb⟩
      have R3 := Lib.hid ((owns_below R1.out hb).alloc (.cells #[.int .i64 q1, .int .i64 q2, .int .i64 q3, .int .i64 q4] 33))
      have O3 := Lib.hid ((owns_below O1.out hb).alloc (.cells #[.int .i64 q1, .int .i64 q2, .int .i64 q3, .int .i64 q4] 33))
      have K3 := Lib.hid ((K1.out.below hb).alloc (o := .cells #[.int .i64 q1, .int .i64 q2, .int .i64 q3, .int .i64 q4] 33))
      have b3 := B1.out.trans (hb.mono B1.out.size)
      have B3 := Lib.hid (b3.alloc b3.size (.cells #[.int .i64 q1, .int .i64 q2, .int .i64 q3, .int .i64 q4] 33))
      have hne : gv ≠ gL := Ti9.own_ne_own R1.out O1.out (by decide)
      have hge : w.heap.size + 1 + 1 ≤ gv := (R1.out.lt _ rfl).1
      have hw3 : w.heap.size + 1 < w3.heap.size := (K1.out.below hb).lt
      clear hb R1 O1 K1 B1 KU CB9 b3 x0 x1 x2 x3 x4 x5 x6
      obtain ⟨gX, cX, u9, hrun, ho9, hg9⟩ := append_place ((w3.alloc (.cells #[.int .i64 q1, .int .i64 q2, .int .i64 q3, .int .i64 q4] 33)).alloc (.cells #[.int .i64 q1, .int .i64 q2, .int .i64 q3, .int .i64 q4] 31)) (w.heap.size + 1 + 1) gv q cv _ (R3.out.alloc _) ⟨w3.heap.size + 1, 0, none⟩ 2 2 [.int .i64 q1, .int .i64 q2, .int .i64 q3, .int .i64 q4] rfl (by intro j z9 hj9; match j, hj9 with | 0, hj9 => (simp at hj9; subst hj9; simp [Addr.add, go_sem]) | 1, hj9 => (simp at hj9; subst hj9; simp [Addr.add, go_sem]) | 2, hj9 => (simp at hj9; subst hj9; simp [Addr.add, go_sem]) | 3, hj9 => (simp at hj9; subst hj9; simp [Addr.add, go_sem])) (by intro z9 hz9; simp at hz9; rcases hz9 with rfl | rfl | rfl | rfl <;> rfl) (by have := HQ.out; have := HMB.out; omega) (by simp; omega)
      rw [SN.out] at ho9
      have HQ9 := Lib.hid (show q + 2 = (k + 1) * 2 by have := HQ.out; omega)
      have RX := Lib.hid ho9
      have OX := Lib.hid (owns_grown (O3.out.alloc (.cells #[.int .i64 q1, .int .i64 q2, .int .i64 q3, .int .i64 q4] 31)) hg9 (Ti9.ne_blk hne))
      have KX := Lib.hid ((K3.out.alloc (o := .cells #[.int .i64 q1, .int .i64 q2, .int .i64 q3, .int .i64 q4] 31)).grown hg9 (fun e => by have e := Option.some.inj e; omega))
      have BX := Lib.hid ((B3.out.alloc B3.out.size (.cells #[.int .i64 q1, .int .i64 q2, .int .i64 q3, .int .i64 q4] 31)).grown hg9 (by have := B3.out.size; simp; omega) (fun z9 e9 => by have e9 := Option.some.inj e9; omega))
      clear ho9 hg9 R3 O3 K3 B3
      go_wp2_with (at_builtin; refine wpList_append_place rfl _ _ rfl rfl _ _ _ rfl rfl hrun ?_)
      go_roundw
      case rel => exact ⟨k + 1, by omega, by go_num, ⟨q + 2, gX, cX, HQ9, rfl, RX⟩, OX, KX, BX⟩
      case measure => simp [intOf]; omega
    · obtain rfl : m = k := by omega
      have hTK : zs.take m = zs := List.take_of_length_le (by rw [HM.out]; exact Nat.le_refl _)
      rw [hTK] at RK
      have CB := Lib.hid (by have := Bo.boxOfS (some ⟨gv, 0, none⟩) q cv (cnL ps zs) wr (by rw [cnL_len, HM.out]; exact HQ.out.symm) (by have := HQ.out; have := HMB.out; omega) (Rd.own RK.out); rw [HVQ.out, HVB.out] at this; unfold Bo.bq at this; exact this :
        Calls Tryz.prog 36 #[.slice (some ⟨gv, 0, none⟩) q cv] wr fun e w' => e = .returned (.tuple #[box4 p1 p2 p3 p4, .bool pb]) ∧ Below wr.heap.size wr w')
      clear OK RK hTK
      go_wp2_with fail
      refine CB.out.mono ?_
      rintro e w9 ⟨rfl, b9⟩
      have R := Lib.hid (KK.out.below b9)
      have B9 := Lib.hid (BK.out.trans (b9.mono BK.out.size))
      clear b9 CB KK BK
      have z0 := R.out.cell (i := 0) rfl
      have z1 := R.out.cell (i := 1) rfl
      have z2 := R.out.cell (i := 2) rfl
      have z3 := R.out.cell (i := 3) rfl
      have y0 := R.out.frozen 0
      have y1 := R.out.frozen 1
      have y2 := R.out.frozen 2
      have y3 := R.out.frozen 3
      have l9 := R.out.lt
      have HS4 := Lib.hid (set4 (a := .int .i64 (p1)) (b := .int .i64 (p2)) (c := .int .i64 (p3)) (d := .int .i64 (p4)) z0 z1 z2 z3)
      go_wp2_with fail
      have r0 := HS4.out.1
      have r1 := HS4.out.2.1
      have r2 := HS4.out.2.2.1
      have r3 := HS4.out.2.2.2
      (try simp only [Exit.inBlock, Exit.then])
      refine bodyPost_ret (v := .tuple #[box4 (p1) (p2) (p3) (p4), .bool pb]) (by simp [results, Tryz.results9, go_sem, r0, r1, r2, r3]; try rfl) rfl ?_
      exact ⟨rfl, B9.out.trans (by have h9 := B9.out.size; go_grown)⟩
end Go.Proofs.YtejeikfgmiadhabGreat.Le10
