/- Where the drops of a jet can land for a rose, in numbers: how far to each side, and the box of it. -/
import Derived.Test.YtejeikfgmiadhabGreatWz
import Derived.Test.YtejeikfgmiadhabGreatM32
import Derived.Test.YtejeikfgmiadhabGreatM23
import Derived.Test.YtejeikfgmiadhabGreatM33
import Derived.Deep.RegionHeld3
import Derived.Test.YtejeikfgmiadhabGreatM24
import Derived.Test.YtejeikfgmiadhabGreatM4
import Derived.Test.YtejeikfgmiadhabGreatM31
import Derived.Test.YtejeikfgmiadhabGreatN2
import Derived.Test.YtejeikfgmiadhabGreatSw9
import Derived.Test.YtejeikfgmiadhabGreatM30
import Derived.Maps.AppendAt
import Derived.Test.YtejeikfgmiadhabGreatM8
import Derived.Test.YtejeikfgmiadhabGreatM28
set_option linter.unusedVariables false
set_option linter.unusedSimpArgs false
namespace Go.Proofs.YtejeikfgmiadhabGreat.Fw10
open Go.RowKit Go.Proofs.YtejeikfgmiadhabGreat.Mem Go.Proofs.YtejeikfgmiadhabGreat.Jt Go.Proofs.YtejeikfgmiadhabGreat.Pl
open Go.Proofs.YtejeikfgmiadhabGreat.Wm hiding G
open Go.Proofs.YtejeikfgmiadhabGreat.Wx Go.Proofs.YtejeikfgmiadhabGreat.Wy Go.Proofs.YtejeikfgmiadhabGreat.Wz
open Go.Proofs.YtejeikfgmiadhabGreat.Bo (Q4 boxA)
open Go.Proofs.YtejeikfgmiadhabGreat.Wr (rs rs_len rs_each)
open Go.Proofs.YtejeikfgmiadhabGreat.Dp (wy wy_le)
open Go.Proofs.YtejeikfgmiadhabGreat.Bxi (bx ib)
set_option linter.unusedVariables false
set_option linter.unusedSimpArgs false

def inQ (q : Q4) (p : Int × Int) : Prop := q.1 ≤ p.1 ∧ q.2.1 ≤ p.2 ∧ p.1 ≤ q.2.2.1 ∧ p.2 ≤ q.2.2.2
theorem in_step (ps : List (Int × Int)) : ∀ q : Q4, ((ps.foldl Bo.step q).1 ≤ q.1 ∧ (ps.foldl Bo.step q).2.1 ≤ q.2.1 ∧ q.2.2.1 ≤ (ps.foldl Bo.step q).2.2.1 ∧ q.2.2.2 ≤ (ps.foldl Bo.step q).2.2.2) ∧ ∀ p ∈ ps, inQ (ps.foldl Bo.step q) p := by
  induction ps with
  | nil => intro q; exact ⟨⟨Int.le_refl _, Int.le_refl _, Int.le_refl _, Int.le_refl _⟩, fun p h => by cases h⟩
  | cons a ps ih =>
    intro q
    rw [List.foldl_cons]
    obtain ⟨⟨a1, a2, a3, a4⟩, h⟩ := ih (Bo.step q a)
    generalize ps.foldl Bo.step (Bo.step q a) = F at *
    have e1 : (Bo.step q a).1 = min q.1 a.1 := rfl
    have e2 : (Bo.step q a).2.1 = min q.2.1 a.2 := rfl
    have e3 : (Bo.step q a).2.2.1 = max q.2.2.1 a.1 := rfl
    have e4 : (Bo.step q a).2.2.2 = max q.2.2.2 a.2 := rfl
    rw [e1] at a1; rw [e2] at a2; rw [e3] at a3; rw [e4] at a4
    refine ⟨⟨by omega, by omega, by omega, by omega⟩, fun p hp => ?_⟩
    rcases List.mem_cons.1 hp with e | e
    · subst e
      exact ⟨by omega, by omega, by omega, by omega⟩
    · exact h p e
theorem in_box {ps : List (Int × Int)} {p : Int × Int} (h : p ∈ ps) : inQ (boxA ps) p := by
  cases ps with
  | nil => cases h
  | cons a ps =>
    obtain ⟨⟨a1, a2, a3, a4⟩, k⟩ := in_step ps (Bo.one a)
    rcases List.mem_cons.1 h with e | e
    · subst e; exact ⟨a1, a2, a3, a4⟩
    · exact k p e
theorem wv0 (p : Int × Int) : wv 0 p = p.1 := rfl
theorem wv1 (p : Int × Int) : wv 1 p = p.2 := rfl
theorem wv2 (p : Int × Int) : wv 2 p = -p.1 := rfl
theorem wv3 (p : Int × Int) : wv 3 p = -p.2 := rfl
theorem fold_par (f : Q4 → Int) (g : Int × Int → Int) (h : Int) (H : ∀ q b p, f q = g b → f (Bo.step q p) = g (wstep h b p)) (ps : List (Int × Int)) :
    ∀ q b, f q = g b → f (ps.foldl Bo.step q) = g (ps.foldl (wstep h) b) := by
  induction ps with
  | nil => intro q b e; exact e
  | cons p ps ih => intro q b e; rw [List.foldl_cons, List.foldl_cons]; exact ih _ _ (H q b p e)
theorem box_side (f : Q4 → Int) (g : Int × Int → Int) (h : Int) (H : ∀ q b p, f q = g b → f (Bo.step q p) = g (wstep h b p)) (h1 : ∀ p, f (Bo.one p) = g p) {ps : List (Int × Int)} (hp : 1 ≤ ps.length) : f (boxA ps) = g (wor h ps) := by
  cases ps with
  | nil => simp at hp
  | cons p ps => exact fold_par f g h H ps _ _ (h1 p)
theorem sides {ps : List (Int × Int)} (hp : 1 ≤ ps.length) :
    (boxA ps).2.2.1 = (wor 0 ps).1 ∧ (boxA ps).2.2.2 = (wor 1 ps).2 ∧ (boxA ps).1 = (wor 2 ps).1 ∧ (boxA ps).2.1 = (wor 3 ps).2 := by
  refine ⟨box_side (fun q => q.2.2.1) (fun p => p.1) 0 ?_ (fun _ => rfl) hp, box_side (fun q => q.2.2.2) (fun p => p.2) 1 ?_ (fun _ => rfl) hp, box_side (fun q => q.1) (fun p => p.1) 2 ?_ (fun _ => rfl) hp, box_side (fun q => q.2.1) (fun p => p.2) 3 ?_ (fun _ => rfl) hp⟩
  · intro q b p e
    show max q.2.2.1 p.1 = (wstep 0 b p).1
    have e : q.2.2.1 = b.1 := e
    unfold wstep; rw [wv0, wv0]; split <;> omega
  · intro q b p e
    show max q.2.2.2 p.2 = (wstep 1 b p).2
    have e : q.2.2.2 = b.2 := e
    unfold wstep; rw [wv1, wv1]; split <;> omega
  · intro q b p e
    show min q.1 p.1 = (wstep 2 b p).1
    have e : q.1 = b.1 := e
    unfold wstep; rw [wv2, wv2]; split <;> omega
  · intro q b p e
    show min q.2.1 p.2 = (wstep 3 b p).2
    have e : q.2.1 = b.2 := e
    unfold wstep; rw [wv3, wv3]; split <;> omega

theorem fold_in {h : Int} (ps : List (Int × Int)) : ∀ b, ps.foldl (wstep h) b = b ∨ ps.foldl (wstep h) b ∈ ps := by
  induction ps with
  | nil => intro b; exact Or.inl rfl
  | cons p ps ih =>
    intro b
    rw [List.foldl_cons]
    rcases ih (wstep h b p) with e | e
    · rw [e]
      unfold wstep
      split
      · exact Or.inr (List.mem_cons_self ..)
      · exact Or.inl rfl
    · exact Or.inr (List.mem_cons_of_mem _ e)
theorem wor_in {h : Int} {ps : List (Int × Int)} (hp : 1 ≤ ps.length) : wor h ps ∈ ps := by
  cases ps with
  | nil => simp at hp
  | cons p ps =>
    rcases fold_in (h := h) ps p with e | e
    · show ps.foldl (wstep h) p ∈ p :: ps
      rw [e]; exact List.mem_cons_self ..
    · exact List.mem_cons_of_mem _ e


/-- How many ticks a drop flies. -/
def nN (l : Int) : Nat := (l + 1).toNat
/-- Where it lands without a wind. -/
def land (x y h t l : Int) : Int × Int := (wy x (tx h.toNat t 0) (nN l), wy y (ty h.toNat t 0) (nN l))
/-- Where it lands when the worst drift of a heading blows at all ticks. -/
def far (x y h t l : Int) (ps : List (Int × Int)) (k : Int) : Int × Int := ((land x y h t l).1 + (nN l : Int) * (wor k ps).1, (land x y h t l).2 + (nN l : Int) * (wor k ps).2)
/-- The box of all places where it can land. -/
def lbox (x y h t l : Int) (ps : List (Int × Int)) : Q4 := ((land x y h t l).1 + (nN l : Int) * (boxA ps).1, (land x y h t l).2 + (nN l : Int) * (boxA ps).2.1, (land x y h t l).1 + (nN l : Int) * (boxA ps).2.2.1, (land x y h t l).2 + (nN l : Int) * (boxA ps).2.2.2)
theorem nN_le {x y h t l : Int} (hj : jt x y h t l = true) : (nN l : Int) = l + 1 ∧ nN l ≤ 33 := by
  have := (jt_iff.1 hj).2.2.2.2
  unfold nN; omega
theorem tx_le {h t : Int} (hh : 0 ≤ h ∧ h ≤ 3) (ht : 0 ≤ t ∧ t ≤ 16) : (-16 ≤ tx h.toNat t 0 ∧ tx h.toNat t 0 ≤ 16) ∧ (-16 ≤ ty h.toNat t 0 ∧ ty h.toNat t 0 ≤ 16) := by
  have : h.toNat = 0 ∨ h.toNat = 1 ∨ h.toNat = 2 ∨ h.toNat = 3 := by omega
  rcases this with e | e | e | e
  all_goals
    rw [e]
    simp only [tx, ty]
    omega
theorem land_le {x y h t l : Int} (hj : jt x y h t l = true) : (-1552 ≤ (land x y h t l).1 ∧ (land x y h t l).1 ≤ 1552) ∧ (-1552 ≤ (land x y h t l).2 ∧ (land x y h t l).2 ≤ 1552) := by
  obtain ⟨hx, hy, hh, ht, _⟩ := jt_iff.1 hj
  have := tx_le hh ht
  have hn := (nN_le hj).2
  exact ⟨wy_le hx this.1 hn, wy_le hy this.2 hn⟩
theorem mul33 {n : Nat} {a : Int} (hn : n ≤ 33) (ha : -8 ≤ a ∧ a ≤ 8) : -264 ≤ (n : Int) * a ∧ (n : Int) * a ≤ 264 := by
  have h1 := Int.mul_le_mul_of_nonneg_left (c := (n : Int)) ha.1 (by omega)
  have h2 := Int.mul_le_mul_of_nonneg_left (c := (n : Int)) ha.2 (by omega)
  omega
theorem rose_in {ps : List (Int × Int)} (hr : rs ps = true) {p : Int × Int} (hp : p ∈ ps) : (-8 ≤ p.1 ∧ p.1 ≤ 8) ∧ (-8 ≤ p.2 ∧ p.2 ≤ 8) := by
  obtain ⟨k, hk, rfl⟩ := List.getElem_of_mem hp
  exact rs_each hr (List.getElem?_eq_getElem hk)
theorem wor_mem {ps : List (Int × Int)} (hr : rs ps = true) (k : Int) : wor k ps ∈ ps := wor_in (rs_len hr).1
theorem wor_le {ps : List (Int × Int)} (hr : rs ps = true) (k : Int) : (-8 ≤ (wor k ps).1 ∧ (wor k ps).1 ≤ 8) ∧ (-8 ≤ (wor k ps).2 ∧ (wor k ps).2 ≤ 8) := rose_in hr (wor_mem hr k)
theorem far_le {x y h t l : Int} {ps : List (Int × Int)} (hj : jt x y h t l = true) (hr : rs ps = true) (k : Int) : (-1816 ≤ (far x y h t l ps k).1 ∧ (far x y h t l ps k).1 ≤ 1816) ∧ (-1816 ≤ (far x y h t l ps k).2 ∧ (far x y h t l ps k).2 ≤ 1816) := by
  have h1 := land_le hj
  have h2 := wor_le hr k
  have h3 := mul33 (nN_le hj).2 h2.1
  have h4 := mul33 (nN_le hj).2 h2.2
  unfold far; simp only; omega
/-- What the worst drifts do, times the ticks. -/
theorem far_rel {ps : List (Int × Int)} (hr : rs ps = true) (n : Nat) (k : Int) : (n : Int) * (boxA ps).1 ≤ (n : Int) * (wor k ps).1 ∧ (n : Int) * (wor k ps).1 ≤ (n : Int) * (boxA ps).2.2.1 ∧ (n : Int) * (boxA ps).2.1 ≤ (n : Int) * (wor k ps).2 ∧ (n : Int) * (wor k ps).2 ≤ (n : Int) * (boxA ps).2.2.2 := by
  obtain ⟨a1, a2, a3, a4⟩ := in_box (wor_mem hr k)
  exact ⟨Int.mul_le_mul_of_nonneg_left a1 (by omega), Int.mul_le_mul_of_nonneg_left a3 (by omega), Int.mul_le_mul_of_nonneg_left a2 (by omega), Int.mul_le_mul_of_nonneg_left a4 (by omega)⟩
theorem lbox_le {x y h t l : Int} {ps : List (Int × Int)} (hj : jt x y h t l = true) (hr : rs ps = true) : ((-1816 ≤ (lbox x y h t l ps).1 ∧ (lbox x y h t l ps).1 ≤ 1816) ∧ (-1816 ≤ (lbox x y h t l ps).2.1 ∧ (lbox x y h t l ps).2.1 ≤ 1816)) ∧ (-1816 ≤ (lbox x y h t l ps).2.2.1 ∧ (lbox x y h t l ps).2.2.1 ≤ 1816) ∧ (-1816 ≤ (lbox x y h t l ps).2.2.2 ∧ (lbox x y h t l ps).2.2.2 ≤ 1816) := by
  obtain ⟨s1, s2, s3, s4⟩ := sides (rs_len hr).1
  have r0 := (far_le hj hr 0).1
  have r1 := (far_le hj hr 1).2
  have r2 := (far_le hj hr 2).1
  have r3 := (far_le hj hr 3).2
  unfold far at r0 r1 r2 r3
  unfold lbox
  rw [s1, s2, s3, s4]
  simp only at *
  omega

/-- How far a box goes in the direction of a heading. -/
def sideV (x y z u : Int) (k : Int) : Int := max (wv k (x, y)) (wv k (z, u))
/-- Whether a drop can land outside of a box, on the side of a heading. -/
def wetK (jx jy h t l : Int) (ps : List (Int × Int)) (x y z u : Int) (k : Nat) : Bool := decide (sideV x y z u (k : Int) < wv (k : Int) (far jx jy h t l ps (k : Int)))
/-- The first heading on whose side it can. -/
def wetH (jx jy h t l : Int) (ps : List (Int × Int)) (x y z u : Int) : Option Nat := [0, 1, 2, 3].find? (wetK jx jy h t l ps x y z u)
/-- Whether it can land in the box only. -/
def within (q : Q4) (x y z u : Int) : Bool := ib x y z u q.1 q.2.1 && ib x y z u q.2.2.1 q.2.2.2
theorem bx_iff {x y z u : Int} (h : bx x y z u = true) : x ≤ z ∧ y ≤ u := by
  unfold bx at h
  simp only [Bool.and_eq_true, decide_eq_true_eq] at h
  exact ⟨h.1.2, h.2⟩
theorem within_wet {jx jy h t l : Int} {ps : List (Int × Int)} {x y z u : Int} (hr : rs ps = true) (hb : bx x y z u = true) : within (lbox jx jy h t l ps) x y z u = (wetH jx jy h t l ps x y z u).isNone := by
  obtain ⟨s1, s2, s3, s4⟩ := sides (rs_len hr).1
  have r0 := far_rel hr (nN l) 0
  have r1 := far_rel hr (nN l) 1
  have r2 := far_rel hr (nN l) 2
  have r3 := far_rel hr (nN l) 3
  obtain ⟨b1, b2⟩ := bx_iff hb
  rw [s1, s2, s3, s4] at r0 r1 r2 r3
  have key : (wetH jx jy h t l ps x y z u).isNone = true ↔ within (lbox jx jy h t l ps) x y z u = true := by
    rw [Option.isNone_iff_eq_none]
    unfold wetH
    rw [List.find?_eq_none]
    simp only [List.mem_cons, List.not_mem_nil, or_false, forall_eq_or_imp, forall_eq]
    show (¬ decide (max x z < (land jx jy h t l).1 + (nN l : Int) * (wor 0 ps).1) = true ∧ ¬ decide (max y u < (land jx jy h t l).2 + (nN l : Int) * (wor 1 ps).2) = true ∧ ¬ decide (max (-x) (-z) < -((land jx jy h t l).1 + (nN l : Int) * (wor 2 ps).1)) = true ∧ ¬ decide (max (-y) (-u) < -((land jx jy h t l).2 + (nN l : Int) * (wor 3 ps).2)) = true) ↔ _
    unfold within lbox
    unfold ib
    rw [s1, s2, s3, s4, hb]
    simp only [Bool.true_and, Bool.and_eq_true, decide_eq_true_eq]
    generalize (nN l : Int) * (wor 0 ps).1 = a at *
    generalize (nN l : Int) * (wor 2 ps).1 = b at *
    generalize (nN l : Int) * (wor 1 ps).2 = c at *
    generalize (nN l : Int) * (wor 3 ps).2 = d at *
    omega
  cases e : within (lbox jx jy h t l ps) x y z u
  · cases e2 : (wetH jx jy h t l ps x y z u).isNone
    · rfl
    · rw [key.1 e2] at e; cases e
  · rw [key.2 e]
end Go.Proofs.YtejeikfgmiadhabGreat.Fw10
namespace Go.Proofs.YtejeikfgmiadhabGreat.Fa10
open Go.RowKit Go.ChangeShapes Go.WideShapes Go.WideElems Go.Deep Go.Proofs.YtejeikfgmiadhabGreat.Mem Go.Proofs.YtejeikfgmiadhabGreat.Rw Go.Proofs.YtejeikfgmiadhabGreat.P2 Go.Proofs.YtejeikfgmiadhabGreat.Bk Go.Proofs.YtejeikfgmiadhabGreat.Jt Go.Proofs.YtejeikfgmiadhabGreat.Cm Go.Proofs.YtejeikfgmiadhabGreat.Cx Go.Proofs.YtejeikfgmiadhabGreat.Pl Go.Proofs.YtejeikfgmiadhabGreat.Hd Go.Proofs.YtejeikfgmiadhabGreat.Str
open Go.Proofs.YtejeikfgmiadhabGreat.Wz Go.Proofs.YtejeikfgmiadhabGreat.Fw10
open Go.Proofs.YtejeikfgmiadhabGreat.Wr (rs)
open Go.Proofs.YtejeikfgmiadhabGreat.Pls (pls)
open Go.Proofs.YtejeikfgmiadhabGreat.Bo (boxA)
open Go.Proofs.YtejeikfgmiadhabGreat.Bxi (bx ib)
open Go.Proofs.YtejeikfgmiadhabGreat.Dp (landV landI flightI fl_yes inF_iff told2_yes told2_no)
set_option linter.unusedVariables false
set_option linter.unusedSimpArgs false

theorem complexW (x y : Int) (hx : x.natAbs < 16777216) (hy : y.natAbs < 16777216) (w : World) : Calls Tryz.prog 108 #[.agg #[.int .i64 x, .int .i64 y]] w fun e w' => e = .returned (.complex .f32 (Meas.f32 x) (Meas.f32 y)) ∧ Below w.heap.size w w' :=
  (Pw.complexOf x y hx hy w).mono fun e w9 ⟨h1, h2⟩ => ⟨h1, by rw [h2]; exact ((Below.refl _ _).alloc (Nat.le_refl _) _).drew⟩
theorem gt_w {V U : Int} {b : Bool} (hb : b = decide (U < V)) (hV : -8192 ≤ V ∧ V ≤ 8192) (hU : -8192 ≤ U ∧ U ≤ 8192) {r s : Nat} (h1 : I32 V r) (h2 : I32 U s) : (FloatKind.f32.format.order r s == some Ordering.gt) = b := by
  subst hb
  have : FloatKind.f32.format.order r s = some (compare V U) := order_is (s32 V (by omega)) (s32 U (by omega)) h1 h2
  rw [this]
  by_cases h : U < V
  · rw [decide_eq_true h]
    have e : compare V U = .gt := Meas.cmp_gt h
    rw [e]; rfl
  · rw [decide_eq_false h]
    rcases Int.lt_or_eq_of_le (Int.not_lt.1 h) with h | h
    · rw [Meas.cmp_lt h]; rfl
    · subst h; rw [Meas.cmp_eq rfl]; rfl
set_option maxRecDepth 100000 in
set_option maxHeartbeats 2000000 in
theorem wayW {x y h : Int} {p q : Nat} (hh : hd h = true) (hx : (-8192 ≤ x ∧ x ≤ 8192) ∧ (-8192 ≤ y ∧ y ≤ 8192)) (hp : I32 x p) (hq : I32 y q) (w : World) :
    Calls Tryz.prog 104 #[.complex .f32 p q, .int .i64 h] w fun e w' => (∃ r, e = .returned (.float .f32 r) ∧ I32 (wv h (x, y)) r) ∧ Below w.heap.size w w' := by
  obtain ⟨h0, h3⟩ := hd_yes hh
  have U := Lib.hid units
  have n0 : ∀ W, (Op.unary .neg (.float .f32 0)).run Tryz.prog W = .ok (.float .f32 2147483648) W := fun W => by rfl
  have n1 : ∀ W, (Op.unary .neg (.float .f32 1065353216)).run Tryz.prog W = .ok (.float .f32 3212836864) W := fun W => by rfl
  have n2 : ∀ W, (Op.unary .neg (.float .f32 3212836864)).run Tryz.prog W = .ok (.float .f32 1065353216) W := fun W => by rfl
  obtain ⟨r0, i0, M0, j0, k0⟩ := cmul (P := Tryz.prog) (a := x) (b := y) (c := 1) (d := 0) (by omega) (by omega) (by decide) (by decide) hp hq u32_1 u32_m0
  obtain ⟨r1, i1, M1, j1, k1⟩ := cmul (P := Tryz.prog) (a := x) (b := y) (c := 0) (d := -1) (by omega) (by omega) (by decide) (by decide) hp hq u32_0 u32_m1
  obtain ⟨r2, i2, M2, j2, k2⟩ := cmul (P := Tryz.prog) (a := x) (b := y) (c := -1) (d := 0) (by omega) (by omega) (by decide) (by decide) hp hq u32_m1 u32_m0
  obtain ⟨r3, i3, M3, j3, k3⟩ := cmul (P := Tryz.prog) (a := x) (b := y) (c := 0) (d := 1) (by omega) (by omega) (by decide) (by decide) hp hq u32_0 u32_1
  have J0 := Lib.hid (show I32 (wv 0 (x, y)) r0 by show I32 x r0; rw [show x = x * 1 - y * 0 by omega]; exact j0)
  have J1 := Lib.hid (show I32 (wv 1 (x, y)) r1 by show I32 y r1; rw [show y = x * 0 - y * -1 by omega]; exact j1)
  have J2 := Lib.hid (show I32 (wv 2 (x, y)) r2 by show I32 (-x) r2; rw [show -x = x * -1 - y * 0 by omega]; exact j2)
  have J3 := Lib.hid (show I32 (wv 3 (x, y)) r3 by show I32 (-y) r3; rw [show -y = x * 0 - y * 1 by omega]; exact j3)
  clear j0 j1 j2 j3 k0 k1 k2 k3 hx hh hp hq
  have hc : h = 0 ∨ h = 1 ∨ h = 2 ∨ h = 3 := by omega
  clear h0 h3
  rcases hc with rfl | rfl | rfl | rfl
  · go_enter Tryz.func104, Tryz.ntmps104
    go_wp2_with fail
    refine (U.out _).mono ?_
    rintro e w' ⟨rfl, rfl⟩
    go_wp2_with fail
    go_ret
    exact ⟨⟨_, rfl, J0.out⟩, by go_grown⟩
  · go_enter Tryz.func104, Tryz.ntmps104
    go_wp2_with fail
    refine (U.out _).mono ?_
    rintro e w' ⟨rfl, rfl⟩
    go_wp2_with fail
    go_ret
    exact ⟨⟨_, rfl, J1.out⟩, by go_grown⟩
  · go_enter Tryz.func104, Tryz.ntmps104
    go_wp2_with fail
    refine (U.out _).mono ?_
    rintro e w' ⟨rfl, rfl⟩
    go_wp2_with fail
    go_ret
    exact ⟨⟨_, rfl, J2.out⟩, by go_grown⟩
  · go_enter Tryz.func104, Tryz.ntmps104
    go_wp2_with fail
    refine (U.out _).mono ?_
    rintro e w' ⟨rfl, rfl⟩
    go_wp2_with fail
    go_ret
    exact ⟨⟨_, rfl, J3.out⟩, by go_grown⟩
theorem wv_le {h x y B : Int} (hx : -B ≤ x ∧ x ≤ B) (hy : -B ≤ y ∧ y ≤ B) : -B ≤ wv h (x, y) ∧ wv h (x, y) ≤ B := Pw.txle hx hy
theorem ms_le {x : Int} (h : ms x = true) : -4096 ≤ x ∧ x ≤ 4096 := by
  unfold ms at h
  simp only [Bool.and_eq_true, decide_eq_true_eq] at h
  exact h
theorem bx_le {x y z u : Int} (h : bx x y z u = true) : ((-4096 ≤ x ∧ x ≤ 4096) ∧ (-4096 ≤ y ∧ y ≤ 4096)) ∧ (-4096 ≤ z ∧ z ≤ 4096) ∧ (-4096 ≤ u ∧ u ≤ 4096) := by
  unfold bx at h
  simp only [Bool.and_eq_true] at h
  exact ⟨⟨ms_le h.1.1.1.1, ms_le h.1.1.1.2⟩, ms_le h.1.1.2.1, ms_le h.1.1.2.2⟩
theorem hd_nat {k : Nat} (h : k < 4) : hd (k : Int) = true := by
  match k, h with
  | 0, _ => rfl
  | 1, _ => rfl
  | 2, _ => rfl
  | 3, _ => rfl
theorem landV_yes {x y h t l : Int} (hj : jt x y h t l = true) : landV x y h t l = .tuple #[.agg #[.int .i64 (land x y h t l).1, .int .i64 (land x y h t l).2], .bool true] := by
  have hl := (jt_iff.1 hj).2.2.2.2
  unfold landV
  rw [fl_yes hj, told2_yes (inF_iff.2 ⟨hj, by omega, by omega⟩)]
  rfl

set_option maxRecDepth 100000 in
set_option maxHeartbeats 4000000 in
theorem sideOf {x y z u k : Int} (hb : bx x y z u = true) (hk : hd k = true) (w : World) :
    Calls Tryz.prog 105 #[.agg #[.int .i64 x, .int .i64 y, .int .i64 z, .int .i64 u], .int .i64 k] w fun e w' => (∃ r, e = .returned (.float .f32 r) ∧ I32 (sideV x y z u k) r) ∧ Below w.heap.size w w' := by
  obtain ⟨⟨h1, h2⟩, h3, h4⟩ := bx_le hb
  have CA := Lib.hid (fun (W : World) => complexW x y (by omega) (by omega) W)
  have CB := Lib.hid (fun (W : World) => complexW z u (by omega) (by omega) W)
  have WA := Lib.hid (fun (W : World) => wayW hk (x := x) (y := y) (by omega) (i32_f32 x) (i32_f32 y) W)
  have WB := Lib.hid (fun (W : World) => wayW hk (x := z) (y := u) (by omega) (i32_f32 z) (i32_f32 u) W)
  have la := wv_le (h := k) h1 h2
  have lb := wv_le (h := k) h3 h4
  have KB := Bk.new w #[.int .i64 x, .int .i64 y, .int .i64 z, .int .i64 u] 33
  have c0 := KB.cell (i := 0) rfl
  have c1 := KB.cell (i := 1) rfl
  have c2 := KB.cell (i := 2) rfl
  have c3 := KB.cell (i := 3) rfl
  have B0 := Lib.hid ((Below.refl w.heap.size w).alloc (Nat.le_refl _) (.cells #[.int .i64 x, .int .i64 y, .int .i64 z, .int .i64 u] 33))
  have hu : undef = Value.tuple #[] := rfl
  clear h1 h2 h3 h4 hb hk KB
  go_enter Tryz.func105, Tryz.ntmps105
  go_wp2_with fail
  refine wp_region_noPanic ?_
  refine wp_region_held_drew (S := (fun w' => w'.cell? ⟨w.heap.size, 0, none⟩ = some (.int .i64 x) ∧ w'.cell? ⟨w.heap.size, 1, none⟩ = some (.int .i64 y) ∧ w'.cell? ⟨w.heap.size, 2, none⟩ = some (.int .i64 z) ∧ w'.cell? ⟨w.heap.size, 3, none⟩ = some (.int .i64 u) ∧ Below w.heap.size w w')) (by kernel_rfl) ?_ (fun hH => ?_)
  · exact ⟨c0, c1, c2, c3, B0.out.drew⟩
  refine wpAnyH_take (i := 0) (oi := { dst := some 5, op := _, type := _, pos := _, after := _, guard := _ }) (v := ?_) rfl (by kernel_rfl) (by kernel_rfl) (by kernel_rfl) (fun _ _ _ h => h) (Or.inl ⟨by rfl, ?_⟩) hH ?_
  rotate_left 1
  · intro W hSw
    (try dsimp only at hSw)
    go_simp
    (try with_reducible rfl)
  try simp only [Act.put, List.setIfInBounds_toArray, List.set_cons_zero, List.set_cons_succ]
  refine wpAnyH_take (i := 1) (oi := { dst := some 6, op := _, type := _, pos := _, after := _, guard := _ }) (v := ?_) rfl (by kernel_rfl) (by kernel_rfl) (by kernel_rfl) (fun _ _ _ h => h) (Or.inl ⟨by rfl, ?_⟩) hH ?_
  rotate_left 1
  · intro W hSw
    (try dsimp only at hSw)
    go_simp
    (try with_reducible rfl)
  try simp only [Act.put, List.setIfInBounds_toArray, List.set_cons_zero, List.set_cons_succ]
  refine wpAnyH_take (i := 3) (oi := { dst := some 8, op := _, type := _, pos := _, after := _, guard := _ }) (v := ?_) rfl (by kernel_rfl) (by kernel_rfl) (by kernel_rfl) (fun _ _ _ h => h) (Or.inl ⟨by rfl, ?_⟩) hH ?_
  rotate_left 1
  · intro W hSw
    (try dsimp only at hSw)
    go_simp
    (try with_reducible rfl)
  try simp only [Act.put, List.setIfInBounds_toArray, List.set_cons_zero, List.set_cons_succ]
  refine wpAnyH_take (i := 5) (oi := { dst := some 10, op := _, type := _, pos := _, after := _, guard := _ }) (v := ?_) rfl (by kernel_rfl) (by kernel_rfl) (by kernel_rfl) (fun _ _ _ h => h) (Or.inl ⟨by rfl, ?_⟩) hH ?_
  rotate_left 1
  · intro W hSw
    (try dsimp only at hSw)
    go_simp
    (try with_reducible rfl)
  try simp only [Act.put, List.setIfInBounds_toArray, List.set_cons_zero, List.set_cons_succ]
  refine wpAnyH_take (i := 6) (oi := { dst := some 11, op := _, type := _, pos := _, after := _, guard := _ }) (v := ?_) rfl (by kernel_rfl) (by kernel_rfl) (by kernel_rfl) (fun _ _ _ h => h) (Or.inl ⟨by rfl, ?_⟩) hH ?_
  rotate_left 1
  · intro W hSw
    (try dsimp only at hSw)
    go_simp
    (try with_reducible rfl)
  try simp only [Act.put, List.setIfInBounds_toArray, List.set_cons_zero, List.set_cons_succ]
  refine wpAnyH_take (i := 8) (oi := { dst := some 13, op := _, type := _, pos := _, after := _, guard := _ }) (v := ?_) rfl (by kernel_rfl) (by kernel_rfl) (by kernel_rfl) (fun _ _ _ h => h) (Or.inl ⟨by rfl, ?_⟩) hH ?_
  rotate_left 1
  · intro W hSw
    (try dsimp only at hSw)
    go_simp
    (try with_reducible rfl)
  try simp only [Act.put, List.setIfInBounds_toArray, List.set_cons_zero, List.set_cons_succ]
  refine wpAnyH_ready (rs := [2]) (by kernel_rfl) (by simp) (AllReadyH.cons rfl (fun K hK => ?_) AllReadyH.nil)
  go_simp
  go_at_call 108; ((with_reducible refine (CA.out _).mono ?_); rintro e9 r1 ⟨rfl, hb1⟩); go_wp2_with fail
  refine hK.out _ _ ?_ (fun hG => ?_)
  · exact ⟨cell_below hb1 hH.1, cell_below hb1 hH.2.1, cell_below hb1 hH.2.2.1, cell_below hb1 hH.2.2.2.1, hH.2.2.2.2.trans (hb1.mono hH.2.2.2.2.size)⟩
  replace hH := hG
  clear hK K hG
  try simp only [Act.put, List.setIfInBounds_toArray, List.set_cons_zero, List.set_cons_succ]
  refine wpAnyH_ready (rs := [4]) (by kernel_rfl) (by simp) (AllReadyH.cons rfl (fun K hK => ?_) AllReadyH.nil)
  go_simp
  go_at_call 104; ((with_reducible refine (WA.out _).mono ?_); rintro e9 r2 ⟨⟨ra, rfl, ja⟩, hb2⟩); go_wp2_with fail
  refine hK.out _ _ ?_ (fun hG => ?_)
  · exact ⟨cell_below hb2 hH.1, cell_below hb2 hH.2.1, cell_below hb2 hH.2.2.1, cell_below hb2 hH.2.2.2.1, hH.2.2.2.2.trans (hb2.mono hH.2.2.2.2.size)⟩
  replace hH := hG
  clear hK K hG
  try simp only [Act.put, List.setIfInBounds_toArray, List.set_cons_zero, List.set_cons_succ]
  refine wpAnyH_ready (rs := [7]) (by kernel_rfl) (by simp) (AllReadyH.cons rfl (fun K hK => ?_) AllReadyH.nil)
  go_simp
  go_at_call 108; ((with_reducible refine (CB.out _).mono ?_); rintro e9 r3 ⟨rfl, hb3⟩); go_wp2_with fail
  refine hK.out _ _ ?_ (fun hG => ?_)
  · exact ⟨cell_below hb3 hH.1, cell_below hb3 hH.2.1, cell_below hb3 hH.2.2.1, cell_below hb3 hH.2.2.2.1, hH.2.2.2.2.trans (hb3.mono hH.2.2.2.2.size)⟩
  replace hH := hG
  clear hK K hG
  try simp only [Act.put, List.setIfInBounds_toArray, List.set_cons_zero, List.set_cons_succ]
  refine wpAnyH_ready (rs := [9]) (by kernel_rfl) (by simp) (AllReadyH.cons rfl (fun K hK => ?_) AllReadyH.nil)
  go_simp
  go_at_call 104; ((with_reducible refine (WB.out _).mono ?_); rintro e9 r4 ⟨⟨rb, rfl, jb⟩, hb4⟩); obtain ⟨rm, hmx, jm⟩ := Tb.fmax (P := Tryz.prog) (a := wv k (x, y)) (b := wv k (z, u)) (by omega) (by omega) ja jb; go_wp2_with fail
  refine hK.out _ _ ?_ (fun hG => ?_)
  · exact ⟨cell_below hb4 hH.1, cell_below hb4 hH.2.1, cell_below hb4 hH.2.2.1, cell_below hb4 hH.2.2.2.1, hH.2.2.2.2.trans (hb4.mono hH.2.2.2.2.size)⟩
  replace hH := hG
  clear hK K hG
  try simp only [Act.put, List.setIfInBounds_toArray, List.set_cons_zero, List.set_cons_succ]
  refine wpAnyH_take (i := 10) (oi := { dst := some 15, op := _, type := _, pos := _, after := _, guard := _ }) (v := ?_) rfl (by kernel_rfl) (by kernel_rfl) (by kernel_rfl) (fun _ _ _ h => h) (Or.inl ⟨by rfl, ?_⟩) hH ?_
  rotate_left 1
  · intro W hSw
    (try dsimp only at hSw)
    go_simp
    (try with_reducible rfl)
  try simp only [Act.put, List.setIfInBounds_toArray, List.set_cons_zero, List.set_cons_succ]
  refine wpAnyH_take (i := 11) (oi := { dst := some 4, op := _, type := _, pos := _, after := _, guard := _ }) (v := ?_) rfl (by kernel_rfl) (by kernel_rfl) (by kernel_rfl) (fun _ _ _ h => h) (Or.inl ⟨by rfl, ?_⟩) hH ?_
  rotate_left 1
  · intro W hSw
    (try dsimp only at hSw)
    go_simp
    (try with_reducible rfl)
  try simp only [Act.put, List.setIfInBounds_toArray, List.set_cons_zero, List.set_cons_succ]
  refine wpAnyH_done (by kernel_rfl) ?_ _
  refine NoPanic.normal ?_
  have BX := hH.2.2.2.2
  clear hH
  go_wp2_with fail
  go_returns
  exact ⟨⟨rm, rfl, jm⟩, BX⟩

set_option maxRecDepth 100000 in
set_option maxHeartbeats 4000000 in
theorem farthest {x y h t l k : Int} (A : Option Addr) (n c : Nat) (ps : List (Int × Int)) (hj : jt x y h t l = true) (hp : rs ps = true) (hk : hd k = true) (w : World) (hn : ps.length = n) (hb : n ≤ 1048576) (hr : Rd w w.heap.size A (pls ps)) :
    Calls Tryz.prog 93 #[jv x y h t l, .slice A n c, .int .i64 k] w fun e w' => (∃ a b, e = .returned (.complex .f32 a b) ∧ I32 (far x y h t l ps k).1 a ∧ I32 (far x y h t l ps k).2 b) ∧ Below w.heap.size w w' := by
  have hl := land_le hj
  have hwo := wor_le hp k
  obtain ⟨lx, hlx⟩ : ∃ a, (land x y h t l).1 = a := ⟨_, rfl⟩
  obtain ⟨ly, hly⟩ : ∃ a, (land x y h t l).2 = a := ⟨_, rfl⟩
  obtain ⟨dx, hdx⟩ : ∃ a, (wor k ps).1 = a := ⟨_, rfl⟩
  obtain ⟨dy, hdy⟩ : ∃ a, (wor k ps).2 = a := ⟨_, rfl⟩
  obtain ⟨hN, hN2⟩ := nN_le hj
  obtain ⟨N, hN9⟩ : ∃ a, nN l = a := ⟨_, rfl⟩
  have HV := Lib.hid (show far x y h t l ps k = (lx + (N : Int) * dx, ly + (N : Int) * dy) by unfold far; rw [hlx, hly, hdx, hdy, hN9])
  rw [HV.out]
  have CL := Lib.hid (fun (W : World) => (by have := landI x y h t l W; rw [landV_yes hj, hlx, hly] at this; exact this : Calls Tryz.prog 136 #[jv x y h t l] W fun e w' => e = .returned (.tuple #[.agg #[.int .i64 lx, .int .i64 ly], .bool true]) ∧ Below W.heap.size W w'))
  have CF := Lib.hid (fun (W : World) => (by have := flightI x y h t l W; rw [fl_yes hj, ← hN, hN9] at this; exact this : Calls Tryz.prog 134 #[jv x y h t l] W fun e w' => e = .returned (.int .i64 (N : Int)) ∧ Below W.heap.size W w'))
  have CW := Lib.hid (fun (W : World) (h : Below w.heap.size w W) => (by have := worstI A n c ps k W hn hb ((hr.below h).more h.size); rw [w_yes hp hk] at this; unfold Wa.pq at this; rw [hdx, hdy] at this; exact this : Calls Tryz.prog 56 #[.slice A n c, .int .i64 k] W fun e w' => e = .returned (.agg #[.int .i64 dx, .int .i64 dy]) ∧ Below W.heap.size W w'))
  rw [hlx, hly] at hl
  rw [hdx, hdy] at hwo
  rw [hN9] at hN2
  have CA := Lib.hid (fun (W : World) => complexW lx ly (by omega) (by omega) W)
  have CB := Lib.hid (fun (W : World) => complexW dx dy (by omega) (by omega) W)
  have K0 := Lib.hid (Bk.new w #[.int .i64 x, .int .i64 y, .int .i64 h, .int .i64 t, .int .i64 l] 70)
  have B0 := Lib.hid ((Below.refl w.heap.size w).alloc (Nat.le_refl _) (.cells #[.int .i64 x, .int .i64 y, .int .i64 h, .int .i64 t, .int .i64 l] 70))
  have c0 := K0.out.cell (i := 0) rfl
  have c1 := K0.out.cell (i := 1) rfl
  have c2 := K0.out.cell (i := 2) rfl
  have c3 := K0.out.cell (i := 3) rfl
  have c4 := K0.out.cell (i := 4) rfl
  clear hlx hly hdx hdy hN9 hN hr hn hb hj hp hk HV
  go_enter Tryz.func93, Tryz.ntmps93
  go_wp2_with fail
  refine (CL.out _).mono ?_
  rintro e w1 ⟨rfl, hb1⟩
  have K1 := Lib.hid ((K0.out.below hb1).alloc (o := .cells #[.int .i64 lx, .int .i64 ly] 31))
  have B1a := B0.out.trans (hb1.mono B0.out.size)
  have KP := Bk.new w1 #[.int .i64 lx, .int .i64 ly] 31
  have p0 := KP.cell (i := 0) rfl
  have p1 := KP.cell (i := 1) rfl
  have B1 := Lib.hid (B1a.alloc B1a.size (.cells #[.int .i64 lx, .int .i64 ly] 31))
  clear hb1 K0 B0 CL c0 c1 c2 c3 c4 B1a KP
  go_wp2_with fail
  refine (CA.out _).mono ?_
  rintro e w2 ⟨rfl, hb2⟩
  have K2 := Lib.hid (K1.out.below hb2)
  have B2 := Lib.hid (B1.out.trans (hb2.mono B1.out.size))
  have CW2 := Lib.hid (CW.out _ B2.out)
  clear hb2 K1 B1 CA CW p0 p1
  go_wp2_with fail
  refine CW2.out.mono ?_
  rintro e w3 ⟨rfl, hb3⟩
  have K3 := Lib.hid (K2.out.below hb3)
  have B3 := Lib.hid (B2.out.trans (hb3.mono B2.out.size))
  clear hb3 K2 B2 CW2
  go_wp2_with fail
  refine (CB.out _).mono ?_
  rintro e w4 ⟨rfl, hb4⟩
  have K4 := Lib.hid (K3.out.below hb4)
  have B4 := Lib.hid (B3.out.trans (hb4.mono B3.out.size))
  have c0 := K4.out.cell (i := 0) rfl
  have c1 := K4.out.cell (i := 1) rfl
  have c2 := K4.out.cell (i := 2) rfl
  have c3 := K4.out.cell (i := 3) rfl
  have c4 := K4.out.cell (i := 4) rfl
  clear hb4 K3 B3 CB K4
  go_wp2_with fail
  refine (CF.out _).mono ?_
  rintro e w5 ⟨rfl, hb5⟩
  have B5 := Lib.hid (B4.out.trans (hb5.mono B4.out.size))
  clear hb5 B4 CF c0 c1 c2 c3 c4
  obtain ⟨d1, hd1⟩ : ∃ a, Meas.f32 dx = a := ⟨_, rfl⟩
  obtain ⟨d2, hd2⟩ : ∃ a, Meas.f32 dy = a := ⟨_, rfl⟩
  have ID := Lib.hid (show I32 dx d1 ∧ I32 dy d2 by rw [← hd1, ← hd2]; exact ⟨i32_f32 _, i32_f32 _⟩)
  obtain ⟨z1, hz1⟩ : ∃ a, Meas.f32 lx = a := ⟨_, rfl⟩
  obtain ⟨z2, hz2⟩ : ∃ a, Meas.f32 ly = a := ⟨_, rfl⟩
  have IZ := Lib.hid (show I32 (lx + ((0 : Nat) : Int) * dx) z1 ∧ I32 (ly + ((0 : Nat) : Int) * dy) z2 by rw [← hz1, ← hz2]; simp only [Int.natCast_zero, Int.zero_mul, Int.add_zero]; exact ⟨i32_f32 _, i32_f32 _⟩)
  simp only [hd1, hd2, hz1, hz2]
  clear hd1 hd2 hz1 hz2
  go_wp2_with fail
  go_loopw [9, 24] (fun v i wr => ∃ q : Nat, q ≤ N ∧ i = .int .i64 q ∧ (∃ a b, v = .complex .f32 a b ∧ Hid (I32 (lx + (q : Int) * dx) a ∧ I32 (ly + (q : Int) * dy) b)) ∧ Hid (Below w.heap.size w wr)) (fun _ i _ => N - (intOf i).toNat)
  case atStart => exact ⟨0, Nat.zero_le _, rfl, ⟨z1, z2, rfl, IZ⟩, B5⟩
  case round =>
    obtain ⟨q, hq, rfl, ⟨a, b, rfl, IK⟩, BK⟩ := hrel
    clear IZ B5
    by_cases hlt : q < N
    · have m1 := mul33 (n := q) (by omega) hwo.1
      have m2 := mul33 (n := q) (by omega) hwo.2
      obtain ⟨r1, r2, e2, k1, k2⟩ := csum (P := Tryz.prog) .add 1 (Or.inl ⟨rfl, rfl⟩) (a := lx + (q : Int) * dx) (b := ly + (q : Int) * dy) (c := dx) (d := dy) (by omega) (by omega) (by omega) (by omega) IK.out.1 IK.out.2 ID.out.1 ID.out.2
      have IN := Lib.hid (show I32 (lx + ((q + 1 : Nat) : Int) * dx) r1 ∧ I32 (ly + ((q + 1 : Nat) : Int) * dy) r2 by
        rw [show ((q + 1 : Nat) : Int) = (q : Int) + 1 by omega, Int.add_mul, Int.add_mul, ← Int.add_assoc, ← Int.add_assoc]
        exact ⟨k1, k2⟩)
      clear k1 k2 m1 m2 IK
      go_wp2_with fail
      go_roundw
      case rel => exact ⟨q + 1, by omega, by go_num, ⟨r1, r2, rfl, IN⟩, BK⟩
      case measure => simp [intOf]; omega
    · obtain rfl : N = q := by omega
      go_wp2_with fail
      go_ret
      exact ⟨⟨a, b, rfl, IK.out.1, IK.out.2⟩, BK.out⟩

/-- What wetHeading tells. -/
def wetHV : Option Nat → Value
  | some k => .tuple #[.int .i64 (k : Int), .bool true]
  | none => .tuple #[.int .i64 0, .bool false]
theorem find_at {f : Nat → Bool} {k : Nat} (hk : k < 4) (hf : f k = true) (h : ∀ j, j < k → f j = false) : [0, 1, 2, 3].find? f = some k := by
  match k, hk with
  | 0, _ => simp [List.find?, hf]
  | 1, _ => simp [List.find?, hf, h 0 (by omega)]
  | 2, _ => simp [List.find?, hf, h 0 (by omega), h 1 (by omega)]
  | 3, _ => simp [List.find?, hf, h 0 (by omega), h 1 (by omega), h 2 (by omega)]
theorem find_no {f : Nat → Bool} (h : ∀ j, j < 4 → f j = false) : [0, 1, 2, 3].find? f = none := by
  simp [List.find?, h 0 (by omega), h 1 (by omega), h 2 (by omega), h 3 (by omega)]

set_option maxRecDepth 100000 in
set_option maxHeartbeats 4000000 in
theorem wetHeading {jx jy h t l : Int} (A : Option Addr) (n c : Nat) (ps : List (Int × Int)) (x y z u : Int) (hj : jt jx jy h t l = true) (hp : rs ps = true) (hb : bx x y z u = true) (w : World) (hn : ps.length = n) (hnb : n ≤ 1048576) (hr : Rd w w.heap.size A (pls ps)) :
    Calls Tryz.prog 54 #[jv jx jy h t l, .slice A n c, .agg #[.int .i64 x, .int .i64 y, .int .i64 z, .int .i64 u]] w fun e w' => e = .returned (wetHV (wetH jx jy h t l ps x y z u)) ∧ Below w.heap.size w w' := by
  have hz1 : (w.alloc (.cells #[.int .i64 jx, .int .i64 jy, .int .i64 h, .int .i64 t, .int .i64 l] 70)).heap.size = w.heap.size + 1 := by simp [go_sem]
  have b0a := (Below.refl w.heap.size w).alloc (Nat.le_refl _) (.cells #[.int .i64 jx, .int .i64 jy, .int .i64 h, .int .i64 t, .int .i64 l] 70)
  have B0 := Lib.hid (b0a.alloc b0a.size (.cells #[.int .i64 x, .int .i64 y, .int .i64 z, .int .i64 u] 33))
  have KJ := Lib.hid ((Bk.new w #[.int .i64 jx, .int .i64 jy, .int .i64 h, .int .i64 t, .int .i64 l] 70).alloc (o := .cells #[.int .i64 x, .int .i64 y, .int .i64 z, .int .i64 u] 33))
  have KB := Bk.new (w.alloc (.cells #[.int .i64 jx, .int .i64 jy, .int .i64 h, .int .i64 t, .int .i64 l] 70)) #[.int .i64 x, .int .i64 y, .int .i64 z, .int .i64 u] 33
  rw [hz1] at KB
  have KB := Lib.hid KB
  obtain ⟨fw, hfw⟩ : ∃ f, wetK jx jy h t l ps x y z u = f := ⟨_, rfl⟩
  have HF := Lib.hid (fun (k : Nat) => (by rw [← hfw]; rfl : fw k = decide (sideV x y z u (k : Int) < wv (k : Int) (far jx jy h t l ps (k : Int)))))
  have hgoal : wetH jx jy h t l ps x y z u = [0, 1, 2, 3].find? fw := by unfold wetH; rw [hfw]
  rw [hgoal]
  have CF := Lib.hid (fun (k : Nat) (hk : k < 4) (W : World) (h9 : Below w.heap.size w W) => farthest A n c ps hj hp (hd_nat hk) W hn hnb ((hr.below h9).more h9.size))
  have CS := Lib.hid (fun (k : Nat) (hk : k < 4) (W : World) => sideOf hb (hd_nat hk) W)
  have HFL := Lib.hid (fun (k : Nat) => far_le hj hp (k : Int))
  have HSL := Lib.hid (show ∀ k : Nat, -8192 ≤ sideV x y z u (k : Int) ∧ sideV x y z u (k : Int) ≤ 8192 from fun k => by
    obtain ⟨⟨h1, h2⟩, h3, h4⟩ := bx_le hb
    have := wv_le (h := (k : Int)) h1 h2
    have := wv_le (h := (k : Int)) h3 h4
    unfold sideV; omega)
  have A0 := Lib.hid (show ∀ j, j < 0 → fw j = false from fun j h => by omega)
  clear hfw hgoal hj hp hb hn hnb hr b0a hz1
  go_enter Tryz.func54, Tryz.ntmps54
  go_wp2_with fail
  go_loopw [9] (fun i wr => ∃ k : Nat, k ≤ 4 ∧ i = .int .i64 k ∧ Hid (∀ j, j < k → fw j = false) ∧ Hid (Bk wr w.heap.size #[.int .i64 jx, .int .i64 jy, .int .i64 h, .int .i64 t, .int .i64 l] 70) ∧ Hid (Bk wr (w.heap.size + 1) #[.int .i64 x, .int .i64 y, .int .i64 z, .int .i64 u] 33) ∧ Hid (Below w.heap.size w wr)) (fun i _ => 4 - (intOf i).toNat)
  case atStart => exact ⟨0, Nat.zero_le _, rfl, A0, KJ, KB, B0⟩
  case round =>
    obtain ⟨k, hk, rfl, AK, KJ9, KB9, BK⟩ := hrel
    clear A0 KJ KB B0
    by_cases hlt : k < 4
    · have hk4 : (k : Int) < 4 := by omega
      have c0 := KJ9.out.cell (i := 0) rfl
      have c1 := KJ9.out.cell (i := 1) rfl
      have c2 := KJ9.out.cell (i := 2) rfl
      have c3 := KJ9.out.cell (i := 3) rfl
      have c4 := KJ9.out.cell (i := 4) rfl
      have d0 := KB9.out.cell (i := 0) rfl
      have d1 := KB9.out.cell (i := 1) rfl
      have d2 := KB9.out.cell (i := 2) rfl
      have d3 := KB9.out.cell (i := 3) rfl
      have hfl := HFL.out k
      have hsl := HSL.out k
      have hwl := wv_le (h := (k : Int)) hfl.1 hfl.2
      obtain ⟨fx, hfx⟩ : ∃ a, (far jx jy h t l ps (k : Int)).1 = a := ⟨_, rfl⟩
      obtain ⟨fy, hfy⟩ : ∃ a, (far jx jy h t l ps (k : Int)).2 = a := ⟨_, rfl⟩
      have efar : far jx jy h t l ps (k : Int) = (fx, fy) := by rw [← hfx, ← hfy]
      rw [efar] at hfl hwl
      obtain ⟨q, hq⟩ : ∃ q, fw k = q := ⟨_, rfl⟩
      have hq2 := Lib.hid (show q = decide (sideV x y z u (k : Int) < wv (k : Int) (fx, fy)) by rw [← hq, HF.out, efar])
      have hq := Lib.hid hq
      have CF9 := Lib.hid (fun (W : World) (h9 : Below w.heap.size w W) => (by have := CF.out k hlt W h9; rw [efar] at this; exact this))
      have CW9 := Lib.hid (fun (a b : Nat) (ha : I32 fx a) (hb : I32 fy b) (W : World) => wayW (hd_nat hlt) (x := fx) (y := fy) (by omega) ha hb W)
      have CS9 := Lib.hid (fun (W : World) => CS.out k hlt W)
      clear hfx hfy efar
      go_upto_region 4 with fail
      refine wp_region_noPanic ?_
      refine wp_region_held_drew (S := (fun w' => w'.cell? ⟨w.heap.size, 0, none⟩ = some (.int .i64 jx) ∧ w'.cell? ⟨w.heap.size, 1, none⟩ = some (.int .i64 jy) ∧ w'.cell? ⟨w.heap.size, 2, none⟩ = some (.int .i64 h) ∧ w'.cell? ⟨w.heap.size, 3, none⟩ = some (.int .i64 t) ∧ w'.cell? ⟨w.heap.size, 4, none⟩ = some (.int .i64 l) ∧ w'.cell? ⟨w.heap.size + 1, 0, none⟩ = some (.int .i64 x) ∧ w'.cell? ⟨w.heap.size + 1, 1, none⟩ = some (.int .i64 y) ∧ w'.cell? ⟨w.heap.size + 1, 2, none⟩ = some (.int .i64 z) ∧ w'.cell? ⟨w.heap.size + 1, 3, none⟩ = some (.int .i64 u) ∧ Bk w' w.heap.size #[.int .i64 jx, .int .i64 jy, .int .i64 h, .int .i64 t, .int .i64 l] 70 ∧ Bk w' (w.heap.size + 1) #[.int .i64 x, .int .i64 y, .int .i64 z, .int .i64 u] 33 ∧ Below w.heap.size w w')) (by kernel_rfl) ?_ (fun hH => ?_)
      · exact ⟨c0, c1, c2, c3, c4, d0, d1, d2, d3, KJ9.out.drew, KB9.out.drew, BK.out.drew⟩
      refine wpAnyH_take (i := 0) (oi := { dst := some 12, op := _, type := _, pos := _, after := _, guard := _ }) (v := ?_) rfl (by kernel_rfl) (by kernel_rfl) (by kernel_rfl) (fun _ _ _ h => h) (Or.inl ⟨by rfl, ?_⟩) hH ?_
      rotate_left 1
      · intro W hSw
        (try dsimp only at hSw)
        go_simp
        (try with_reducible rfl)
      try simp only [Act.put, List.setIfInBounds_toArray, List.set_cons_zero, List.set_cons_succ]
      refine wpAnyH_take (i := 1) (oi := { dst := some 13, op := _, type := _, pos := _, after := _, guard := _ }) (v := ?_) rfl (by kernel_rfl) (by kernel_rfl) (by kernel_rfl) (fun _ _ _ h => h) (Or.inl ⟨by rfl, ?_⟩) hH ?_
      rotate_left 1
      · intro W hSw
        (try dsimp only at hSw)
        go_simp
        (try with_reducible rfl)
      try simp only [Act.put, List.setIfInBounds_toArray, List.set_cons_zero, List.set_cons_succ]
      refine wpAnyH_take (i := 2) (oi := { dst := some 14, op := _, type := _, pos := _, after := _, guard := _ }) (v := ?_) rfl (by kernel_rfl) (by kernel_rfl) (by kernel_rfl) (fun _ _ _ h => h) (Or.inl ⟨by rfl, ?_⟩) hH ?_
      rotate_left 1
      · intro W hSw
        (try dsimp only at hSw)
        go_simp
        (try with_reducible rfl)
      try simp only [Act.put, List.setIfInBounds_toArray, List.set_cons_zero, List.set_cons_succ]
      refine wpAnyH_take (i := 4) (oi := { dst := some 16, op := _, type := _, pos := _, after := _, guard := _ }) (v := ?_) rfl (by kernel_rfl) (by kernel_rfl) (by kernel_rfl) (fun _ _ _ h => h) (Or.inl ⟨by rfl, ?_⟩) hH ?_
      rotate_left 1
      · intro W hSw
        (try dsimp only at hSw)
        go_simp
        (try with_reducible rfl)
      try simp only [Act.put, List.setIfInBounds_toArray, List.set_cons_zero, List.set_cons_succ]
      refine wpAnyH_take (i := 6) (oi := { dst := some 18, op := _, type := _, pos := _, after := _, guard := _ }) (v := ?_) rfl (by kernel_rfl) (by kernel_rfl) (by kernel_rfl) (fun _ _ _ h => h) (Or.inl ⟨by rfl, ?_⟩) hH ?_
      rotate_left 1
      · intro W hSw
        (try dsimp only at hSw)
        go_simp
        (try with_reducible rfl)
      try simp only [Act.put, List.setIfInBounds_toArray, List.set_cons_zero, List.set_cons_succ]
      refine wpAnyH_take (i := 7) (oi := { dst := some 19, op := _, type := _, pos := _, after := _, guard := _ }) (v := ?_) rfl (by kernel_rfl) (by kernel_rfl) (by kernel_rfl) (fun _ _ _ h => h) (Or.inl ⟨by rfl, ?_⟩) hH ?_
      rotate_left 1
      · intro W hSw
        (try dsimp only at hSw)
        go_simp
        (try with_reducible rfl)
      try simp only [Act.put, List.setIfInBounds_toArray, List.set_cons_zero, List.set_cons_succ]
      refine wpAnyH_ready (rs := [3]) (by kernel_rfl) (by simp) (AllReadyH.cons rfl (fun K hK => ?_) AllReadyH.nil)
      go_simp
      go_at_call 93; ((with_reducible refine (CF9.out _ hH.2.2.2.2.2.2.2.2.2.2.2).mono ?_); rintro e9 r1 ⟨⟨za, zb, rfl, ja, jb⟩, hb1⟩); go_wp2_with fail
      refine hK.out _ _ ?_ (fun hG => ?_)
      · exact ⟨cell_below hb1 hH.1, cell_below hb1 hH.2.1, cell_below hb1 hH.2.2.1, cell_below hb1 hH.2.2.2.1, cell_below hb1 hH.2.2.2.2.1, cell_below hb1 hH.2.2.2.2.2.1, cell_below hb1 hH.2.2.2.2.2.2.1, cell_below hb1 hH.2.2.2.2.2.2.2.1, cell_below hb1 hH.2.2.2.2.2.2.2.2.1, hH.2.2.2.2.2.2.2.2.2.1.below hb1, hH.2.2.2.2.2.2.2.2.2.2.1.below hb1, hH.2.2.2.2.2.2.2.2.2.2.2.trans (hb1.mono hH.2.2.2.2.2.2.2.2.2.2.2.size)⟩
      replace hH := hG
      clear hK K hG
      try simp only [Act.put, List.setIfInBounds_toArray, List.set_cons_zero, List.set_cons_succ]
      refine wpAnyH_ready (rs := [5]) (by kernel_rfl) (by simp) (AllReadyH.cons rfl (fun K hK => ?_) AllReadyH.nil)
      go_simp
      go_at_call 104; ((with_reducible refine (CW9.out za zb ja jb _).mono ?_); rintro e9 r2 ⟨⟨rw9, rfl, jw⟩, hb2⟩); go_wp2_with fail
      refine hK.out _ _ ?_ (fun hG => ?_)
      · exact ⟨cell_below hb2 hH.1, cell_below hb2 hH.2.1, cell_below hb2 hH.2.2.1, cell_below hb2 hH.2.2.2.1, cell_below hb2 hH.2.2.2.2.1, cell_below hb2 hH.2.2.2.2.2.1, cell_below hb2 hH.2.2.2.2.2.2.1, cell_below hb2 hH.2.2.2.2.2.2.2.1, cell_below hb2 hH.2.2.2.2.2.2.2.2.1, hH.2.2.2.2.2.2.2.2.2.1.below hb2, hH.2.2.2.2.2.2.2.2.2.2.1.below hb2, hH.2.2.2.2.2.2.2.2.2.2.2.trans (hb2.mono hH.2.2.2.2.2.2.2.2.2.2.2.size)⟩
      replace hH := hG
      clear hK K hG
      try simp only [Act.put, List.setIfInBounds_toArray, List.set_cons_zero, List.set_cons_succ]
      refine wpAnyH_ready (rs := [8]) (by kernel_rfl) (by simp) (AllReadyH.cons rfl (fun K hK => ?_) AllReadyH.nil)
      go_simp
      go_at_call 105; ((with_reducible refine (CS9.out _).mono ?_); rintro e9 r3 ⟨⟨rs9, rfl, js⟩, hb3⟩); have hgt := gt_w hq2.out (by omega) hsl jw js; go_wp2_with fail
      refine hK.out _ _ ?_ (fun hG => ?_)
      · exact ⟨cell_below hb3 hH.1, cell_below hb3 hH.2.1, cell_below hb3 hH.2.2.1, cell_below hb3 hH.2.2.2.1, cell_below hb3 hH.2.2.2.2.1, cell_below hb3 hH.2.2.2.2.2.1, cell_below hb3 hH.2.2.2.2.2.2.1, cell_below hb3 hH.2.2.2.2.2.2.2.1, cell_below hb3 hH.2.2.2.2.2.2.2.2.1, hH.2.2.2.2.2.2.2.2.2.1.below hb3, hH.2.2.2.2.2.2.2.2.2.2.1.below hb3, hH.2.2.2.2.2.2.2.2.2.2.2.trans (hb3.mono hH.2.2.2.2.2.2.2.2.2.2.2.size)⟩
      replace hH := hG
      clear hK K hG
      try simp only [Act.put, List.setIfInBounds_toArray, List.set_cons_zero, List.set_cons_succ]
      refine wpAnyH_take (i := 9) (oi := { dst := some 21, op := _, type := _, pos := _, after := _, guard := _ }) (v := ?_) rfl (by kernel_rfl) (by kernel_rfl) (by kernel_rfl) (fun _ _ _ h => h) (Or.inl ⟨by rfl, ?_⟩) hH ?_
      rotate_left 1
      · intro W hSw
        (try dsimp only at hSw)
        go_simp
        (try with_reducible rfl)
      try simp only [Act.put, List.setIfInBounds_toArray, List.set_cons_zero, List.set_cons_succ]
      refine wpAnyH_done (by kernel_rfl) ?_ _
      refine NoPanic.normal ?_
      have KJX := Lib.hid hH.2.2.2.2.2.2.2.2.2.1
      have KBX := Lib.hid hH.2.2.2.2.2.2.2.2.2.2.1
      have BX := Lib.hid hH.2.2.2.2.2.2.2.2.2.2.2
      have HQ := hq
      clear hH hb1 hb2 hb3 hgt jw js ja jb hq hq2 CF9 CW9 CS9 KJ9 KB9 BK c0 c1 c2 c3 c4 d0 d1 d2 d3
      cases q
      · have AN := Lib.hid (show ∀ j, j < k + 1 → fw j = false from fun j hj => by
          by_cases e : j = k
          · subst e; exact HQ.out
          · exact AK.out j (by omega))
        clear AK HQ
        go_wp2_with fail
        go_roundw
        case rel => first | exact ⟨k + 1, by omega, by go_num, AN, KJX, KBX, BX⟩ | ((repeat apply Exists.intro); exact ⟨⟨k + 1, by omega, by go_num, AN, KJX, KBX, BX⟩, rfl⟩)
        case measure => simp [intOf]; omega
      · have HV := Lib.hid (find_at hlt HQ.out AK.out)
        clear KJX KBX
        go_wp2_with fail
        go_returns
        exact ⟨by rw [HV.out]; rfl, BX.out⟩
    · obtain rfl : k = 4 := by omega
      have HV := Lib.hid (find_no AK.out)
      clear KJ9 KB9
      go_wp2_with fail
      go_returns
      exact ⟨by rw [HV.out]; rfl, BK.out⟩
end Go.Proofs.YtejeikfgmiadhabGreat.Fa10
namespace Go.Proofs.YtejeikfgmiadhabGreat.Lb10
open Go.RowKit Go.ChangeShapes Go.WideShapes Go.WideElems Go.Deep Go.Proofs.YtejeikfgmiadhabGreat.Mem Go.Proofs.YtejeikfgmiadhabGreat.Rw Go.Proofs.YtejeikfgmiadhabGreat.P2 Go.Proofs.YtejeikfgmiadhabGreat.Bk Go.Proofs.YtejeikfgmiadhabGreat.Jt Go.Proofs.YtejeikfgmiadhabGreat.Cm Go.Proofs.YtejeikfgmiadhabGreat.Cx Go.Proofs.YtejeikfgmiadhabGreat.Pl Go.Proofs.YtejeikfgmiadhabGreat.Hd Go.Proofs.YtejeikfgmiadhabGreat.Str
open Go.Proofs.YtejeikfgmiadhabGreat.Wz Go.Proofs.YtejeikfgmiadhabGreat.Fw10 Go.Proofs.YtejeikfgmiadhabGreat.Fa10 Go.Proofs.YtejeikfgmiadhabGreat.Wy
open Go.Proofs.YtejeikfgmiadhabGreat.Wr (rs)
open Go.Proofs.YtejeikfgmiadhabGreat.Pls (pls)
open Go.Proofs.YtejeikfgmiadhabGreat.Bo (boxA Q4 bq)
open Go.Proofs.YtejeikfgmiadhabGreat.Tb (box4 set4)
open Go.Proofs.YtejeikfgmiadhabGreat.Tw9 (step_store_row row_grown row_bk)
open Go.Proofs.YtejeikfgmiadhabGreat.Bxi (bx ib)
open Go.Proofs.YtejeikfgmiadhabGreat.Dp (landV landI flightI fl_yes inF_iff told2_yes told2_no)
set_option linter.unusedVariables false
set_option linter.unusedSimpArgs false

def lbB (x y h t l : Int) (ps : List (Int × Int)) : Bool := jt x y h t l && rs ps
/-- The box of all places where a drop can land; zeros if there is none. -/
def lbQ (x y h t l : Int) (ps : List (Int × Int)) : Q4 := if lbB x y h t l ps = true then lbox x y h t l ps else (0, 0, 0, 0)
theorem lb_no {x y h t l : Int} {ps : List (Int × Int)} (e : jt x y h t l = false ∨ rs ps = false) : lbB x y h t l ps = false ∧ lbQ x y h t l ps = (0, 0, 0, 0) := by
  have : lbB x y h t l ps = false := by unfold lbB; rcases e with e | e <;> rw [e] <;> simp
  exact ⟨this, by unfold lbQ; rw [this]; rfl⟩
theorem lb_yes {x y h t l : Int} {ps : List (Int × Int)} (hj : jt x y h t l = true) (hp : rs ps = true) : lbB x y h t l ps = true ∧ lbQ x y h t l ps = lbox x y h t l ps := by
  have : lbB x y h t l ps = true := by unfold lbB; rw [hj, hp]; rfl
  exact ⟨this, by unfold lbQ; rw [this]; rfl⟩
theorem l2AddB (x y a b : Int) (h1 : wrap64 (x + a) = x + a) (h2 : wrap64 (y + b) = y + b) (w : World) :
    Calls Tryz.prog 79 #[.agg #[.int .i64 x, .int .i64 y], .agg #[.int .i64 a, .int .i64 b]] w fun e w' => e = .returned (.agg #[.int .i64 (x + a), .int .i64 (y + b)]) ∧ Below w.heap.size w w' := by
  go_enter Tryz.func79, Tryz.ntmps79
  go_wp2
  go_returns
  exact ⟨rfl, by go_grown⟩

theorem landV_no {x y h t l : Int} (hj : jt x y h t l = false) : landV x y h t l = .tuple #[.agg #[.int .i64 0, .int .i64 0], .bool false] := by
  unfold landV
  exact told2_no (by rw [← Bool.not_eq_true, inF_iff]; rintro ⟨h1, _⟩; rw [hj] at h1; cases h1)

set_option maxRecDepth 100000 in
set_option maxHeartbeats 4000000 in
theorem landBoxS (x y h t l : Int) (A : Option Addr) (n c : Nat) (ps : List (Int × Int)) (w : World) (hn : ps.length = n) (hb : n ≤ 1048576) (hr : Rd w w.heap.size A (pls ps)) :
    Calls Tryz.prog 35 #[jv x y h t l, .slice A n c] w fun e w' => e = .returned (.tuple #[bq (lbQ x y h t l ps), .bool (lbB x y h t l ps)]) ∧ Below w.heap.size w w' := by
  have hz1 : (w.alloc (.cells #[.int .i64 x, .int .i64 y, .int .i64 h, .int .i64 t, .int .i64 l] 70)).heap.size = w.heap.size + 1 := by simp [go_sem]
  have b0a := (Below.refl w.heap.size w).alloc (Nat.le_refl _) (.cells #[.int .i64 x, .int .i64 y, .int .i64 h, .int .i64 t, .int .i64 l] 70)
  have B0 := Lib.hid (b0a.alloc b0a.size (.cells #[.int .i64 0, .int .i64 0, .int .i64 0, .int .i64 0] 33))
  have KJ := Lib.hid ((Bk.new w #[.int .i64 x, .int .i64 y, .int .i64 h, .int .i64 t, .int .i64 l] 70).alloc (o := .cells #[.int .i64 0, .int .i64 0, .int .i64 0, .int .i64 0] 33))
  have KB := Bk.new (w.alloc (.cells #[.int .i64 x, .int .i64 y, .int .i64 h, .int .i64 t, .int .i64 l] 70)) #[.int .i64 0, .int .i64 0, .int .i64 0, .int .i64 0] 33
  rw [hz1] at KB
  have KB := Lib.hid KB
  have c0 := KJ.out.cell (i := 0) rfl
  have c1 := KJ.out.cell (i := 1) rfl
  have c2 := KJ.out.cell (i := 2) rfl
  have c3 := KJ.out.cell (i := 3) rfl
  have c4 := KJ.out.cell (i := 4) rfl
  cases hj : jt x y h t l
  · obtain ⟨e1, e2⟩ := lb_no (Or.inl hj : _ ∨ rs ps = false)
    rw [e1, e2]
    obtain ⟨⟨q1, q2, q3, q4⟩, hq⟩ : ∃ q, rQ ps 0 = q := ⟨_, rfl⟩
    obtain ⟨bb, hbb⟩ : ∃ b, rB ps 0 = b := ⟨_, rfl⟩
    have CL := Lib.hid (fun (W : World) => (by have := Dp.landS x y h t l W; rw [landV_no hj] at this; exact this : Calls Tryz.prog 76 #[jv x y h t l] W fun e w' => e = .returned (.tuple #[.agg #[.int .i64 0, .int .i64 0], .bool false]) ∧ Below W.heap.size W w'))
    have CF := Lib.hid (fun (W : World) => (by have := Dp.flightS x y h t l W; rw [Dp.fl_no hj] at this; exact this : Calls Tryz.prog 78 #[jv x y h t l] W fun e w' => e = .returned (.int .i64 0) ∧ Below W.heap.size W w'))
    have CR := Lib.hid (fun (W : World) (h9 : Below w.heap.size w W) => (by have := roseBoxS A n c ps 0 W hn hb ((hr.below h9).more h9.size); rw [hq, hbb] at this; unfold Bo.bq at this; exact this : Calls Tryz.prog 77 #[.slice A n c, .int .i64 0] W fun e w' => e = .returned (.tuple #[box4 q1 q2 q3 q4, .bool bb]) ∧ Below W.heap.size W w'))
    clear hn hb hr hz1 b0a hj e1 e2 hq hbb
    go_enter Tryz.func35, Tryz.ntmps35
    go_wp2_with fail
    refine (CL.out _).mono ?_
    rintro e w1 ⟨rfl, hb1⟩
    have J1 := Lib.hid ((KJ.out.below hb1).alloc (o := .cells #[.int .i64 0, .int .i64 0] 31))
    have K1 := Lib.hid ((KB.out.below hb1).alloc (o := .cells #[.int .i64 0, .int .i64 0] 31))
    have P1 := Lib.hid (Bk.new w1 #[.int .i64 0, .int .i64 0] 31)
    have B1a := B0.out.trans (hb1.mono B0.out.size)
    have hl1 : w.heap.size + 1 < w1.heap.size := (KB.out.below hb1).lt
    have B1 := Lib.hid (B1a.alloc B1a.size (.cells #[.int .i64 0, .int .i64 0] 31))
    clear hb1 B1a KJ KB B0 c0 c1 c2 c3 c4 CL
    have c0 := J1.out.cell (i := 0) rfl
    have c1 := J1.out.cell (i := 1) rfl
    have c2 := J1.out.cell (i := 2) rfl
    have c3 := J1.out.cell (i := 3) rfl
    have c4 := J1.out.cell (i := 4) rfl
    go_wp2_with fail
    refine (CF.out _).mono ?_
    rintro e w2 ⟨rfl, hb2⟩
    have K2 := Lib.hid (K1.out.below hb2)
    have P2 := Lib.hid (P1.out.below hb2)
    have B2 := Lib.hid (B1.out.trans (hb2.mono B1.out.size))
    have CR2 := Lib.hid (CR.out _ B2.out)
    clear hb2 K1 P1 J1 B1 c0 c1 c2 c3 c4 CF CR
    go_wp2_with fail
    refine CR2.out.mono ?_
    rintro e w3 ⟨rfl, hb3⟩
    have K3 := Lib.hid ((K2.out.below hb3).alloc (o := .cells #[.int .i64 q1, .int .i64 q2, .int .i64 q3, .int .i64 q4] 33))
    have P3 := Lib.hid ((P2.out.below hb3).alloc (o := .cells #[.int .i64 q1, .int .i64 q2, .int .i64 q3, .int .i64 q4] 33))
    have KR3 := Lib.hid (K2.out.below hb3)
    have Q3 := Lib.hid (Bk.new w3 #[.int .i64 q1, .int .i64 q2, .int .i64 q3, .int .i64 q4] 33)
    have B3a := B2.out.trans (hb3.mono B2.out.size)
    have B3 := Lib.hid (B3a.alloc B3a.size (.cells #[.int .i64 q1, .int .i64 q2, .int .i64 q3, .int .i64 q4] 33))
    have BA3 := Lib.hid B3a
    have hl3 : w.heap.size + 1 < w3.heap.size := (K2.out.below hb3).lt
    have hp3 : w1.heap.size < w3.heap.size := (P2.out.below hb3).lt
    clear hb3 B3a K2 P2 B2 CR2
    have e0 := K3.out.cell (i := 0) rfl
    have e1 := K3.out.cell (i := 1) rfl
    have e2 := K3.out.cell (i := 2) rfl
    have e3 := K3.out.cell (i := 3) rfl
    have v0 := K3.out.frozen 0
    have v1 := K3.out.frozen 1
    have v2 := K3.out.frozen 2
    have v3 := K3.out.frozen 3
    have z0 := KR3.out.cell (i := 0) rfl
    have z1 := KR3.out.cell (i := 1) rfl
    have z2 := KR3.out.cell (i := 2) rfl
    have z3 := KR3.out.cell (i := 3) rfl
    have y0 := KR3.out.frozen 0
    have y1 := KR3.out.frozen 1
    have y2 := KR3.out.frozen 2
    have y3 := KR3.out.frozen 3
    have l9 := KR3.out.lt
    have HS4 := Lib.hid (set4 (a := .int .i64 (0)) (b := .int .i64 (0)) (c := .int .i64 (0)) (d := .int .i64 (0)) z0 z1 z2 z3)
    go_wp2_with fail
    have r0 := cell_alloc (o := .cells #[.int .i64 q1, .int .i64 q2, .int .i64 q3, .int .i64 q4] 33) HS4.out.1
    have r1 := cell_alloc (o := .cells #[.int .i64 q1, .int .i64 q2, .int .i64 q3, .int .i64 q4] 33) HS4.out.2.1
    have r2 := cell_alloc (o := .cells #[.int .i64 q1, .int .i64 q2, .int .i64 q3, .int .i64 q4] 33) HS4.out.2.2.1
    have r3 := cell_alloc (o := .cells #[.int .i64 q1, .int .i64 q2, .int .i64 q3, .int .i64 q4] 33) HS4.out.2.2.2
    (try simp only [Exit.inBlock, Exit.then])
    refine bodyPost_ret (v := .tuple #[box4 (0) (0) (0) (0), .bool false]) (by simp [results, Tryz.results35, go_sem, r0, r1, r2, r3]; try rfl) rfl ?_
    exact ⟨rfl, BA3.out.trans (by have h9 := BA3.out.size; go_grown)⟩
  cases hp : rs ps
  · obtain ⟨e1, e2⟩ := lb_no (Or.inr hp : jt x y h t l = false ∨ _)
    rw [e1, e2]
    obtain ⟨r1, r2⟩ := r_no (ps := ps) (t := l + 1) (Or.inl hp)
    obtain ⟨lx, hlx⟩ : ∃ a, (land x y h t l).1 = a := ⟨_, rfl⟩
    obtain ⟨ly, hly⟩ : ∃ a, (land x y h t l).2 = a := ⟨_, rfl⟩
    have CL := Lib.hid (fun (W : World) => (by have := Dp.landS x y h t l W; rw [landV_yes hj, hlx, hly] at this; exact this : Calls Tryz.prog 76 #[jv x y h t l] W fun e w' => e = .returned (.tuple #[.agg #[.int .i64 lx, .int .i64 ly], .bool true]) ∧ Below W.heap.size W w'))
    have CF := Lib.hid (fun (W : World) => (by have := Dp.flightS x y h t l W; rw [Dp.fl_yes hj] at this; exact this : Calls Tryz.prog 78 #[jv x y h t l] W fun e w' => e = .returned (.int .i64 (l + 1)) ∧ Below W.heap.size W w'))
    have CR := Lib.hid (fun (W : World) (h9 : Below w.heap.size w W) => (by have := roseBoxS A n c ps (l + 1) W hn hb ((hr.below h9).more h9.size); rw [r1, r2] at this; unfold Bo.bq at this; exact this : Calls Tryz.prog 77 #[.slice A n c, .int .i64 (l + 1)] W fun e w' => e = .returned (.tuple #[box4 0 0 0 0, .bool false]) ∧ Below W.heap.size W w'))
    clear hn hb hr hz1 b0a hj hp e1 e2 r1 r2 hlx hly
    go_enter Tryz.func35, Tryz.ntmps35
    go_wp2_with fail
    refine (CL.out _).mono ?_
    rintro e w1 ⟨rfl, hb1⟩
    have J1 := Lib.hid ((KJ.out.below hb1).alloc (o := .cells #[.int .i64 lx, .int .i64 ly] 31))
    have K1 := Lib.hid ((KB.out.below hb1).alloc (o := .cells #[.int .i64 lx, .int .i64 ly] 31))
    have P1 := Lib.hid (Bk.new w1 #[.int .i64 lx, .int .i64 ly] 31)
    have B1a := B0.out.trans (hb1.mono B0.out.size)
    have hl1 : w.heap.size + 1 < w1.heap.size := (KB.out.below hb1).lt
    have B1 := Lib.hid (B1a.alloc B1a.size (.cells #[.int .i64 lx, .int .i64 ly] 31))
    clear hb1 B1a KJ KB B0 c0 c1 c2 c3 c4 CL
    have c0 := J1.out.cell (i := 0) rfl
    have c1 := J1.out.cell (i := 1) rfl
    have c2 := J1.out.cell (i := 2) rfl
    have c3 := J1.out.cell (i := 3) rfl
    have c4 := J1.out.cell (i := 4) rfl
    go_wp2_with fail
    refine (CF.out _).mono ?_
    rintro e w2 ⟨rfl, hb2⟩
    have K2 := Lib.hid (K1.out.below hb2)
    have P2 := Lib.hid (P1.out.below hb2)
    have B2 := Lib.hid (B1.out.trans (hb2.mono B1.out.size))
    have CR2 := Lib.hid (CR.out _ B2.out)
    clear hb2 K1 P1 J1 B1 c0 c1 c2 c3 c4 CF CR
    go_wp2_with fail
    refine CR2.out.mono ?_
    rintro e w3 ⟨rfl, hb3⟩
    have K3 := Lib.hid ((K2.out.below hb3).alloc (o := .cells #[.int .i64 0, .int .i64 0, .int .i64 0, .int .i64 0] 33))
    have P3 := Lib.hid ((P2.out.below hb3).alloc (o := .cells #[.int .i64 0, .int .i64 0, .int .i64 0, .int .i64 0] 33))
    have KR3 := Lib.hid (K2.out.below hb3)
    have Q3 := Lib.hid (Bk.new w3 #[.int .i64 0, .int .i64 0, .int .i64 0, .int .i64 0] 33)
    have B3a := B2.out.trans (hb3.mono B2.out.size)
    have B3 := Lib.hid (B3a.alloc B3a.size (.cells #[.int .i64 0, .int .i64 0, .int .i64 0, .int .i64 0] 33))
    have BA3 := Lib.hid B3a
    have hl3 : w.heap.size + 1 < w3.heap.size := (K2.out.below hb3).lt
    have hp3 : w1.heap.size < w3.heap.size := (P2.out.below hb3).lt
    clear hb3 B3a K2 P2 B2 CR2
    have e0 := K3.out.cell (i := 0) rfl
    have e1 := K3.out.cell (i := 1) rfl
    have e2 := K3.out.cell (i := 2) rfl
    have e3 := K3.out.cell (i := 3) rfl
    have v0 := K3.out.frozen 0
    have v1 := K3.out.frozen 1
    have v2 := K3.out.frozen 2
    have v3 := K3.out.frozen 3
    have z0 := KR3.out.cell (i := 0) rfl
    have z1 := KR3.out.cell (i := 1) rfl
    have z2 := KR3.out.cell (i := 2) rfl
    have z3 := KR3.out.cell (i := 3) rfl
    have y0 := KR3.out.frozen 0
    have y1 := KR3.out.frozen 1
    have y2 := KR3.out.frozen 2
    have y3 := KR3.out.frozen 3
    have l9 := KR3.out.lt
    have HS4 := Lib.hid (set4 (a := .int .i64 (0)) (b := .int .i64 (0)) (c := .int .i64 (0)) (d := .int .i64 (0)) z0 z1 z2 z3)
    go_wp2_with fail
    have r0 := cell_alloc (o := .cells #[.int .i64 0, .int .i64 0, .int .i64 0, .int .i64 0] 33) HS4.out.1
    have r1 := cell_alloc (o := .cells #[.int .i64 0, .int .i64 0, .int .i64 0, .int .i64 0] 33) HS4.out.2.1
    have r2 := cell_alloc (o := .cells #[.int .i64 0, .int .i64 0, .int .i64 0, .int .i64 0] 33) HS4.out.2.2.1
    have r3 := cell_alloc (o := .cells #[.int .i64 0, .int .i64 0, .int .i64 0, .int .i64 0] 33) HS4.out.2.2.2
    (try simp only [Exit.inBlock, Exit.then])
    refine bodyPost_ret (v := .tuple #[box4 (0) (0) (0) (0), .bool false]) (by simp [results, Tryz.results35, go_sem, r0, r1, r2, r3]; try rfl) rfl ?_
    exact ⟨rfl, BA3.out.trans (by have h9 := BA3.out.size; go_grown)⟩
  obtain ⟨e1, e2⟩ := lb_yes hj hp
  rw [e1, e2]
  have hl := (jt_iff.1 hj).2.2.2.2
  obtain ⟨r1, r2⟩ := r_yes hp (t := l + 1) (by omega)
  have hN := (nN_le hj).1
  have hla := land_le hj
  have hlb := lbox_le hj hp
  obtain ⟨lx, hlx⟩ : ∃ a, (land x y h t l).1 = a := ⟨_, rfl⟩
  obtain ⟨ly, hly⟩ : ∃ a, (land x y h t l).2 = a := ⟨_, rfl⟩
  obtain ⟨q1, hq1⟩ : ∃ a, (l + 1) * (boxA ps).1 = a := ⟨_, rfl⟩
  obtain ⟨q2, hq2⟩ : ∃ a, (l + 1) * (boxA ps).2.1 = a := ⟨_, rfl⟩
  obtain ⟨q3, hq3⟩ : ∃ a, (l + 1) * (boxA ps).2.2.1 = a := ⟨_, rfl⟩
  obtain ⟨q4, hq4⟩ : ∃ a, (l + 1) * (boxA ps).2.2.2 = a := ⟨_, rfl⟩
  have hsq : sq (l + 1) (boxA ps) = (q1, q2, q3, q4) := by unfold sq; rw [hq1, hq2, hq3, hq4]
  have hlq : lbox x y h t l ps = (lx + q1, ly + q2, lx + q3, ly + q4) := by unfold lbox; rw [hN, hlx, hly, hq1, hq2, hq3, hq4]
  rw [hlq] at hlb ⊢
  rw [hlx, hly] at hla
  simp only at hlb
  have CL := Lib.hid (fun (W : World) => (by have := Dp.landS x y h t l W; rw [landV_yes hj, hlx, hly] at this; exact this : Calls Tryz.prog 76 #[jv x y h t l] W fun e w' => e = .returned (.tuple #[.agg #[.int .i64 lx, .int .i64 ly], .bool true]) ∧ Below W.heap.size W w'))
  have CF := Lib.hid (fun (W : World) => (by have := Dp.flightS x y h t l W; rw [Dp.fl_yes hj] at this; exact this : Calls Tryz.prog 78 #[jv x y h t l] W fun e w' => e = .returned (.int .i64 (l + 1)) ∧ Below W.heap.size W w'))
  have CR := Lib.hid (fun (W : World) (h9 : Below w.heap.size w W) => (by have := roseBoxS A n c ps (l + 1) W hn hb ((hr.below h9).more h9.size); rw [r1, r2, hsq] at this; unfold Bo.bq at this; exact this : Calls Tryz.prog 77 #[.slice A n c, .int .i64 (l + 1)] W fun e w' => e = .returned (.tuple #[box4 q1 q2 q3 q4, .bool true]) ∧ Below W.heap.size W w'))
  have A1 := Lib.hid (fun (W : World) => l2AddB lx ly q1 q2 (IntWalk.wrap64_in _ (by omega)) (IntWalk.wrap64_in _ (by omega)) W)
  have A2 := Lib.hid (fun (W : World) => l2AddB lx ly q3 q4 (IntWalk.wrap64_in _ (by omega)) (IntWalk.wrap64_in _ (by omega)) W)
  have hu : undef = Value.tuple #[] := rfl
  unfold Bo.bq
  clear hn hb hr hz1 b0a hj hp e1 e2 r1 r2 hN hla hlb hlx hly hq1 hq2 hq3 hq4 hsq hlq hl
  go_enter Tryz.func35, Tryz.ntmps35
  go_wp2_with fail
  refine (CL.out _).mono ?_
  rintro e w1 ⟨rfl, hb1⟩
  have J1 := Lib.hid ((KJ.out.below hb1).alloc (o := .cells #[.int .i64 lx, .int .i64 ly] 31))
  have K1 := Lib.hid ((KB.out.below hb1).alloc (o := .cells #[.int .i64 lx, .int .i64 ly] 31))
  have P1 := Lib.hid (Bk.new w1 #[.int .i64 lx, .int .i64 ly] 31)
  have B1a := B0.out.trans (hb1.mono B0.out.size)
  have hl1 : w.heap.size + 1 < w1.heap.size := (KB.out.below hb1).lt
  have B1 := Lib.hid (B1a.alloc B1a.size (.cells #[.int .i64 lx, .int .i64 ly] 31))
  clear hb1 B1a KJ KB B0 c0 c1 c2 c3 c4 CL
  have c0 := J1.out.cell (i := 0) rfl
  have c1 := J1.out.cell (i := 1) rfl
  have c2 := J1.out.cell (i := 2) rfl
  have c3 := J1.out.cell (i := 3) rfl
  have c4 := J1.out.cell (i := 4) rfl
  go_wp2_with fail
  refine (CF.out _).mono ?_
  rintro e w2 ⟨rfl, hb2⟩
  have K2 := Lib.hid (K1.out.below hb2)
  have P2 := Lib.hid (P1.out.below hb2)
  have B2 := Lib.hid (B1.out.trans (hb2.mono B1.out.size))
  have CR2 := Lib.hid (CR.out _ B2.out)
  clear hb2 K1 P1 J1 B1 c0 c1 c2 c3 c4 CF CR
  go_wp2_with fail
  refine CR2.out.mono ?_
  rintro e w3 ⟨rfl, hb3⟩
  have K3 := Lib.hid ((K2.out.below hb3).alloc (o := .cells #[.int .i64 q1, .int .i64 q2, .int .i64 q3, .int .i64 q4] 33))
  have P3 := Lib.hid ((P2.out.below hb3).alloc (o := .cells #[.int .i64 q1, .int .i64 q2, .int .i64 q3, .int .i64 q4] 33))
  have KR3 := Lib.hid (K2.out.below hb3)
  have Q3 := Lib.hid (Bk.new w3 #[.int .i64 q1, .int .i64 q2, .int .i64 q3, .int .i64 q4] 33)
  have B3a := B2.out.trans (hb3.mono B2.out.size)
  have B3 := Lib.hid (B3a.alloc B3a.size (.cells #[.int .i64 q1, .int .i64 q2, .int .i64 q3, .int .i64 q4] 33))
  have BA3 := Lib.hid B3a
  have hl3 : w.heap.size + 1 < w3.heap.size := (K2.out.below hb3).lt
  have hp3 : w1.heap.size < w3.heap.size := (P2.out.below hb3).lt
  clear hb3 B3a K2 P2 B2 CR2
  have hs3 : (w3.alloc (.cells #[.int .i64 q1, .int .i64 q2, .int .i64 q3, .int .i64 q4] 33)).heap.size = w3.heap.size + 1 := by simp [go_sem]
  go_upto_region 5 with fail
  refine wp_region_noPanic ?_
  refine wp_region_held_drew (S := (fun w' => w'.cell? ⟨w1.heap.size, 0, none⟩ = some (.int .i64 lx) ∧ w'.cell? ⟨w1.heap.size, 1, none⟩ = some (.int .i64 ly) ∧ w'.cell? ⟨w3.heap.size, 0, none⟩ = some (.int .i64 q1) ∧ w'.cell? ⟨w3.heap.size, 1, none⟩ = some (.int .i64 q2) ∧ w'.cell? ⟨w3.heap.size, 2, none⟩ = some (.int .i64 q3) ∧ w'.cell? ⟨w3.heap.size, 3, none⟩ = some (.int .i64 q4) ∧ Below w.heap.size w w')) (by kernel_rfl) ?_ (fun hH => ?_)
  · exact ⟨P3.out.drew.cell (i := 0) rfl, P3.out.drew.cell (i := 1) rfl, Q3.out.drew.cell (i := 0) rfl, Q3.out.drew.cell (i := 1) rfl, Q3.out.drew.cell (i := 2) rfl, Q3.out.drew.cell (i := 3) rfl, B3.out.drew⟩
  refine wpAnyH_take (i := 0) (oi := { dst := some 29, op := _, type := _, pos := _, after := _, guard := _ }) (v := ?_) rfl (by kernel_rfl) (by kernel_rfl) (by kernel_rfl) (fun _ _ _ h => h) (Or.inl ⟨by rfl, ?_⟩) hH ?_
  rotate_left 1
  · intro W hSw
    (try dsimp only at hSw)
    go_simp
    (try with_reducible rfl)
  try simp only [Act.put, List.setIfInBounds_toArray, List.set_cons_zero, List.set_cons_succ]
  refine wpAnyH_take (i := 1) (oi := { dst := some 30, op := _, type := _, pos := _, after := _, guard := _ }) (v := ?_) rfl (by kernel_rfl) (by kernel_rfl) (by kernel_rfl) (fun _ _ _ h => h) (Or.inl ⟨by rfl, ?_⟩) hH ?_
  rotate_left 1
  · intro W hSw
    (try dsimp only at hSw)
    go_simp
    (try with_reducible rfl)
  try simp only [Act.put, List.setIfInBounds_toArray, List.set_cons_zero, List.set_cons_succ]
  refine wpAnyH_take (i := 2) (oi := { dst := some 31, op := _, type := _, pos := _, after := _, guard := _ }) (v := ?_) rfl (by kernel_rfl) (by kernel_rfl) (by kernel_rfl) (fun _ _ _ h => h) (Or.inl ⟨by rfl, ?_⟩) hH ?_
  rotate_left 1
  · intro W hSw
    (try dsimp only at hSw)
    go_simp
    (try with_reducible rfl)
  try simp only [Act.put, List.setIfInBounds_toArray, List.set_cons_zero, List.set_cons_succ]
  refine wpAnyH_take (i := 4) (oi := { dst := some 33, op := _, type := _, pos := _, after := _, guard := _ }) (v := ?_) rfl (by kernel_rfl) (by kernel_rfl) (by kernel_rfl) (fun _ _ _ h => h) (Or.inl ⟨by rfl, ?_⟩) hH ?_
  rotate_left 1
  · intro W hSw
    (try dsimp only at hSw)
    go_simp
    (try with_reducible rfl)
  try simp only [Act.put, List.setIfInBounds_toArray, List.set_cons_zero, List.set_cons_succ]
  refine wpAnyH_take (i := 5) (oi := { dst := some 34, op := _, type := _, pos := _, after := _, guard := _ }) (v := ?_) rfl (by kernel_rfl) (by kernel_rfl) (by kernel_rfl) (fun _ _ _ h => h) (Or.inl ⟨by rfl, ?_⟩) hH ?_
  rotate_left 1
  · intro W hSw
    (try dsimp only at hSw)
    go_simp
    (try with_reducible rfl)
  try simp only [Act.put, List.setIfInBounds_toArray, List.set_cons_zero, List.set_cons_succ]
  refine wpAnyH_take (i := 6) (oi := { dst := some 35, op := _, type := _, pos := _, after := _, guard := _ }) (v := ?_) rfl (by kernel_rfl) (by kernel_rfl) (by kernel_rfl) (fun _ _ _ h => h) (Or.inl ⟨by rfl, ?_⟩) hH ?_
  rotate_left 1
  · intro W hSw
    (try dsimp only at hSw)
    go_simp
    (try with_reducible rfl)
  try simp only [Act.put, List.setIfInBounds_toArray, List.set_cons_zero, List.set_cons_succ]
  refine wpAnyH_ready (rs := [3]) (by kernel_rfl) (by simp) (AllReadyH.cons rfl (fun K hK => ?_) AllReadyH.nil)
  go_simp
  go_at_call 79; ((with_reducible refine (A1.out _).mono ?_); rintro e9 r1 ⟨rfl, hb1⟩); have R1 := K3.out.drew.below hb1; go_wp2_with fail
  refine hK.out _ _ ?_ (fun hG => ?_)
  · exact ⟨cell_below hb1 hH.1, cell_below hb1 hH.2.1, cell_below hb1 hH.2.2.1, cell_below hb1 hH.2.2.2.1, cell_below hb1 hH.2.2.2.2.1, cell_below hb1 hH.2.2.2.2.2.1, hH.2.2.2.2.2.2.trans (hb1.mono hH.2.2.2.2.2.2.size)⟩
  replace hH := hG
  clear hK K hG
  try simp only [Act.put, List.setIfInBounds_toArray, List.set_cons_zero, List.set_cons_succ]
  refine wpAnyH_ready (rs := [7]) (by kernel_rfl) (by simp) (AllReadyH.cons rfl (fun K hK => ?_) AllReadyH.nil)
  go_simp
  go_at_call 79; ((with_reducible refine (A2.out _).mono ?_); rintro e9 r2 ⟨rfl, hb2⟩); have R2 := R1.below hb2; go_wp2_with fail
  refine hK.out _ _ ?_ (fun hG => ?_)
  · exact ⟨cell_below hb2 hH.1, cell_below hb2 hH.2.1, cell_below hb2 hH.2.2.1, cell_below hb2 hH.2.2.2.1, cell_below hb2 hH.2.2.2.2.1, cell_below hb2 hH.2.2.2.2.2.1, hH.2.2.2.2.2.2.trans (hb2.mono hH.2.2.2.2.2.2.size)⟩
  replace hH := hG
  clear hK K hG
  try simp only [Act.put, List.setIfInBounds_toArray, List.set_cons_zero, List.set_cons_succ]
  refine wpAnyH_take (i := 8) (oi := { dst := some 37, op := _, type := _, pos := _, after := _, guard := _ }) (v := ?_) rfl (by kernel_rfl) (by kernel_rfl) (by kernel_rfl) (fun _ _ _ h => h) (Or.inl ⟨by rfl, ?_⟩) hH ?_
  rotate_left 1
  · intro W hSw
    (try dsimp only at hSw)
    go_simp
    (try with_reducible rfl)
  try simp only [Act.put, List.setIfInBounds_toArray, List.set_cons_zero, List.set_cons_succ]
  refine wpAnyH_ready (rs := [9]) (by kernel_rfl) (by simp) (AllReadyH.cons rfl (fun K hK => ?_) AllReadyH.nil)
  (refine step_store_row rfl 33 (.tmp 4) (.tmp 37) rfl (w.heap.size + 1) #[.int .i64 (lx + q1), .int .i64 (ly + q2), .int .i64 (lx + q3), .int .i64 (ly + q4)] (by simp [Act.eval, Act.put]) (by simp [Act.eval, Act.put]) 33 #[.int .i64 0, .int .i64 0, .int .i64 0, .int .i64 0] R2 (by kernel_rfl) rfl (by simp [Value.oneCell']) ?_; refine (show K (Act.put _ none _) _ from ?_); have hgR := row_grown r2 (w.heap.size + 1) #[.int .i64 (lx + q1), .int .i64 (ly + q2), .int .i64 (lx + q3), .int .i64 (ly + q4)])
  refine hK.out _ _ ?_ (fun hG => ?_)
  · exact ⟨hgR.cell hH.1 (fun e => by have e := Option.some.inj e; (have e9 : w1.heap.size = w.heap.size + 1 := e); omega), hgR.cell hH.2.1 (fun e => by have e := Option.some.inj e; (have e9 : w1.heap.size = w.heap.size + 1 := e); omega), hgR.cell hH.2.2.1 (fun e => by have e := Option.some.inj e; (have e9 : w3.heap.size = w.heap.size + 1 := e); omega), hgR.cell hH.2.2.2.1 (fun e => by have e := Option.some.inj e; (have e9 : w3.heap.size = w.heap.size + 1 := e); omega), hgR.cell hH.2.2.2.2.1 (fun e => by have e := Option.some.inj e; (have e9 : w3.heap.size = w.heap.size + 1 := e); omega), hgR.cell hH.2.2.2.2.2.1 (fun e => by have e := Option.some.inj e; (have e9 : w3.heap.size = w.heap.size + 1 := e); omega), hH.2.2.2.2.2.2.grown hgR hH.2.2.2.2.2.2.size (fun z9 e9 => by have e9 := Option.some.inj e9; omega)⟩
  replace hH := hG
  clear hK K hG
  try simp only [Act.put, List.setIfInBounds_toArray, List.set_cons_zero, List.set_cons_succ]
  refine wpAnyH_take (i := 10) (oi := { dst := some 5, op := _, type := _, pos := _, after := _, guard := _ }) (v := ?_) rfl (by kernel_rfl) (by kernel_rfl) (by kernel_rfl) (fun _ _ _ h => h) (Or.inl ⟨by rfl, ?_⟩) hH ?_
  rotate_left 1
  · intro W hSw
    (try dsimp only at hSw)
    go_simp
    (try with_reducible rfl)
  try simp only [Act.put, List.setIfInBounds_toArray, List.set_cons_zero, List.set_cons_succ]
  refine wpAnyH_done (by kernel_rfl) ?_ _
  refine NoPanic.normal ?_
  have KX := row_bk #[.int .i64 (lx + q1), .int .i64 (ly + q2), .int .i64 (lx + q3), .int .i64 (ly + q4)] R2
  have r0 := KX.cell (i := 0) rfl
  have r1' := KX.cell (i := 1) rfl
  have r2' := KX.cell (i := 2) rfl
  have r3' := KX.cell (i := 3) rfl
  have BX := hH.2.2.2.2.2.2
  clear hH
  go_wp2_with fail
  (try simp only [Exit.inBlock, Exit.then])
  refine bodyPost_ret (v := .tuple #[box4 (lx + q1) (ly + q2) (lx + q3) (ly + q4), .bool true]) (by simp [results, Tryz.results35, go_sem, r0, r1', r2', r3']; try rfl) rfl ?_
  exact ⟨rfl, BX⟩
end Go.Proofs.YtejeikfgmiadhabGreat.Lb10
namespace Go.Proofs.YtejeikfgmiadhabGreat.Bi
open Go.RowKit Go.Proofs.YtejeikfgmiadhabGreat.Mem Go.Proofs.YtejeikfgmiadhabGreat.Cx Go.Proofs.YtejeikfgmiadhabGreat.Cm Go.Proofs.YtejeikfgmiadhabGreat.Pl Go.Proofs.YtejeikfgmiadhabGreat.Str Go.Proofs.YtejeikfgmiadhabGreat.Pw Go.Proofs.YtejeikfgmiadhabGreat.P2 Go.Proofs.YtejeikfgmiadhabGreat.Bx Go.Proofs.YtejeikfgmiadhabGreat.Tb Go.Proofs.YtejeikfgmiadhabGreat.Pls Go.Proofs.YtejeikfgmiadhabGreat.Bo
set_option linter.unusedVariables false

end Go.Proofs.YtejeikfgmiadhabGreat.Bi
namespace Go.Proofs.YtejeikfgmiadhabGreat.Le10
open Go.RowKit Go.ChangeShapes Go.WideShapes Go.WideElems Go.Deep Go.Proofs.YtejeikfgmiadhabGreat.Mem Go.Proofs.YtejeikfgmiadhabGreat.Rw Go.Proofs.YtejeikfgmiadhabGreat.P2 Go.Proofs.YtejeikfgmiadhabGreat.Bk Go.Proofs.YtejeikfgmiadhabGreat.Jt Go.Proofs.YtejeikfgmiadhabGreat.Cm Go.Proofs.YtejeikfgmiadhabGreat.Cx Go.Proofs.YtejeikfgmiadhabGreat.Pl Go.Proofs.YtejeikfgmiadhabGreat.Hd Go.Proofs.YtejeikfgmiadhabGreat.Str
open Go.Proofs.YtejeikfgmiadhabGreat.Wz Go.Proofs.YtejeikfgmiadhabGreat.Fw10 Go.Proofs.YtejeikfgmiadhabGreat.Fa10 Go.Proofs.YtejeikfgmiadhabGreat.Wy
open Go.Proofs.YtejeikfgmiadhabGreat.Wr (rs)
open Go.Proofs.YtejeikfgmiadhabGreat.Pls (pls pls_len infoPlace)
open Go.Proofs.YtejeikfgmiadhabGreat.Bo (boxA Q4 bq)
open Go.Proofs.YtejeikfgmiadhabGreat.Tb (box4 set4)
open Go.Proofs.YtejeikfgmiadhabGreat.Tw9 (step_store_row row_grown row_bk)
open Go.Proofs.YtejeikfgmiadhabGreat.Bxi (bx ib)
open Go.Proofs.YtejeikfgmiadhabGreat.Dp (landV landI flightI fl_yes inF_iff told2_yes told2_no)
open Go.Proofs.YtejeikfgmiadhabGreat.Lb10 (lbB lbQ landBoxS)
open Go.Proofs.YtejeikfgmiadhabGreat.Sp Go.Proofs.YtejeikfgmiadhabGreat.Sq
open Go.Proofs.YtejeikfgmiadhabGreat.Sv hiding D C G
open Go.Proofs.YtejeikfgmiadhabGreat.Bo (okB val good)
open Go.Proofs.YtejeikfgmiadhabGreat.Tw9 (T9 WOk tls tls_get Thr)
open Go.Proofs.YtejeikfgmiadhabGreat.Tm9 (bls bls_get)
set_option linter.unusedVariables false
set_option linter.unusedSimpArgs false

theorem cT {w : World} {base g n c k : Nat} {us : List T9} {u : T9} (o : w.ownsRow base 83 9 (.slice (some ⟨g, 0, none⟩) n c) n (tls us)) (h : us[k]? = some u) (hk : k < n) :
    w.cell? ⟨g, k * 9, none⟩ = some (.string u.z.d.nm) ∧ w.cell? ⟨g, k * 9 + 1, none⟩ = some (.int .i64 u.z.b) ∧ w.cell? ⟨g, k * 9 + 2, none⟩ = some (.int .i64 (u.z.b + (u.z.l + 1))) ∧ w.cell? ⟨g, k * 9 + 3, none⟩ = some (.int .i64 u.z.d.x) ∧ w.cell? ⟨g, k * 9 + 4, none⟩ = some (.int .i64 u.z.d.y) ∧ w.cell? ⟨g, k * 9 + 5, none⟩ = some (.int .i64 u.z.d.hd) ∧ w.cell? ⟨g, k * 9 + 6, none⟩ = some (.int .i64 u.z.d.tl) ∧ w.cell? ⟨g, k * 9 + 7, none⟩ = some (.int .i64 u.z.l) ∧ w.cell? ⟨g, k * 9 + 8, none⟩ = some (.complex .f32 u.re u.im) :=
  have g := tls_get h
  ⟨(o.cellAt (k * 9) (by omega)).trans g.1, (o.cellAt (k * 9 + 1) (by omega)).trans g.2.1, (o.cellAt (k * 9 + 2) (by omega)).trans g.2.2.1, (o.cellAt (k * 9 + 3) (by omega)).trans g.2.2.2.1, (o.cellAt (k * 9 + 4) (by omega)).trans g.2.2.2.2.1, (o.cellAt (k * 9 + 5) (by omega)).trans g.2.2.2.2.2.1, (o.cellAt (k * 9 + 6) (by omega)).trans g.2.2.2.2.2.2.1, (o.cellAt (k * 9 + 7) (by omega)).trans g.2.2.2.2.2.2.2.1, (o.cellAt (k * 9 + 8) (by omega)).trans g.2.2.2.2.2.2.2.2⟩
theorem cB {w : World} {base g n c k : Nat} {us : List B} {z : B} (o : w.ownsRow base 72 7 (.slice (some ⟨g, 0, none⟩) n c) n (bls us)) (h : us[k]? = some z) (hk : k < n) :
    w.cell? ⟨g, k * 7, none⟩ = some (.string z.d.nm) ∧ w.cell? ⟨g, k * 7 + 1, none⟩ = some (.int .i64 z.b) ∧ w.cell? ⟨g, k * 7 + 2, none⟩ = some (.int .i64 z.d.x) ∧ w.cell? ⟨g, k * 7 + 3, none⟩ = some (.int .i64 z.d.y) ∧ w.cell? ⟨g, k * 7 + 4, none⟩ = some (.int .i64 z.d.hd) ∧ w.cell? ⟨g, k * 7 + 5, none⟩ = some (.int .i64 z.d.tl) ∧ w.cell? ⟨g, k * 7 + 6, none⟩ = some (.int .i64 z.l) :=
  have g := bls_get h
  ⟨(o.cellAt (k * 7) (by omega)).trans g.1, (o.cellAt (k * 7 + 1) (by omega)).trans g.2.1, (o.cellAt (k * 7 + 2) (by omega)).trans g.2.2.1, (o.cellAt (k * 7 + 3) (by omega)).trans g.2.2.2.1, (o.cellAt (k * 7 + 4) (by omega)).trans g.2.2.2.2.1, (o.cellAt (k * 7 + 5) (by omega)).trans g.2.2.2.2.2.1, (o.cellAt (k * 7 + 6) (by omega)).trans g.2.2.2.2.2.2⟩

/-- The corners of the box of the landings of a drop. -/
def cn (ps : List (Int × Int)) (z : B) : List (Int × Int) := [((lbQ z.d.x z.d.y z.d.hd z.d.tl z.l ps).1, (lbQ z.d.x z.d.y z.d.hd z.d.tl z.l ps).2.1), ((lbQ z.d.x z.d.y z.d.hd z.d.tl z.l ps).2.2.1, (lbQ z.d.x z.d.y z.d.hd z.d.tl z.l ps).2.2.2)]
def cnL (ps : List (Int × Int)) (l : List B) : List (Int × Int) := l.flatMap (cn ps)
theorem cnL_len (ps : List (Int × Int)) : ∀ l : List B, (cnL ps l).length = l.length * 2
  | [] => rfl
  | z :: l => by
    have h := cnL_len ps l
    unfold cnL at h ⊢
    rw [List.flatMap_cons, List.length_append, h, List.length_cons, show (cn ps z).length = 2 from rfl]; omega
theorem cnL_snoc {ps : List (Int × Int)} {l : List B} {k : Nat} {z : B} (h : l[k]? = some z) {q1 q2 q3 q4 : Int} (hq : lbQ z.d.x z.d.y z.d.hd z.d.tl z.l ps = (q1, q2, q3, q4)) : pls (cnL ps (l.take k)) ++ [.int .i64 q1, .int .i64 q2, .int .i64 q3, .int .i64 q4] = pls (cnL ps (l.take (k + 1))) := by
  obtain ⟨hk, rfl⟩ := List.getElem?_eq_some_iff.1 h
  rw [List.take_succ_eq_append_getElem hk]
  have e : cnL ps (l.take k ++ [l[k]]) = cnL ps (l.take k) ++ [(q1, q2), (q3, q4)] := by
    unfold cnL; rw [List.flatMap_append]; simp [cn, hq]
  rw [e]
  unfold pls
  rw [List.flatMap_append]
  rfl
noncomputable def leB (ds : List D) (cs : List C) (gs : List G) (T : Int) (ps : List (Int × Int)) : Bool := rs ps && okB (cnL ps (all9 ds cs gs T))
/-- The least basin; zeros if there is none. -/
noncomputable def leQ (ds : List D) (cs : List C) (gs : List G) (T : Int) (ps : List (Int × Int)) : Q4 := if rs ps = true then val (cnL ps (all9 ds cs gs T)) else (0, 0, 0, 0)
theorem le_no {ds : List D} {cs : List C} {gs : List G} {T : Int} {ps : List (Int × Int)} (h : rs ps = false) : leB ds cs gs T ps = false ∧ leQ ds cs gs T ps = (0, 0, 0, 0) := by
  unfold leB leQ; rw [h]; exact ⟨rfl, rfl⟩
theorem le_none {ds : List D} {cs : List C} {gs : List G} {T : Int} {ps : List (Int × Int)} (h : show9 ds cs gs T = false) : leB ds cs gs T ps = false ∧ leQ ds cs gs T ps = (0, 0, 0, 0) := by
  unfold leB leQ; rw [all9_no h]
  have e1 : okB (cnL ps []) = false := by unfold okB; rw [show (cnL ps []).length = 0 from rfl]; simp
  have e2 : val (cnL ps []) = (0, 0, 0, 0) := rfl
  rw [e1, e2]
  refine ⟨Bool.and_false _, ?_⟩
  split <;> rfl
theorem le_yes {ds : List D} {cs : List C} {gs : List G} {T : Int} {ps : List (Int × Int)} {zs : List B} (h : rs ps = true) (hz : all9 ds cs gs T = zs) : leB ds cs gs T ps = okB (cnL ps zs) ∧ leQ ds cs gs T ps = val (cnL ps zs) := by
  unfold leB leQ; rw [h, hz]; exact ⟨Bool.true_and _, rfl⟩
theorem append_place (w : World) (base g n c : Nat) (xs : List Value) (hown : w.ownsRow base 31 2 (.slice (some ⟨g, 0, none⟩) n c) n xs) (a : Addr) (m c2 : Nat) (news : List Value) (hl : news.length = m * 2) (hnews : ∀ j u, news[j]? = some u → w.cell? (a.add j) = some u) (h1 : ∀ u ∈ news, u.oneCell' = true) (hs : n + m ≤ 2097152) (hbase : base ≤ w.heap.size) :
    ∃ (g' c' : Nat) (w' : World), (Builtin.append_ #[42, 42] 42 #[.slice (some ⟨g, 0, none⟩) n c, .slice (some a) m c2]).run Tryz.prog w = .ok (.slice (some ⟨g', 0, none⟩) (n + m) c') w' ∧ w'.ownsRow base 31 2 (.slice (some ⟨g', 0, none⟩) (n + m) c') (n + m) (xs ++ news) ∧ w.grownBy w' (some g) := by
  obtain ⟨i0, hi, hz0, hz1, hz2⟩ := info_of infoPlace
  obtain ⟨v', w', hr, h2, h3, h4, _⟩ := run_append_own_at (P := Tryz.prog) w base 42 42 31 i0 (.agg #[.int .i64 0, .int .i64 0]) 2 16 Tryz.underlying42 hi hz0 hz1 hz2 rfl (by decide) _ n xs hown a m c2 news hl hnews h1 (by unfold maxLen; omega) (by omega) hbase
  have hg : ∃ g c, v' = .slice (some ⟨g, 0, none⟩) (n + m) c := by
    rcases h2.2 with ⟨e1, _⟩ | ⟨g, cap, cur, e1, _⟩
    · exact absurd (h4.1 e1).1 (by intro h; cases h)
    · exact ⟨g, cap, e1⟩
  obtain ⟨g', c', rfl⟩ := hg
  exact ⟨g', c', w', hr, h2, h3⟩
theorem wpList_append_place {ops : Array Oper} {rest : List Oper} {o : Oper} {a : Act} {w w' : World} {Q : Exit → Act → World → Prop}
    (hg : o.guard = none) (s x : Operand) (hop : o.op = Op.call { callee := Callee.builtin Builtin.append, args := #[s, x], argTypes := #[42, 42] }) (hty : o.type = 42)
    (v v2 v' : Value) (hs : a.eval s = v) (hx : a.eval x = v2) (hrun : (Builtin.append_ #[42, 42] 42 #[v, v2]).run Tryz.prog w = .ok v' w') (hK : wpList Tryz.prog ops Q rest (a.put o.dst v') w') : wpList Tryz.prog ops Q (o :: rest) a w := by
  refine wpList_plain hg fun K' hK' => ?_
  unfold Oper.wp
  simp [execOp, hop, hty, resolve, invoke, builtin, hs, hx, hrun, Result.andThen]
  exact hK' _ _ hK

set_option maxRecDepth 100000 in
set_option maxHeartbeats 4000000 in
theorem leastS (A0 : Option Addr) (n0 c0 : Nat) (A1 : Option Addr) (n1 c1 : Nat) (A2 : Option Addr) (n2 c2 : Nat) (T : Int) (ds : List D) (cs : List C) (gs : List G) (A9 : Option Addr) (n9 c9 : Nat) (ps : List (Int × Int)) (w : World) (hf : Fit n0 n1 n2 ds cs gs) (hr : SR w A0 A1 A2 ds cs gs) (hn9 : ps.length = n9) (hb9 : n9 ≤ 1048576) (hr9 : Rd w w.heap.size A9 (pls ps)) (hsz : ∀ z ∈ ds, z.nm.size ≤ 1048576 ∧ z.ln.size ≤ 1048576) (hsc : ∀ z ∈ cs, z.nm.size ≤ 1048576) :
    Calls Tryz.prog 9 #[sv A0 n0 c0 A1 n1 c1 A2 n2 c2 T, .slice A9 n9 c9] w fun e w' => e = .returned (.tuple #[bq (leQ ds cs gs T ps), .bool (leB ds cs gs T ps)]) ∧ Below w.heap.size w w' := by
  have b0a := (Below.refl w.heap.size w).alloc (Nat.le_refl _) (.cells (sc A0 n0 c0 A1 n1 c1 A2 n2 c2 T) 40)
  have hz1 : (w.alloc (.cells (sc A0 n0 c0 A1 n1 c1 A2 n2 c2 T) 40)).heap.size = w.heap.size + 1 := by simp [go_sem]
  have B0 := Lib.hid (b0a.alloc b0a.size (.cells #[.int .i64 0, .int .i64 0, .int .i64 0, .int .i64 0] 33))
  have KS := Lib.hid ((Bk.new w (sc A0 n0 c0 A1 n1 c1 A2 n2 c2 T) 40).alloc (o := .cells #[.int .i64 0, .int .i64 0, .int .i64 0, .int .i64 0] 33))
  have KB := Bk.new (w.alloc (.cells (sc A0 n0 c0 A1 n1 c1 A2 n2 c2 T) 40)) #[.int .i64 0, .int .i64 0, .int .i64 0, .int .i64 0] 33
  rw [hz1] at KB
  have KB := Lib.hid KB
  have hz2 : ((w.alloc (.cells (sc A0 n0 c0 A1 n1 c1 A2 n2 c2 T) 40)).alloc (.cells #[.int .i64 0, .int .i64 0, .int .i64 0, .int .i64 0] 33)).heap.size = w.heap.size + 1 + 1 := by simp [go_sem]
  have K3 := Lib.hid (KB.out.alloc (o := .cells #[] 31))
  have K4 := Lib.hid (KS.out.alloc (o := .cells #[] 31))
  have B3 := Lib.hid (B0.out.alloc B0.out.size (.cells #[] 31))
  have R0 := Lib.hid (by have := World.ownsRow_lit (base := w.heap.size + 1 + 1) (e := 31) (size := 2) ((w.alloc (.cells (sc A0 n0 c0 A1 n1 c1 A2 n2 c2 T) 40)).alloc (.cells #[.int .i64 0, .int .i64 0, .int .i64 0, .int .i64 0] 33)) #[] 0 (by rw [hz2]; omega) (Nat.zero_le _) rfl; rw [hz2] at this; exact this : (((w.alloc (.cells (sc A0 n0 c0 A1 n1 c1 A2 n2 c2 T) 40)).alloc (.cells #[.int .i64 0, .int .i64 0, .int .i64 0, .int .i64 0] 33)).alloc (.cells #[] 31)).ownsRow (w.heap.size + 1 + 1) 31 2 (.slice (some ⟨w.heap.size + 1 + 1, 0, none⟩) 0 0) 0 [])
  obtain ⟨r, hrr⟩ : ∃ r, show9 ds cs gs T = r := ⟨_, rfl⟩
  have CS := Lib.hid (fun (W : World) (h : SR W A0 A1 A2 ds cs gs) => (by have := Sw9.isShowS A0 n0 c0 A1 n1 c1 A2 n2 c2 T ds cs gs W hf h hsz hsc; rw [hrr] at this; exact this : Calls Tryz.prog 32 #[sv A0 n0 c0 A1 n1 c1 A2 n2 c2 T] W fun e w' => e = .returned (.bool r) ∧ Below W.heap.size W w'))
  have HS := Lib.hid (hr.below B3.out)
  obtain ⟨br, hp⟩ : ∃ b, rs ps = b := ⟨_, rfl⟩
  have CR := Lib.hid (fun (W : World) (h9 : Below w.heap.size w W) => Wx.roseS (A := A9) (c := c9) (H := w.heap.size) hn9 hb9 hp W h9.size (hr9.below h9))
  have hu : undef = Value.tuple #[] := rfl
  have s0 := K4.out.cell (i := 0) rfl
  have s1 := K4.out.cell (i := 1) rfl
  have s2 := K4.out.cell (i := 2) rfl
  have s3 := K4.out.cell (i := 3) rfl
  clear b0a hz1 hz2 KB KS B0 hsz hsc
  cases r
  · have HE := Lib.hid (le_none hrr : leB ds cs gs T ps = false ∧ leQ ds cs gs T ps = (0, 0, 0, 0))
    rw [HE.out.1, HE.out.2]
    clear HE hrr hp hf hr hn9 hb9 hr9 CR R0
    go_enter Tryz.func9, Tryz.ntmps9
    go_wp2_with fail
    refine (CS.out _ HS.out).mono ?_
    rintro e v ⟨rfl, b1⟩
    have R := Lib.hid (K3.out.below b1)
    have B9 := Lib.hid (B3.out.trans (b1.mono B3.out.size))
    clear b1 K3 K4 CS B3 HS s0 s1 s2 s3
    have z0 := R.out.cell (i := 0) rfl
    have z1 := R.out.cell (i := 1) rfl
    have z2 := R.out.cell (i := 2) rfl
    have z3 := R.out.cell (i := 3) rfl
    have y0 := R.out.frozen 0
    have y1 := R.out.frozen 1
    have y2 := R.out.frozen 2
    have y3 := R.out.frozen 3
    have l9 := R.out.lt
    have HS4 := Lib.hid (set4 (a := .int .i64 (0)) (b := .int .i64 (0)) (c := .int .i64 (0)) (d := .int .i64 (0)) z0 z1 z2 z3)
    go_wp2_with fail
    have r0 := HS4.out.1
    have r1 := HS4.out.2.1
    have r2 := HS4.out.2.2.1
    have r3 := HS4.out.2.2.2
    (try simp only [Exit.inBlock, Exit.then])
    refine bodyPost_ret (v := .tuple #[box4 (0) (0) (0) (0), .bool false]) (by simp [results, Tryz.results9, go_sem, r0, r1, r2, r3]; try rfl) rfl ?_
    exact ⟨rfl, B9.out.trans (by have h9 := B9.out.size; go_grown)⟩
  cases br
  · have HE := Lib.hid (le_no hp : leB ds cs gs T ps = false ∧ leQ ds cs gs T ps = (0, 0, 0, 0))
    rw [HE.out.1, HE.out.2]
    clear HE hrr hp hf hr hn9 hb9 hr9 R0
    go_enter Tryz.func9, Tryz.ntmps9
    go_wp2_with fail
    refine (CS.out _ HS.out).mono ?_
    rintro e v1 ⟨rfl, b1⟩
    have K5 := Lib.hid (K3.out.below b1)
    have B5 := Lib.hid (B3.out.trans (b1.mono B3.out.size))
    clear b1 K3 K4 CS B3 HS s0 s1 s2 s3
    go_wp2_with fail
    refine (CR.out _ B5.out).mono ?_
    rintro e v ⟨rfl, b1⟩
    have R := Lib.hid (K5.out.below b1)
    have B9 := Lib.hid (B5.out.trans (b1.mono B5.out.size))
    clear b1 K5 B5 CR
    have z0 := R.out.cell (i := 0) rfl
    have z1 := R.out.cell (i := 1) rfl
    have z2 := R.out.cell (i := 2) rfl
    have z3 := R.out.cell (i := 3) rfl
    have y0 := R.out.frozen 0
    have y1 := R.out.frozen 1
    have y2 := R.out.frozen 2
    have y3 := R.out.frozen 3
    have l9 := R.out.lt
    have HS4 := Lib.hid (set4 (a := .int .i64 (0)) (b := .int .i64 (0)) (c := .int .i64 (0)) (d := .int .i64 (0)) z0 z1 z2 z3)
    go_wp2_with fail
    have r0 := HS4.out.1
    have r1 := HS4.out.2.1
    have r2 := HS4.out.2.2.1
    have r3 := HS4.out.2.2.2
    (try simp only [Exit.inBlock, Exit.then])
    refine bodyPost_ret (v := .tuple #[box4 (0) (0) (0) (0), .bool false]) (by simp [results, Tryz.results9, go_sem, r0, r1, r2, r3]; try rfl) rfl ?_
    exact ⟨rfl, B9.out.trans (by have h9 := B9.out.size; go_grown)⟩
  obtain ⟨zs, hzs⟩ : ∃ zs, all9 ds cs gs T = zs := ⟨_, rfl⟩
  obtain ⟨m, hm⟩ : ∃ m, zs.length = m := ⟨_, rfl⟩
  have hmb : m ≤ 512 := by have := all9_len ds cs gs T; rw [hzs, hm] at this; exact this
  have HMB := Lib.hid hmb
  have HM := Lib.hid hm
  obtain ⟨hv1, hv2⟩ := le_yes (ds := ds) (cs := cs) (gs := gs) (T := T) hp hzs
  obtain ⟨⟨p1, p2, p3, p4⟩, hvq⟩ : ∃ q, val (cnL ps zs) = q := ⟨_, rfl⟩
  obtain ⟨pb, hvb⟩ : ∃ b, okB (cnL ps zs) = b := ⟨_, rfl⟩
  rw [hv1, hv2, hvq, hvb]
  have HVQ := Lib.hid hvq
  have HVB := Lib.hid hvb
  clear hv1 hv2 hvq hvb
  have CA := Lib.hid (fun (W : World) (h : SR W A0 A1 A2 ds cs gs) => (by have := Tm9.l9All A0 n0 c0 A1 n1 c1 A2 n2 c2 T ds cs gs W hf h hrr; unfold Tm9.RowM at this; rw [hzs, hm] at this; exact this :
    Calls Tryz.prog 34 #[sv A0 n0 c0 A1 n1 c1 A2 n2 c2 T] W (fun e w' => ∃ g c, e = .returned (.slice (some ⟨g, 0, none⟩) m c) ∧ w'.ownsRow W.heap.size 72 7 (.slice (some ⟨g, 0, none⟩) m c) m (bls zs) ∧ Below W.heap.size W w')))
  have HN9 := Lib.hid (And.intro hn9 hb9)
  have HR9 := Lib.hid hr9
  clear hf hr hn9 hb9 hr9 hrr hp hzs hm
  go_enter Tryz.func9, Tryz.ntmps9
  go_wp2_with fail
  refine (CS.out _ HS.out).mono ?_
  rintro e w1 ⟨rfl, hb⟩
  have B1 := Lib.hid (B3.out.trans (hb.mono B3.out.size))
  have S1 := Lib.hid (HS.out.below hb)
  have K1 := Lib.hid (K3.out.below hb)
  have Q1 := Lib.hid (K4.out.below hb)
  have R1 := Lib.hid (owns_below R0.out hb)
  clear hb K3 K4 B3 HS CS R0 s0 s1 s2 s3
  go_wp2_with fail
  refine (CR.out _ B1.out).mono ?_
  rintro e w5 ⟨rfl, hb⟩
  have B5 := Lib.hid (B1.out.trans (hb.mono B1.out.size))
  have S5 := Lib.hid (S1.out.below hb)
  have K5 := Lib.hid (K1.out.below hb)
  have Q5 := Lib.hid (Q1.out.below hb)
  have R5 := Lib.hid (owns_below R1.out hb)
  clear hb K1 Q1 B1 S1 R1 CR
  have s0 := Q5.out.cell (i := 0) rfl
  have s1 := Q5.out.cell (i := 1) rfl
  have s2 := Q5.out.cell (i := 2) rfl
  have s3 := Q5.out.cell (i := 3) rfl
  go_wp2_with fail
  refine (CA.out _ S5.out).mono ?_
  rintro e w2 ⟨gL, cL, rfl, oL, hb⟩
  have B2 := Lib.hid (B5.out.trans (hb.mono B5.out.size))
  have K2 := Lib.hid (K5.out.below hb)
  have R2 := Lib.hid (owns_below R5.out hb)
  have O2 := Lib.hid (owns_base oL (Nat.le_trans B5.out.size (oL.lt gL rfl).1))
  clear hb oL CA S5 K5 Q5 R5 B5 s0 s1 s2 s3
  go_wp2_with fail
  go_loopw [6, 10, 24] (fun v ok9 i wr => ∃ k : Nat, k ≤ m ∧ i = .int .i64 k ∧ (∃ q gv cv, Hid (q = k * 2) ∧ v = .slice (some ⟨gv, 0, none⟩) q cv ∧ Hid (wr.ownsRow (w.heap.size + 1 + 1) 31 2 (.slice (some ⟨gv, 0, none⟩) q cv) q (pls (cnL ps (zs.take k))))) ∧ Hid (wr.ownsRow w.heap.size 72 7 (.slice (some ⟨gL, 0, none⟩) m cL) m (bls zs)) ∧ Hid (Bk wr (w.heap.size + 1) #[.int .i64 0, .int .i64 0, .int .i64 0, .int .i64 0] 33) ∧ Hid (Below w.heap.size w wr)) (fun _ _ i _ => m - (intOf i).toNat)
  case atStart => exact ⟨0, Nat.zero_le _, rfl, ⟨0, _, 0, Lib.hid rfl, rfl, R2⟩, O2, K2, B2⟩
  case round =>
    obtain ⟨k, hk, rfl, ⟨q, gv, cv, HQ, rfl, RK⟩, OK, KK, BK⟩ := hrel
    clear O2 B2 K2 R2
    have hbs := BK.out.size
    by_cases hlt : k < m
    · obtain ⟨z, hz9⟩ : ∃ z, zs[k]? = some z := ⟨_, List.getElem?_eq_getElem (by rw [HM.out]; exact hlt)⟩
      obtain ⟨x0, x1, x2, x3, x4, x5, x6⟩ := cB OK.out hz9 hlt

      have HZ9 := Lib.hid hz9
      obtain ⟨⟨q1, q2, q3, q4⟩, hq⟩ : ∃ q, lbQ z.d.x z.d.y z.d.hd z.d.tl z.l ps = q := ⟨_, rfl⟩
      obtain ⟨bb, hbb⟩ : ∃ b, lbB z.d.x z.d.y z.d.hd z.d.tl z.l ps = b := ⟨_, rfl⟩
      have CB := Lib.hid (fun (W : World) (h9 : Below w.heap.size w W) => (by have := landBoxS z.d.x z.d.y z.d.hd z.d.tl z.l A9 n9 c9 ps W HN9.out.1 HN9.out.2 ((HR9.out.below h9).more h9.size); rw [hq, hbb] at this; unfold Bo.bq at this; exact this :
        Calls Tryz.prog 35 #[jv z.d.x z.d.y z.d.hd z.d.tl z.l, .slice A9 n9 c9] W fun e w' => e = .returned (.tuple #[box4 q1 q2 q3 q4, .bool bb]) ∧ Below W.heap.size W w'))
      have hSN := cnL_snoc hz9 hq
      have SN := Lib.hid hSN
      have O1 := Lib.hid (OK.out.alloc (.cells #[.string z.d.nm, .int .i64 z.b, .int .i64 z.d.x, .int .i64 z.d.y, .int .i64 z.d.hd, .int .i64 z.d.tl, .int .i64 z.l] 72))
      have R1 := Lib.hid (RK.out.alloc (.cells #[.string z.d.nm, .int .i64 z.b, .int .i64 z.d.x, .int .i64 z.d.y, .int .i64 z.d.hd, .int .i64 z.d.tl, .int .i64 z.l] 72))
      have K1 := Lib.hid (KK.out.alloc (o := .cells #[.string z.d.nm, .int .i64 z.b, .int .i64 z.d.x, .int .i64 z.d.y, .int .i64 z.d.hd, .int .i64 z.d.tl, .int .i64 z.l] 72))
      have B1 := Lib.hid (BK.out.alloc hbs (.cells #[.string z.d.nm, .int .i64 z.b, .int .i64 z.d.x, .int .i64 z.d.y, .int .i64 z.d.hd, .int .i64 z.d.tl, .int .i64 z.l] 72))
      have KU := Lib.hid (Bk.new wr #[.string z.d.nm, .int .i64 z.b, .int .i64 z.d.x, .int .i64 z.d.y, .int .i64 z.d.hd, .int .i64 z.d.tl, .int .i64 z.l] 72)
      have CB9 := Lib.hid (CB.out _ B1.out)
      clear hz9 hq hbb hSN RK OK KK BK hbs CB
      go_wp2_with fail
      refine CB9.out.mono ?_
      rintro e w3 ⟨rfl, hb⟩
      have R3 := Lib.hid ((owns_below R1.out hb).alloc (.cells #[.int .i64 q1, .int .i64 q2, .int .i64 q3, .int .i64 q4] 33))
      have O3 := Lib.hid ((owns_below O1.out hb).alloc (.cells #[.int .i64 q1, .int .i64 q2, .int .i64 q3, .int .i64 q4] 33))
      have K3 := Lib.hid ((K1.out.below hb).alloc (o := .cells #[.int .i64 q1, .int .i64 q2, .int .i64 q3, .int .i64 q4] 33))
      have b3 := B1.out.trans (hb.mono B1.out.size)
      have B3 := Lib.hid (b3.alloc b3.size (.cells #[.int .i64 q1, .int .i64 q2, .int .i64 q3, .int .i64 q4] 33))
      have hne : gv ≠ gL := Ti9.own_ne_own R1.out O1.out (by decide)
      have hge : w.heap.size + 1 + 1 ≤ gv := (R1.out.lt _ rfl).1
      have hw3 : w.heap.size + 1 < w3.heap.size := (K1.out.below hb).lt
      clear hb R1 O1 K1 B1 KU CB9 b3 x0 x1 x2 x3 x4 x5 x6
      obtain ⟨gX, cX, u9, hrun, ho9, hg9⟩ := append_place ((w3.alloc (.cells #[.int .i64 q1, .int .i64 q2, .int .i64 q3, .int .i64 q4] 33)).alloc (.cells #[.int .i64 q1, .int .i64 q2, .int .i64 q3, .int .i64 q4] 31)) (w.heap.size + 1 + 1) gv q cv _ (R3.out.alloc _) ⟨w3.heap.size + 1, 0, none⟩ 2 2 [.int .i64 q1, .int .i64 q2, .int .i64 q3, .int .i64 q4] rfl (by intro j z9 hj9; match j, hj9 with | 0, hj9 => (simp at hj9; subst hj9; simp [Addr.add, go_sem]) | 1, hj9 => (simp at hj9; subst hj9; simp [Addr.add, go_sem]) | 2, hj9 => (simp at hj9; subst hj9; simp [Addr.add, go_sem]) | 3, hj9 => (simp at hj9; subst hj9; simp [Addr.add, go_sem])) (by intro z9 hz9; simp at hz9; rcases hz9 with rfl | rfl | rfl | rfl <;> rfl) (by have := HQ.out; have := HMB.out; omega) (by simp; omega)
      rw [SN.out] at ho9
      have HQ9 := Lib.hid (show q + 2 = (k + 1) * 2 by have := HQ.out; omega)
      have RX := Lib.hid ho9
      have OX := Lib.hid (owns_grown (O3.out.alloc (.cells #[.int .i64 q1, .int .i64 q2, .int .i64 q3, .int .i64 q4] 31)) hg9 (Ti9.ne_blk hne))
      have KX := Lib.hid ((K3.out.alloc (o := .cells #[.int .i64 q1, .int .i64 q2, .int .i64 q3, .int .i64 q4] 31)).grown hg9 (fun e => by have e := Option.some.inj e; omega))
      have BX := Lib.hid ((B3.out.alloc B3.out.size (.cells #[.int .i64 q1, .int .i64 q2, .int .i64 q3, .int .i64 q4] 31)).grown hg9 (by have := B3.out.size; simp; omega) (fun z9 e9 => by have e9 := Option.some.inj e9; omega))
      clear ho9 hg9 R3 O3 K3 B3
      go_wp2_with (at_builtin; refine wpList_append_place rfl _ _ rfl rfl _ _ _ rfl rfl hrun ?_)
      go_roundw
      case rel => exact ⟨k + 1, by omega, by go_num, ⟨q + 2, gX, cX, HQ9, rfl, RX⟩, OX, KX, BX⟩
      case measure => simp [intOf]; omega
    · obtain rfl : m = k := by omega
      have hTK : zs.take m = zs := List.take_of_length_le (by rw [HM.out]; exact Nat.le_refl _)
      rw [hTK] at RK
      have CB := Lib.hid (by have := Bo.boxOfS (some ⟨gv, 0, none⟩) q cv (cnL ps zs) wr (by rw [cnL_len, HM.out]; exact HQ.out.symm) (by have := HQ.out; have := HMB.out; omega) (Rd.own RK.out); rw [HVQ.out, HVB.out] at this; unfold Bo.bq at this; exact this :
        Calls Tryz.prog 36 #[.slice (some ⟨gv, 0, none⟩) q cv] wr fun e w' => e = .returned (.tuple #[box4 p1 p2 p3 p4, .bool pb]) ∧ Below wr.heap.size wr w')
      clear OK RK hTK
      go_wp2_with fail
      refine CB.out.mono ?_
      rintro e w9 ⟨rfl, b9⟩
      have R := Lib.hid (KK.out.below b9)
      have B9 := Lib.hid (BK.out.trans (b9.mono BK.out.size))
      clear b9 CB KK BK
      have z0 := R.out.cell (i := 0) rfl
      have z1 := R.out.cell (i := 1) rfl
      have z2 := R.out.cell (i := 2) rfl
      have z3 := R.out.cell (i := 3) rfl
      have y0 := R.out.frozen 0
      have y1 := R.out.frozen 1
      have y2 := R.out.frozen 2
      have y3 := R.out.frozen 3
      have l9 := R.out.lt
      have HS4 := Lib.hid (set4 (a := .int .i64 (p1)) (b := .int .i64 (p2)) (c := .int .i64 (p3)) (d := .int .i64 (p4)) z0 z1 z2 z3)
      go_wp2_with fail
      have r0 := HS4.out.1
      have r1 := HS4.out.2.1
      have r2 := HS4.out.2.2.1
      have r3 := HS4.out.2.2.2
      (try simp only [Exit.inBlock, Exit.then])
      refine bodyPost_ret (v := .tuple #[box4 (p1) (p2) (p3) (p4), .bool pb]) (by simp [results, Tryz.results9, go_sem, r0, r1, r2, r3]; try rfl) rfl ?_
      exact ⟨rfl, B9.out.trans (by have h9 := B9.out.size; go_grown)⟩
end Go.Proofs.YtejeikfgmiadhabGreat.Le10
namespace Go.Proofs.YtejeikfgmiadhabGreat.Bxb
open Go.RowKit Go.Proofs.YtejeikfgmiadhabGreat.Cm Go.Proofs.YtejeikfgmiadhabGreat.Pl Go.Proofs.YtejeikfgmiadhabGreat.Str Go.Proofs.YtejeikfgmiadhabGreat.Pw Go.Proofs.YtejeikfgmiadhabGreat.P2
set_option linter.unusedVariables false
theorem toBox (x y z u : Int) (w : World) : Calls Tryz.prog 17 #[.agg #[.int .i64 x, .int .i64 y, .int .i64 z, .int .i64 u]] w fun e w' => e = .returned (.agg #[.int .i64 x, .int .i64 y, .int .i64 z, .int .i64 u]) ∧ Below w.heap.size w w' := by
  go_enter Tryz.func17, Tryz.ntmps17
  go_wp2_with (go_at_call 40; refine (toPlace _ _ _).mono ?_; rintro e w' ⟨rfl, rfl⟩)
  go_returns
  exact ⟨rfl, by go_grown⟩

end Go.Proofs.YtejeikfgmiadhabGreat.Bxb
namespace Go.Proofs.YtejeikfgmiadhabGreat.Ww10
open Go.RowKit Go.ChangeShapes Go.WideShapes Go.WideElems Go.Deep Go.Proofs.YtejeikfgmiadhabGreat.Mem Go.Proofs.YtejeikfgmiadhabGreat.Rw Go.Proofs.YtejeikfgmiadhabGreat.P2 Go.Proofs.YtejeikfgmiadhabGreat.Bk Go.Proofs.YtejeikfgmiadhabGreat.Jt Go.Proofs.YtejeikfgmiadhabGreat.Cm Go.Proofs.YtejeikfgmiadhabGreat.Cx Go.Proofs.YtejeikfgmiadhabGreat.Pl Go.Proofs.YtejeikfgmiadhabGreat.Hd Go.Proofs.YtejeikfgmiadhabGreat.Str
open Go.Proofs.YtejeikfgmiadhabGreat.Wz Go.Proofs.YtejeikfgmiadhabGreat.Fw10 Go.Proofs.YtejeikfgmiadhabGreat.Fa10 Go.Proofs.YtejeikfgmiadhabGreat.Wy
open Go.Proofs.YtejeikfgmiadhabGreat.Wr (rs)
open Go.Proofs.YtejeikfgmiadhabGreat.Pls (pls)
open Go.Proofs.YtejeikfgmiadhabGreat.Bo (boxA Q4 bq)
open Go.Proofs.YtejeikfgmiadhabGreat.Tb (box4 set4)
open Go.Proofs.YtejeikfgmiadhabGreat.Tw9 (step_store_row row_grown row_bk)
open Go.Proofs.YtejeikfgmiadhabGreat.Bxi (bx ib)
open Go.Proofs.YtejeikfgmiadhabGreat.Dp (landV landI flightI fl_yes inF_iff told2_yes told2_no)
open Go.Proofs.YtejeikfgmiadhabGreat.Sp Go.Proofs.YtejeikfgmiadhabGreat.Sq
open Go.Proofs.YtejeikfgmiadhabGreat.Sv hiding D C G
open Go.Proofs.YtejeikfgmiadhabGreat.Tw9 (T9 WOk tls tls_get Thr)
open Go.Proofs.YtejeikfgmiadhabGreat.Bxi (isBoxI)
open Go.Proofs.YtejeikfgmiadhabGreat.Wg (lat)
open Go.Proofs.YtejeikfgmiadhabGreat.Gs (gls)
set_option linter.unusedVariables false
set_option linter.unusedSimpArgs false

theorem cT {w : World} {base g n c k : Nat} {us : List T9} {u : T9} (o : w.ownsRow base 83 9 (.slice (some ⟨g, 0, none⟩) n c) n (tls us)) (h : us[k]? = some u) (hk : k < n) :
    w.cell? ⟨g, k * 9, none⟩ = some (.string u.z.d.nm) ∧ w.cell? ⟨g, k * 9 + 1, none⟩ = some (.int .i64 u.z.b) ∧ w.cell? ⟨g, k * 9 + 2, none⟩ = some (.int .i64 (u.z.b + (u.z.l + 1))) ∧ w.cell? ⟨g, k * 9 + 3, none⟩ = some (.int .i64 u.z.d.x) ∧ w.cell? ⟨g, k * 9 + 4, none⟩ = some (.int .i64 u.z.d.y) ∧ w.cell? ⟨g, k * 9 + 5, none⟩ = some (.int .i64 u.z.d.hd) ∧ w.cell? ⟨g, k * 9 + 6, none⟩ = some (.int .i64 u.z.d.tl) ∧ w.cell? ⟨g, k * 9 + 7, none⟩ = some (.int .i64 u.z.l) ∧ w.cell? ⟨g, k * 9 + 8, none⟩ = some (.complex .f32 u.re u.im) :=
  have g := tls_get h
  ⟨(o.cellAt (k * 9) (by omega)).trans g.1, (o.cellAt (k * 9 + 1) (by omega)).trans g.2.1, (o.cellAt (k * 9 + 2) (by omega)).trans g.2.2.1, (o.cellAt (k * 9 + 3) (by omega)).trans g.2.2.2.1, (o.cellAt (k * 9 + 4) (by omega)).trans g.2.2.2.2.1, (o.cellAt (k * 9 + 5) (by omega)).trans g.2.2.2.2.2.1, (o.cellAt (k * 9 + 6) (by omega)).trans g.2.2.2.2.2.2.1, (o.cellAt (k * 9 + 7) (by omega)).trans g.2.2.2.2.2.2.2.1, (o.cellAt (k * 9 + 8) (by omega)).trans g.2.2.2.2.2.2.2.2⟩

noncomputable def snd9 (ds : List D) (cs : List C) (gs : List G) (T : Int) (ps : List (Int × Int)) (x y z u : Int) : Bool := show9 ds cs gs T && rs ps && bx x y z u
set_option maxRecDepth 100000 in
set_option maxHeartbeats 4000000 in
theorem soundI (A0 : Option Addr) (n0 c0 : Nat) (A1 : Option Addr) (n1 c1 : Nat) (A2 : Option Addr) (n2 c2 : Nat) (T : Int) (ds : List D) (cs : List C) (gs : List G) (A9 : Option Addr) (n9 c9 : Nat) (ps : List (Int × Int)) (x y z u : Int) (w : World) (hf : Fit n0 n1 n2 ds cs gs) (hr : SR w A0 A1 A2 ds cs gs) (hn9 : ps.length = n9) (hb9 : n9 ≤ 1048576) (hr9 : Rd w w.heap.size A9 (pls ps)) :
    Calls Tryz.prog 50 #[sv A0 n0 c0 A1 n1 c1 A2 n2 c2 T, .slice A9 n9 c9, .agg #[.int .i64 x, .int .i64 y, .int .i64 z, .int .i64 u]] w fun e w' => e = .returned (.bool (snd9 ds cs gs T ps x y z u)) ∧ Below w.heap.size w w' := by
  have b0a := (Below.refl w.heap.size w).alloc (Nat.le_refl _) (.cells (sc A0 n0 c0 A1 n1 c1 A2 n2 c2 T) 40)
  have hz1 : (w.alloc (.cells (sc A0 n0 c0 A1 n1 c1 A2 n2 c2 T) 40)).heap.size = w.heap.size + 1 := by simp [go_sem]
  have B0 := Lib.hid (b0a.alloc b0a.size (.cells #[.int .i64 x, .int .i64 y, .int .i64 z, .int .i64 u] 33))
  have KS := Lib.hid ((Bk.new w (sc A0 n0 c0 A1 n1 c1 A2 n2 c2 T) 40).alloc (o := .cells #[.int .i64 x, .int .i64 y, .int .i64 z, .int .i64 u] 33))
  have KB := Bk.new (w.alloc (.cells (sc A0 n0 c0 A1 n1 c1 A2 n2 c2 T) 40)) #[.int .i64 x, .int .i64 y, .int .i64 z, .int .i64 u] 33
  rw [hz1] at KB
  have KB := Lib.hid KB
  obtain ⟨r1, hr1⟩ : ∃ r, show9 ds cs gs T = r := ⟨_, rfl⟩
  obtain ⟨r2, hp⟩ : ∃ r, rs ps = r := ⟨_, rfl⟩
  obtain ⟨r3, hr3⟩ : ∃ r, bx x y z u = r := ⟨_, rfl⟩
  have CS := Lib.hid (fun (W : World) (h : SR W A0 A1 A2 ds cs gs) => (by have := Sw9.isShowI A0 n0 c0 A1 n1 c1 A2 n2 c2 T ds cs gs W hf h; rw [hr1] at this; exact this : Calls Tryz.prog 89 #[sv A0 n0 c0 A1 n1 c1 A2 n2 c2 T] W fun e w' => e = .returned (.bool r1) ∧ Below W.heap.size W w'))
  have CR := Lib.hid (fun (W : World) (h9 : Below w.heap.size w W) => Wx.roseI (A := A9) (c := c9) (H := w.heap.size) hn9 hb9 hp W h9.size (hr9.below h9))
  have CB := Lib.hid (fun (W : World) => (by have := isBoxI x y z u W; rw [hr3] at this; exact this : Calls Tryz.prog 99 #[.agg #[.int .i64 x, .int .i64 y, .int .i64 z, .int .i64 u]] W fun e w' => e = .returned (.bool r3) ∧ Below W.heap.size W w'))
  have HS := Lib.hid (hr.below B0.out)
  have HV := Lib.hid (show snd9 ds cs gs T ps x y z u = (r1 && r2 && r3) by unfold snd9; rw [hr1, hp, hr3])
  rw [HV.out]
  have hu : undef = Value.tuple #[] := rfl
  have s0 := KS.out.cell (i := 0) rfl
  have s1 := KS.out.cell (i := 1) rfl
  have s2 := KS.out.cell (i := 2) rfl
  have s3 := KS.out.cell (i := 3) rfl
  have k0 := KB.out.cell (i := 0) rfl
  have k1 := KB.out.cell (i := 1) rfl
  have k2 := KB.out.cell (i := 2) rfl
  have k3 := KB.out.cell (i := 3) rfl
  clear hf hr hn9 hb9 hr9 hz1 b0a hr1 hp hr3 HV KS
  cases r1
  · clear CR CB KB k0 k1 k2 k3
    go_enter Tryz.func50, Tryz.ntmps50
    go_wp2_with fail
    refine (CS.out _ HS.out).mono ?_
    rintro e v ⟨rfl, hb⟩
    have B9 := B0.out.trans (hb.mono B0.out.size)
    clear hb CS HS B0 s0 s1 s2 s3
    go_wp2_with fail
    go_ret
    exact ⟨rfl, B9⟩
  cases r2
  · clear CB KB k0 k1 k2 k3
    go_enter Tryz.func50, Tryz.ntmps50
    go_wp2_with fail
    refine (CS.out _ HS.out).mono ?_
    rintro e v ⟨rfl, hb⟩
    have B1 := Lib.hid (B0.out.trans (hb.mono B0.out.size))
    clear hb CS HS B0 s0 s1 s2 s3
    go_wp2_with fail
    refine (CR.out _ B1.out).mono ?_
    rintro e v2 ⟨rfl, hb⟩
    have B9 := B1.out.trans (hb.mono B1.out.size)
    clear hb CR B1
    go_wp2_with fail
    go_ret
    exact ⟨rfl, B9⟩
  go_enter Tryz.func50, Tryz.ntmps50
  go_wp2_with fail
  refine (CS.out _ HS.out).mono ?_
  rintro e v ⟨rfl, hb⟩
  have B1 := Lib.hid (B0.out.trans (hb.mono B0.out.size))
  have K1 := Lib.hid (KB.out.below hb)
  clear hb CS HS B0 KB s0 s1 s2 s3 k0 k1 k2 k3
  go_wp2_with fail
  refine (CR.out _ B1.out).mono ?_
  rintro e v2 ⟨rfl, hb⟩
  have B2 := Lib.hid (B1.out.trans (hb.mono B1.out.size))
  have K2 := Lib.hid (K1.out.below hb)
  clear hb CR B1 K1
  have k0 := K2.out.cell (i := 0) rfl
  have k1 := K2.out.cell (i := 1) rfl
  have k2 := K2.out.cell (i := 2) rfl
  have k3 := K2.out.cell (i := 3) rfl
  go_wp2_with fail
  refine (CB.out _).mono ?_
  rintro e v3 ⟨rfl, hb⟩
  have B9 := B2.out.trans (hb.mono B2.out.size)
  clear hb CB B2 K2 k0 k1 k2 k3
  go_wp2_with fail
  go_ret
  exact ⟨by simp, B9⟩

/-- The first heading on whose side a drop can land outside. -/
noncomputable def wtO (ds : List D) (cs : List C) (gs : List G) (T : Int) (ps : List (Int × Int)) (x y z u : Int) : Option Nat := (all9 ds cs gs T).findSome? (fun b => wetH b.d.x b.d.y b.d.hd b.d.tl b.l ps x y z u)
/-- The wind that is answered. -/
def wwL (ps : List (Int × Int)) : Option Nat → List G
  | some k => lat [(0, wD ps (k : Int))] 0
  | none => []
noncomputable def wwO (ds : List D) (cs : List C) (gs : List G) (T : Int) (ps : List (Int × Int)) (x y z u : Int) : Option Nat := if snd9 ds cs gs T ps x y z u = true then wtO ds cs gs T ps x y z u else none
/-- What comes back: a wind of the call's own, and whether there is one. -/
def RowW (w : World) (zs : List G) (b : Bool) (e : Ending) (w' : World) : Prop :=
  ∃ g c, e = .returned (.tuple #[.slice (some ⟨g, 0, none⟩) zs.length c, .bool b]) ∧ w'.ownsRow w.heap.size 96 3 (.slice (some ⟨g, 0, none⟩) zs.length c) zs.length (gls zs) ∧ Below w.heap.size w w'
theorem find_here {l : List B} {f : B → Option Nat} {k : Nat} {b : B} {h : Nat} (hb : l[k]? = some b) (hh : f b = some h) (hn : ∀ c ∈ l.take k, f c = none) : l.findSome? f = some h := by
  obtain ⟨hk, rfl⟩ := List.getElem?_eq_some_iff.1 hb
  have e : l = l.take k ++ l[k] :: l.drop (k + 1) := by rw [← List.drop_eq_getElem_cons hk, List.take_append_drop]
  generalize hx : l[k] = b at hh e
  rw [e, List.findSome?_append, List.findSome?_eq_none_iff.2 hn]
  simp [hh]
set_option maxRecDepth 100000 in
set_option maxHeartbeats 4000000 in
theorem wetWindI (A0 : Option Addr) (n0 c0 : Nat) (A1 : Option Addr) (n1 c1 : Nat) (A2 : Option Addr) (n2 c2 : Nat) (T : Int) (ds : List D) (cs : List C) (gs : List G) (A9 : Option Addr) (n9 c9 : Nat) (ps : List (Int × Int)) (x y z u : Int) (w : World) (hf : Fit n0 n1 n2 ds cs gs) (hr : SR w A0 A1 A2 ds cs gs) (hn9 : ps.length = n9) (hb9 : n9 ≤ 1048576) (hr9 : Rd w w.heap.size A9 (pls ps)) :
    Calls Tryz.prog 20 #[sv A0 n0 c0 A1 n1 c1 A2 n2 c2 T, .slice A9 n9 c9, .agg #[.int .i64 x, .int .i64 y, .int .i64 z, .int .i64 u]] w (RowW w (wwL ps (wwO ds cs gs T ps x y z u)) (wwO ds cs gs T ps x y z u).isSome) := by
  have b0a := (Below.refl w.heap.size w).alloc (Nat.le_refl _) (.cells (sc A0 n0 c0 A1 n1 c1 A2 n2 c2 T) 40)
  have hz1 : (w.alloc (.cells (sc A0 n0 c0 A1 n1 c1 A2 n2 c2 T) 40)).heap.size = w.heap.size + 1 := by simp [go_sem]
  have B0 := Lib.hid (b0a.alloc b0a.size (.cells #[.int .i64 x, .int .i64 y, .int .i64 z, .int .i64 u] 33))
  have KS := Lib.hid ((Bk.new w (sc A0 n0 c0 A1 n1 c1 A2 n2 c2 T) 40).alloc (o := .cells #[.int .i64 x, .int .i64 y, .int .i64 z, .int .i64 u] 33))
  have KB := Bk.new (w.alloc (.cells (sc A0 n0 c0 A1 n1 c1 A2 n2 c2 T) 40)) #[.int .i64 x, .int .i64 y, .int .i64 z, .int .i64 u] 33
  rw [hz1] at KB
  have KB := Lib.hid KB
  obtain ⟨r, hs⟩ : ∃ r, snd9 ds cs gs T ps x y z u = r := ⟨_, rfl⟩
  have CS := Lib.hid (fun (W : World) (h : SR W A0 A1 A2 ds cs gs) (h9 : Below w.heap.size w W) => (by have := soundI A0 n0 c0 A1 n1 c1 A2 n2 c2 T ds cs gs A9 n9 c9 ps x y z u W hf h hn9 hb9 ((hr9.below h9).more h9.size); rw [hs] at this; exact this : Calls Tryz.prog 50 #[sv A0 n0 c0 A1 n1 c1 A2 n2 c2 T, .slice A9 n9 c9, .agg #[.int .i64 x, .int .i64 y, .int .i64 z, .int .i64 u]] W fun e w' => e = .returned (.bool r) ∧ Below W.heap.size W w'))
  have HS := Lib.hid (hr.below B0.out)
  have hu : undef = Value.tuple #[] := rfl
  have s0 := KS.out.cell (i := 0) rfl
  have s1 := KS.out.cell (i := 1) rfl
  have s2 := KS.out.cell (i := 2) rfl
  have s3 := KS.out.cell (i := 3) rfl
  have k0 := KB.out.cell (i := 0) rfl
  have k1 := KB.out.cell (i := 1) rfl
  have k2 := KB.out.cell (i := 2) rfl
  have k3 := KB.out.cell (i := 3) rfl
  cases r
  · have HV := Lib.hid (show wwO ds cs gs T ps x y z u = none by unfold wwO; rw [hs]; rfl)
    rw [HV.out]
    clear hf hr hn9 hb9 hr9 hz1 b0a hs KS KB HV
    go_enter Tryz.func20, Tryz.ntmps20
    go_wp2_with fail
    refine (CS.out _ HS.out B0.out).mono ?_
    rintro e v ⟨rfl, hb⟩
    have B1 := Lib.hid (B0.out.trans (hb.mono B0.out.size))
    clear hb CS HS B0 s0 s1 s2 s3 k0 k1 k2 k3
    go_wp2_with fail
    go_returns
    exact ⟨v.heap.size, 0, rfl, World.ownsRow_lit (base := w.heap.size) (e := 96) (size := 3) v #[] 0 B1.out.size (Nat.zero_le _) rfl, B1.out.alloc B1.out.size _⟩
  have hs3 : show9 ds cs gs T = true ∧ rs ps = true ∧ bx x y z u = true := by
    unfold snd9 at hs; simpa [Bool.and_eq_true, and_assoc] using hs
  obtain ⟨hs1, hp, hbx⟩ := hs3
  obtain ⟨zs, hzs⟩ : ∃ zs, all9 ds cs gs T = zs := ⟨_, rfl⟩
  obtain ⟨m, hm⟩ : ∃ m, zs.length = m := ⟨_, rfl⟩
  have hmb : m ≤ 512 := by have := all9_len ds cs gs T; rw [hzs, hm] at this; exact this
  obtain ⟨o9, ho9⟩ : ∃ o, zs.findSome? (fun b => wetH b.d.x b.d.y b.d.hd b.d.tl b.l ps x y z u) = o := ⟨_, rfl⟩
  have HO := Lib.hid ho9
  have HV := show wwO ds cs gs T ps x y z u = o9 by unfold wwO wtO; rw [hs, hzs]; exact ho9
  rw [HV]
  have HJ := Lib.hid (show ∀ b ∈ zs, jt b.d.x b.d.y b.d.hd b.d.tl b.l = true from fun b hb => (all9_ok b (by rw [hzs]; exact hb)).1.1)
  have CT := Lib.hid (fun (W : World) (h : SR W A0 A1 A2 ds cs gs) => (by have := Ti9.thrownIn A0 n0 c0 A1 n1 c1 A2 n2 c2 T ds cs gs W hf h; unfold Tw9.RowT at this; rw [hzs, hm] at this; exact this :
    Calls Tryz.prog 42 #[sv A0 n0 c0 A1 n1 c1 A2 n2 c2 T] W (fun e w' => ∃ g c, e = .returned (.slice (some ⟨g, 0, none⟩) m c) ∧ Thr w' W.heap.size (.slice (some ⟨g, 0, none⟩) m c) m zs ∧ Below W.heap.size W w')))
  have HN9 := Lib.hid (And.intro hn9 hb9)
  have HR9 := Lib.hid hr9
  have HM := Lib.hid hm
  have HP := Lib.hid hp
  have HB := Lib.hid hbx
  clear hf hr hn9 hb9 hr9 hz1 b0a hs hs1 hp hbx hzs hm ho9 HV
  go_enter Tryz.func20, Tryz.ntmps20
  go_wp2_with fail
  refine (CS.out _ HS.out B0.out).mono ?_
  rintro e v ⟨rfl, hb⟩
  have B1 := Lib.hid (B0.out.trans (hb.mono B0.out.size))
  have S1 := Lib.hid (HS.out.below hb)
  have K1 := Lib.hid (KB.out.below hb)
  have Q1 := Lib.hid (KS.out.below hb)
  clear hb CS HS B0 KB KS s0 s1 s2 s3 k0 k1 k2 k3
  have s0 := Q1.out.cell (i := 0) rfl
  have s1 := Q1.out.cell (i := 1) rfl
  have s2 := Q1.out.cell (i := 2) rfl
  have s3 := Q1.out.cell (i := 3) rfl
  go_wp2_with fail
  refine (CT.out _ S1.out).mono ?_
  rintro e w2 ⟨gL, cL, rfl, hT, hb⟩
  obtain ⟨ts, ht1, ht2, ht3, oT⟩ := Ti9.thr_more hT B1.out.size
  have HTL := Lib.hid ht3
  have HTZ := Lib.hid ht1
  have B2 := Lib.hid (B1.out.trans (hb.mono B1.out.size))
  have K2 := Lib.hid (K1.out.below hb)
  have O2 := Lib.hid oT
  clear hb hT ht1 ht2 ht3 oT CT S1 K1 Q1 B1 s0 s1 s2 s3
  go_wp2_with fail
  go_loopw [10, 11, 21] (fun a9 b9 i wr => ∃ k : Nat, k ≤ m ∧ i = .int .i64 k ∧ Hid (∀ b ∈ zs.take k, wetH b.d.x b.d.y b.d.hd b.d.tl b.l ps x y z u = none) ∧ Hid (wr.ownsRow w.heap.size 83 9 (.slice (some ⟨gL, 0, none⟩) m cL) m (tls ts)) ∧ Hid (Bk wr (w.heap.size + 1) #[.int .i64 x, .int .i64 y, .int .i64 z, .int .i64 u] 33) ∧ Hid (Below w.heap.size w wr)) (fun _ _ i _ => m - (intOf i).toNat)
  case atStart => exact ⟨0, Nat.zero_le _, rfl, Lib.hid (by intro b hb; simp at hb), O2, K2, B2⟩
  case round =>
    obtain ⟨k, hk, rfl, NK, OK, KK, BK⟩ := hrel
    clear O2 B2 K2
    have hbs := BK.out.size
    by_cases hlt : k < m
    · obtain ⟨t9, hu9⟩ : ∃ u, ts[k]? = some u := ⟨_, List.getElem?_eq_getElem (by rw [HTL.out]; exact hlt)⟩
      have hz9 : zs[k]? = some t9.z := by rw [← HTZ.out, List.getElem?_map, hu9]; rfl
      obtain ⟨x0, x1, x2, x3, x4, x5, x6, x7, x8⟩ := cT OK.out hu9 hlt
      obtain ⟨b, hzz⟩ : ∃ b, t9.z = b := ⟨_, rfl⟩
      obtain ⟨re, hre⟩ : ∃ b, t9.re = b := ⟨_, rfl⟩
      obtain ⟨im, him⟩ : ∃ b, t9.im = b := ⟨_, rfl⟩
      rw [hzz] at hz9 x0 x1 x2 x3 x4 x5 x6 x7
      rw [hre, him] at x8
      clear hzz hre him hu9
      have HZ9 := Lib.hid hz9
      have hj := HJ.out b (List.mem_of_getElem? hz9)
      obtain ⟨o, ho⟩ : ∃ o, wetH b.d.x b.d.y b.d.hd b.d.tl b.l ps x y z u = o := ⟨_, rfl⟩
      have HO9 := Lib.hid ho
      have CW := Lib.hid (fun (W : World) (h9 : Below w.heap.size w W) => (by have := wetHeading A9 n9 c9 ps x y z u hj HP.out HB.out W HN9.out.1 HN9.out.2 ((HR9.out.below h9).more h9.size); rw [ho] at this; exact this :
        Calls Tryz.prog 54 #[jv b.d.x b.d.y b.d.hd b.d.tl b.l, .slice A9 n9 c9, .agg #[.int .i64 x, .int .i64 y, .int .i64 z, .int .i64 u]] W fun e w' => e = .returned (wetHV o) ∧ Below W.heap.size W w'))
      have O1 := Lib.hid (OK.out.alloc (.cells #[.string b.d.nm, .int .i64 b.b, .int .i64 (b.b + (b.l + 1)), .int .i64 b.d.x, .int .i64 b.d.y, .int .i64 b.d.hd, .int .i64 b.d.tl, .int .i64 b.l, .complex .f32 re im] 83))
      have K1 := Lib.hid (KK.out.alloc (o := .cells #[.string b.d.nm, .int .i64 b.b, .int .i64 (b.b + (b.l + 1)), .int .i64 b.d.x, .int .i64 b.d.y, .int .i64 b.d.hd, .int .i64 b.d.tl, .int .i64 b.l, .complex .f32 re im] 83))
      have B1 := Lib.hid (BK.out.alloc hbs (.cells #[.string b.d.nm, .int .i64 b.b, .int .i64 (b.b + (b.l + 1)), .int .i64 b.d.x, .int .i64 b.d.y, .int .i64 b.d.hd, .int .i64 b.d.tl, .int .i64 b.l, .complex .f32 re im] 83))
      have CW9 := Lib.hid (CW.out _ B1.out)
      have k0 := K1.out.cell (i := 0) rfl
      have k1 := K1.out.cell (i := 1) rfl
      have k2 := K1.out.cell (i := 2) rfl
      have k3 := K1.out.cell (i := 3) rfl
      clear hz9 ho hj OK KK BK hbs CW
      cases o
      · have CW9 := Lib.hid (show Calls Tryz.prog 54 #[jv b.d.x b.d.y b.d.hd b.d.tl b.l, .slice A9 n9 c9, .agg #[.int .i64 x, .int .i64 y, .int .i64 z, .int .i64 u]] _ (fun e w' => e = .returned (.tuple #[.int .i64 0, .bool false]) ∧ Below _ _ w') from CW9.out)
        go_wp2_with fail
        refine CW9.out.mono ?_
        rintro e w3 ⟨rfl, hb⟩
        have O3 := Lib.hid (owns_below O1.out hb)
        have K3 := Lib.hid (K1.out.below hb)
        have B3 := Lib.hid (B1.out.trans (hb.mono B1.out.size))
        have NN := Lib.hid (show ∀ b ∈ zs.take (k + 1), wetH b.d.x b.d.y b.d.hd b.d.tl b.l ps x y z u = none from by
          obtain ⟨hk9, e9⟩ := List.getElem?_eq_some_iff.1 HZ9.out
          rw [List.take_succ_eq_append_getElem hk9, e9]
          intro c hc
          rcases List.mem_append.1 hc with hc | hc
          · exact NK.out c hc
          · rw [List.mem_singleton.1 hc]; exact HO9.out)
        clear hb O1 K1 B1 CW9 x0 x1 x2 x3 x4 x5 x6 x7 x8 k0 k1 k2 k3
        go_wp2_with fail
        go_roundw
        case rel => exact ⟨k + 1, by omega, by go_num, NN, O3, K3, B3⟩
        case measure => simp [intOf]; omega
      · rename_i hh
        have HW := Lib.hid (HO.out.symm.trans (find_here HZ9.out HO9.out NK.out))
        obtain ⟨⟨dx, dy⟩, hd⟩ : ∃ p, wD ps (hh : Int) = p := ⟨_, rfl⟩
        have HWL := Lib.hid (show wwL ps (some hh) = lat [(0, dx, dy)] 0 by show lat [(0, wD ps (hh : Int))] 0 = _; rw [hd])
        have CD := Lib.hid (fun (W : World) (h9 : Below w.heap.size w W) => (by have := worstI A9 n9 c9 ps (hh : Int) W HN9.out.1 HN9.out.2 ((HR9.out.below h9).more h9.size); rw [hd] at this; exact this :
          Calls Tryz.prog 56 #[.slice A9 n9 c9, .int .i64 (hh : Int)] W fun e w' => e = .returned (.agg #[.int .i64 dx, .int .i64 dy]) ∧ Below W.heap.size W w'))
        have CW9 := Lib.hid (show Calls Tryz.prog 54 #[jv b.d.x b.d.y b.d.hd b.d.tl b.l, .slice A9 n9 c9, .agg #[.int .i64 x, .int .i64 y, .int .i64 z, .int .i64 u]] _ (fun e w' => e = .returned (.tuple #[.int .i64 (hh : Int), .bool true]) ∧ Below _ _ w') from CW9.out)
        rw [HW.out, HWL.out]
        clear hd HW HWL
        go_wp2_with fail
        refine CW9.out.mono ?_
        rintro e w3 ⟨rfl, hb⟩
        have B3 := Lib.hid (B1.out.trans (hb.mono B1.out.size))
        clear hb O1 K1 B1 CW9 x0 x1 x2 x3 x4 x5 x6 x7 x8 k0 k1 k2 k3 HZ9 HO9 NK
        go_wp2_with fail
        refine (CD.out _ B3.out).mono ?_
        rintro e w4 ⟨rfl, hb⟩
        have b4 := B3.out.trans (hb.mono B3.out.size)
        have B4 := Lib.hid (b4.alloc b4.size (.cells #[.int .i64 0, .int .i64 dx, .int .i64 dy] 96))
        have RL := World.ownsRow_lit (base := w4.heap.size) (e := 96) (size := 3) w4 #[.int .i64 0, .int .i64 dx, .int .i64 dy] 1 (Nat.le_refl _) (by decide) rfl
        have CN := Lib.hid (Wg.normalI (some ⟨w4.heap.size, 0, none⟩) 1 1 [(0, dx, dy)] _ (w4.alloc (.cells #[.int .i64 0, .int .i64 dx, .int .i64 dy] 96)) rfl (by decide) (Nat.le_refl _) (Rd.own RL))
        clear hb b4 RL B3 CD
        go_wp2_with fail
        refine CN.out.mono ?_
        rintro e w5 ⟨g, c, rfl, o, hb⟩
        have B5 := Lib.hid (B4.out.trans (hb.mono B4.out.size))
        have R5 := Lib.hid (owns_base o (Nat.le_trans B4.out.size (o.lt g rfl).1))
        clear hb o B4 CN
        go_wp2_with fail
        go_returns
        exact ⟨g, c, rfl, R5.out, B5.out⟩
    · obtain rfl : m = k := by omega
      have HW := Lib.hid (HO.out.symm.trans (List.findSome?_eq_none_iff.2 (fun b hb => NK.out b (by rw [List.take_of_length_le (by rw [HM.out]; exact Nat.le_refl _)]; exact hb))))
      clear OK KK NK
      go_wp2_with fail
      go_returns
      rw [HW.out]
      exact ⟨wr.heap.size, 0, rfl, World.ownsRow_lit (base := w.heap.size) (e := 96) (size := 3) wr #[] 0 hbs (Nat.zero_le _) rfl, BK.out.alloc hbs _⟩
end Go.Proofs.YtejeikfgmiadhabGreat.Ww10
namespace Go.Proofs.YtejeikfgmiadhabGreat.Is10
open Go.RowKit Go.ChangeShapes Go.WideShapes Go.WideElems Go.Deep Go.Proofs.YtejeikfgmiadhabGreat.Mem Go.Proofs.YtejeikfgmiadhabGreat.Rw Go.Proofs.YtejeikfgmiadhabGreat.P2 Go.Proofs.YtejeikfgmiadhabGreat.Bk Go.Proofs.YtejeikfgmiadhabGreat.Jt Go.Proofs.YtejeikfgmiadhabGreat.Cm Go.Proofs.YtejeikfgmiadhabGreat.Cx Go.Proofs.YtejeikfgmiadhabGreat.Pl Go.Proofs.YtejeikfgmiadhabGreat.Hd Go.Proofs.YtejeikfgmiadhabGreat.Str
open Go.Proofs.YtejeikfgmiadhabGreat.Wz Go.Proofs.YtejeikfgmiadhabGreat.Fw10 Go.Proofs.YtejeikfgmiadhabGreat.Fa10 Go.Proofs.YtejeikfgmiadhabGreat.Wy
open Go.Proofs.YtejeikfgmiadhabGreat.Wr (rs)
open Go.Proofs.YtejeikfgmiadhabGreat.Pls (pls)
open Go.Proofs.YtejeikfgmiadhabGreat.Bo (boxA Q4 bq)
open Go.Proofs.YtejeikfgmiadhabGreat.Tb (box4 set4)
open Go.Proofs.YtejeikfgmiadhabGreat.Tw9 (step_store_row row_grown row_bk)
open Go.Proofs.YtejeikfgmiadhabGreat.Bxi (bx ib)
open Go.Proofs.YtejeikfgmiadhabGreat.Dp (landV landI flightI fl_yes inF_iff told2_yes told2_no)
open Go.Proofs.YtejeikfgmiadhabGreat.Sp Go.Proofs.YtejeikfgmiadhabGreat.Sq
open Go.Proofs.YtejeikfgmiadhabGreat.Sv hiding D C G
open Go.Proofs.YtejeikfgmiadhabGreat.Tw9 (T9 WOk tls tls_get Thr)
open Go.Proofs.YtejeikfgmiadhabGreat.Bxi (isBoxI)
open Go.Proofs.YtejeikfgmiadhabGreat.Ww10
open Go.Proofs.YtejeikfgmiadhabGreat.Le10 (leB leQ cn cnL le_no le_none le_yes leastS)
open Go.Proofs.YtejeikfgmiadhabGreat.Lb10 (lbQ lb_yes)
open Go.Proofs.YtejeikfgmiadhabGreat.Bo (okB val good)
open Go.Proofs.YtejeikfgmiadhabGreat.Wg (lat)
open Go.Proofs.YtejeikfgmiadhabGreat.Gs (gls)
set_option linter.unusedVariables false
set_option linter.unusedSimpArgs false


section
open Go.Proofs.YtejeikfgmiadhabGreat.Bxi (bx ib)
open Go.Proofs.YtejeikfgmiadhabGreat.Pw
theorem isBoxS (x y z u : Int) (w : World) : Calls Tryz.prog 48 #[.agg #[.int .i64 x, .int .i64 y, .int .i64 z, .int .i64 u]] w fun e w' => e = .returned (.bool (bx x y z u)) ∧ Below w.heap.size w w' := by
  unfold bx
  cases p : (ms x && ms y)
  · have C1 := Lib.hid (isPlaceS_of p)
    clear p
    go_enter Tryz.func48, Tryz.ntmps48
    go_wp2_with fail
    refine (C1.out _).mono ?_
    rintro e w' ⟨rfl, rfl⟩
    go_wp2_with fail
    go_returns
    exact ⟨rfl, by go_grown⟩
  cases q : (ms z && ms u)
  · have C1 := Lib.hid (isPlaceS_of p)
    have C2 := Lib.hid (isPlaceS_of q)
    clear p q
    go_enter Tryz.func48, Tryz.ntmps48
    go_wp2_with fail
    refine (C1.out _).mono ?_
    rintro e w' ⟨rfl, rfl⟩
    go_wp2_with fail
    refine (C2.out _).mono ?_
    rintro e w' ⟨rfl, rfl⟩
    go_wp2_with fail
    go_returns
    exact ⟨rfl, by go_grown⟩
  · have C1 := Lib.hid (isPlaceS_of p)
    have C2 := Lib.hid (isPlaceS_of q)
    clear p q
    by_cases h1 : x ≤ z <;> by_cases h2 : y ≤ u
    all_goals
      go_enter Tryz.func48, Tryz.ntmps48
      go_wp2_with fail
      refine (C1.out _).mono ?_
      rintro e w' ⟨rfl, rfl⟩
      go_wp2_with fail
      refine (C2.out _).mono ?_
      rintro e w' ⟨rfl, rfl⟩
      go_wp2_with fail
      all_goals first | omega | skip
      all_goals go_returns
      all_goals refine ⟨?_, by go_grown⟩
      all_goals first | (simp [*]; done) | (simp [*]; omega)

set_option maxHeartbeats 2000000 in
theorem inBoxS (x y z u a b : Int) (w : World) : Calls Tryz.prog 98 #[.agg #[.int .i64 x, .int .i64 y, .int .i64 z, .int .i64 u], .agg #[.int .i64 a, .int .i64 b]] w fun e w' => e = .returned (.bool (ib x y z u a b)) ∧ Below w.heap.size w w' := by
  unfold ib
  have C := isBoxS x y z u
  generalize bx x y z u = r at *
  replace C := Lib.hid C
  cases r
  · go_enter Tryz.func98, Tryz.ntmps98
    go_wp2_with fail
    refine (C.out _).mono ?_
    rintro e v ⟨rfl, hb⟩
    have hB : Below w.heap.size w v := Below.trans (by go_grown) (hb.mono (by go_size))
    clear hb
    go_wp2_with fail
    go_returns
    exact ⟨rfl, by go_grown⟩
  · by_cases h1 : x ≤ a
    · by_cases h2 : a ≤ z
      · by_cases h3 : y ≤ b
        · by_cases h4 : b ≤ u
          · go_enter Tryz.func98, Tryz.ntmps98
            go_wp2_with fail
            refine (C.out _).mono ?_
            rintro e v ⟨rfl, hb⟩
            have m1 : v.cell? ⟨w.heap.size, 0, none⟩ = some (.int .i64 x) := cell_below hb (by simp [go_sem])
            have m2 : v.cell? ⟨w.heap.size, 1, none⟩ = some (.int .i64 y) := cell_below hb (by simp [go_sem])
            have m3 : v.cell? ⟨w.heap.size, 2, none⟩ = some (.int .i64 z) := cell_below hb (by simp [go_sem])
            have m4 : v.cell? ⟨w.heap.size, 3, none⟩ = some (.int .i64 u) := cell_below hb (by simp [go_sem])
            have m5 : v.cell? ⟨w.heap.size + 1, 0, none⟩ = some (.int .i64 a) := cell_below hb (by simp [go_sem])
            have m6 : v.cell? ⟨w.heap.size + 1, 1, none⟩ = some (.int .i64 b) := cell_below hb (by simp [go_sem])
            have hB : Below w.heap.size w v := Below.trans (by go_grown) (hb.mono (by go_size))
            clear hb
            go_wp2_with fail
            all_goals first | omega | skip
            all_goals go_returns
            all_goals refine ⟨?_, by go_grown⟩
            all_goals first | (simp [*]; done) | (simp [*]; omega)
          · go_enter Tryz.func98, Tryz.ntmps98
            go_wp2_with fail
            refine (C.out _).mono ?_
            rintro e v ⟨rfl, hb⟩
            have m1 : v.cell? ⟨w.heap.size, 0, none⟩ = some (.int .i64 x) := cell_below hb (by simp [go_sem])
            have m2 : v.cell? ⟨w.heap.size, 1, none⟩ = some (.int .i64 y) := cell_below hb (by simp [go_sem])
            have m3 : v.cell? ⟨w.heap.size, 2, none⟩ = some (.int .i64 z) := cell_below hb (by simp [go_sem])
            have m4 : v.cell? ⟨w.heap.size, 3, none⟩ = some (.int .i64 u) := cell_below hb (by simp [go_sem])
            have m5 : v.cell? ⟨w.heap.size + 1, 0, none⟩ = some (.int .i64 a) := cell_below hb (by simp [go_sem])
            have m6 : v.cell? ⟨w.heap.size + 1, 1, none⟩ = some (.int .i64 b) := cell_below hb (by simp [go_sem])
            have hB : Below w.heap.size w v := Below.trans (by go_grown) (hb.mono (by go_size))
            clear hb
            go_wp2_with fail
            all_goals first | omega | skip
            all_goals go_returns
            all_goals refine ⟨?_, by go_grown⟩
            all_goals first | (simp [*]; done) | (simp [*]; omega)
        · go_enter Tryz.func98, Tryz.ntmps98
          go_wp2_with fail
          refine (C.out _).mono ?_
          rintro e v ⟨rfl, hb⟩
          have m1 : v.cell? ⟨w.heap.size, 0, none⟩ = some (.int .i64 x) := cell_below hb (by simp [go_sem])
          have m2 : v.cell? ⟨w.heap.size, 1, none⟩ = some (.int .i64 y) := cell_below hb (by simp [go_sem])
          have m3 : v.cell? ⟨w.heap.size, 2, none⟩ = some (.int .i64 z) := cell_below hb (by simp [go_sem])
          have m4 : v.cell? ⟨w.heap.size, 3, none⟩ = some (.int .i64 u) := cell_below hb (by simp [go_sem])
          have m5 : v.cell? ⟨w.heap.size + 1, 0, none⟩ = some (.int .i64 a) := cell_below hb (by simp [go_sem])
          have m6 : v.cell? ⟨w.heap.size + 1, 1, none⟩ = some (.int .i64 b) := cell_below hb (by simp [go_sem])
          have hB : Below w.heap.size w v := Below.trans (by go_grown) (hb.mono (by go_size))
          clear hb
          go_wp2_with fail
          all_goals first | omega | skip
          all_goals go_returns
          all_goals refine ⟨?_, by go_grown⟩
          all_goals first | (simp [*]; done) | (simp [*]; omega)
      · go_enter Tryz.func98, Tryz.ntmps98
        go_wp2_with fail
        refine (C.out _).mono ?_
        rintro e v ⟨rfl, hb⟩
        have m1 : v.cell? ⟨w.heap.size, 0, none⟩ = some (.int .i64 x) := cell_below hb (by simp [go_sem])
        have m2 : v.cell? ⟨w.heap.size, 1, none⟩ = some (.int .i64 y) := cell_below hb (by simp [go_sem])
        have m3 : v.cell? ⟨w.heap.size, 2, none⟩ = some (.int .i64 z) := cell_below hb (by simp [go_sem])
        have m4 : v.cell? ⟨w.heap.size, 3, none⟩ = some (.int .i64 u) := cell_below hb (by simp [go_sem])
        have m5 : v.cell? ⟨w.heap.size + 1, 0, none⟩ = some (.int .i64 a) := cell_below hb (by simp [go_sem])
        have m6 : v.cell? ⟨w.heap.size + 1, 1, none⟩ = some (.int .i64 b) := cell_below hb (by simp [go_sem])
        have hB : Below w.heap.size w v := Below.trans (by go_grown) (hb.mono (by go_size))
        clear hb
        go_wp2_with fail
        all_goals first | omega | skip
        all_goals go_returns
        all_goals refine ⟨?_, by go_grown⟩
        all_goals first | (simp [*]; done) | (simp [*]; omega)
    · go_enter Tryz.func98, Tryz.ntmps98
      go_wp2_with fail
      refine (C.out _).mono ?_
      rintro e v ⟨rfl, hb⟩
      have m1 : v.cell? ⟨w.heap.size, 0, none⟩ = some (.int .i64 x) := cell_below hb (by simp [go_sem])
      have m2 : v.cell? ⟨w.heap.size, 1, none⟩ = some (.int .i64 y) := cell_below hb (by simp [go_sem])
      have m3 : v.cell? ⟨w.heap.size, 2, none⟩ = some (.int .i64 z) := cell_below hb (by simp [go_sem])
      have m4 : v.cell? ⟨w.heap.size, 3, none⟩ = some (.int .i64 u) := cell_below hb (by simp [go_sem])
      have m5 : v.cell? ⟨w.heap.size + 1, 0, none⟩ = some (.int .i64 a) := cell_below hb (by simp [go_sem])
      have m6 : v.cell? ⟨w.heap.size + 1, 1, none⟩ = some (.int .i64 b) := cell_below hb (by simp [go_sem])
      have hB : Below w.heap.size w v := Below.trans (by go_grown) (hb.mono (by go_size))
      clear hb
      go_wp2_with fail
      all_goals first | omega | skip
      all_goals go_returns
      all_goals refine ⟨?_, by go_grown⟩
      all_goals first | (simp [*]; done) | (simp [*]; omega)

end
theorem within_fold {x y z u : Int} (hb : bx x y z u = true) : ∀ (ps : List (Int × Int)) (q : Q4), q.1 ≤ q.2.2.1 → q.2.1 ≤ q.2.2.2 → (within (ps.foldl Bo.step q) x y z u = true ↔ within q x y z u = true ∧ ∀ p ∈ ps, ib x y z u p.1 p.2 = true)
  | [], q, _, _ => by simp
  | p :: ps, q, h1, h2 => by
    rw [List.foldl_cons, within_fold hb ps (Bo.step q p) (by unfold Bo.step; simp only []; omega) (by unfold Bo.step; simp only []; omega)]
    have key : within (Bo.step q p) x y z u = true ↔ within q x y z u = true ∧ ib x y z u p.1 p.2 = true := by
      unfold within ib Bo.step
      simp only [hb, Bool.true_and, Bool.and_eq_true, decide_eq_true_eq]
      omega
    rw [key, List.forall_mem_cons, and_assoc]
theorem within_all {x y z u : Int} (hb : bx x y z u = true) (p : Int × Int) (ps : List (Int × Int)) : within (boxA (p :: ps)) x y z u = true ↔ ∀ q ∈ p :: ps, ib x y z u q.1 q.2 = true := by
  show within (ps.foldl Bo.step (Bo.one p)) x y z u = true ↔ _
  rw [within_fold hb ps (Bo.one p) (Int.le_refl _) (Int.le_refl _), List.forall_mem_cons]
  refine and_congr_left fun _ => ?_
  unfold within Bo.one
  simp
theorem good_cn {ps : List (Int × Int)} {zs : List B} (hp : rs ps = true) (hj : ∀ b ∈ zs, jt b.d.x b.d.y b.d.hd b.d.tl b.l = true) : good (cnL ps zs) = true := by
  have key : ∀ p : Int × Int, (-1816 ≤ p.1 ∧ p.1 ≤ 1816) ∧ (-1816 ≤ p.2 ∧ p.2 ≤ 1816) → (ms p.1 && ms p.2) = true := fun p hp => by
    unfold ms; simp only [Bool.and_eq_true, decide_eq_true_eq]; omega
  unfold good
  rw [List.all_eq_true]
  intro p hm
  unfold cnL at hm
  obtain ⟨b, hb, hm⟩ := List.mem_flatMap.1 hm
  have hq := lbox_le (hj b hb) hp
  unfold cn at hm
  rw [(lb_yes (hj b hb) hp).2] at hm
  simp only [List.mem_cons, List.not_mem_nil, or_false] at hm
  rcases hm with rfl | rfl
  · exact key _ ⟨hq.1.1, hq.1.2⟩
  · exact key _ ⟨hq.2.1, hq.2.2⟩
noncomputable def safeV (ds : List D) (cs : List C) (gs : List G) (T : Int) (ps : List (Int × Int)) (x y z u : Int) : Bool := snd9 ds cs gs T ps x y z u && (wtO ds cs gs T ps x y z u).isNone
theorem safe_num (ds : List D) (cs : List C) (gs : List G) (T : Int) (ps : List (Int × Int)) (x y z u : Int) :
    (show9 ds cs gs T && rs ps && bx x y z u && (!leB ds cs gs T ps || within (leQ ds cs gs T ps) x y z u)) = safeV ds cs gs T ps x y z u := by
  unfold safeV snd9
  cases h1 : show9 ds cs gs T
  · simp
  cases h2 : rs ps
  · simp
  cases h3 : bx x y z u
  · simp
  obtain ⟨zs, hzs⟩ : ∃ zs, all9 ds cs gs T = zs := ⟨_, rfl⟩
  obtain ⟨e1, e2⟩ := le_yes h2 hzs
  have hj : ∀ b ∈ zs, jt b.d.x b.d.y b.d.hd b.d.tl b.l = true := fun b hb => (all9_ok b (by rw [hzs]; exact hb)).1.1
  have hg := good_cn h2 hj
  rw [e1, e2]
  unfold wtO
  rw [hzs]
  simp only [Bool.true_and]
  have hw : (zs.findSome? (fun b => wetH b.d.x b.d.y b.d.hd b.d.tl b.l ps x y z u)).isNone = true ↔ ∀ b ∈ zs, within (lbQ b.d.x b.d.y b.d.hd b.d.tl b.l ps) x y z u = true := by
    rw [Option.isNone_iff_eq_none, List.findSome?_eq_none_iff]
    refine forall_congr' fun b => forall_congr' fun hb => ?_
    rw [(lb_yes (hj b hb) h2).2, within_wet h2 h3, Option.isNone_iff_eq_none]
  cases zs with
  | nil => rfl
  | cons b zs =>
    have ho : okB (cnL ps (b :: zs)) = true := by
      unfold okB; rw [hg, Le10.cnL_len]; simp
    have hv : val (cnL ps (b :: zs)) = boxA (cnL ps (b :: zs)) := by unfold val; rw [if_pos hg]
    rw [ho, hv]
    simp only [Bool.not_true, Bool.false_or]
    have hc : within (boxA (cnL ps (b :: zs))) x y z u = true ↔ ∀ c ∈ b :: zs, within (lbQ c.d.x c.d.y c.d.hd c.d.tl c.l ps) x y z u = true := by
      have e : cnL ps (b :: zs) = cn ps b ++ cnL ps zs := by unfold cnL; rw [List.flatMap_cons]
      have e' : ∃ p r, cnL ps (b :: zs) = p :: r := ⟨_, _, by rw [e]; rfl⟩
      obtain ⟨p, r, hpr⟩ := e'
      rw [hpr, within_all h3, ← hpr]
      constructor
      · intro h c hc
        have m1 := h _ (List.mem_flatMap.2 ⟨c, hc, List.mem_cons_self⟩)
        have m2 := h _ (List.mem_flatMap.2 ⟨c, hc, List.mem_cons_of_mem _ List.mem_cons_self⟩)
        unfold within
        rw [m1, m2]; rfl
      · intro h q hq
        obtain ⟨c, hc, hq⟩ := List.mem_flatMap.1 hq
        have hw9 := h c hc
        unfold within at hw9
        rw [Bool.and_eq_true] at hw9
        unfold cn at hq
        simp only [List.mem_cons, List.not_mem_nil, or_false] at hq
        rcases hq with rfl | rfl
        · exact hw9.1
        · exact hw9.2
    rw [Bool.eq_iff_iff, hc, hw]

set_option maxRecDepth 100000 in
set_option maxHeartbeats 4000000 in
theorem isSafeI (A0 : Option Addr) (n0 c0 : Nat) (A1 : Option Addr) (n1 c1 : Nat) (A2 : Option Addr) (n2 c2 : Nat) (T : Int) (ds : List D) (cs : List C) (gs : List G) (A9 : Option Addr) (n9 c9 : Nat) (ps : List (Int × Int)) (x y z u : Int) (w : World) (hf : Fit n0 n1 n2 ds cs gs) (hr : SR w A0 A1 A2 ds cs gs) (hn9 : ps.length = n9) (hb9 : n9 ≤ 1048576) (hr9 : Rd w w.heap.size A9 (pls ps)) :
    Calls Tryz.prog 18 #[sv A0 n0 c0 A1 n1 c1 A2 n2 c2 T, .slice A9 n9 c9, .agg #[.int .i64 x, .int .i64 y, .int .i64 z, .int .i64 u]] w fun e w' => e = .returned (.bool (safeV ds cs gs T ps x y z u)) ∧ Below w.heap.size w w' := by
  have b0a := (Below.refl w.heap.size w).alloc (Nat.le_refl _) (.cells (sc A0 n0 c0 A1 n1 c1 A2 n2 c2 T) 40)
  have hz1 : (w.alloc (.cells (sc A0 n0 c0 A1 n1 c1 A2 n2 c2 T) 40)).heap.size = w.heap.size + 1 := by simp [go_sem]
  have B0 := Lib.hid (b0a.alloc b0a.size (.cells #[.int .i64 x, .int .i64 y, .int .i64 z, .int .i64 u] 33))
  have KS := Lib.hid ((Bk.new w (sc A0 n0 c0 A1 n1 c1 A2 n2 c2 T) 40).alloc (o := .cells #[.int .i64 x, .int .i64 y, .int .i64 z, .int .i64 u] 33))
  have KB := Bk.new (w.alloc (.cells (sc A0 n0 c0 A1 n1 c1 A2 n2 c2 T) 40)) #[.int .i64 x, .int .i64 y, .int .i64 z, .int .i64 u] 33
  rw [hz1] at KB
  have KB := Lib.hid KB
  obtain ⟨r, hs⟩ : ∃ r, snd9 ds cs gs T ps x y z u = r := ⟨_, rfl⟩
  obtain ⟨o, ho⟩ : ∃ o, wtO ds cs gs T ps x y z u = o := ⟨_, rfl⟩
  have HV := Lib.hid (show safeV ds cs gs T ps x y z u = (r && o.isNone) by unfold safeV; rw [hs, ho])
  have CS := Lib.hid (fun (W : World) (h : SR W A0 A1 A2 ds cs gs) (h9 : Below w.heap.size w W) => (by have := soundI A0 n0 c0 A1 n1 c1 A2 n2 c2 T ds cs gs A9 n9 c9 ps x y z u W hf h hn9 hb9 ((hr9.below h9).more h9.size); rw [hs] at this; exact this : Calls Tryz.prog 50 #[sv A0 n0 c0 A1 n1 c1 A2 n2 c2 T, .slice A9 n9 c9, .agg #[.int .i64 x, .int .i64 y, .int .i64 z, .int .i64 u]] W fun e w' => e = .returned (.bool r) ∧ Below W.heap.size W w'))
  have CW := Lib.hid (fun (W : World) (h : SR W A0 A1 A2 ds cs gs) (h9 : Below w.heap.size w W) => (by have := wetWindI A0 n0 c0 A1 n1 c1 A2 n2 c2 T ds cs gs A9 n9 c9 ps x y z u W hf h hn9 hb9 ((hr9.below h9).more h9.size); unfold RowW wwO at this; rw [hs, ho] at this; exact this : Calls Tryz.prog 20 #[sv A0 n0 c0 A1 n1 c1 A2 n2 c2 T, .slice A9 n9 c9, .agg #[.int .i64 x, .int .i64 y, .int .i64 z, .int .i64 u]] W fun e w' => ∃ g c, e = .returned (.tuple #[.slice (some ⟨g, 0, none⟩) (wwL ps (if r = true then o else none)).length c, .bool (if r = true then o else none).isSome]) ∧ w'.ownsRow W.heap.size 96 3 (.slice (some ⟨g, 0, none⟩) (wwL ps (if r = true then o else none)).length c) (wwL ps (if r = true then o else none)).length (gls (wwL ps (if r = true then o else none))) ∧ Below W.heap.size W w'))
  obtain ⟨L, hL⟩ : ∃ L, (wwL ps (if r = true then o else none)).length = L := ⟨_, rfl⟩
  obtain ⟨bb, hbb⟩ : ∃ b, (if r = true then o else none).isSome = b := ⟨_, rfl⟩
  rw [hL, hbb] at CW
  have HV2 := Lib.hid (show safeV ds cs gs T ps x y z u = (r && !bb) by
    rw [HV.out, ← hbb]; cases r
    · rfl
    · cases o <;> rfl)
  rw [HV2.out]
  have HS := Lib.hid (hr.below B0.out)
  have hu : undef = Value.tuple #[] := rfl
  have s0 := KS.out.cell (i := 0) rfl
  have s1 := KS.out.cell (i := 1) rfl
  have s2 := KS.out.cell (i := 2) rfl
  have s3 := KS.out.cell (i := 3) rfl
  have k0 := KB.out.cell (i := 0) rfl
  have k1 := KB.out.cell (i := 1) rfl
  have k2 := KB.out.cell (i := 2) rfl
  have k3 := KB.out.cell (i := 3) rfl
  clear hf hr hn9 hb9 hr9 hz1 b0a hs ho HV HV2 hL hbb
  cases r
  all_goals
    go_enter Tryz.func18, Tryz.ntmps18
    go_wp2_with fail
    refine (CW.out _ HS.out B0.out).mono ?_
    rintro e w1 ⟨g, c, rfl, _, hb⟩
    have B1 := Lib.hid (B0.out.trans (hb.mono B0.out.size))
    have S1 := Lib.hid (HS.out.below hb)
    have K1 := Lib.hid (KB.out.below hb)
    have Q1 := Lib.hid (KS.out.below hb)
    clear hb CW HS B0 KB KS s0 s1 s2 s3 k0 k1 k2 k3
    have s0 := Q1.out.cell (i := 0) rfl
    have s1 := Q1.out.cell (i := 1) rfl
    have s2 := Q1.out.cell (i := 2) rfl
    have s3 := Q1.out.cell (i := 3) rfl
    have k0 := K1.out.cell (i := 0) rfl
    have k1 := K1.out.cell (i := 1) rfl
    have k2 := K1.out.cell (i := 2) rfl
    have k3 := K1.out.cell (i := 3) rfl
    go_wp2_with fail
    refine (CS.out _ S1.out B1.out).mono ?_
    rintro e w2 ⟨rfl, hb⟩
    have B2 := B1.out.trans (hb.mono B1.out.size)
    clear hb CS S1 K1 Q1 B1 s0 s1 s2 s3 k0 k1 k2 k3
    go_wp2_with fail
    go_ret
    exact ⟨by simp, B2⟩

set_option maxRecDepth 100000 in
set_option maxHeartbeats 4000000 in
theorem withinS (q1 q2 q3 q4 x y z u : Int) (w : World) :
    Calls Tryz.prog 49 #[.agg #[.int .i64 q1, .int .i64 q2, .int .i64 q3, .int .i64 q4], .agg #[.int .i64 x, .int .i64 y, .int .i64 z, .int .i64 u]] w fun e w' => e = .returned (.bool (ib x y z u q1 q2 && ib x y z u q3 q4)) ∧ Below w.heap.size w w' := by
  have b0a := (Below.refl w.heap.size w).alloc (Nat.le_refl _) (.cells #[.int .i64 q1, .int .i64 q2, .int .i64 q3, .int .i64 q4] 33)
  have hz1 : (w.alloc (.cells #[.int .i64 q1, .int .i64 q2, .int .i64 q3, .int .i64 q4] 33)).heap.size = w.heap.size + 1 := by simp [go_sem]
  have B0 := Lib.hid (b0a.alloc b0a.size (.cells #[.int .i64 x, .int .i64 y, .int .i64 z, .int .i64 u] 33))
  have KS := Lib.hid ((Bk.new w #[.int .i64 q1, .int .i64 q2, .int .i64 q3, .int .i64 q4] 33).alloc (o := .cells #[.int .i64 x, .int .i64 y, .int .i64 z, .int .i64 u] 33))
  have KB := Bk.new (w.alloc (.cells #[.int .i64 q1, .int .i64 q2, .int .i64 q3, .int .i64 q4] 33)) #[.int .i64 x, .int .i64 y, .int .i64 z, .int .i64 u] 33
  rw [hz1] at KB
  have KB := Lib.hid KB
  obtain ⟨r1, h1⟩ : ∃ r, ib x y z u q1 q2 = r := ⟨_, rfl⟩
  obtain ⟨r2, h2⟩ : ∃ r, ib x y z u q3 q4 = r := ⟨_, rfl⟩
  have C1 := Lib.hid (fun (W : World) => (by have := inBoxS x y z u q1 q2 W; rw [h1] at this; exact this : Calls Tryz.prog 98 #[.agg #[.int .i64 x, .int .i64 y, .int .i64 z, .int .i64 u], .agg #[.int .i64 q1, .int .i64 q2]] W fun e w' => e = .returned (.bool r1) ∧ Below W.heap.size W w'))
  have C2 := Lib.hid (fun (W : World) => (by have := inBoxS x y z u q3 q4 W; rw [h2] at this; exact this : Calls Tryz.prog 98 #[.agg #[.int .i64 x, .int .i64 y, .int .i64 z, .int .i64 u], .agg #[.int .i64 q3, .int .i64 q4]] W fun e w' => e = .returned (.bool r2) ∧ Below W.heap.size W w'))
  rw [h1, h2]
  have hu : undef = Value.tuple #[] := rfl
  have s0 := KS.out.cell (i := 0) rfl
  have s1 := KS.out.cell (i := 1) rfl
  have s2 := KS.out.cell (i := 2) rfl
  have s3 := KS.out.cell (i := 3) rfl
  have k0 := KB.out.cell (i := 0) rfl
  have k1 := KB.out.cell (i := 1) rfl
  have k2 := KB.out.cell (i := 2) rfl
  have k3 := KB.out.cell (i := 3) rfl
  clear h1 h2 b0a hz1
  cases r1
  all_goals
    go_enter Tryz.func49, Tryz.ntmps49
    go_wp2_with fail
    refine (C1.out _).mono ?_
    rintro e w1 ⟨rfl, hb⟩
    have B1 := Lib.hid (B0.out.trans (hb.mono B0.out.size))
    have S1 := Lib.hid (KS.out.below hb)
    have K1 := Lib.hid (KB.out.below hb)
    clear hb C1 B0 KB KS s0 s1 s2 s3 k0 k1 k2 k3
  · go_wp2_with fail
    go_ret
    exact ⟨rfl, B1.out⟩
  · have s0 := S1.out.cell (i := 0) rfl
    have s1 := S1.out.cell (i := 1) rfl
    have s2 := S1.out.cell (i := 2) rfl
    have s3 := S1.out.cell (i := 3) rfl
    have k0 := K1.out.cell (i := 0) rfl
    have k1 := K1.out.cell (i := 1) rfl
    have k2 := K1.out.cell (i := 2) rfl
    have k3 := K1.out.cell (i := 3) rfl
    go_wp2_with fail
    refine (C2.out _).mono ?_
    rintro e w2 ⟨rfl, hb⟩
    have B2 := B1.out.trans (hb.mono B1.out.size)
    clear hb C2 B1 S1 K1 s0 s1 s2 s3 k0 k1 k2 k3
    go_wp2_with fail
    go_ret
    exact ⟨by simp, B2⟩

set_option maxRecDepth 100000 in
set_option maxHeartbeats 4000000 in
theorem isSafeS (A0 : Option Addr) (n0 c0 : Nat) (A1 : Option Addr) (n1 c1 : Nat) (A2 : Option Addr) (n2 c2 : Nat) (T : Int) (ds : List D) (cs : List C) (gs : List G) (A9 : Option Addr) (n9 c9 : Nat) (ps : List (Int × Int)) (x y z u : Int) (w : World) (hf : Fit n0 n1 n2 ds cs gs) (hr : SR w A0 A1 A2 ds cs gs) (hn9 : ps.length = n9) (hb9 : n9 ≤ 1048576) (hr9 : Rd w w.heap.size A9 (pls ps)) (hsz : ∀ z ∈ ds, z.nm.size ≤ 1048576 ∧ z.ln.size ≤ 1048576) (hsc : ∀ z ∈ cs, z.nm.size ≤ 1048576) :
    Calls Tryz.prog 16 #[sv A0 n0 c0 A1 n1 c1 A2 n2 c2 T, .slice A9 n9 c9, .agg #[.int .i64 x, .int .i64 y, .int .i64 z, .int .i64 u]] w fun e w' => e = .returned (.bool (safeV ds cs gs T ps x y z u)) ∧ Below w.heap.size w w' := by
  have b0a := (Below.refl w.heap.size w).alloc (Nat.le_refl _) (.cells (sc A0 n0 c0 A1 n1 c1 A2 n2 c2 T) 40)
  have hz1 : (w.alloc (.cells (sc A0 n0 c0 A1 n1 c1 A2 n2 c2 T) 40)).heap.size = w.heap.size + 1 := by simp [go_sem]
  have B0 := Lib.hid (b0a.alloc b0a.size (.cells #[.int .i64 x, .int .i64 y, .int .i64 z, .int .i64 u] 33))
  have KS := Lib.hid ((Bk.new w (sc A0 n0 c0 A1 n1 c1 A2 n2 c2 T) 40).alloc (o := .cells #[.int .i64 x, .int .i64 y, .int .i64 z, .int .i64 u] 33))
  have KB := Bk.new (w.alloc (.cells (sc A0 n0 c0 A1 n1 c1 A2 n2 c2 T) 40)) #[.int .i64 x, .int .i64 y, .int .i64 z, .int .i64 u] 33
  rw [hz1] at KB
  have KB := Lib.hid KB
  rw [← safe_num]
  obtain ⟨r1, hrr⟩ : ∃ r, show9 ds cs gs T = r := ⟨_, rfl⟩
  obtain ⟨r2, hp⟩ : ∃ r, rs ps = r := ⟨_, rfl⟩
  obtain ⟨r3, hbx⟩ : ∃ r, bx x y z u = r := ⟨_, rfl⟩
  obtain ⟨sm, hsm⟩ : ∃ r, leB ds cs gs T ps = r := ⟨_, rfl⟩
  obtain ⟨⟨q1, q2, q3, q4⟩, hq⟩ : ∃ q, leQ ds cs gs T ps = q := ⟨_, rfl⟩
  obtain ⟨wi, hwi⟩ : ∃ r, (ib x y z u q1 q2 && ib x y z u q3 q4) = r := ⟨_, rfl⟩
  have CS := Lib.hid (fun (W : World) (h : SR W A0 A1 A2 ds cs gs) => (by have := Sw9.isShowS A0 n0 c0 A1 n1 c1 A2 n2 c2 T ds cs gs W hf h hsz hsc; rw [hrr] at this; exact this : Calls Tryz.prog 32 #[sv A0 n0 c0 A1 n1 c1 A2 n2 c2 T] W fun e w' => e = .returned (.bool r1) ∧ Below W.heap.size W w'))
  have CR := Lib.hid (fun (W : World) (h9 : Below w.heap.size w W) => Wx.roseS (A := A9) (c := c9) (H := w.heap.size) hn9 hb9 hp W h9.size (hr9.below h9))
  have CB := Lib.hid (fun (W : World) => (by have := isBoxS x y z u W; rw [hbx] at this; exact this : Calls Tryz.prog 48 #[.agg #[.int .i64 x, .int .i64 y, .int .i64 z, .int .i64 u]] W fun e w' => e = .returned (.bool r3) ∧ Below W.heap.size W w'))
  have CW := Lib.hid (fun (W : World) => (by have := withinS q1 q2 q3 q4 x y z u W; rw [hwi] at this; exact this : Calls Tryz.prog 49 #[.agg #[.int .i64 q1, .int .i64 q2, .int .i64 q3, .int .i64 q4], .agg #[.int .i64 x, .int .i64 y, .int .i64 z, .int .i64 u]] W fun e w' => e = .returned (.bool wi) ∧ Below W.heap.size W w'))
  have CL := Lib.hid (fun (W : World) (h : SR W A0 A1 A2 ds cs gs) (h9 : Below w.heap.size w W) => (by have := leastS A0 n0 c0 A1 n1 c1 A2 n2 c2 T ds cs gs A9 n9 c9 ps W hf h hn9 hb9 ((hr9.below h9).more h9.size) hsz hsc; rw [hsm, hq] at this; unfold Bo.bq at this; exact this : Calls Tryz.prog 9 #[sv A0 n0 c0 A1 n1 c1 A2 n2 c2 T, .slice A9 n9 c9] W fun e w' => e = .returned (.tuple #[box4 q1 q2 q3 q4, .bool sm]) ∧ Below W.heap.size W w'))
  rw [hrr, hp, hbx, hsm, hq, show within (q1, q2, q3, q4) x y z u = wi from hwi]
  have HS := Lib.hid (hr.below B0.out)
  have hu : undef = Value.tuple #[] := rfl
  have s0 := KS.out.cell (i := 0) rfl
  have s1 := KS.out.cell (i := 1) rfl
  have s2 := KS.out.cell (i := 2) rfl
  have s3 := KS.out.cell (i := 3) rfl
  have k0 := KB.out.cell (i := 0) rfl
  have k1 := KB.out.cell (i := 1) rfl
  have k2 := KB.out.cell (i := 2) rfl
  have k3 := KB.out.cell (i := 3) rfl
  clear hf hr hn9 hb9 hr9 hz1 b0a hsz hsc hrr hp hbx hsm hq hwi
  cases r1
  · go_enter Tryz.func16, Tryz.ntmps16
    go_wp2_with fail
    refine (CL.out _ HS.out B0.out).mono ?_
    rintro e w1 ⟨rfl, hb⟩
    have b1 := B0.out.trans (hb.mono B0.out.size)
    have B1 := Lib.hid (b1.alloc b1.size (.cells #[.int .i64 q1, .int .i64 q2, .int .i64 q3, .int .i64 q4] 33))
    have S1 := Lib.hid ((HS.out.below hb).below ((Below.refl w1.heap.size w1).alloc (Nat.le_refl _) (.cells #[.int .i64 q1, .int .i64 q2, .int .i64 q3, .int .i64 q4] 33)))
    have Q1 := Lib.hid ((KS.out.below hb).alloc (o := .cells #[.int .i64 q1, .int .i64 q2, .int .i64 q3, .int .i64 q4] 33))
    have K1 := Lib.hid ((KB.out.below hb).alloc (o := .cells #[.int .i64 q1, .int .i64 q2, .int .i64 q3, .int .i64 q4] 33))
    have L1 := Lib.hid (Bk.new w1 #[.int .i64 q1, .int .i64 q2, .int .i64 q3, .int .i64 q4] 33)
    clear hb b1 B0 HS KS KB CL s0 s1 s2 s3 k0 k1 k2 k3
    have s0 := Q1.out.cell (i := 0) rfl
    have s1 := Q1.out.cell (i := 1) rfl
    have s2 := Q1.out.cell (i := 2) rfl
    have s3 := Q1.out.cell (i := 3) rfl
    have k0 := K1.out.cell (i := 0) rfl
    have k1 := K1.out.cell (i := 1) rfl
    have k2 := K1.out.cell (i := 2) rfl
    have k3 := K1.out.cell (i := 3) rfl
    have l0 := L1.out.cell (i := 0) rfl
    have l1 := L1.out.cell (i := 1) rfl
    have l2 := L1.out.cell (i := 2) rfl
    have l3 := L1.out.cell (i := 3) rfl
    go_wp2_with fail
    refine (CS.out _ S1.out).mono ?_
    rintro e w2 ⟨rfl, hb⟩
    have B2 := Lib.hid (B1.out.trans (hb.mono B1.out.size))
    have Q2 := Lib.hid (Q1.out.below hb)
    have K2 := Lib.hid (K1.out.below hb)
    have L2 := Lib.hid (L1.out.below hb)
    have S2 := Lib.hid (S1.out.below hb)
    clear hb B1 Q1 K1 L1 S1 s0 s1 s2 s3 k0 k1 k2 k3 l0 l1 l2 l3
    have s0 := Q2.out.cell (i := 0) rfl
    have s1 := Q2.out.cell (i := 1) rfl
    have s2 := Q2.out.cell (i := 2) rfl
    have s3 := Q2.out.cell (i := 3) rfl
    have k0 := K2.out.cell (i := 0) rfl
    have k1 := K2.out.cell (i := 1) rfl
    have k2 := K2.out.cell (i := 2) rfl
    have k3 := K2.out.cell (i := 3) rfl
    have l0 := L2.out.cell (i := 0) rfl
    have l1 := L2.out.cell (i := 1) rfl
    have l2 := L2.out.cell (i := 2) rfl
    have l3 := L2.out.cell (i := 3) rfl
    go_wp2_with fail
    go_ret
    exact ⟨by simp, B2.out⟩
  cases r2
  · go_enter Tryz.func16, Tryz.ntmps16
    go_wp2_with fail
    refine (CL.out _ HS.out B0.out).mono ?_
    rintro e w1 ⟨rfl, hb⟩
    have b1 := B0.out.trans (hb.mono B0.out.size)
    have B1 := Lib.hid (b1.alloc b1.size (.cells #[.int .i64 q1, .int .i64 q2, .int .i64 q3, .int .i64 q4] 33))
    have S1 := Lib.hid ((HS.out.below hb).below ((Below.refl w1.heap.size w1).alloc (Nat.le_refl _) (.cells #[.int .i64 q1, .int .i64 q2, .int .i64 q3, .int .i64 q4] 33)))
    have Q1 := Lib.hid ((KS.out.below hb).alloc (o := .cells #[.int .i64 q1, .int .i64 q2, .int .i64 q3, .int .i64 q4] 33))
    have K1 := Lib.hid ((KB.out.below hb).alloc (o := .cells #[.int .i64 q1, .int .i64 q2, .int .i64 q3, .int .i64 q4] 33))
    have L1 := Lib.hid (Bk.new w1 #[.int .i64 q1, .int .i64 q2, .int .i64 q3, .int .i64 q4] 33)
    clear hb b1 B0 HS KS KB CL s0 s1 s2 s3 k0 k1 k2 k3
    have s0 := Q1.out.cell (i := 0) rfl
    have s1 := Q1.out.cell (i := 1) rfl
    have s2 := Q1.out.cell (i := 2) rfl
    have s3 := Q1.out.cell (i := 3) rfl
    have k0 := K1.out.cell (i := 0) rfl
    have k1 := K1.out.cell (i := 1) rfl
    have k2 := K1.out.cell (i := 2) rfl
    have k3 := K1.out.cell (i := 3) rfl
    have l0 := L1.out.cell (i := 0) rfl
    have l1 := L1.out.cell (i := 1) rfl
    have l2 := L1.out.cell (i := 2) rfl
    have l3 := L1.out.cell (i := 3) rfl
    go_wp2_with fail
    refine (CS.out _ S1.out).mono ?_
    rintro e w2 ⟨rfl, hb⟩
    have B2 := Lib.hid (B1.out.trans (hb.mono B1.out.size))
    have Q2 := Lib.hid (Q1.out.below hb)
    have K2 := Lib.hid (K1.out.below hb)
    have L2 := Lib.hid (L1.out.below hb)
    have S2 := Lib.hid (S1.out.below hb)
    clear hb B1 Q1 K1 L1 S1 s0 s1 s2 s3 k0 k1 k2 k3 l0 l1 l2 l3
    have s0 := Q2.out.cell (i := 0) rfl
    have s1 := Q2.out.cell (i := 1) rfl
    have s2 := Q2.out.cell (i := 2) rfl
    have s3 := Q2.out.cell (i := 3) rfl
    have k0 := K2.out.cell (i := 0) rfl
    have k1 := K2.out.cell (i := 1) rfl
    have k2 := K2.out.cell (i := 2) rfl
    have k3 := K2.out.cell (i := 3) rfl
    have l0 := L2.out.cell (i := 0) rfl
    have l1 := L2.out.cell (i := 1) rfl
    have l2 := L2.out.cell (i := 2) rfl
    have l3 := L2.out.cell (i := 3) rfl
    go_wp2_with fail
    refine (CR.out _ B2.out).mono ?_
    rintro e w3 ⟨rfl, hb⟩
    have B3 := Lib.hid (B2.out.trans (hb.mono B2.out.size))
    have Q3 := Lib.hid (Q2.out.below hb)
    have K3 := Lib.hid (K2.out.below hb)
    have L3 := Lib.hid (L2.out.below hb)
    have S3 := Lib.hid (S2.out.below hb)
    clear hb B2 Q2 K2 L2 S2 s0 s1 s2 s3 k0 k1 k2 k3 l0 l1 l2 l3
    have s0 := Q3.out.cell (i := 0) rfl
    have s1 := Q3.out.cell (i := 1) rfl
    have s2 := Q3.out.cell (i := 2) rfl
    have s3 := Q3.out.cell (i := 3) rfl
    have k0 := K3.out.cell (i := 0) rfl
    have k1 := K3.out.cell (i := 1) rfl
    have k2 := K3.out.cell (i := 2) rfl
    have k3 := K3.out.cell (i := 3) rfl
    have l0 := L3.out.cell (i := 0) rfl
    have l1 := L3.out.cell (i := 1) rfl
    have l2 := L3.out.cell (i := 2) rfl
    have l3 := L3.out.cell (i := 3) rfl
    go_wp2_with fail
    go_ret
    exact ⟨by simp, B3.out⟩
  cases r3
  · go_enter Tryz.func16, Tryz.ntmps16
    go_wp2_with fail
    refine (CL.out _ HS.out B0.out).mono ?_
    rintro e w1 ⟨rfl, hb⟩
    have b1 := B0.out.trans (hb.mono B0.out.size)
    have B1 := Lib.hid (b1.alloc b1.size (.cells #[.int .i64 q1, .int .i64 q2, .int .i64 q3, .int .i64 q4] 33))
    have S1 := Lib.hid ((HS.out.below hb).below ((Below.refl w1.heap.size w1).alloc (Nat.le_refl _) (.cells #[.int .i64 q1, .int .i64 q2, .int .i64 q3, .int .i64 q4] 33)))
    have Q1 := Lib.hid ((KS.out.below hb).alloc (o := .cells #[.int .i64 q1, .int .i64 q2, .int .i64 q3, .int .i64 q4] 33))
    have K1 := Lib.hid ((KB.out.below hb).alloc (o := .cells #[.int .i64 q1, .int .i64 q2, .int .i64 q3, .int .i64 q4] 33))
    have L1 := Lib.hid (Bk.new w1 #[.int .i64 q1, .int .i64 q2, .int .i64 q3, .int .i64 q4] 33)
    clear hb b1 B0 HS KS KB CL s0 s1 s2 s3 k0 k1 k2 k3
    have s0 := Q1.out.cell (i := 0) rfl
    have s1 := Q1.out.cell (i := 1) rfl
    have s2 := Q1.out.cell (i := 2) rfl
    have s3 := Q1.out.cell (i := 3) rfl
    have k0 := K1.out.cell (i := 0) rfl
    have k1 := K1.out.cell (i := 1) rfl
    have k2 := K1.out.cell (i := 2) rfl
    have k3 := K1.out.cell (i := 3) rfl
    have l0 := L1.out.cell (i := 0) rfl
    have l1 := L1.out.cell (i := 1) rfl
    have l2 := L1.out.cell (i := 2) rfl
    have l3 := L1.out.cell (i := 3) rfl
    go_wp2_with fail
    refine (CS.out _ S1.out).mono ?_
    rintro e w2 ⟨rfl, hb⟩
    have B2 := Lib.hid (B1.out.trans (hb.mono B1.out.size))
    have Q2 := Lib.hid (Q1.out.below hb)
    have K2 := Lib.hid (K1.out.below hb)
    have L2 := Lib.hid (L1.out.below hb)
    have S2 := Lib.hid (S1.out.below hb)
    clear hb B1 Q1 K1 L1 S1 s0 s1 s2 s3 k0 k1 k2 k3 l0 l1 l2 l3
    have s0 := Q2.out.cell (i := 0) rfl
    have s1 := Q2.out.cell (i := 1) rfl
    have s2 := Q2.out.cell (i := 2) rfl
    have s3 := Q2.out.cell (i := 3) rfl
    have k0 := K2.out.cell (i := 0) rfl
    have k1 := K2.out.cell (i := 1) rfl
    have k2 := K2.out.cell (i := 2) rfl
    have k3 := K2.out.cell (i := 3) rfl
    have l0 := L2.out.cell (i := 0) rfl
    have l1 := L2.out.cell (i := 1) rfl
    have l2 := L2.out.cell (i := 2) rfl
    have l3 := L2.out.cell (i := 3) rfl
    go_wp2_with fail
    refine (CR.out _ B2.out).mono ?_
    rintro e w3 ⟨rfl, hb⟩
    have B3 := Lib.hid (B2.out.trans (hb.mono B2.out.size))
    have Q3 := Lib.hid (Q2.out.below hb)
    have K3 := Lib.hid (K2.out.below hb)
    have L3 := Lib.hid (L2.out.below hb)
    have S3 := Lib.hid (S2.out.below hb)
    clear hb B2 Q2 K2 L2 S2 s0 s1 s2 s3 k0 k1 k2 k3 l0 l1 l2 l3
    have s0 := Q3.out.cell (i := 0) rfl
    have s1 := Q3.out.cell (i := 1) rfl
    have s2 := Q3.out.cell (i := 2) rfl
    have s3 := Q3.out.cell (i := 3) rfl
    have k0 := K3.out.cell (i := 0) rfl
    have k1 := K3.out.cell (i := 1) rfl
    have k2 := K3.out.cell (i := 2) rfl
    have k3 := K3.out.cell (i := 3) rfl
    have l0 := L3.out.cell (i := 0) rfl
    have l1 := L3.out.cell (i := 1) rfl
    have l2 := L3.out.cell (i := 2) rfl
    have l3 := L3.out.cell (i := 3) rfl
    go_wp2_with fail
    refine (CB.out _).mono ?_
    rintro e w4 ⟨rfl, hb⟩
    have B4 := Lib.hid (B3.out.trans (hb.mono B3.out.size))
    have Q4 := Lib.hid (Q3.out.below hb)
    have K4 := Lib.hid (K3.out.below hb)
    have L4 := Lib.hid (L3.out.below hb)
    have S4 := Lib.hid (S3.out.below hb)
    clear hb B3 Q3 K3 L3 S3 s0 s1 s2 s3 k0 k1 k2 k3 l0 l1 l2 l3
    have s0 := Q4.out.cell (i := 0) rfl
    have s1 := Q4.out.cell (i := 1) rfl
    have s2 := Q4.out.cell (i := 2) rfl
    have s3 := Q4.out.cell (i := 3) rfl
    have k0 := K4.out.cell (i := 0) rfl
    have k1 := K4.out.cell (i := 1) rfl
    have k2 := K4.out.cell (i := 2) rfl
    have k3 := K4.out.cell (i := 3) rfl
    have l0 := L4.out.cell (i := 0) rfl
    have l1 := L4.out.cell (i := 1) rfl
    have l2 := L4.out.cell (i := 2) rfl
    have l3 := L4.out.cell (i := 3) rfl
    go_wp2_with fail
    go_ret
    exact ⟨by simp, B4.out⟩
  cases sm
  · go_enter Tryz.func16, Tryz.ntmps16
    go_wp2_with fail
    refine (CL.out _ HS.out B0.out).mono ?_
    rintro e w1 ⟨rfl, hb⟩
    have b1 := B0.out.trans (hb.mono B0.out.size)
    have B1 := Lib.hid (b1.alloc b1.size (.cells #[.int .i64 q1, .int .i64 q2, .int .i64 q3, .int .i64 q4] 33))
    have S1 := Lib.hid ((HS.out.below hb).below ((Below.refl w1.heap.size w1).alloc (Nat.le_refl _) (.cells #[.int .i64 q1, .int .i64 q2, .int .i64 q3, .int .i64 q4] 33)))
    have Q1 := Lib.hid ((KS.out.below hb).alloc (o := .cells #[.int .i64 q1, .int .i64 q2, .int .i64 q3, .int .i64 q4] 33))
    have K1 := Lib.hid ((KB.out.below hb).alloc (o := .cells #[.int .i64 q1, .int .i64 q2, .int .i64 q3, .int .i64 q4] 33))
    have L1 := Lib.hid (Bk.new w1 #[.int .i64 q1, .int .i64 q2, .int .i64 q3, .int .i64 q4] 33)
    clear hb b1 B0 HS KS KB CL s0 s1 s2 s3 k0 k1 k2 k3
    have s0 := Q1.out.cell (i := 0) rfl
    have s1 := Q1.out.cell (i := 1) rfl
    have s2 := Q1.out.cell (i := 2) rfl
    have s3 := Q1.out.cell (i := 3) rfl
    have k0 := K1.out.cell (i := 0) rfl
    have k1 := K1.out.cell (i := 1) rfl
    have k2 := K1.out.cell (i := 2) rfl
    have k3 := K1.out.cell (i := 3) rfl
    have l0 := L1.out.cell (i := 0) rfl
    have l1 := L1.out.cell (i := 1) rfl
    have l2 := L1.out.cell (i := 2) rfl
    have l3 := L1.out.cell (i := 3) rfl
    go_wp2_with fail
    refine (CS.out _ S1.out).mono ?_
    rintro e w2 ⟨rfl, hb⟩
    have B2 := Lib.hid (B1.out.trans (hb.mono B1.out.size))
    have Q2 := Lib.hid (Q1.out.below hb)
    have K2 := Lib.hid (K1.out.below hb)
    have L2 := Lib.hid (L1.out.below hb)
    have S2 := Lib.hid (S1.out.below hb)
    clear hb B1 Q1 K1 L1 S1 s0 s1 s2 s3 k0 k1 k2 k3 l0 l1 l2 l3
    have s0 := Q2.out.cell (i := 0) rfl
    have s1 := Q2.out.cell (i := 1) rfl
    have s2 := Q2.out.cell (i := 2) rfl
    have s3 := Q2.out.cell (i := 3) rfl
    have k0 := K2.out.cell (i := 0) rfl
    have k1 := K2.out.cell (i := 1) rfl
    have k2 := K2.out.cell (i := 2) rfl
    have k3 := K2.out.cell (i := 3) rfl
    have l0 := L2.out.cell (i := 0) rfl
    have l1 := L2.out.cell (i := 1) rfl
    have l2 := L2.out.cell (i := 2) rfl
    have l3 := L2.out.cell (i := 3) rfl
    go_wp2_with fail
    refine (CR.out _ B2.out).mono ?_
    rintro e w3 ⟨rfl, hb⟩
    have B3 := Lib.hid (B2.out.trans (hb.mono B2.out.size))
    have Q3 := Lib.hid (Q2.out.below hb)
    have K3 := Lib.hid (K2.out.below hb)
    have L3 := Lib.hid (L2.out.below hb)
    have S3 := Lib.hid (S2.out.below hb)
    clear hb B2 Q2 K2 L2 S2 s0 s1 s2 s3 k0 k1 k2 k3 l0 l1 l2 l3
    have s0 := Q3.out.cell (i := 0) rfl
    have s1 := Q3.out.cell (i := 1) rfl
    have s2 := Q3.out.cell (i := 2) rfl
    have s3 := Q3.out.cell (i := 3) rfl
    have k0 := K3.out.cell (i := 0) rfl
    have k1 := K3.out.cell (i := 1) rfl
    have k2 := K3.out.cell (i := 2) rfl
    have k3 := K3.out.cell (i := 3) rfl
    have l0 := L3.out.cell (i := 0) rfl
    have l1 := L3.out.cell (i := 1) rfl
    have l2 := L3.out.cell (i := 2) rfl
    have l3 := L3.out.cell (i := 3) rfl
    go_wp2_with fail
    refine (CB.out _).mono ?_
    rintro e w4 ⟨rfl, hb⟩
    have B4 := Lib.hid (B3.out.trans (hb.mono B3.out.size))
    have Q4 := Lib.hid (Q3.out.below hb)
    have K4 := Lib.hid (K3.out.below hb)
    have L4 := Lib.hid (L3.out.below hb)
    have S4 := Lib.hid (S3.out.below hb)
    clear hb B3 Q3 K3 L3 S3 s0 s1 s2 s3 k0 k1 k2 k3 l0 l1 l2 l3
    have s0 := Q4.out.cell (i := 0) rfl
    have s1 := Q4.out.cell (i := 1) rfl
    have s2 := Q4.out.cell (i := 2) rfl
    have s3 := Q4.out.cell (i := 3) rfl
    have k0 := K4.out.cell (i := 0) rfl
    have k1 := K4.out.cell (i := 1) rfl
    have k2 := K4.out.cell (i := 2) rfl
    have k3 := K4.out.cell (i := 3) rfl
    have l0 := L4.out.cell (i := 0) rfl
    have l1 := L4.out.cell (i := 1) rfl
    have l2 := L4.out.cell (i := 2) rfl
    have l3 := L4.out.cell (i := 3) rfl
    go_wp2_with fail
    go_ret
    exact ⟨by simp, B4.out⟩
  go_enter Tryz.func16, Tryz.ntmps16
  go_wp2_with fail
  refine (CL.out _ HS.out B0.out).mono ?_
  rintro e w1 ⟨rfl, hb⟩
  have b1 := B0.out.trans (hb.mono B0.out.size)
  have B1 := Lib.hid (b1.alloc b1.size (.cells #[.int .i64 q1, .int .i64 q2, .int .i64 q3, .int .i64 q4] 33))
  have S1 := Lib.hid ((HS.out.below hb).below ((Below.refl w1.heap.size w1).alloc (Nat.le_refl _) (.cells #[.int .i64 q1, .int .i64 q2, .int .i64 q3, .int .i64 q4] 33)))
  have Q1 := Lib.hid ((KS.out.below hb).alloc (o := .cells #[.int .i64 q1, .int .i64 q2, .int .i64 q3, .int .i64 q4] 33))
  have K1 := Lib.hid ((KB.out.below hb).alloc (o := .cells #[.int .i64 q1, .int .i64 q2, .int .i64 q3, .int .i64 q4] 33))
  have L1 := Lib.hid (Bk.new w1 #[.int .i64 q1, .int .i64 q2, .int .i64 q3, .int .i64 q4] 33)
  clear hb b1 B0 HS KS KB CL s0 s1 s2 s3 k0 k1 k2 k3
  have s0 := Q1.out.cell (i := 0) rfl
  have s1 := Q1.out.cell (i := 1) rfl
  have s2 := Q1.out.cell (i := 2) rfl
  have s3 := Q1.out.cell (i := 3) rfl
  have k0 := K1.out.cell (i := 0) rfl
  have k1 := K1.out.cell (i := 1) rfl
  have k2 := K1.out.cell (i := 2) rfl
  have k3 := K1.out.cell (i := 3) rfl
  have l0 := L1.out.cell (i := 0) rfl
  have l1 := L1.out.cell (i := 1) rfl
  have l2 := L1.out.cell (i := 2) rfl
  have l3 := L1.out.cell (i := 3) rfl
  go_wp2_with fail
  refine (CS.out _ S1.out).mono ?_
  rintro e w2 ⟨rfl, hb⟩
  have B2 := Lib.hid (B1.out.trans (hb.mono B1.out.size))
  have Q2 := Lib.hid (Q1.out.below hb)
  have K2 := Lib.hid (K1.out.below hb)
  have L2 := Lib.hid (L1.out.below hb)
  have S2 := Lib.hid (S1.out.below hb)
  clear hb B1 Q1 K1 L1 S1 s0 s1 s2 s3 k0 k1 k2 k3 l0 l1 l2 l3
  have s0 := Q2.out.cell (i := 0) rfl
  have s1 := Q2.out.cell (i := 1) rfl
  have s2 := Q2.out.cell (i := 2) rfl
  have s3 := Q2.out.cell (i := 3) rfl
  have k0 := K2.out.cell (i := 0) rfl
  have k1 := K2.out.cell (i := 1) rfl
  have k2 := K2.out.cell (i := 2) rfl
  have k3 := K2.out.cell (i := 3) rfl
  have l0 := L2.out.cell (i := 0) rfl
  have l1 := L2.out.cell (i := 1) rfl
  have l2 := L2.out.cell (i := 2) rfl
  have l3 := L2.out.cell (i := 3) rfl
  go_wp2_with fail
  refine (CR.out _ B2.out).mono ?_
  rintro e w3 ⟨rfl, hb⟩
  have B3 := Lib.hid (B2.out.trans (hb.mono B2.out.size))
  have Q3 := Lib.hid (Q2.out.below hb)
  have K3 := Lib.hid (K2.out.below hb)
  have L3 := Lib.hid (L2.out.below hb)
  have S3 := Lib.hid (S2.out.below hb)
  clear hb B2 Q2 K2 L2 S2 s0 s1 s2 s3 k0 k1 k2 k3 l0 l1 l2 l3
  have s0 := Q3.out.cell (i := 0) rfl
  have s1 := Q3.out.cell (i := 1) rfl
  have s2 := Q3.out.cell (i := 2) rfl
  have s3 := Q3.out.cell (i := 3) rfl
  have k0 := K3.out.cell (i := 0) rfl
  have k1 := K3.out.cell (i := 1) rfl
  have k2 := K3.out.cell (i := 2) rfl
  have k3 := K3.out.cell (i := 3) rfl
  have l0 := L3.out.cell (i := 0) rfl
  have l1 := L3.out.cell (i := 1) rfl
  have l2 := L3.out.cell (i := 2) rfl
  have l3 := L3.out.cell (i := 3) rfl
  go_wp2_with fail
  refine (CB.out _).mono ?_
  rintro e w4 ⟨rfl, hb⟩
  have B4 := Lib.hid (B3.out.trans (hb.mono B3.out.size))
  have Q4 := Lib.hid (Q3.out.below hb)
  have K4 := Lib.hid (K3.out.below hb)
  have L4 := Lib.hid (L3.out.below hb)
  have S4 := Lib.hid (S3.out.below hb)
  clear hb B3 Q3 K3 L3 S3 s0 s1 s2 s3 k0 k1 k2 k3 l0 l1 l2 l3
  have s0 := Q4.out.cell (i := 0) rfl
  have s1 := Q4.out.cell (i := 1) rfl
  have s2 := Q4.out.cell (i := 2) rfl
  have s3 := Q4.out.cell (i := 3) rfl
  have k0 := K4.out.cell (i := 0) rfl
  have k1 := K4.out.cell (i := 1) rfl
  have k2 := K4.out.cell (i := 2) rfl
  have k3 := K4.out.cell (i := 3) rfl
  have l0 := L4.out.cell (i := 0) rfl
  have l1 := L4.out.cell (i := 1) rfl
  have l2 := L4.out.cell (i := 2) rfl
  have l3 := L4.out.cell (i := 3) rfl
  go_wp2_with fail
  refine (CW.out _).mono ?_
  rintro e w5 ⟨rfl, hb⟩
  have B5 := Lib.hid (B4.out.trans (hb.mono B4.out.size))
  have Q5 := Lib.hid (Q4.out.below hb)
  have K5 := Lib.hid (K4.out.below hb)
  have L5 := Lib.hid (L4.out.below hb)
  have S5 := Lib.hid (S4.out.below hb)
  clear hb B4 Q4 K4 L4 S4 s0 s1 s2 s3 k0 k1 k2 k3 l0 l1 l2 l3
  have s0 := Q5.out.cell (i := 0) rfl
  have s1 := Q5.out.cell (i := 1) rfl
  have s2 := Q5.out.cell (i := 2) rfl
  have s3 := Q5.out.cell (i := 3) rfl
  have k0 := K5.out.cell (i := 0) rfl
  have k1 := K5.out.cell (i := 1) rfl
  have k2 := K5.out.cell (i := 2) rfl
  have k3 := K5.out.cell (i := 3) rfl
  have l0 := L5.out.cell (i := 0) rfl
  have l1 := L5.out.cell (i := 1) rfl
  have l2 := L5.out.cell (i := 2) rfl
  have l3 := L5.out.cell (i := 3) rfl
  go_wp2_with fail
  go_ret
  exact ⟨by simp, B5.out⟩
end Go.Proofs.YtejeikfgmiadhabGreat.Is10
