/- Where the drops of a jet can land for a rose, in numbers: how far to each side, and the box of it. -/
import Derived.Test.YtejeikfgmiadhaaWz
import Derived.Test.YtejeikfgmiadhaaWy
import Derived.Test.YtejeikfgmiadhaaBxi
import Derived.Test.YtejeikfgmiadhaaFl
set_option linter.unusedVariables false
set_option linter.unusedSimpArgs false
namespace Go.Proofs.Ytejeikfgmiadhaa.Fw10
open Go.RowKit Go.Proofs.Ytejeikfgmiadhaa.Mem Go.Proofs.Ytejeikfgmiadhaa.Jt Go.Proofs.Ytejeikfgmiadhaa.Pl
open Go.Proofs.Ytejeikfgmiadhaa.Wm hiding G
open Go.Proofs.Ytejeikfgmiadhaa.Wx Go.Proofs.Ytejeikfgmiadhaa.Wy Go.Proofs.Ytejeikfgmiadhaa.Wz
open Go.Proofs.Ytejeikfgmiadhaa.Bo (Q4 boxA)
open Go.Proofs.Ytejeikfgmiadhaa.Wr (rs rs_len rs_each)
open Go.Proofs.Ytejeikfgmiadhaa.Dp (wy wy_le)
open Go.Proofs.Ytejeikfgmiadhaa.Bxi (bx ib)
set_option linter.unusedVariables false
set_option linter.unusedSimpArgs false

def inQ (q : Q4) (p : Int × Int) : Prop := q.1 ≤ p.1 ∧ q.2.1 ≤ p.2 ∧ p.1 ≤ q.2.2.1 ∧ p.2 ≤ q.2.2.2
theorem in_step (ps : List (Int × Int)) : ∀ q : Q4, ((ps.foldl Bo.step q).1 ≤ q.1 ∧ (ps.foldl Bo.step q).2.1 ≤ q.2.1 ∧ q.2.2.1 ≤ (ps.foldl Bo.step q).2.2.1 ∧ q.2.2.2 ≤ (ps.foldl Bo.step q).2.2.2) ∧ ∀ p ∈ ps, inQ (ps.foldl Bo.step q) p := by
  induction ps with
  | nil => intro q; exact ⟨⟨Int.le_refl _, Int.le_refl _, Int.le_refl _, Int.le_refl _⟩, fun p h => by cases h⟩
  | cons a ps ih =>
    intro q
    rw [List.foldl_cons]
    obtain ⟨⟨a1, a2, a3, a4⟩, h⟩ := ih (Bo.step q a)
    generalize ps.foldl Bo.step (Bo.step q a) = F at *
    have e1 : (Bo.step q a).1 = min q.1 a.1 := rfl
    have e2 : (Bo.step q a).2.1 = min q.2.1 a.2 := rfl
    have e3 : (Bo.step q a).2.2.1 = max q.2.2.1 a.1 := rfl
    have e4 : (Bo.step q a).2.2.2 = max q.2.2.2 a.2 := rfl
    rw [e1] at a1; rw [e2] at a2; rw [e3] at a3; rw [e4] at a4
    refine ⟨⟨by omega, by omega, by omega, by omega⟩, fun p hp => ?_⟩
    rcases List.mem_cons.1 hp with e | e
    · subst e
      exact ⟨by omega, by omega, by omega, by omega⟩
    · exact h p e
theorem in_box {ps : List (Int × Int)} {p : Int × Int} (h : p ∈ ps) : inQ (boxA ps) p := by
  cases ps with
  | nil => cases h
  | cons a ps =>
    obtain ⟨⟨a1, a2, a3, a4⟩, k⟩ := in_step ps (Bo.one a)
    rcases List.mem_cons.1 h with e | e
    · subst e; exact ⟨a1, a2, a3, a4⟩
    · exact k p e
theorem wv0 (p : Int × Int) : wv 0 p = p.1 := rfl
theorem wv1 (p : Int × Int) : wv 1 p = p.2 := rfl
theorem wv2 (p : Int × Int) : wv 2 p = -p.1 := rfl
theorem wv3 (p : Int × Int) : wv 3 p = -p.2 := rfl
theorem fold_par (f : Q4 → Int) (g : Int × Int → Int) (h : Int) (H : ∀ q b p, f q = g b → f (Bo.step q p) = g (wstep h b p)) (ps : List (Int × Int)) :
    ∀ q b, f q = g b → f (ps.foldl Bo.step q) = g (ps.foldl (wstep h) b) := by
  induction ps with
  | nil => intro q b e; exact e
  | cons p ps ih => intro q b e; rw [List.foldl_cons, List.foldl_cons]; exact ih _ _ (H q b p e)
theorem box_side (f : Q4 → Int) (g : Int × Int → Int) (h : Int) (H : ∀ q b p, f q = g b → f (Bo.step q p) = g (wstep h b p)) (h1 : ∀ p, f (Bo.one p) = g p) {ps : List (Int × Int)} (hp : 1 ≤ ps.length) : f (boxA ps) = g (wor h ps) := by
  cases ps with
  | nil => simp at hp
  | cons p ps => exact fold_par f g h H ps _ _ (h1 p)
theorem sides {ps : List (Int × Int)} (hp : 1 ≤ ps.length) :
    (boxA ps).2.2.1 = (wor 0 ps).1 ∧ (boxA ps).2.2.2 = (wor 1 ps).2 ∧ (boxA ps).1 = (wor 2 ps).1 ∧ (boxA ps).2.1 = (wor 3 ps).2 := by
  refine ⟨box_side (fun q => q.2.2.1) (fun p => p.1) 0 ?_ (fun _ => rfl) hp, box_side (fun q => q.2.2.2) (fun p => p.2) 1 ?_ (fun _ => rfl) hp, box_side (fun q => q.1) (fun p => p.1) 2 ?_ (fun _ => rfl) hp, box_side (fun q => q.2.1) (fun p => p.2) 3 ?_ (fun _ => rfl) hp⟩
  · intro q b p e
    show max q.2.2.1 p.1 = (wstep 0 b p).1
    have e : q.2.2.1 = b.1 := e
    unfold wstep; rw [wv0, wv0]; split <;> omega
  · intro q b p e
    show max q.2.2.2 p.2 = (wstep 1 b p).2
    have e : q.2.2.2 = b.2 := e
    unfold wstep; rw [wv1, wv1]; split <;> omega
  · intro q b p e
    show min q.1 p.1 = (wstep 2 b p).1
    have e : q.1 = b.1 := e
    unfold wstep; rw [wv2, wv2]; split <;> omega
  · intro q b p e
    show min q.2.1 p.2 = (wstep 3 b p).2
    have e : q.2.1 = b.2 := e
    unfold wstep; rw [wv3, wv3]; split <;> omega

theorem fold_in {h : Int} (ps : List (Int × Int)) : ∀ b, ps.foldl (wstep h) b = b ∨ ps.foldl (wstep h) b ∈ ps := by
  induction ps with
  | nil => intro b; exact Or.inl rfl
  | cons p ps ih =>
    intro b
    rw [List.foldl_cons]
    rcases ih (wstep h b p) with e | e
    · rw [e]
      unfold wstep
      split
      · exact Or.inr (List.mem_cons_self ..)
      · exact Or.inl rfl
    · exact Or.inr (List.mem_cons_of_mem _ e)
theorem wor_in {h : Int} {ps : List (Int × Int)} (hp : 1 ≤ ps.length) : wor h ps ∈ ps := by
  cases ps with
  | nil => simp at hp
  | cons p ps =>
    rcases fold_in (h := h) ps p with e | e
    · show ps.foldl (wstep h) p ∈ p :: ps
      rw [e]; exact List.mem_cons_self ..
    · exact List.mem_cons_of_mem _ e


/-- How many ticks a drop flies. -/
def nN (l : Int) : Nat := (l + 1).toNat
/-- Where it lands without a wind. -/
def land (x y h t l : Int) : Int × Int := (wy x (tx h.toNat t 0) (nN l), wy y (ty h.toNat t 0) (nN l))
/-- Where it lands when the worst drift of a heading blows at all ticks. -/
def far (x y h t l : Int) (ps : List (Int × Int)) (k : Int) : Int × Int := ((land x y h t l).1 + (nN l : Int) * (wor k ps).1, (land x y h t l).2 + (nN l : Int) * (wor k ps).2)
/-- The box of all places where it can land. -/
def lbox (x y h t l : Int) (ps : List (Int × Int)) : Q4 := ((land x y h t l).1 + (nN l : Int) * (boxA ps).1, (land x y h t l).2 + (nN l : Int) * (boxA ps).2.1, (land x y h t l).1 + (nN l : Int) * (boxA ps).2.2.1, (land x y h t l).2 + (nN l : Int) * (boxA ps).2.2.2)
theorem nN_le {x y h t l : Int} (hj : jt x y h t l = true) : (nN l : Int) = l + 1 ∧ nN l ≤ 33 := by
  have := (jt_iff.1 hj).2.2.2.2
  unfold nN; omega
theorem tx_le {h t : Int} (hh : 0 ≤ h ∧ h ≤ 3) (ht : 0 ≤ t ∧ t ≤ 16) : (-16 ≤ tx h.toNat t 0 ∧ tx h.toNat t 0 ≤ 16) ∧ (-16 ≤ ty h.toNat t 0 ∧ ty h.toNat t 0 ≤ 16) := by
  have : h.toNat = 0 ∨ h.toNat = 1 ∨ h.toNat = 2 ∨ h.toNat = 3 := by omega
  rcases this with e | e | e | e
  all_goals
    rw [e]
    simp only [tx, ty]
    omega
theorem land_le {x y h t l : Int} (hj : jt x y h t l = true) : (-1552 ≤ (land x y h t l).1 ∧ (land x y h t l).1 ≤ 1552) ∧ (-1552 ≤ (land x y h t l).2 ∧ (land x y h t l).2 ≤ 1552) := by
  obtain ⟨hx, hy, hh, ht, _⟩ := jt_iff.1 hj
  have := tx_le hh ht
  have hn := (nN_le hj).2
  exact ⟨wy_le hx this.1 hn, wy_le hy this.2 hn⟩
theorem mul33 {n : Nat} {a : Int} (hn : n ≤ 33) (ha : -8 ≤ a ∧ a ≤ 8) : -264 ≤ (n : Int) * a ∧ (n : Int) * a ≤ 264 := by
  have h1 := Int.mul_le_mul_of_nonneg_left (c := (n : Int)) ha.1 (by omega)
  have h2 := Int.mul_le_mul_of_nonneg_left (c := (n : Int)) ha.2 (by omega)
  omega
theorem rose_in {ps : List (Int × Int)} (hr : rs ps = true) {p : Int × Int} (hp : p ∈ ps) : (-8 ≤ p.1 ∧ p.1 ≤ 8) ∧ (-8 ≤ p.2 ∧ p.2 ≤ 8) := by
  obtain ⟨k, hk, rfl⟩ := List.getElem_of_mem hp
  exact rs_each hr (List.getElem?_eq_getElem hk)
theorem wor_mem {ps : List (Int × Int)} (hr : rs ps = true) (k : Int) : wor k ps ∈ ps := wor_in (rs_len hr).1
theorem wor_le {ps : List (Int × Int)} (hr : rs ps = true) (k : Int) : (-8 ≤ (wor k ps).1 ∧ (wor k ps).1 ≤ 8) ∧ (-8 ≤ (wor k ps).2 ∧ (wor k ps).2 ≤ 8) := rose_in hr (wor_mem hr k)
theorem far_le {x y h t l : Int} {ps : List (Int × Int)} (hj : jt x y h t l = true) (hr : rs ps = true) (k : Int) : (-1816 ≤ (far x y h t l ps k).1 ∧ (far x y h t l ps k).1 ≤ 1816) ∧ (-1816 ≤ (far x y h t l ps k).2 ∧ (far x y h t l ps k).2 ≤ 1816) := by
  have h1 := land_le hj
  have h2 := wor_le hr k
  have h3 := mul33 (nN_le hj).2 h2.1
  have h4 := mul33 (nN_le hj).2 h2.2
  unfold far; simp only; omega
/-- What the worst drifts do, times the ticks. -/
theorem far_rel {ps : List (Int × Int)} (hr : rs ps = true) (n : Nat) (k : Int) : (n : Int) * (boxA ps).1 ≤ (n : Int) * (wor k ps).1 ∧ (n : Int) * (wor k ps).1 ≤ (n : Int) * (boxA ps).2.2.1 ∧ (n : Int) * (boxA ps).2.1 ≤ (n : Int) * (wor k ps).2 ∧ (n : Int) * (wor k ps).2 ≤ (n : Int) * (boxA ps).2.2.2 := by
  obtain ⟨a1, a2, a3, a4⟩ := in_box (wor_mem hr k)
  exact ⟨Int.mul_le_mul_of_nonneg_left a1 (by omega), Int.mul_le_mul_of_nonneg_left a3 (by omega), Int.mul_le_mul_of_nonneg_left a2 (by omega), Int.mul_le_mul_of_nonneg_left a4 (by omega)⟩
theorem far_box {x y h t l : Int} {ps : List (Int × Int)} (hr : rs ps = true) : boxA [far x y h t l ps 0, far x y h t l ps 1, far x y h t l ps 2, far x y h t l ps 3] = lbox x y h t l ps := by
  obtain ⟨s1, s2, s3, s4⟩ := sides (rs_len hr).1
  have r0 := far_rel hr (nN l) 0
  have r1 := far_rel hr (nN l) 1
  have r2 := far_rel hr (nN l) 2
  have r3 := far_rel hr (nN l) 3
  unfold lbox far
  rw [s1, s2, s3, s4] at *
  simp only [boxA, List.foldl, Bo.step, Bo.one, Prod.mk.injEq]
  omega
theorem lbox_le {x y h t l : Int} {ps : List (Int × Int)} (hj : jt x y h t l = true) (hr : rs ps = true) : ((-1816 ≤ (lbox x y h t l ps).1 ∧ (lbox x y h t l ps).1 ≤ 1816) ∧ (-1816 ≤ (lbox x y h t l ps).2.1 ∧ (lbox x y h t l ps).2.1 ≤ 1816)) ∧ (-1816 ≤ (lbox x y h t l ps).2.2.1 ∧ (lbox x y h t l ps).2.2.1 ≤ 1816) ∧ (-1816 ≤ (lbox x y h t l ps).2.2.2 ∧ (lbox x y h t l ps).2.2.2 ≤ 1816) := by
  obtain ⟨s1, s2, s3, s4⟩ := sides (rs_len hr).1
  have r0 := (far_le hj hr 0).1
  have r1 := (far_le hj hr 1).2
  have r2 := (far_le hj hr 2).1
  have r3 := (far_le hj hr 3).2
  unfold far at r0 r1 r2 r3
  unfold lbox
  rw [s1, s2, s3, s4]
  simp only at *
  omega

/-- How far a box goes in the direction of a heading. -/
def sideV (x y z u : Int) (k : Int) : Int := max (wv k (x, y)) (wv k (z, u))
/-- Whether a drop can land outside of a box, on the side of a heading. -/
def wetK (jx jy h t l : Int) (ps : List (Int × Int)) (x y z u : Int) (k : Nat) : Bool := decide (sideV x y z u (k : Int) < wv (k : Int) (far jx jy h t l ps (k : Int)))
/-- The first heading on whose side it can. -/
def wetH (jx jy h t l : Int) (ps : List (Int × Int)) (x y z u : Int) : Option Nat := [0, 1, 2, 3].find? (wetK jx jy h t l ps x y z u)
/-- Whether it can land in the box only. -/
def within (q : Q4) (x y z u : Int) : Bool := ib x y z u q.1 q.2.1 && ib x y z u q.2.2.1 q.2.2.2
theorem bx_iff {x y z u : Int} (h : bx x y z u = true) : x ≤ z ∧ y ≤ u := by
  unfold bx at h
  simp only [Bool.and_eq_true, decide_eq_true_eq] at h
  exact ⟨h.1.2, h.2⟩
theorem within_wet {jx jy h t l : Int} {ps : List (Int × Int)} {x y z u : Int} (hr : rs ps = true) (hb : bx x y z u = true) : within (lbox jx jy h t l ps) x y z u = (wetH jx jy h t l ps x y z u).isNone := by
  obtain ⟨s1, s2, s3, s4⟩ := sides (rs_len hr).1
  have r0 := far_rel hr (nN l) 0
  have r1 := far_rel hr (nN l) 1
  have r2 := far_rel hr (nN l) 2
  have r3 := far_rel hr (nN l) 3
  obtain ⟨b1, b2⟩ := bx_iff hb
  rw [s1, s2, s3, s4] at r0 r1 r2 r3
  have key : (wetH jx jy h t l ps x y z u).isNone = true ↔ within (lbox jx jy h t l ps) x y z u = true := by
    rw [Option.isNone_iff_eq_none]
    unfold wetH
    rw [List.find?_eq_none]
    simp only [List.mem_cons, List.not_mem_nil, or_false, forall_eq_or_imp, forall_eq]
    show (¬ decide (max x z < (land jx jy h t l).1 + (nN l : Int) * (wor 0 ps).1) = true ∧ ¬ decide (max y u < (land jx jy h t l).2 + (nN l : Int) * (wor 1 ps).2) = true ∧ ¬ decide (max (-x) (-z) < -((land jx jy h t l).1 + (nN l : Int) * (wor 2 ps).1)) = true ∧ ¬ decide (max (-y) (-u) < -((land jx jy h t l).2 + (nN l : Int) * (wor 3 ps).2)) = true) ↔ _
    unfold within lbox
    unfold ib
    rw [s1, s2, s3, s4, hb]
    simp only [Bool.true_and, Bool.and_eq_true, decide_eq_true_eq]
    generalize (nN l : Int) * (wor 0 ps).1 = a at *
    generalize (nN l : Int) * (wor 2 ps).1 = b at *
    generalize (nN l : Int) * (wor 1 ps).2 = c at *
    generalize (nN l : Int) * (wor 3 ps).2 = d at *
    omega
  cases e : within (lbox jx jy h t l ps) x y z u
  · cases e2 : (wetH jx jy h t l ps x y z u).isNone
    · rfl
    · rw [key.1 e2] at e; cases e
  · rw [key.2 e]
end Go.Proofs.Ytejeikfgmiadhaa.Fw10
