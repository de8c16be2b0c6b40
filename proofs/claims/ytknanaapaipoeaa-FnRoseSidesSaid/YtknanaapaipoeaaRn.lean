/- Numbers behind the laws of roses. -/
import Derived.Test.YtknanaapaipoeaaRs
import Derived.Test.YtknanaapaipoeaaWy
import Derived.Test.YtknanaapaipoeaaWx
import Derived.Test.YtknanaapaipoeaaBxi
namespace Go.Proofs.Ytknanaapaipoeaa.Rn
open Go.Proofs.Ytknanaapaipoeaa.Wm Go.Proofs.Ytknanaapaipoeaa.Sm Go.Proofs.Ytknanaapaipoeaa.Rs Go.Proofs.Ytknanaapaipoeaa.Wx Go.Proofs.Ytknanaapaipoeaa.Wy
open Go.Proofs.Ytknanaapaipoeaa.Bo (Q4 boxA)
open Go.Proofs.Ytknanaapaipoeaa.Wr (roAt roUp ro_first ro_next roUp_succ rs_fin)
set_option linter.unusedVariables false
set_option linter.unusedSimpArgs false

theorem rosy_rs {ps : List (Int × Int)} (h : rosy ps) : Wr.rs ps = true := by
  obtain ⟨h1, h4, hp, hs⟩ := h
  have hd : ∀ p ∈ ps, dk p.1 p.2 = true := fun p hm => dk_iff.2 (by have := hs p hm; unfold small at this; omega)
  have key : ∀ k, k ≤ ps.length → roUp ps k = true := by
    intro k
    induction k with
    | zero => intro _; rfl
    | succ k ih =>
      intro hk
      rw [roUp_succ, ih (by omega), Bool.true_and]
      have hz : ps[k]? = some (ps[k]'(by omega)) := List.getElem?_eq_getElem _
      have hdz := hd _ (List.getElem_mem (h := (by omega : k < ps.length)))
      by_cases h0 : k = 0
      · subst h0; exact ro_first hz hdz
      · have hq : ps[k - 1]? = some (ps[k - 1]'(by omega)) := List.getElem?_eq_getElem _
        rw [ro_next hz hdz h0 hq]
        have := (List.pairwise_iff_getElem.1 hp) (k - 1) k (by omega) (by omega) (by omega)
        exact this
  rw [rs_fin rfl (key _ (Nat.le_refl _)), decide_eq_true h1, decide_eq_true h4]; rfl

theorem dr_in {ps : List (Int × Int)} {zs : List G} (h : fitting ps zs) {t : Int} (ht : 0 ≤ t) : dr zs t ∈ ps := by
  obtain ⟨_, h1, h0, hm⟩ := h
  have key : ∀ k, 1 ≤ k → k ≤ zs.length → dr (zs.take k) t ∈ ps := by
    intro k
    induction k with
    | zero => intro h; omega
    | succ k ih =>
      intro _ hk
      have hz : zs[k]? = some (zs[k]'(by omega)) := List.getElem?_eq_getElem _
      rw [dr_take hz]
      by_cases hk0 : k = 0
      · subst hk0
        have := h0 _ hz
        rw [if_pos (by omega)]
        exact hm _ (List.getElem_mem _)
      · split
        · exact hm _ (List.getElem_mem _)
        · exact ih (by omega) (by omega)
  have := key zs.length h1 (Nat.le_refl _)
  rwa [List.take_length] at this

theorem fitting_fr {ps : List (Int × Int)} {zs : List G} (hq : rosy ps) (h : fitting ps zs) : fr zs ps 128 = true := by
  rw [fr_yes h.1 (rosy_rs hq) (by decide)]
  show fUp zs ps 128 = true
  unfold fUp
  rw [List.all_eq_true]
  intro j _
  exact decide_eq_true (dr_in h (by omega))

def inQ (q : Q4) (p : Int × Int) : Prop := q.1 ≤ p.1 ∧ q.2.1 ≤ p.2 ∧ p.1 ≤ q.2.2.1 ∧ p.2 ≤ q.2.2.2
theorem in_step (ps : List (Int × Int)) : ∀ q : Q4, ((ps.foldl Bo.step q).1 ≤ q.1 ∧ (ps.foldl Bo.step q).2.1 ≤ q.2.1 ∧ q.2.2.1 ≤ (ps.foldl Bo.step q).2.2.1 ∧ q.2.2.2 ≤ (ps.foldl Bo.step q).2.2.2) ∧ ∀ p ∈ ps, inQ (ps.foldl Bo.step q) p := by
  induction ps with
  | nil => intro q; exact ⟨⟨Int.le_refl _, Int.le_refl _, Int.le_refl _, Int.le_refl _⟩, fun p h => by cases h⟩
  | cons a ps ih =>
    intro q
    rw [List.foldl_cons]
    obtain ⟨⟨a1, a2, a3, a4⟩, h⟩ := ih (Bo.step q a)
    generalize ps.foldl Bo.step (Bo.step q a) = F at *
    have e1 : (Bo.step q a).1 = min q.1 a.1 := rfl
    have e2 : (Bo.step q a).2.1 = min q.2.1 a.2 := rfl
    have e3 : (Bo.step q a).2.2.1 = max q.2.2.1 a.1 := rfl
    have e4 : (Bo.step q a).2.2.2 = max q.2.2.2 a.2 := rfl
    rw [e1] at a1; rw [e2] at a2; rw [e3] at a3; rw [e4] at a4
    refine ⟨⟨by omega, by omega, by omega, by omega⟩, fun p hp => ?_⟩
    rcases List.mem_cons.1 hp with e | e
    · subst e
      exact ⟨by omega, by omega, by omega, by omega⟩
    · exact h p e
theorem in_box {ps : List (Int × Int)} {p : Int × Int} (h : p ∈ ps) : inQ (boxA ps) p := by
  cases ps with
  | nil => cases h
  | cons a ps =>
    obtain ⟨⟨a1, a2, a3, a4⟩, k⟩ := in_step ps (Bo.one a)
    rcases List.mem_cons.1 h with e | e
    · subst e; exact ⟨a1, a2, a3, a4⟩
    · exact k p e
theorem sum_in {ps : List (Int × Int)} {zs : List G} (h : fitting ps zs) (m : Nat) : inQ (sq (m : Int) (boxA ps)) (sum2 (drs zs 0 m)) := by
  induction m with
  | zero => simp [drs, sum2, sq, inQ]
  | succ m ih =>
    rw [drs_snoc, sum2_snoc, Nat.zero_add]
    have hb := in_box (dr_in h (t := (m : Int)) (by omega))
    generalize boxA ps = q at *
    generalize sum2 (drs zs 0 m) = s at *
    generalize dr zs (m : Int) = d at *
    obtain ⟨q1, q2, q3, q4⟩ := q
    unfold inQ sq at *
    unfold Wm.plus
    simp only at *
    have e : ∀ x : Int, ((m + 1 : Nat) : Int) * x = (m : Int) * x + x := fun x => by
      have : ((m + 1 : Nat) : Int) = (m : Int) + 1 := by omega
      rw [this, Int.add_mul, Int.one_mul]
    rw [e, e, e, e]
    omega

theorem in_is {ps : List (Int × Int)} {zs : List G} (hq : rosy ps) (h : fitting ps zs) (m : Nat) (hm : m ≤ 40) :
    Bxi.ib (sq (m : Int) (boxA ps)).1 (sq (m : Int) (boxA ps)).2.1 (sq (m : Int) (boxA ps)).2.2.1 (sq (m : Int) (boxA ps)).2.2.2 (sum2 (drs zs 0 m)).1 (sum2 (drs zs 0 m)).2 = true := by
  obtain ⟨a1, a2, a3, a4⟩ := sum_in h m
  have hn := box_near (D := 8) (by decide) (near_rs (rosy_rs hq))
  unfold inB at hn
  have b1 := mul_bound (t := (m : Int)) (by omega) hn.1
  have b2 := mul_bound (t := (m : Int)) (by omega) hn.2.1
  have b3 := mul_bound (t := (m : Int)) (by omega) hn.2.2.1
  have b4 := mul_bound (t := (m : Int)) (by omega) hn.2.2.2
  have e1 : (sq (m : Int) (boxA ps)).1 = (m : Int) * (boxA ps).1 := rfl
  have e2 : (sq (m : Int) (boxA ps)).2.1 = (m : Int) * (boxA ps).2.1 := rfl
  have e3 : (sq (m : Int) (boxA ps)).2.2.1 = (m : Int) * (boxA ps).2.2.1 := rfl
  have e4 : (sq (m : Int) (boxA ps)).2.2.2 = (m : Int) * (boxA ps).2.2.2 := rfl
  rw [← e1] at b1; rw [← e2] at b2; rw [← e3] at b3; rw [← e4] at b4
  generalize sq (m : Int) (boxA ps) = q at *
  generalize sum2 (drs zs 0 m) = s at *
  unfold Bxi.ib Bxi.bx
  rw [Cm.ms_yes (by omega) (by omega), Cm.ms_yes (by omega) (by omega), Cm.ms_yes (by omega) (by omega), Cm.ms_yes (by omega) (by omega), decide_eq_true (show q.1 ≤ q.2.2.1 by omega), decide_eq_true (show q.2.1 ≤ q.2.2.2 by omega), decide_eq_true a1, decide_eq_true a2, decide_eq_true a3, decide_eq_true a4]
  rfl

end Go.Proofs.Ytknanaapaipoeaa.Rn
