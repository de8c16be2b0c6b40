/- Numbers behind the law of a rose's sides. -/
import Derived.Test.YtknanaapaipoeaaRn
import Derived.Test.YtknanaapaipoeaaWz
namespace Go.Proofs.Ytknanaapaipoeaa.Rp
open Go.Proofs.Ytknanaapaipoeaa.Wm Go.Proofs.Ytknanaapaipoeaa.Sm Go.Proofs.Ytknanaapaipoeaa.Rs Go.Proofs.Ytknanaapaipoeaa.Rn Go.Proofs.Ytknanaapaipoeaa.Wx Go.Proofs.Ytknanaapaipoeaa.Wy Go.Proofs.Ytknanaapaipoeaa.Wz
open Go.Proofs.Ytknanaapaipoeaa.Bo (Q4 boxA)
set_option linter.unusedVariables false
set_option linter.unusedSimpArgs false

theorem wv0 (p : Int × Int) : wv 0 p = p.1 := rfl
theorem wv1 (p : Int × Int) : wv 1 p = p.2 := rfl
theorem wv2 (p : Int × Int) : wv 2 p = -p.1 := rfl
theorem wv3 (p : Int × Int) : wv 3 p = -p.2 := rfl
theorem fold_par (f : Q4 → Int) (g : Int × Int → Int) (h : Int) (H : ∀ q b p, f q = g b → f (Bo.step q p) = g (wstep h b p)) (ps : List (Int × Int)) :
    ∀ q b, f q = g b → f (ps.foldl Bo.step q) = g (ps.foldl (wstep h) b) := by
  induction ps with
  | nil => intro q b e; exact e
  | cons p ps ih => intro q b e; rw [List.foldl_cons, List.foldl_cons]; exact ih _ _ (H q b p e)
theorem box_side (f : Q4 → Int) (g : Int × Int → Int) (h : Int) (H : ∀ q b p, f q = g b → f (Bo.step q p) = g (wstep h b p)) (h1 : ∀ p, f (Bo.one p) = g p) {ps : List (Int × Int)} (hp : 1 ≤ ps.length) : f (boxA ps) = g (wor h ps) := by
  cases ps with
  | nil => simp at hp
  | cons p ps => exact fold_par f g h H ps _ _ (h1 p)
theorem sides {ps : List (Int × Int)} (hp : 1 ≤ ps.length) :
    (boxA ps).2.2.1 = (wor 0 ps).1 ∧ (boxA ps).2.2.2 = (wor 1 ps).2 ∧ (boxA ps).1 = (wor 2 ps).1 ∧ (boxA ps).2.1 = (wor 3 ps).2 := by
  refine ⟨box_side (fun q => q.2.2.1) (fun p => p.1) 0 ?_ (fun _ => rfl) hp, box_side (fun q => q.2.2.2) (fun p => p.2) 1 ?_ (fun _ => rfl) hp, box_side (fun q => q.1) (fun p => p.1) 2 ?_ (fun _ => rfl) hp, box_side (fun q => q.2.1) (fun p => p.2) 3 ?_ (fun _ => rfl) hp⟩
  · intro q b p e
    show max q.2.2.1 p.1 = (wstep 0 b p).1
    have e : q.2.2.1 = b.1 := e
    unfold wstep; rw [wv0, wv0]; split <;> omega
  · intro q b p e
    show max q.2.2.2 p.2 = (wstep 1 b p).2
    have e : q.2.2.2 = b.2 := e
    unfold wstep; rw [wv1, wv1]; split <;> omega
  · intro q b p e
    show min q.1 p.1 = (wstep 2 b p).1
    have e : q.1 = b.1 := e
    unfold wstep; rw [wv2, wv2]; split <;> omega
  · intro q b p e
    show min q.2.1 p.2 = (wstep 3 b p).2
    have e : q.2.1 = b.2 := e
    unfold wstep; rw [wv3, wv3]; split <;> omega

theorem fold_in {h : Int} (ps : List (Int × Int)) : ∀ b, ps.foldl (wstep h) b = b ∨ ps.foldl (wstep h) b ∈ ps := by
  induction ps with
  | nil => intro b; exact Or.inl rfl
  | cons p ps ih =>
    intro b
    rw [List.foldl_cons]
    rcases ih (wstep h b p) with e | e
    · rw [e]
      unfold wstep
      split
      · exact Or.inr (List.mem_cons_self ..)
      · exact Or.inl rfl
    · exact Or.inr (List.mem_cons_of_mem _ e)
theorem wor_in {h : Int} {ps : List (Int × Int)} (hp : 1 ≤ ps.length) : wor h ps ∈ ps := by
  cases ps with
  | nil => simp at hp
  | cons p ps =>
    rcases fold_in (h := h) ps p with e | e
    · show ps.foldl (wstep h) p ∈ p :: ps
      rw [e]; exact List.mem_cons_self ..
    · exact List.mem_cons_of_mem _ e

/-- The wind of one drift fits. -/
theorem one_fits {ps : List (Int × Int)} (hq : rosy ps) {x y : Int} (h : (x, y) ∈ ps) : fitting ps [(0, x, y)] := by
  have hs := hq.2.2.2 _ h
  unfold small at hs
  refine ⟨?_, Nat.le_refl _, fun z hz => ?_, fun z hz => ?_⟩
  · have := Dw.wd_snoc (zs := []) (t := 0) (x := x) (y := y) rfl (fun z hz => by cases hz) (by omega) (dk_iff.2 (by simp only at hs; omega)) (by decide)
    exact this
  · have hz : (0, x, y) = z := by simpa using hz
    subst hz; rfl
  · rw [List.mem_singleton] at hz; subst hz; exact h
theorem fits_at {ps : List (Int × Int)} {zs : List G} (hq : rosy ps) (h : fitting ps zs) {m : Nat} (hm : m ≤ 128) : fr zs ps (m : Int) = true := by
  rw [fr_yes h.1 (rosy_rs hq) (by omega)]
  unfold fUp
  rw [List.all_eq_true]
  intro j _
  exact decide_eq_true (dr_in h (by omega))
theorem one_sum (x y : Int) (m : Nat) : sum2 (drs [(0, x, y)] 0 m) = ((m : Int) * x, (m : Int) * y) := by
  induction m with
  | zero => simp [drs, sum2]
  | succ m ih =>
    rw [drs_snoc, sum2_snoc, ih, Nat.zero_add]
    have e : dr [(0, x, y)] (m : Int) = (x, y) := by
      show (if (0 : Int) ≤ (m : Int) then (x, y) else (0, 0)) = (x, y)
      rw [if_pos (by omega)]
    rw [e]
    have k : ∀ z : Int, ((m + 1 : Nat) : Int) * z = (m : Int) * z + z := fun z => by
      have : ((m + 1 : Nat) : Int) = (m : Int) + 1 := by omega
      rw [this, Int.add_mul, Int.one_mul]
    unfold Wm.plus
    rw [k, k]

end Go.Proofs.Ytknanaapaipoeaa.Rp
