/- Numbers behind FnAllDrops, FnWater and FnHigh. -/
import Derived.Test.YtokncfhpmjohdabGreatM25
import Derived.Test.YtokncfhpmjohdabGreatM31
import Derived.Test.YtokncfhpmjohdabGreatM29
import Derived.Test.YtokncfhpmjohdabGreatM16
import Derived.Test.YtokncfhpmjohdabGreatM21
set_option linter.unusedVariables false
set_option linter.unusedSimpArgs false
namespace Go.Proofs.YtokncfhpmjohdabGreat.Na11
open Go.Proofs.YtokncfhpmjohdabGreat.Sv hiding D C G
open Go.Proofs.YtokncfhpmjohdabGreat.Tn9 Go.Proofs.YtokncfhpmjohdabGreat.Pd9
open Go.Proofs.YtokncfhpmjohdabGreat.Lw9 (dpL dpV)
open Go.Proofs.YtokncfhpmjohdabGreat.Lp9 (ldV)
open Go.Proofs.YtokncfhpmjohdabGreat.Dm (tot tot_append dm)
open Go.Proofs.YtokncfhpmjohdabGreat.Dn (tot_set)
open Go.Proofs.YtokncfhpmjohdabGreat.Ig (rig)
open Go.Proofs.YtokncfhpmjohdabGreat.Jt (jt jt_iff)
open Go.Proofs.YtokncfhpmjohdabGreat.Dp (ha)
set_option linter.unusedVariables false
set_option linter.unusedSimpArgs false

abbrev D := Dd.D
abbrev C := Cd.C
abbrev G := Int × Int × Int

theorem cnt_cons (p : B → Bool) (z : B) (zs : List B) : cnt p (z :: zs) = (if p z then 1 else 0) + cnt p zs := by
  unfold cnt
  rw [List.filter_cons]
  cases p z <;> simp <;> omega
theorem dpL_len (gs : List G) (t : Int) (zs : List B) : ((dpL gs t zs).length : Int) = cnt (fun z => inA z t) zs := by
  unfold dpL cnt; rw [List.length_map]
/-- Each drop that was thrown is in the air or has landed. -/
theorem cnt_split {t : Int} : ∀ {zs : List B}, (∀ z ∈ zs, 0 ≤ z.l) → cnt (thP t) zs = cnt (fun z => inA z t) zs + cnt (laP t) zs
  | [], _ => rfl
  | z :: zs, h => by
    have h1 := h z (List.mem_cons_self ..)
    have ih := cnt_split (t := t) (zs := zs) fun y hy => h y (List.mem_cons_of_mem _ hy)
    rw [cnt_cons, cnt_cons, cnt_cons, ih]
    unfold thP laP
    by_cases c : (z.b : Int) ≤ t
    · by_cases d : t < z.b + (z.l + 1)
      · rw [inA_yes ⟨c, d⟩, decide_eq_true c, decide_eq_false (by omega)]; simp; omega
      · rw [inA_no (by omega), decide_eq_true c, decide_eq_true (by omega)]; simp; omega
    · rw [inA_no (by omega), decide_eq_false c, decide_eq_false (by omega)]; simp
theorem cnt_none {p : B → Bool} : ∀ {zs : List B}, (∀ z ∈ zs, p z = false) → cnt p zs = 0
  | [], _ => rfl
  | z :: zs, h => by
    rw [cnt_cons, h z (List.mem_cons_self ..), cnt_none fun y hy => h y (List.mem_cons_of_mem _ hy)]; rfl
theorem cnt_all {p : B → Bool} : ∀ {zs : List B}, (∀ z ∈ zs, p z = true) → cnt p zs = zs.length
  | [], _ => rfl
  | z :: zs, h => by
    rw [cnt_cons, h z (List.mem_cons_self ..), cnt_all fun y hy => h y (List.mem_cons_of_mem _ hy), List.length_cons]; simp; omega
theorem z_l {ds : List D} {cs : List C} {gs : List G} {T : Int} : ∀ z ∈ all9 ds cs gs T, 0 ≤ z.l ∧ z.l ≤ 32 := fun z h => by
  have := (jt_iff.1 (z_in h).1).2.2.2.2
  omega
theorem z_b {ds : List D} {cs : List C} {gs : List G} {T : Int} : ∀ z ∈ all9 ds cs gs T, (z.b : Int) < T := fun z h => by
  cases hs : show9 ds cs gs T
  · rw [all9_no hs] at h; cases h
  · rw [all9_yes hs] at h
    have := (all_ok (show_iff.1 hs).1 T.toNat z h).2
    omega
theorem thrown_split (ds : List D) (cs : List C) (gs : List G) (T t : Int) : cnt (thP t) (all9 ds cs gs T) = ((dpV ds cs gs T t).length : Int) + cnt (laP t) (all9 ds cs gs T) := by
  unfold dpV; rw [dpL_len]; exact cnt_split fun z h => (z_l z h).1
theorem thrown_neg (ds : List D) (cs : List C) (gs : List G) (T : Int) : cnt (thP (-1)) (all9 ds cs gs T) = 0 := cnt_none fun z _ => decide_eq_false (by omega)
theorem landed_zero (ds : List D) (cs : List C) (gs : List G) (T : Int) : cnt (laP 0) (all9 ds cs gs T) = 0 := cnt_none fun z h => decide_eq_false (by have := z_l z h; omega)
theorem thrown_all (ds : List D) (cs : List C) (gs : List G) (T : Int) : cnt (thP T) (all9 ds cs gs T) = (ldV ds cs gs T).length := by
  unfold ldV; rw [List.length_map]; exact cnt_all fun z h => decide_eq_true (by have := z_b z h; omega)
theorem landed_all (ds : List D) (cs : List C) (gs : List G) (T : Int) : cnt (laP 200) (all9 ds cs gs T) = (ldV ds cs gs T).length := by
  unfold ldV; rw [List.length_map]; exact cnt_all fun z h => decide_eq_true (by have := z_l z h; have := (z_in h).2; omega)
theorem drops_late (ds : List D) (cs : List C) (gs : List G) (T : Int) : (dpV ds cs gs T 200).length = 0 := by
  have h1 := thrown_split ds cs gs T 200
  have h2 := landed_all ds cs gs T
  have h3 : cnt (thP 200) (all9 ds cs gs T) ≤ (all9 ds cs gs T).length := (cnt_le _ _).2
  unfold ldV at h2
  rw [List.length_map] at h2
  omega
theorem thrown_le (ds : List D) (cs : List C) (gs : List G) (T t : Int) : 0 ≤ cnt (thP t) (all9 ds cs gs T) ∧ cnt (thP t) (all9 ds cs gs T) ≤ (ldV ds cs gs T).length := by
  unfold ldV; rw [List.length_map]; exact cnt_le _ _
theorem landed_le (ds : List D) (cs : List C) (gs : List G) (T t : Int) : 0 ≤ cnt (laP t) (all9 ds cs gs T) ∧ cnt (laP t) (all9 ds cs gs T) ≤ (ldV ds cs gs T).length := by
  unfold ldV; rw [List.length_map]; exact cnt_le _ _

/-- The water of a row of drops is the sum of its lifts. -/
theorem wat_row {ds : List D} {L : List Int} (hl : L.length = ds.length) (t : Nat) : ∀ i, i ≤ ds.length → wat (rowK ds L t i) = tot (L.take i)
  | 0, _ => rfl
  | i + 1, h => by
    have hd : ds[i]? = some ds[i] := List.getElem?_eq_getElem (by omega)
    have hx : L[i]? = some L[i] := List.getElem?_eq_getElem (by omega)
    have ih := wat_row hl t i (by omega)
    rw [List.take_succ_eq_append_getElem (by omega), tot_append]
    by_cases c : L[i] = 0
    · rw [row_no hd hx c, ih, c]; simp [tot]
    · rw [row_yes hd hx c, wat_app, ih]; rfl
/-- The lifts of the first ticks. -/
noncomputable def wsum (ds : List D) (cs : List C) (T : Int) : Nat → Int
  | 0 => 0
  | t + 1 => wsum ds cs T t + tot (lifts ds cs T (t : Int))
theorem wat_all (ds : List D) (cs : List C) (T : Int) : ∀ t, wat (allK ds cs T t) = wsum ds cs T t
  | 0 => rfl
  | t + 1 => by
    rw [allK, wat_app, wat_all ds cs T t, wat_row (lifts_len ds cs T _) t _ (Nat.le_refl _), wsum, List.take_of_length_le (by rw [lifts_len]; omega)]
theorem wat_show {ds : List D} {cs : List C} {gs : List G} {T : Int} (h : show9 ds cs gs T = true) : wat (all9 ds cs gs T) = wsum ds cs T T.toNat := by
  rw [all9_yes h, wat_all]

/-- What the first pumps of a rig give at most. -/
def mostK (ds : List D) : Nat → Int
  | 0 => 0
  | k + 1 => match ds[k]? with
    | some d => if d.kd = 1 then mostK ds k + d.ms else mostK ds k
    | none => mostK ds k
theorem most_yes {ds : List D} {k : Nat} {d : D} (h : ds[k]? = some d) (c : d.kd = 1) : mostK ds (k + 1) = mostK ds k + d.ms := by rw [mostK, h]; exact if_pos c
theorem most_no {ds : List D} {k : Nat} {d : D} (h : ds[k]? = some d) (c : d.kd ≠ 1) : mostK ds (k + 1) = mostK ds k := by rw [mostK, h]; exact if_neg c
theorem most_le {ds : List D} (hr : rig ds = true) : ∀ k, 0 ≤ mostK ds k ∧ mostK ds k ≤ 512 * (k : Int)
  | 0 => ⟨Int.le_refl _, Int.le_refl _⟩
  | k + 1 => by
    have ih := most_le hr k
    rw [mostK]
    split
    · rename_i d hd
      split
      · rename_i c
        have := (pump_ms hr (List.mem_of_getElem? hd) c)
        omega
      · omega
    · omega
def NN (o : List Int) : Prop := ∀ x ∈ o, 0 ≤ x
theorem nn_ok {ds : List D} {o : List Int} (h : LiftOk ds o) : NN o := fun x hx => by
  obtain ⟨j, hj, rfl⟩ := List.getElem_of_mem hx
  rcases h j _ (List.getElem?_eq_getElem hj) with e | ⟨a, _⟩
  · omega
  · exact a
theorem put_tot : ∀ (o : List Int) (l : List Nat) (xs : List Int), NN o → NN xs → tot (put o l xs) ≤ tot o + tot xs
  | o, [], [], _, _ => by rw [put_nil]; show tot o ≤ tot o + 0; omega
  | o, [], x :: xs, h, k => by
    have := put_tot o [] xs h fun y hy => k y (List.mem_cons_of_mem _ hy)
    have h1 := k x (List.mem_cons_self ..)
    rw [put_nil] at *
    show tot o ≤ tot o + (x + tot xs); omega
  | o, i :: l, [], h, _ => by show tot o ≤ tot o + 0; omega
  | o, i :: l, x :: xs, h, k => by
    have h1 := k x (List.mem_cons_self ..)
    have hs : NN (o.set i x) := fun y hy => by
      rcases List.mem_or_eq_of_mem_set hy with e | e
      · exact h y e
      · omega
    have ih := put_tot (o.set i x) l xs hs fun y hy => k y (List.mem_cons_of_mem _ hy)
    rw [put]
    show _ ≤ tot o + (x + tot xs)
    have h2 : tot (o.set i x) ≤ tot o + x := by
      by_cases c : i < o.length
      · have := tot_set o i x o[i] (List.getElem?_eq_getElem c)
        have := h _ (List.getElem_mem c)
        omega
      · rw [List.set_eq_of_length_le (by omega)]; omega
    omega
theorem share_nn {ds : List D} {cs : List C} {t : Int} (hr : rig ds = true) {p : D} (hp : p ∈ ds) (hk : p.kd = 1) :
    NN (Dm.share p.ms (wants ds cs t (hang p.nm ds 0))) ∧ tot (Dm.share p.ms (wants ds cs t (hang p.nm ds 0))) ≤ p.ms := by
  have hd := wants_dm (cs := cs) (t := t) hr hp hk
  have hm := pump_ms hr hp hk
  have h1 := Dn.share_facts hd hm.1 hm.2
  refine ⟨fun x hx => ?_, by rw [h1.2.1]; omega⟩
  obtain ⟨j, hj, rfl⟩ := List.getElem_of_mem hx
  have hs := (Dm.sh_iff.1 (Dn.share_sh hd hm.1 hm.2)).2 j (by rw [← h1.1]; exact hj)
  obtain ⟨z, s, _, e, h0, _⟩ := hs
  rw [List.getElem?_eq_getElem hj] at e
  injection e with e
  omega
theorem liftK_tot {ds : List D} (cs : List C) (t : Int) (hr : rig ds = true) : ∀ k, k ≤ ds.length → tot (liftK ds cs t k) ≤ mostK ds k
  | 0, _ => by
    rw [liftK_zero]
    have : ∀ n, tot (List.replicate n (0 : Int)) = 0 := fun n => by
      induction n with
      | zero => rfl
      | succ n ih => rw [List.replicate_succ, tot, ih]; rfl
    rw [this]; exact Int.le_refl _
  | k + 1, h => by
    have e : ds[k]? = some ds[k] := List.getElem?_eq_getElem (by omega)
    have ih := liftK_tot cs t hr k (by omega)
    have hp := List.mem_of_getElem? e
    rw [liftK_succ e]
    unfold stepL
    by_cases c : ds[k].kd = 1
    · rw [if_pos c, most_yes e c]
      have h1 := share_nn (cs := cs) (t := t) hr hp c
      have h2 := put_tot (liftK ds cs t k) (hang ds[k].nm ds 0) _ (nn_ok (ok_liftK cs t hr k (by omega))) h1.1
      omega
    · rw [if_neg c, most_no e c]; exact ih
theorem lifts_tot {ds : List D} (cs : List C) (T t : Int) (hr : rig ds = true) : 0 ≤ tot (lifts ds cs T t) ∧ tot (lifts ds cs T t) ≤ mostK ds ds.length := by
  have hn : NN (lifts ds cs T t) := nn_ok (ok_lifts cs T t hr)
  have h0 : ∀ l : List Int, NN l → 0 ≤ tot l := fun l => by
    induction l with
    | nil => intro _; exact Int.le_refl _
    | cons x l ih =>
      intro h
      have := h x (List.mem_cons_self ..)
      have := ih fun y hy => h y (List.mem_cons_of_mem _ hy)
      show 0 ≤ x + tot l; omega
  refine ⟨h0 _ hn, ?_⟩
  by_cases c : 0 ≤ t ∧ t < T
  · rw [lifts_in c]; exact liftK_tot cs t hr _ (Nat.le_refl _)
  · rw [lifts_out c]
    have : ∀ n, tot (List.replicate n (0 : Int)) = 0 := fun n => by
      induction n with
      | zero => rfl
      | succ n ih => rw [List.replicate_succ, tot, ih]; rfl
    rw [this]; exact (most_le hr _).1
theorem wsum_le {ds : List D} (cs : List C) (T : Int) (hr : rig ds = true) : ∀ t : Nat, 0 ≤ wsum ds cs T t ∧ wsum ds cs T t ≤ mostK ds ds.length * (t : Int)
  | 0 => ⟨Int.le_refl _, by show (0 : Int) ≤ _ * ((0 : Nat) : Int); simp⟩
  | t + 1 => by
    have ih := wsum_le cs T hr t
    have h := lifts_tot cs T (t : Int) hr
    rw [wsum, Int.natCast_add, Int.mul_add]
    show 0 ≤ _ ∧ _ ≤ _ + mostK ds ds.length * 1
    omega
end Go.Proofs.YtokncfhpmjohdabGreat.Na11
