/- Numbers behind FnHigh. -/
import Derived.Test.YtokncfhpmjohdabGreatNa11
set_option linter.unusedVariables false
set_option linter.unusedSimpArgs false
namespace Go.Proofs.YtokncfhpmjohdabGreat.Nh11
open Go.Proofs.YtokncfhpmjohdabGreat.Sv hiding D C G
open Go.Proofs.YtokncfhpmjohdabGreat.Tn9 Go.Proofs.YtokncfhpmjohdabGreat.Pd9
open Go.Proofs.YtokncfhpmjohdabGreat.Na11
open Go.Proofs.YtokncfhpmjohdabGreat.Lw9 (dpL dpV)
open Go.Proofs.YtokncfhpmjohdabGreat.Lp9 (ldV)
open Go.Proofs.YtokncfhpmjohdabGreat.Ig (rig)
open Go.Proofs.YtokncfhpmjohdabGreat.Jt (jt jt_iff)
open Go.Proofs.YtokncfhpmjohdabGreat.Dp (ha)
open Go.Proofs.YtokncfhpmjohdabGreat.Dp
open Go.Proofs.YtokncfhpmjohdabGreat.Ja9 (jaV jaN jaN_at)
open Go.Proofs.YtokncfhpmjohdabGreat.La9 (laV laV_yes)
set_option linter.unusedVariables false
set_option linter.unusedSimpArgs false

theorem hg_top {l : Int} (h0 : 0 ≤ l) (k : Nat) : hg l k ≤ hg l ((l + 1) / 2).toNat := by
  have hp : ((((l + 1) / 2).toNat : Nat) : Int) = (l + 1) / 2 := by omega
  have hd := hg_diff l ((l + 1) / 2).toNat k
  rw [hp] at hd
  have : 0 ≤ ((l + 1) / 2 - (k : Int)) * (l + 1 - (l + 1) / 2 - (k : Int)) := by
    by_cases c : (k : Int) ≤ (l + 1) / 2
    · exact Int.mul_nonneg (by omega) (by omega)
    · exact Int.mul_nonneg_of_nonpos_of_nonpos (by omega) (by omega)
  omega
theorem ph_eq {z : B} (hj : jt z.d.x z.d.y z.d.hd z.d.tl z.l = true) : ph z = hg z.l ((z.l + 1) / 2).toNat := by
  have := (jt_iff.1 hj).2.2.2.2
  unfold ph
  rw [pk_yes hj, ha_in hj (by omega)]
theorem ph_nonneg {z : B} (hj : jt z.d.x z.d.y z.d.hd z.d.tl z.l = true) : 0 ≤ ph z := by
  have := (jt_iff.1 hj).2.2.2.2
  rw [ph_eq hj]; exact hg_nonneg (by omega)
theorem fold_ge (zs : List B) : ∀ n : Int, n ≤ zs.foldl (fun n z => max n (ph z)) n ∧ ∀ z ∈ zs, ph z ≤ zs.foldl (fun n z => max n (ph z)) n := by
  induction zs with
  | nil => intro n; exact ⟨Int.le_refl _, fun z h => by cases h⟩
  | cons a zs ih =>
    intro n
    rw [List.foldl_cons]
    have := ih (max n (ph a))
    refine ⟨by omega, fun z h => ?_⟩
    rcases List.mem_cons.1 h with e | e
    · subst e; omega
    · exact this.2 z e
theorem fold_at (zs : List B) : ∀ n : Int, zs.foldl (fun n z => max n (ph z)) n = n ∨ ∃ z ∈ zs, ph z = zs.foldl (fun n z => max n (ph z)) n := by
  induction zs with
  | nil => intro n; exact Or.inl rfl
  | cons a zs ih =>
    intro n
    rw [List.foldl_cons]
    rcases ih (max n (ph a)) with e | ⟨z, h1, h2⟩
    · rw [e]
      by_cases c : n ≤ ph a
      · exact Or.inr ⟨a, List.mem_cons_self .., by omega⟩
      · exact Or.inl (by omega)
    · exact Or.inr ⟨z, List.mem_cons_of_mem _ h1, h2⟩
theorem hi_ge {zs : List B} {z : B} (h : z ∈ zs) : ph z ≤ hi9 zs := (fold_ge zs 0).2 z h
theorem hi_at {zs : List B} (hn : zs ≠ []) (hj : ∀ z ∈ zs, 0 ≤ ph z) : ∃ z ∈ zs, ph z = hi9 zs := by
  rcases fold_at zs 0 with e | h
  · cases zs with
    | nil => exact absurd rfl hn
    | cons a zs =>
      refine ⟨a, List.mem_cons_self .., ?_⟩
      have h1 := hi_ge (List.mem_cons_self (a := a) (l := zs))
      have h2 := hj a (List.mem_cons_self ..)
      have e : hi9 (a :: zs) = 0 := e
      omega
  · exact h
/-- No drop is above the greatest height. -/
theorem drop_high {ds : List D} {cs : List C} {gs : List G} {T t : Int} {p : P} (h : p ∈ dpV ds cs gs T t) : 0 ≤ p.h ∧ p.h ≤ hi9 (all9 ds cs gs T) := by
  unfold dpV dpL at h
  obtain ⟨z, hz, rfl⟩ := List.mem_map.1 h
  obtain ⟨h1, h2⟩ := List.mem_filter.1 hz
  have hj := (z_in h1).1
  have ha := inA_iff.1 h2
  have hp := hi_ge h1
  rw [ph_eq hj] at hp
  have hl := (jt_iff.1 hj).2.2.2.2
  unfold tell
  show 0 ≤ Dp.ha z.d.x z.d.y z.d.hd z.d.tl z.l _ ∧ Dp.ha z.d.x z.d.y z.d.hd z.d.tl z.l _ ≤ _
  rw [show ((t.toNat : Nat) : Int) - z.b = (((t - z.b).toNat : Nat) : Int) by omega, ha_in hj (by omega)]
  exact ⟨hg_nonneg (by omega), Int.le_trans (hg_top (by omega) _) hp⟩
theorem row_at {ds : List D} {L : List Int} {t : Nat} {z : B} : ∀ i, z ∈ rowK ds L t i → ∃ j, j < i ∧ ds[j]? = some z.d ∧ L[j]? = some z.l ∧ z.l ≠ 0 ∧ z.b = t
  | 0, h => by cases h
  | i + 1, h => by
    rw [rowK] at h
    split at h
    · rename_i d x hd hx
      split at h
      · obtain ⟨j, a, b⟩ := row_at i h; exact ⟨j, by omega, b⟩
      · rename_i hne
        rcases List.mem_append.1 h with h | h
        · obtain ⟨j, a, b⟩ := row_at i h; exact ⟨j, by omega, b⟩
        · rw [List.mem_singleton] at h; subst h
          exact ⟨i, by omega, hd, hx, hne, rfl⟩
    · obtain ⟨j, a, b⟩ := row_at i h; exact ⟨j, by omega, b⟩
theorem all_at {ds : List D} {cs : List C} {T : Int} {z : B} : ∀ t, z ∈ allK ds cs T t → z.b < t ∧ z ∈ rowK ds (lifts ds cs T (z.b : Int)) z.b ds.length
  | 0, h => by cases h
  | t + 1, h => by
    rw [allK] at h
    rcases List.mem_append.1 h with h | h
    · have := all_at t h; exact ⟨by omega, this.2⟩
    · obtain ⟨j, _, _, _, _, e⟩ := row_at _ h
      rw [e]
      exact ⟨by omega, h⟩
/-- A drop that is thrown is thrown by a device, at a tick of the show. -/
theorem thrown_at {ds : List D} {cs : List C} {gs : List G} {T : Int} {z : B} (h : z ∈ all9 ds cs gs T) :
    (z.b : Int) < T ∧ ∃ j : Nat, ds[j]? = some z.d ∧ (laV ds cs gs T (z.b : Int))[j]? = some z.l ∧ jaV ds cs gs T z.d.nm (z.b : Int) = some (z.d, z.l) := by
  cases hs : show9 ds cs gs T
  · rw [all9_no hs] at h; cases h
  rw [all9_yes hs] at h
  obtain ⟨h1, h2⟩ := all_at _ h
  obtain ⟨j, _, hd, hx, hne, _⟩ := row_at _ h2
  obtain ⟨_, ho, _⟩ := Rz.rig_set.1 (Ig.rig_of (show_iff.1 hs).1)
  refine ⟨by omega, j, hd, by rw [laV_yes _ hs]; exact hx, ?_⟩
  unfold jaV
  rw [laV_yes _ hs, jaN_at z.d.nm ds _ j z.d z.l ho hd (sb_ref _) hx, if_neg hne]
/-- The greatest height is one of a jet, unless no drop is thrown. -/
theorem high_found {ds : List D} {cs : List C} {gs : List G} {T : Int} (hn : ldV ds cs gs T ≠ []) :
    ∃ (k j : Nat) (d : D) (l : Int), (k : Int) < T ∧ ds[j]? = some d ∧ jaV ds cs gs T d.nm (k : Int) = some (d, l) ∧ jt d.x d.y d.hd d.tl l = true ∧ ha d.x d.y d.hd d.tl l (pk d.x d.y d.hd d.tl l) = hi9 (all9 ds cs gs T) := by
  have hz : all9 ds cs gs T ≠ [] := fun e => hn (by unfold ldV; rw [e]; rfl)
  obtain ⟨z, h1, h2⟩ := hi_at hz fun z h => ph_nonneg (z_in h).1
  obtain ⟨h3, j, h4, h5, h6⟩ := thrown_at h1
  exact ⟨z.b, j, z.d, z.l, h3, h4, h6, (z_in h1).1, h2⟩
theorem high_none {ds : List D} {cs : List C} {gs : List G} {T : Int} (hn : ldV ds cs gs T = []) : hi9 (all9 ds cs gs T) = 0 := by
  have hz : all9 ds cs gs T = [] := by
    unfold ldV at hn; exact List.map_eq_nil_iff.1 hn
  rw [hz]; rfl
end Go.Proofs.YtokncfhpmjohdabGreat.Nh11
