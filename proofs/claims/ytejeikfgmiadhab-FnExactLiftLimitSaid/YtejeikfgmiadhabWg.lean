/- The winds that are told from later ticks on, of the program and of the model. -/
import Derived.Test.YtejeikfgmiadhabWe
import Derived.ArgAppend
import Derived.ProofKit
set_option linter.unusedVariables false
set_option linter.unusedSimpArgs false
namespace Go.Proofs.Ytejeikfgmiadhab.Wg
open Go.RowKit Go.Proofs.Ytejeikfgmiadhab.Mem Go.Proofs.Ytejeikfgmiadhab.Rw Go.Proofs.Ytejeikfgmiadhab.Bk Go.Proofs.Ytejeikfgmiadhab.Cx Go.Proofs.Ytejeikfgmiadhab.Cm Go.Proofs.Ytejeikfgmiadhab.Jt Go.Proofs.Ytejeikfgmiadhab.Pl Go.Proofs.Ytejeikfgmiadhab.Str Go.Proofs.Ytejeikfgmiadhab.Pw Go.Proofs.Ytejeikfgmiadhab.P2 Go.Proofs.Ytejeikfgmiadhab.Gs Go.Proofs.Ytejeikfgmiadhab.Wm Go.Proofs.Ytejeikfgmiadhab.Wi Go.Proofs.Ytejeikfgmiadhab.Wa Go.Proofs.Ytejeikfgmiadhab.Wb Go.Proofs.Ytejeikfgmiadhab.Wc Go.Proofs.Ytejeikfgmiadhab.We
set_option linter.unusedVariables false
set_option linter.unusedSimpArgs false

/-- The changes up to k speak of the first k places only. -/
theorem chgs_pre {l m : List (Int × Int)} {k : Nat} (h : ∀ j, j < k → l[j]? = m[j]?) : chgs l k = chgs m k := by
  induction k with
  | zero => rfl
  | succ k ih =>
    have ih := ih (fun j hj => h j (by omega))
    have hk := h k (by omega)
    have hw : was l k = was m k := by
      cases k with
      | zero => rfl
      | succ k => unfold was; rw [if_neg (by omega), if_neg (by omega), Nat.add_sub_cancel, List.getD_eq_getElem?_getD, List.getD_eq_getElem?_getD, h k (by omega)]
    have hd : l.getD k (0, 0) = m.getD k (0, 0) := by rw [List.getD_eq_getElem?_getD, List.getD_eq_getElem?_getD, hk]
    unfold chgs at ih ⊢
    rw [List.range_succ, List.filter_append, List.filter_append, List.map_append, List.map_append, ih]
    simp only [List.filter_cons, List.filter_nil, hd, hw]
    split <;> simp [hk]
/-- Behind the last tick there is no change. -/
theorem later_cut {zs : List G} (h : wd zs = true) {n : Nat} (hn : n ≤ 64) : chg (drs zs n 65) = chg (drs zs n (65 - n)) := by
  have key : ∀ j, 65 - n + j ≤ 65 → chgs (drs zs n 65) (65 - n + j) = chgs (drs zs n 65) (65 - n) := by
    intro j
    induction j with
    | zero => intro _; rfl
    | succ j ih =>
      intro hj
      rw [← Nat.add_assoc, chgs_no (p := dr zs ((n + (65 - n + j) : Nat) : Int)) (drs_get (by omega)), ih (by omega)]
      have e : was (drs zs n 65) (65 - n + j) = dr zs ((n + (65 - n + j - 1) : Nat) : Int) := by
        unfold was; rw [if_neg (by omega), List.getD_eq_getElem?_getD, drs_get (by omega)]; rfl
      rw [e, dr_late h (by omega), dr_late h (t := ((n + (65 - n + j - 1) : Nat) : Int)) (by omega)]
  unfold chg
  rw [drs_len, drs_len]
  have k0 := key n (by omega)
  rw [show 65 - n + n = 65 by omega] at k0
  rw [k0]
  exact chgs_pre fun j hj => by rw [drs_get (by omega), drs_get (by omega)]

/-- The wind that is told from a tick on. -/
def lat (zs : List G) (t : Int) : List G := if wd zs = true ∧ 0 ≤ t ∧ t ≤ 64 then chg (drs zs t.toNat 65) else []
theorem lat_no {zs : List G} {t : Int} (h : wd zs = false ∨ t < 0 ∨ 64 < t) : lat zs t = [] := by
  unfold lat; rw [if_neg]; rintro ⟨a, b, c⟩
  rcases h with h | h | h
  · rw [h] at a; cases a
  · omega
  · omega
theorem lat_yes {zs : List G} (h : wd zs = true) {k : Nat} (hk : k ≤ 64) : lat zs (k : Int) = chg (drs zs k 65) := by
  unfold lat; rw [if_pos ⟨h, by omega, by omega⟩]; rfl
theorem lat_len (zs : List G) (t : Int) : (lat zs t).length ≤ 65 := by
  unfold lat; split
  · have := chgs_len (drs zs t.toNat 65) (drs zs t.toNat 65).length
    unfold chg
    rw [drs_len] at this ⊢
    exact this
  · simp

end Go.Proofs.Ytejeikfgmiadhab.Wg
