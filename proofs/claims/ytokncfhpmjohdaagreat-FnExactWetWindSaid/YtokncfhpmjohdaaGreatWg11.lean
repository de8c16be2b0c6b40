/- A wind in which a show is wet, of the model. -/
import Derived.Test.YtokncfhpmjohdaaGreatIs10
import Derived.Test.YtokncfhpmjohdaaGreatM19
import Derived.Test.YtokncfhpmjohdaaGreatM3
import Derived.Deep.RegionHeld3
import Derived.Deep.DeepCutAuto
set_option linter.unusedVariables false
set_option linter.unusedSimpArgs false
namespace Go.Proofs.YtokncfhpmjohdaaGreat.Wg11
open Go.RowKit Go.ChangeShapes Go.WideShapes Go.WideElems Go.Deep Go.Proofs.YtokncfhpmjohdaaGreat.Mem Go.Proofs.YtokncfhpmjohdaaGreat.Rw Go.Proofs.YtokncfhpmjohdaaGreat.P2 Go.Proofs.YtokncfhpmjohdaaGreat.Bk Go.Proofs.YtokncfhpmjohdaaGreat.Jt Go.Proofs.YtokncfhpmjohdaaGreat.Cm Go.Proofs.YtokncfhpmjohdaaGreat.Cx Go.Proofs.YtokncfhpmjohdaaGreat.Pl Go.Proofs.YtokncfhpmjohdaaGreat.Hd Go.Proofs.YtokncfhpmjohdaaGreat.Str
open Go.Proofs.YtokncfhpmjohdaaGreat.Wz Go.Proofs.YtokncfhpmjohdaaGreat.Fw10 Go.Proofs.YtokncfhpmjohdaaGreat.Wy
open Go.Proofs.YtokncfhpmjohdaaGreat.Wr (rs)
open Go.Proofs.YtokncfhpmjohdaaGreat.Pls (pls)
open Go.Proofs.YtokncfhpmjohdaaGreat.Bxi (bx)
open Go.Proofs.YtokncfhpmjohdaaGreat.Dp (landV landI flightI fl_yes inF_iff told2_yes told2_no wy)
open Go.Proofs.YtokncfhpmjohdaaGreat.Sp Go.Proofs.YtokncfhpmjohdaaGreat.Sq
open Go.Proofs.YtokncfhpmjohdaaGreat.Sv hiding D C G
open Go.Proofs.YtokncfhpmjohdaaGreat.Tm9 (bls bls_get)
open Go.Proofs.YtokncfhpmjohdaaGreat.Le10 (cB)
open Go.Proofs.YtokncfhpmjohdaaGreat.Fa10 (landV_yes)
open Go.Proofs.YtokncfhpmjohdaaGreat.Ww10 (snd9 wtO wwO wwL RowW)
open Go.Proofs.YtokncfhpmjohdaaGreat.Wm (chg chgs wd drs dr)
open Go.Proofs.YtokncfhpmjohdaaGreat.Wg (lat lat_yes)
open Go.Proofs.YtokncfhpmjohdaaGreat.Gs (gls)
set_option linter.unusedVariables false
set_option linter.unusedSimpArgs false

/-- Whether a place lies outside of a box, on the side of a heading. -/
def sideB (px py x y z u : Int) (h : Nat) : Bool := [decide (z < px), decide (u < py), decide (px < x), decide (py < y)].getD h false
theorem side_wet {jx jy h t l : Int} {ps : List (Int × Int)} {x y z u : Int} {k : Nat} (hk : k < 4) (hb : bx x y z u = true) :
    sideB (far jx jy h t l ps (k : Int)).1 (far jx jy h t l ps (k : Int)).2 x y z u k = wetK jx jy h t l ps x y z u k := by
  have hx := bx_iff hb
  have h4 : k = 0 ∨ k = 1 ∨ k = 2 ∨ k = 3 := by omega
  rcases h4 with e | e | e | e
  all_goals
    subst e
    unfold wetK sideV
    simp only [sideB, List.getD_cons_zero, List.getD_cons_succ]
  · show decide (z < _) = decide (max (wv 0 (x, y)) (wv 0 (z, u)) < wv 0 _)
    rw [wv0, wv0, wv0]; simp only [decide_eq_decide]
    show z < (far jx jy h t l ps 0).1 ↔ max x z < (far jx jy h t l ps 0).1
    omega
  · show decide (u < _) = decide (max (wv 1 (x, y)) (wv 1 (z, u)) < wv 1 _)
    rw [wv1, wv1, wv1]; simp only [decide_eq_decide]
    show u < (far jx jy h t l ps 1).2 ↔ max y u < (far jx jy h t l ps 1).2
    omega
  · show decide (_ < x) = decide (max (wv 2 (x, y)) (wv 2 (z, u)) < wv 2 _)
    rw [wv2, wv2, wv2]; simp only [decide_eq_decide]
    show (far jx jy h t l ps 2).1 < x ↔ max (-x) (-z) < -(far jx jy h t l ps 2).1
    omega
  · show decide (_ < y) = decide (max (wv 3 (x, y)) (wv 3 (z, u)) < wv 3 _)
    rw [wv3, wv3, wv3]; simp only [decide_eq_decide]
    show (far jx jy h t l ps 3).2 < y ↔ max (-y) (-u) < -(far jx jy h t l ps 3).2
    omega
theorem sideS (px py x y z u : Int) (k : Nat) (hk : k < 4) (w : World) :
    Calls Tryz.prog 77 #[.agg #[.int .i64 px, .int .i64 py], .agg #[.int .i64 x, .int .i64 y, .int .i64 z, .int .i64 u], .int .i64 (k : Int)] w fun e w' => e = .returned (.bool (sideB px py x y z u k)) ∧ Below w.heap.size w w' := by
  have h4 : k = 0 ∨ k = 1 ∨ k = 2 ∨ k = 3 := by omega
  rcases h4 with e | e | e | e
  all_goals
    subst e
    clear hk
    go_enter Tryz.func77, Tryz.ntmps77
    go_wp2
    go_ret
    exact ⟨rfl, by go_grown⟩
/-- One drift, from the first tick on. -/
theorem lat_one {p : Int × Int} (h : (-8 ≤ p.1 ∧ p.1 ≤ 8) ∧ (-8 ≤ p.2 ∧ p.2 ≤ 8)) : lat [(0, p)] 0 = chg [p] := by
  have hz : ([(0, p)] : List (Int × Int × Int))[0]? = some (0, p) := rfl
  have hw : wd [(0, p)] = true := by
    rw [Wm.wd_fin (n := 1) rfl ?_]
    · rfl
    · rw [Wm.okUp_succ, Wm.okUp_zero, Bool.true_and]
      exact Wm.ok_first hz (show Jt.iw 0 0 64 = true by decide) (Wm.dk_iff.2 h)
  have e := lat_yes hw (k := 0) (by omega)
  rw [show (((0 : Nat) : Int)) = 0 from rfl] at e
  rw [e]
  have hg : ∀ j, j < 65 → (drs [(0, p)] 0 65)[j]? = some p := fun j hj => by
    rw [Wm.drs_get hj]
    show some (if (0 : Int) ≤ ((0 + j : Nat) : Int) then p else (0, 0)) = some p
    rw [if_pos (by omega)]
  have hc : ∀ k, k ≤ 64 → chgs (drs [(0, p)] 0 65) (k + 1) = chgs [p] 1 := fun k => by
    induction k with
    | zero =>
      intro _
      by_cases c : p = (0, 0)
      · rw [Wm.chgs_no (hg 0 (by omega)) (by rw [Wm.was_zero]; exact c), Wm.chgs_no (l := [p]) (p := p) rfl (by rw [Wm.was_zero]; exact c)]; rfl
      · rw [Wm.chgs_yes (hg 0 (by omega)) (by rw [Wm.was_zero]; exact c), Wm.chgs_yes (l := [p]) (p := p) rfl (by rw [Wm.was_zero]; exact c)]; rfl
    | succ k ih =>
      intro hk
      rw [Wm.chgs_no (hg (k + 1) (by omega)) (by rw [Wm.was_next (hg k (by omega))]), ih (by omega)]
  unfold chg
  rw [Wm.drs_len]
  exact hc 64 (by omega)
set_option maxHeartbeats 1000000 in
theorem steadyS (a b : Int) (h : (-8 ≤ a ∧ a ≤ 8) ∧ (-8 ≤ b ∧ b ≤ 8)) (w : World) :
    Calls Tryz.prog 36 #[.agg #[.int .i64 a, .int .i64 b]] w (Wa.Row3 w (chg [(a, b)])) := by
  have b0 := (Below.refl w.heap.size w).alloc (Nat.le_refl _) (.cells #[.int .i64 a, .int .i64 b] 44)
  have hz : (w.alloc (.cells #[.int .i64 a, .int .i64 b] 44)).heap.size = w.heap.size + 1 := by simp [go_sem]
  have B0 := Lib.hid (b0.alloc b0.size (.cells #[.int .i64 a, .int .i64 b] 44))
  have KP := Bk.new (w.alloc (.cells #[.int .i64 a, .int .i64 b] 44)) #[.int .i64 a, .int .i64 b] 44
  rw [hz] at KP
  have R0 := Lib.hid (show Rd ((w.alloc (.cells #[.int .i64 a, .int .i64 b] 44)).alloc (.cells #[.int .i64 a, .int .i64 b] 44)) ((w.alloc (.cells #[.int .i64 a, .int .i64 b] 44)).alloc (.cells #[.int .i64 a, .int .i64 b] 44)).heap.size (some ⟨w.heap.size + 1, 0, none⟩) (Wa.pcs [(a, b)]) from by
    have ho := World.ownsRow_lit (base := w.heap.size) (e := 44) (size := 2) (w.alloc (.cells #[.int .i64 a, .int .i64 b] 44)) #[.int .i64 a, .int .i64 b] 1 (by rw [hz]; omega) (by unfold maxLen; omega) rfl
    rw [hz] at ho
    exact Rd.own ho)
  have CF := Lib.hid (fun (W : World) (hr : Rd W W.heap.size (some ⟨w.heap.size + 1, 0, none⟩) (Wa.pcs [(a, b)])) => Wb.l4From (some ⟨w.heap.size + 1, 0, none⟩) 1 1 [(a, b)] W.heap.size W rfl (by omega) (Nat.le_refl _) hr)
  clear b0 hz KP h
  go_enter Tryz.func36, Tryz.ntmps36
  go_wp2_with fail
  refine (CF.out _ R0.out).mono ?_
  rintro e v hv
  have hw := Wg.row_in B0.out hv
  clear hv CF R0 B0
  unfold Wa.Row3 at hw
  obtain ⟨g, c, rfl, ho, hb⟩ := hw
  go_wp2_with fail
  go_ret
  exact ⟨g, c, rfl, ho, hb⟩
/-- The first drop that can land outside, and the heading. -/
noncomputable def wzO (zs : List B) (ps : List (Int × Int)) (x y z u : Int) : Option (B × Nat) := zs.findSome? fun b => (wetH b.d.x b.d.y b.d.hd b.d.tl b.l ps x y z u).map fun h => (b, h)
theorem wz_none {zs : List B} {ps : List (Int × Int)} {x y z u : Int} (h : ∀ b ∈ zs, wetH b.d.x b.d.y b.d.hd b.d.tl b.l ps x y z u = none) : wzO zs ps x y z u = none := by
  unfold wzO
  rw [List.findSome?_eq_none_iff]
  intro b hb; rw [h b hb]; rfl
theorem wz_here {zs : List B} {ps : List (Int × Int)} {x y z u : Int} {k j : Nat} {b : B} (hb : zs[k]? = some b) (hj : wetH b.d.x b.d.y b.d.hd b.d.tl b.l ps x y z u = some j) (hn : ∀ c ∈ zs.take k, wetH c.d.x c.d.y c.d.hd c.d.tl c.l ps x y z u = none) : wzO zs ps x y z u = some (b, j) := by
  obtain ⟨hk, rfl⟩ := List.getElem?_eq_some_iff.1 hb
  have e : zs = zs.take k ++ zs[k] :: zs.drop (k + 1) := by rw [← List.drop_eq_getElem_cons hk, List.take_append_drop]
  generalize hx : zs[k] = b at hj e
  unfold wzO
  rw [e, List.findSome?_append, List.findSome?_eq_none_iff.2 (fun c hc => by rw [hn c hc]; rfl)]
  simp [hj]
theorem wz_wt (ds : List D) (cs : List C) (gs : List G) (T : Int) (ps : List (Int × Int)) (x y z u : Int) : wtO ds cs gs T ps x y z u = (wzO (all9 ds cs gs T) ps x y z u).map (fun q => q.2) := by
  unfold wtO wzO
  generalize all9 ds cs gs T = zs
  induction zs with
  | nil => rfl
  | cons b zs ih =>
    rw [List.findSome?_cons, List.findSome?_cons]
    cases wetH b.d.x b.d.y b.d.hd b.d.tl b.l ps x y z u with
    | none => exact ih
    | some h => rfl
def Below4 (f : Nat → Bool) (j : Nat) : Prop := ∀ i, i < j → f i = false
theorem wet_at {jx jy h t l : Int} {ps : List (Int × Int)} {x y z u : Int} {j : Nat} (hj : j < 4) (hw : wetK jx jy h t l ps x y z u j = true) (hn : Below4 (wetK jx jy h t l ps x y z u) j) : wetH jx jy h t l ps x y z u = some j := by
  have h4 : j = 0 ∨ j = 1 ∨ j = 2 ∨ j = 3 := by omega
  unfold wetH
  rcases h4 with e | e | e | e
  all_goals subst e
  · rw [List.find?_cons, hw]
  · rw [List.find?_cons, hn 0 (by omega), List.find?_cons, hw]
  · rw [List.find?_cons, hn 0 (by omega), List.find?_cons, hn 1 (by omega), List.find?_cons, hw]
  · rw [List.find?_cons, hn 0 (by omega), List.find?_cons, hn 1 (by omega), List.find?_cons, hn 2 (by omega), List.find?_cons, hw]
theorem wet_not {jx jy h t l : Int} {ps : List (Int × Int)} {x y z u : Int} (hn : Below4 (wetK jx jy h t l ps x y z u) 4) : wetH jx jy h t l ps x y z u = none := by
  unfold wetH
  rw [List.find?_cons, hn 0 (by omega), List.find?_cons, hn 1 (by omega), List.find?_cons, hn 2 (by omega), List.find?_cons, hn 3 (by omega)]; rfl
theorem below4_next {f : Nat → Bool} {j : Nat} (h : Below4 f j) (e : f j = false) : Below4 f (j + 1) := fun i hi => by
  by_cases c : i = j
  · rw [c]; exact e
  · exact h i (by omega)
theorem take_next {zs : List B} {ps : List (Int × Int)} {x y z u : Int} {k : Nat} {b : B} (hb : zs[k]? = some b) (hn : ∀ c ∈ zs.take k, wetH c.d.x c.d.y c.d.hd c.d.tl c.l ps x y z u = none) (h : wetH b.d.x b.d.y b.d.hd b.d.tl b.l ps x y z u = none) : ∀ c ∈ zs.take (k + 1), wetH c.d.x c.d.y c.d.hd c.d.tl c.l ps x y z u = none := fun c hc => by
  obtain ⟨hk, rfl⟩ := List.getElem?_eq_some_iff.1 hb
  rw [List.take_succ_eq_append_getElem hk, List.mem_append, List.mem_singleton] at hc
  rcases hc with hc | hc
  · exact hn c hc
  · rw [hc]; exact h
theorem hd_four {k : Nat} (hk : k < 4) : hd (k : Int) = true := by
  have h4 : k = 0 ∨ k = 1 ∨ k = 2 ∨ k = 3 := by omega
  rcases h4 with e | e | e | e
  all_goals (subst e; rfl)
theorem wz_four {zs : List B} {ps : List (Int × Int)} {x y z u : Int} : ∀ b k, wzO zs ps x y z u = some (b, k) → k < 4 := fun b k h => by
  unfold wzO at h
  obtain ⟨b9, _, hw⟩ := List.exists_of_findSome?_eq_some h
  obtain ⟨j, hj, e⟩ := Option.map_eq_some_iff.1 hw
  injection e with _ e
  subst e
  unfold wetH at hj
  have h4 := List.mem_of_find?_eq_some hj
  simp only [List.mem_cons, List.not_mem_nil, or_false] at h4
  omega
theorem set7 {W : World} {b : Nat} {v0 v1 v2 v3 v4 v5 v6 : Value} (h : ∀ j, j < 7 → (W.cell? ⟨b, j, none⟩).isSome = true) : (((((((W.setCell ⟨b, 0, none⟩ v0).setCell ⟨b, 1, none⟩ v1).setCell ⟨b, 2, none⟩ v2).setCell ⟨b, 3, none⟩ v3).setCell ⟨b, 4, none⟩ v4).setCell ⟨b, 5, none⟩ v5).setCell ⟨b, 6, none⟩ v6).cell? ⟨b, 0, none⟩ = some v0 ∧ (((((((W.setCell ⟨b, 0, none⟩ v0).setCell ⟨b, 1, none⟩ v1).setCell ⟨b, 2, none⟩ v2).setCell ⟨b, 3, none⟩ v3).setCell ⟨b, 4, none⟩ v4).setCell ⟨b, 5, none⟩ v5).setCell ⟨b, 6, none⟩ v6).cell? ⟨b, 1, none⟩ = some v1 ∧ (((((((W.setCell ⟨b, 0, none⟩ v0).setCell ⟨b, 1, none⟩ v1).setCell ⟨b, 2, none⟩ v2).setCell ⟨b, 3, none⟩ v3).setCell ⟨b, 4, none⟩ v4).setCell ⟨b, 5, none⟩ v5).setCell ⟨b, 6, none⟩ v6).cell? ⟨b, 2, none⟩ = some v2 ∧ (((((((W.setCell ⟨b, 0, none⟩ v0).setCell ⟨b, 1, none⟩ v1).setCell ⟨b, 2, none⟩ v2).setCell ⟨b, 3, none⟩ v3).setCell ⟨b, 4, none⟩ v4).setCell ⟨b, 5, none⟩ v5).setCell ⟨b, 6, none⟩ v6).cell? ⟨b, 3, none⟩ = some v3 ∧ (((((((W.setCell ⟨b, 0, none⟩ v0).setCell ⟨b, 1, none⟩ v1).setCell ⟨b, 2, none⟩ v2).setCell ⟨b, 3, none⟩ v3).setCell ⟨b, 4, none⟩ v4).setCell ⟨b, 5, none⟩ v5).setCell ⟨b, 6, none⟩ v6).cell? ⟨b, 4, none⟩ = some v4 ∧ (((((((W.setCell ⟨b, 0, none⟩ v0).setCell ⟨b, 1, none⟩ v1).setCell ⟨b, 2, none⟩ v2).setCell ⟨b, 3, none⟩ v3).setCell ⟨b, 4, none⟩ v4).setCell ⟨b, 5, none⟩ v5).setCell ⟨b, 6, none⟩ v6).cell? ⟨b, 5, none⟩ = some v5 ∧ (((((((W.setCell ⟨b, 0, none⟩ v0).setCell ⟨b, 1, none⟩ v1).setCell ⟨b, 2, none⟩ v2).setCell ⟨b, 3, none⟩ v3).setCell ⟨b, 4, none⟩ v4).setCell ⟨b, 5, none⟩ v5).setCell ⟨b, 6, none⟩ v6).cell? ⟨b, 6, none⟩ = some v6 := by
  refine ⟨?_, ?_, ?_, ?_, ?_, ?_, ?_⟩
  · rw [World.cell?_setCell_other _ _ _ _ (by simp), World.cell?_setCell_other _ _ _ _ (by simp), World.cell?_setCell_other _ _ _ _ (by simp), World.cell?_setCell_other _ _ _ _ (by simp), World.cell?_setCell_other _ _ _ _ (by simp), World.cell?_setCell_other _ _ _ _ (by simp)]; refine World.cell?_setCell_same' _ _ _ ?_; exact h 0 (by omega)
  · rw [World.cell?_setCell_other _ _ _ _ (by simp), World.cell?_setCell_other _ _ _ _ (by simp), World.cell?_setCell_other _ _ _ _ (by simp), World.cell?_setCell_other _ _ _ _ (by simp), World.cell?_setCell_other _ _ _ _ (by simp)]; refine World.cell?_setCell_same' _ _ _ ?_; rw [World.cell?_setCell_other _ _ _ _ (by simp)]; exact h 1 (by omega)
  · rw [World.cell?_setCell_other _ _ _ _ (by simp), World.cell?_setCell_other _ _ _ _ (by simp), World.cell?_setCell_other _ _ _ _ (by simp), World.cell?_setCell_other _ _ _ _ (by simp)]; refine World.cell?_setCell_same' _ _ _ ?_; rw [World.cell?_setCell_other _ _ _ _ (by simp), World.cell?_setCell_other _ _ _ _ (by simp)]; exact h 2 (by omega)
  · rw [World.cell?_setCell_other _ _ _ _ (by simp), World.cell?_setCell_other _ _ _ _ (by simp), World.cell?_setCell_other _ _ _ _ (by simp)]; refine World.cell?_setCell_same' _ _ _ ?_; rw [World.cell?_setCell_other _ _ _ _ (by simp), World.cell?_setCell_other _ _ _ _ (by simp), World.cell?_setCell_other _ _ _ _ (by simp)]; exact h 3 (by omega)
  · rw [World.cell?_setCell_other _ _ _ _ (by simp), World.cell?_setCell_other _ _ _ _ (by simp)]; refine World.cell?_setCell_same' _ _ _ ?_; rw [World.cell?_setCell_other _ _ _ _ (by simp), World.cell?_setCell_other _ _ _ _ (by simp), World.cell?_setCell_other _ _ _ _ (by simp), World.cell?_setCell_other _ _ _ _ (by simp)]; exact h 4 (by omega)
  · rw [World.cell?_setCell_other _ _ _ _ (by simp)]; refine World.cell?_setCell_same' _ _ _ ?_; rw [World.cell?_setCell_other _ _ _ _ (by simp), World.cell?_setCell_other _ _ _ _ (by simp), World.cell?_setCell_other _ _ _ _ (by simp), World.cell?_setCell_other _ _ _ _ (by simp), World.cell?_setCell_other _ _ _ _ (by simp)]; exact h 5 (by omega)
  · refine World.cell?_setCell_same' _ _ _ ?_; rw [World.cell?_setCell_other _ _ _ _ (by simp), World.cell?_setCell_other _ _ _ _ (by simp), World.cell?_setCell_other _ _ _ _ (by simp), World.cell?_setCell_other _ _ _ _ (by simp), World.cell?_setCell_other _ _ _ _ (by simp), World.cell?_setCell_other _ _ _ _ (by simp)]; exact h 6 (by omega)
/-- What comes back: the drop, the heading, and whether there is one. -/
def wzV : Option (B × Nat) → Value
  | some (b, h) => .tuple #[.agg #[.string b.d.nm, .int .i64 b.b, .int .i64 b.d.x, .int .i64 b.d.y, .int .i64 b.d.hd, .int .i64 b.d.tl, .int .i64 b.l], .int .i64 (h : Int), .bool true]
  | none => .tuple #[.agg #[.string ⟨#[]⟩, .int .i64 0, .int .i64 0, .int .i64 0, .int .i64 0, .int .i64 0, .int .i64 0], .int .i64 0, .bool false]
set_option maxRecDepth 100000 in
set_option maxHeartbeats 4000000 in
theorem wetS (A0 : Option Addr) (n0 c0 : Nat) (A1 : Option Addr) (n1 c1 : Nat) (A2 : Option Addr) (n2 c2 : Nat) (T : Int) (ds : List D) (cs : List C) (gs : List G) (A9 : Option Addr) (n9 c9 : Nat) (ps : List (Int × Int)) (x y z u : Int) (w : World) (hf : Fit n0 n1 n2 ds cs gs) (hr : SR w A0 A1 A2 ds cs gs) (hn9 : ps.length = n9) (hb9 : n9 ≤ 1048576) (hr9 : Rd w w.heap.size A9 (pls ps)) (hsz : ∀ z ∈ ds, z.nm.size ≤ 1048576 ∧ z.ln.size ≤ 1048576) (hsc : ∀ z ∈ cs, z.nm.size ≤ 1048576) (h1 : show9 ds cs gs T = true) (hp : rs ps = true) (hbx : bx x y z u = true) :
    Calls Tryz.prog 35 #[sv A0 n0 c0 A1 n1 c1 A2 n2 c2 T, .slice A9 n9 c9, .agg #[.int .i64 x, .int .i64 y, .int .i64 z, .int .i64 u]] w fun e w' => e = .returned (wzV (wzO (all9 ds cs gs T) ps x y z u)) ∧ Below w.heap.size w w' := by
  have HR9 := Lib.hid hr9
  have HN9 := Lib.hid (And.intro hn9 hb9)
  have HB := Lib.hid hbx
  have HP := Lib.hid hp
  obtain ⟨zs, hzs⟩ : ∃ zs, all9 ds cs gs T = zs := ⟨_, rfl⟩
  obtain ⟨m, hm⟩ : ∃ m, zs.length = m := ⟨_, rfl⟩
  have hmb : m ≤ 512 := by have := all9_len ds cs gs T; rw [hzs, hm] at this; exact this
  have HM := Lib.hid hm
  have HJ := Lib.hid (show ∀ b ∈ zs, jt b.d.x b.d.y b.d.hd b.d.tl b.l = true from fun b hb => (all9_ok b (by rw [hzs]; exact hb)).1.1)
  have CA := Lib.hid (fun (W : World) (h : SR W A0 A1 A2 ds cs gs) => (by have := Tm9.l9All A0 n0 c0 A1 n1 c1 A2 n2 c2 T ds cs gs W hf h h1; unfold Tm9.RowM at this; rw [hzs, hm] at this; exact this : Calls Tryz.prog 59 #[sv A0 n0 c0 A1 n1 c1 A2 n2 c2 T] W (fun e w' => ∃ g c, e = .returned (.slice (some ⟨g, 0, none⟩) m c) ∧ w'.ownsRow W.heap.size 71 7 (.slice (some ⟨g, 0, none⟩) m c) m (bls zs) ∧ Below W.heap.size W w')))
  rw [hzs]
  obtain ⟨o9, ho9⟩ : ∃ o, wzO zs ps x y z u = o := ⟨_, rfl⟩
  rw [ho9]
  have HO := Lib.hid ho9
  clear ho9
  have BB := Lib.hid (Below.refl w.heap.size w)
  have HS := Lib.hid hr
  clear hr hr9 hn9 hb9 hbx hp hsz hsc hf h1 hzs hm
  have hb := (Below.refl w.heap.size w).alloc (Nat.le_refl _) (.cells #[.slice A0 n0 c0, .slice A1 n1 c1, .slice A2 n2 c2, .int .i64 T] 40)
  have KSN := Lib.hid (Bk.new w #[.slice A0 n0 c0, .slice A1 n1 c1, .slice A2 n2 c2, .int .i64 T] 40)
  have BBz := Lib.hid (BB.out.trans (hb.mono BB.out.size))
  have HSz := Lib.hid (HS.out.below hb)
  clear hb BB HS
  have BB := BBz
  clear BBz
  have HS := HSz
  clear HSz
  have KS := KSN
  clear KSN
  have hb := (Below.refl (w.alloc (.cells #[.slice A0 n0 c0, .slice A1 n1 c1, .slice A2 n2 c2, .int .i64 T] 40)).heap.size (w.alloc (.cells #[.slice A0 n0 c0, .slice A1 n1 c1, .slice A2 n2 c2, .int .i64 T] 40))).alloc (Nat.le_refl _) (.cells #[.int .i64 x, .int .i64 y, .int .i64 z, .int .i64 u] 46)
  have KBN := Lib.hid (Bk.new (w.alloc (.cells #[.slice A0 n0 c0, .slice A1 n1 c1, .slice A2 n2 c2, .int .i64 T] 40)) #[.int .i64 x, .int .i64 y, .int .i64 z, .int .i64 u] 46)
  have hzN : (w.alloc (.cells #[.slice A0 n0 c0, .slice A1 n1 c1, .slice A2 n2 c2, .int .i64 T] 40)).heap.size = w.heap.size + 1 := by simp [go_sem]
  have KBM := KBN.out
  clear KBN
  rw [hzN] at KBM
  have KBN := Lib.hid KBM
  clear KBM hzN
  have BBz := Lib.hid (BB.out.trans (hb.mono BB.out.size))
  have HSz := Lib.hid (HS.out.below hb)
  have KSz := Lib.hid (KS.out.below hb)
  clear hb BB HS KS
  have BB := BBz
  clear BBz
  have HS := HSz
  clear HSz
  have KS := KSz
  clear KSz
  have KB := KBN
  clear KBN
  have hb := (Below.refl ((w.alloc (.cells #[.slice A0 n0 c0, .slice A1 n1 c1, .slice A2 n2 c2, .int .i64 T] 40)).alloc (.cells #[.int .i64 x, .int .i64 y, .int .i64 z, .int .i64 u] 46)).heap.size ((w.alloc (.cells #[.slice A0 n0 c0, .slice A1 n1 c1, .slice A2 n2 c2, .int .i64 T] 40)).alloc (.cells #[.int .i64 x, .int .i64 y, .int .i64 z, .int .i64 u] 46))).alloc (Nat.le_refl _) (.cells #[.string ⟨#[]⟩, .int .i64 0, .int .i64 0, .int .i64 0, .int .i64 0, .int .i64 0, .int .i64 0] 71)
  have KRN := Lib.hid (Bk.new ((w.alloc (.cells #[.slice A0 n0 c0, .slice A1 n1 c1, .slice A2 n2 c2, .int .i64 T] 40)).alloc (.cells #[.int .i64 x, .int .i64 y, .int .i64 z, .int .i64 u] 46)) #[.string ⟨#[]⟩, .int .i64 0, .int .i64 0, .int .i64 0, .int .i64 0, .int .i64 0, .int .i64 0] 71)
  have hzN : ((w.alloc (.cells #[.slice A0 n0 c0, .slice A1 n1 c1, .slice A2 n2 c2, .int .i64 T] 40)).alloc (.cells #[.int .i64 x, .int .i64 y, .int .i64 z, .int .i64 u] 46)).heap.size = w.heap.size + 1 + 1 := by simp [go_sem]
  have KRM := KRN.out
  clear KRN
  rw [hzN] at KRM
  have KRN := Lib.hid KRM
  clear KRM hzN
  have BBz := Lib.hid (BB.out.trans (hb.mono BB.out.size))
  have HSz := Lib.hid (HS.out.below hb)
  have KSz := Lib.hid (KS.out.below hb)
  have KBz := Lib.hid (KB.out.below hb)
  clear hb BB HS KS KB
  have BB := BBz
  clear BBz
  have HS := HSz
  clear HSz
  have KS := KSz
  clear KSz
  have KB := KBz
  clear KBz
  have KR := KRN
  clear KRN
  have fKS_0 := KS.out.cell (i := 0) rfl
  have fKS_1 := KS.out.cell (i := 1) rfl
  have fKS_2 := KS.out.cell (i := 2) rfl
  have fKS_3 := KS.out.cell (i := 3) rfl
  go_enter Tryz.func35, Tryz.ntmps35
  go_wp2_with fail
  refine (CA.out _ HS.out).mono ?_
  rintro e V1 ⟨gL, cL, rfl, oL, hb⟩
  clear fKS_0 fKS_1 fKS_2 fKS_3
  have ON := Lib.hid (owns_base oL (Nat.le_trans BB.out.size (oL.lt gL rfl).1))
  clear oL CA
  have BBz := Lib.hid (BB.out.trans (hb.mono BB.out.size))
  have HSz := Lib.hid (HS.out.below hb)
  have KSz := Lib.hid (KS.out.below hb)
  have KBz := Lib.hid (KB.out.below hb)
  have KRz := Lib.hid (KR.out.below hb)
  clear hb BB HS KS KB KR
  have BB := BBz
  clear BBz
  have HS := HSz
  clear HSz
  have KS := KSz
  clear KSz
  have KB := KBz
  clear KBz
  have KR := KRz
  clear KRz
  have OL := ON
  clear ON
  clear KS HS
  go_wp2_with fail
  go_loopw [19] (fun i wr => ∃ k : Nat, k ≤ m ∧ i = .int .i64 (k : Int) ∧ Hid (∀ b ∈ zs.take k, wetH b.d.x b.d.y b.d.hd b.d.tl b.l ps x y z u = none) ∧ Hid (wr.ownsRow w.heap.size 71 7 (.slice (some ⟨gL, 0, none⟩) m cL) m (bls zs)) ∧ Hid (Bk wr (w.heap.size + 1) #[.int .i64 x, .int .i64 y, .int .i64 z, .int .i64 u] 46) ∧ Hid (Bk wr (w.heap.size + 1 + 1) #[.string ⟨#[]⟩, .int .i64 0, .int .i64 0, .int .i64 0, .int .i64 0, .int .i64 0, .int .i64 0] 71) ∧ Hid (Below w.heap.size w wr)) (fun i _ => m - (intOf i).toNat)
  case atStart => exact ⟨0, Nat.zero_le _, rfl, Lib.hid (by intro b hb; simp at hb), OL, KB, KR, BB⟩
  case round =>
    clear OL KB KR BB
    obtain ⟨k, hk, rfl, NK, OL, KB, KR, BB⟩ := hrel
    by_cases hlt : k < m
    · obtain ⟨b, hz⟩ : ∃ b, zs[k]? = some b := ⟨_, List.getElem?_eq_getElem (by rw [HM.out]; exact hlt)⟩
      obtain ⟨x0, x1, x2, x3, x4, x5, x6⟩ := cB OL.out hz hlt
      have HZ := Lib.hid hz
      have hj := HJ.out b (List.mem_of_getElem? hz)
      obtain ⟨⟨lx, ly⟩, hl⟩ : ∃ q, land b.d.x b.d.y b.d.hd b.d.tl b.l = q := ⟨_, rfl⟩
      have hln := land_le hj
      have hN := nN_le hj
      rw [hl] at hln
      have CL := Lib.hid (fun (W : World) => (by have := Dp.landS b.d.x b.d.y b.d.hd b.d.tl b.l W; rw [landV_yes hj, hl] at this; exact this : Calls Tryz.prog 75 #[jv b.d.x b.d.y b.d.hd b.d.tl b.l] W fun e w' => e = .returned (.tuple #[.agg #[.int .i64 lx, .int .i64 ly], .bool true]) ∧ Below W.heap.size W w'))
      have CF := Lib.hid (fun (W : World) => (by have := Dp.flightS b.d.x b.d.y b.d.hd b.d.tl b.l W; rw [Dp.fl_yes hj] at this; exact this : Calls Tryz.prog 76 #[jv b.d.x b.d.y b.d.hd b.d.tl b.l] W fun e w' => e = .returned (.int .i64 (b.l + 1)) ∧ Below W.heap.size W w'))
      have HL := Lib.hid hl
      clear hz hj hl
      simp only at hln
      have hb := (Below.refl wr.heap.size wr).alloc (Nat.le_refl _) (.cells #[.string b.d.nm, .int .i64 b.b, .int .i64 b.d.x, .int .i64 b.d.y, .int .i64 b.d.hd, .int .i64 b.d.tl, .int .i64 b.l] 71)
      have KXN := Lib.hid (Bk.new wr #[.string b.d.nm, .int .i64 b.b, .int .i64 b.d.x, .int .i64 b.d.y, .int .i64 b.d.hd, .int .i64 b.d.tl, .int .i64 b.l] 71)
      have BBz := Lib.hid (BB.out.trans (hb.mono BB.out.size))
      have KBz := Lib.hid (KB.out.below hb)
      have KRz := Lib.hid (KR.out.below hb)
      have OLz := Lib.hid (owns_below OL.out hb)
      clear hb BB KB KR OL
      have BB := BBz
      clear BBz
      have KB := KBz
      clear KBz
      have KR := KRz
      clear KRz
      have OL := OLz
      clear OLz
      have KX := KXN
      clear KXN
      have fKX_2 := KX.out.cell (i := 2) rfl
      have fKX_3 := KX.out.cell (i := 3) rfl
      have fKX_4 := KX.out.cell (i := 4) rfl
      have fKX_5 := KX.out.cell (i := 5) rfl
      have fKX_6 := KX.out.cell (i := 6) rfl
      go_wp2_with fail
      refine (CL.out _).mono ?_
      rintro e V2 ⟨rfl, hb⟩
      clear fKX_2 fKX_3 fKX_4 fKX_5 fKX_6 x0 x1 x2 x3 x4 x5 x6 CL
      have BBz := Lib.hid (BB.out.trans (hb.mono BB.out.size))
      have KBz := Lib.hid (KB.out.below hb)
      have KRz := Lib.hid (KR.out.below hb)
      have OLz := Lib.hid (owns_below OL.out hb)
      have KXz := Lib.hid (KX.out.below hb)
      clear hb BB KB KR OL KX
      have BB := BBz
      clear BBz
      have KB := KBz
      clear KBz
      have KR := KRz
      clear KRz
      have OL := OLz
      clear OLz
      have KX := KXz
      clear KXz
      have hb := (Below.refl V2.heap.size V2).alloc (Nat.le_refl _) (.cells #[.int .i64 lx, .int .i64 ly] 44)
      have KPN := Lib.hid (Bk.new V2 #[.int .i64 lx, .int .i64 ly] 44)
      have BBz := Lib.hid (BB.out.trans (hb.mono BB.out.size))
      have KBz := Lib.hid (KB.out.below hb)
      have KRz := Lib.hid (KR.out.below hb)
      have OLz := Lib.hid (owns_below OL.out hb)
      have KXz := Lib.hid (KX.out.below hb)
      clear hb BB KB KR OL KX
      have BB := BBz
      clear BBz
      have KB := KBz
      clear KBz
      have KR := KRz
      clear KRz
      have OL := OLz
      clear OLz
      have KX := KXz
      clear KXz
      have KP := KPN
      clear KPN
      go_wp2_with fail
      generalize (V2.alloc (.cells #[.int .i64 lx, .int .i64 ly] 44)) = W5 at *
      obtain ⟨aX, hX⟩ : ∃ a, wr.heap.size = a := ⟨_, rfl⟩
      obtain ⟨aP, hP⟩ : ∃ a, V2.heap.size = a := ⟨_, rfl⟩
      simp only [hX, hP] at *
      clear hX hP
      go_loopw [13] (fun i wr => ∃ j : Nat, j ≤ 4 ∧ i = .int .i64 (j : Int) ∧ Hid (Below4 (wetK b.d.x b.d.y b.d.hd b.d.tl b.l ps x y z u) j) ∧ Hid (wr.ownsRow w.heap.size 71 7 (.slice (some ⟨gL, 0, none⟩) m cL) m (bls zs)) ∧ Hid (Bk wr (w.heap.size + 1) #[.int .i64 x, .int .i64 y, .int .i64 z, .int .i64 u] 46) ∧ Hid (Bk wr (w.heap.size + 1 + 1) #[.string ⟨#[]⟩, .int .i64 0, .int .i64 0, .int .i64 0, .int .i64 0, .int .i64 0, .int .i64 0] 71) ∧ Hid (Bk wr aX #[.string b.d.nm, .int .i64 b.b, .int .i64 b.d.x, .int .i64 b.d.y, .int .i64 b.d.hd, .int .i64 b.d.tl, .int .i64 b.l] 71) ∧ Hid (Bk wr aP #[.int .i64 lx, .int .i64 ly] 44) ∧ Hid (Below w.heap.size w wr)) (fun i _ => 4 - (intOf i).toNat)
      case atStart => exact ⟨0, by omega, rfl, Lib.hid (fun i h => absurd h (Nat.not_lt_zero _)), OL, KB, KR, KX, KP, BB⟩
      case round =>
        clear OL KB KR KX KP BB
        obtain ⟨j, hj, rfl, N4, OL, KB, KR, KX, KP, BB⟩ := hrel
        by_cases hl4 : j < 4
        · obtain ⟨⟨dx, dy⟩, hd⟩ : ∃ q, wD ps (j : Int) = q := ⟨_, rfl⟩
          have hwo : wD ps (j : Int) = wor (j : Int) ps := w_yes HP.out (hd_four hl4)
          have hdb := wor_le HP.out (j : Int)
          rw [← hwo, hd] at hdb
          simp only at hdb
          have m1 := mul33 hN.2 hdb.1
          have m2 := mul33 hN.2 hdb.2
          rw [hN.1] at m1 m2
          have hfar : far b.d.x b.d.y b.d.hd b.d.tl b.l ps (j : Int) = (lx + (b.l + 1) * dx, ly + (b.l + 1) * dy) := by unfold far; rw [HL.out, ← hwo, hd, hN.1]
          have hsd := side_wet (jx := b.d.x) (jy := b.d.y) (h := b.d.hd) (t := b.d.tl) (l := b.l) (ps := ps) hl4 HB.out
          rw [hfar] at hsd
          simp only at hsd
          obtain ⟨r, hr⟩ : ∃ r, wetK b.d.x b.d.y b.d.hd b.d.tl b.l ps x y z u j = r := ⟨_, rfl⟩
          rw [hr] at hsd
          have CD := Lib.hid (fun (W : World) (h9 : Below w.heap.size w W) => (by have := worstS A9 n9 c9 ps (j : Int) W HN9.out.1 HN9.out.2 ((HR9.out.below h9).more h9.size); rw [hd] at this; exact this : Calls Tryz.prog 37 #[.slice A9 n9 c9, .int .i64 (j : Int)] W fun e w' => e = .returned (.agg #[.int .i64 dx, .int .i64 dy]) ∧ Below W.heap.size W w'))
          have C2 := Lib.hid (fun (W : World) => (P2.l2Add lx ly ((b.l + 1) * dx) ((b.l + 1) * dy) (IntWalk.wrap64_in _ (by omega)) (IntWalk.wrap64_in _ (by omega)) W).mono (fun e w' (k9 : _ ∧ _) => (⟨k9.1, by rw [k9.2]; go_grown⟩ : e = .returned (.agg #[.int .i64 (lx + (b.l + 1) * dx), .int .i64 (ly + (b.l + 1) * dy)]) ∧ Below W.heap.size W w')))
          have C3 := Lib.hid (fun (W : World) => (by have := sideS (lx + (b.l + 1) * dx) (ly + (b.l + 1) * dy) x y z u j hl4 W; rw [hsd] at this; exact this : Calls Tryz.prog 77 #[.agg #[.int .i64 (lx + (b.l + 1) * dx), .int .i64 (ly + (b.l + 1) * dy)], .agg #[.int .i64 x, .int .i64 y, .int .i64 z, .int .i64 u], .int .i64 (j : Int)] W fun e w' => e = .returned (.bool r) ∧ Below W.heap.size W w'))
          have hw1 : IntKind.i64.wrap ((b.l + 1) * dx) = (b.l + 1) * dx := IntWalk.i64_in _ (by omega)
          have hw2 : IntKind.i64.wrap ((b.l + 1) * dy) = (b.l + 1) * dy := IntWalk.i64_in _ (by omega)
          have HR := Lib.hid hr
          clear hd hwo hdb m1 m2 hfar hsd hr
          go_wp2_with fail
          refine (CD.out _ BB.out).mono ?_
          rintro e V3 ⟨rfl, hb⟩
          clear CD
          have BBz := Lib.hid (BB.out.trans (hb.mono BB.out.size))
          have KBz := Lib.hid (KB.out.below hb)
          have KRz := Lib.hid (KR.out.below hb)
          have OLz := Lib.hid (owns_below OL.out hb)
          have KXz := Lib.hid (KX.out.below hb)
          have KPz := Lib.hid (KP.out.below hb)
          clear hb BB KB KR OL KX KP
          have BB := BBz
          clear BBz
          have KB := KBz
          clear KBz
          have KR := KRz
          clear KRz
          have OL := OLz
          clear OLz
          have KX := KXz
          clear KXz
          have KP := KPz
          clear KPz
          have hb := (Below.refl V3.heap.size V3).alloc (Nat.le_refl _) (.cells #[.int .i64 dx, .int .i64 dy] 44)
          have KDN := Lib.hid (Bk.new V3 #[.int .i64 dx, .int .i64 dy] 44)
          have BBz := Lib.hid (BB.out.trans (hb.mono BB.out.size))
          have KBz := Lib.hid (KB.out.below hb)
          have KRz := Lib.hid (KR.out.below hb)
          have OLz := Lib.hid (owns_below OL.out hb)
          have KXz := Lib.hid (KX.out.below hb)
          have KPz := Lib.hid (KP.out.below hb)
          clear hb BB KB KR OL KX KP
          have BB := BBz
          clear BBz
          have KB := KBz
          clear KBz
          have KR := KRz
          clear KRz
          have OL := OLz
          clear OLz
          have KX := KXz
          clear KXz
          have KP := KPz
          clear KPz
          have KD := KDN
          clear KDN
          have fKX_2 := KX.out.cell (i := 2) rfl
          have fKX_3 := KX.out.cell (i := 3) rfl
          have fKX_4 := KX.out.cell (i := 4) rfl
          have fKX_5 := KX.out.cell (i := 5) rfl
          have fKX_6 := KX.out.cell (i := 6) rfl
          go_wp2_with fail
          refine (CF.out _).mono ?_
          rintro e V4 ⟨rfl, hb⟩
          clear fKX_2 fKX_3 fKX_4 fKX_5 fKX_6
          have BBz := Lib.hid (BB.out.trans (hb.mono BB.out.size))
          have KBz := Lib.hid (KB.out.below hb)
          have KRz := Lib.hid (KR.out.below hb)
          have OLz := Lib.hid (owns_below OL.out hb)
          have KXz := Lib.hid (KX.out.below hb)
          have KPz := Lib.hid (KP.out.below hb)
          have KDz := Lib.hid (KD.out.below hb)
          clear hb BB KB KR OL KX KP KD
          have BB := BBz
          clear BBz
          have KB := KBz
          clear KBz
          have KR := KRz
          clear KRz
          have OL := OLz
          clear OLz
          have KX := KXz
          clear KXz
          have KP := KPz
          clear KPz
          have KD := KDz
          clear KDz
          go_wp2_with fail
          have fKB_0 := KB.out.cell (i := 0) rfl
          have fKB_1 := KB.out.cell (i := 1) rfl
          have fKB_2 := KB.out.cell (i := 2) rfl
          have fKB_3 := KB.out.cell (i := 3) rfl
          have fKP_0 := KP.out.cell (i := 0) rfl
          have fKP_1 := KP.out.cell (i := 1) rfl
          have fKD_0 := KD.out.cell (i := 0) rfl
          have fKD_1 := KD.out.cell (i := 1) rfl
          refine wp_region_noPanic ?_
          refine wp_region_held_drew (S := (fun w' => w'.cell? ⟨aP, 0, none⟩ = some (.int .i64 lx) ∧ w'.cell? ⟨aP, 1, none⟩ = some (.int .i64 ly) ∧ w'.cell? ⟨V3.heap.size, 0, none⟩ = some (.int .i64 dx) ∧ w'.cell? ⟨V3.heap.size, 1, none⟩ = some (.int .i64 dy) ∧ w'.cell? ⟨w.heap.size + 1, 0, none⟩ = some (.int .i64 x) ∧ w'.cell? ⟨w.heap.size + 1, 1, none⟩ = some (.int .i64 y) ∧ w'.cell? ⟨w.heap.size + 1, 2, none⟩ = some (.int .i64 z) ∧ w'.cell? ⟨w.heap.size + 1, 3, none⟩ = some (.int .i64 u) ∧ Below V4.heap.size V4 w')) (by kernel_rfl) ?_ (fun hH => ?_)
          · exact ⟨fKP_0, fKP_1, fKD_0, fKD_1, fKB_0, fKB_1, fKB_2, fKB_3, (Below.refl _ _).drew⟩
          refine wpAnyH_take (i := 0) (oi := { dst := some 39, op := _, type := _, pos := _, after := _, guard := _ }) (v := ?_) rfl (by kernel_rfl) (by kernel_rfl) (by kernel_rfl) (fun _ _ _ h => h) (Or.inl ⟨by rfl, ?_⟩) hH ?_
          rotate_left 1
          · intro W hSw
            (try dsimp only at hSw)
            go_simp
            (try with_reducible rfl)
          try simp only [Act.put, List.setIfInBounds_toArray, List.set_cons_zero, List.set_cons_succ]
          refine wpAnyH_take (i := 1) (oi := { dst := some 40, op := _, type := _, pos := _, after := _, guard := _ }) (v := ?_) rfl (by kernel_rfl) (by kernel_rfl) (by kernel_rfl) (fun _ _ _ h => h) (Or.inl ⟨by rfl, ?_⟩) hH ?_
          rotate_left 1
          · intro W hSw
            (try dsimp only at hSw)
            go_simp
            (try with_reducible rfl)
          try simp only [Act.put, List.setIfInBounds_toArray, List.set_cons_zero, List.set_cons_succ]
          refine wpAnyH_take (i := 2) (oi := { dst := some 41, op := _, type := _, pos := _, after := _, guard := _ }) (v := ?_) rfl (by kernel_rfl) (by kernel_rfl) (by kernel_rfl) (fun _ _ _ h => h) (Or.inl ⟨by rfl, ?_⟩) hH ?_
          rotate_left 1
          · intro W hSw
            (try dsimp only at hSw)
            go_simp
            (try with_reducible rfl)
          try simp only [Act.put, List.setIfInBounds_toArray, List.set_cons_zero, List.set_cons_succ]
          refine wpAnyH_take (i := 3) (oi := { dst := some 42, op := _, type := _, pos := _, after := _, guard := _ }) (v := ?_) rfl (by kernel_rfl) (by kernel_rfl) (by kernel_rfl) (fun _ _ _ h => h) (Or.inl ⟨by rfl, ?_⟩) hH ?_
          rotate_left 1
          · intro W hSw
            (try dsimp only at hSw)
            go_simp
            (try with_reducible rfl)
          try simp only [Act.put, List.setIfInBounds_toArray, List.set_cons_zero, List.set_cons_succ]
          refine wpAnyH_take (i := 4) (oi := { dst := some 43, op := _, type := _, pos := _, after := _, guard := _ }) (v := ?_) rfl (by kernel_rfl) (by kernel_rfl) (by kernel_rfl) (fun _ _ _ h => h) (Or.inl ⟨by rfl, ?_⟩) hH ?_
          rotate_left 1
          · intro W hSw
            (try dsimp only at hSw)
            go_simp
            (try with_reducible rfl)
          try simp only [Act.put, List.setIfInBounds_toArray, List.set_cons_zero, List.set_cons_succ]
          refine wpAnyH_take (i := 5) (oi := { dst := some 44, op := _, type := _, pos := _, after := _, guard := _ }) (v := ?_) rfl (by kernel_rfl) (by kernel_rfl) (by kernel_rfl) (fun _ _ _ h => h) (Or.inl ⟨by rfl, ?_⟩) hH ?_
          rotate_left 1
          · intro W hSw
            (try dsimp only at hSw)
            go_simp
            (try with_reducible rfl)
          try simp only [Act.put, List.setIfInBounds_toArray, List.set_cons_zero, List.set_cons_succ]
          refine wpAnyH_take (i := 6) (oi := { dst := some 45, op := _, type := _, pos := _, after := _, guard := _ }) (v := ?_) rfl (by kernel_rfl) (by kernel_rfl) (by kernel_rfl) (fun _ _ _ h => h) (Or.inl ⟨by rfl, ?_⟩) hH ?_
          rotate_left 1
          · intro W hSw
            (try dsimp only at hSw)
            go_simp
            (try with_reducible rfl)
          try simp only [Act.put, List.setIfInBounds_toArray, List.set_cons_zero, List.set_cons_succ]
          refine wpAnyH_take (i := 7) (oi := { dst := some 46, op := _, type := _, pos := _, after := _, guard := _ }) (v := ?_) rfl (by kernel_rfl) (by kernel_rfl) (by kernel_rfl) (fun _ _ _ h => h) (Or.inl ⟨by rfl, ?_⟩) hH ?_
          rotate_left 1
          · intro W hSw
            (try dsimp only at hSw)
            go_simp
            (try with_reducible rfl)
          try simp only [Act.put, List.setIfInBounds_toArray, List.set_cons_zero, List.set_cons_succ]
          refine wpAnyH_take (i := 8) (oi := { dst := some 47, op := _, type := _, pos := _, after := _, guard := _ }) (v := ?_) rfl (by kernel_rfl) (by kernel_rfl) (by kernel_rfl) (fun _ _ _ h => h) (Or.inl ⟨by rfl, ?_⟩) hH ?_
          rotate_left 1
          · intro W hSw
            (try dsimp only at hSw)
            go_simp
            (try with_reducible rfl)
          try simp only [Act.put, List.setIfInBounds_toArray, List.set_cons_zero, List.set_cons_succ]
          refine wpAnyH_take (i := 9) (oi := { dst := some 48, op := _, type := _, pos := _, after := _, guard := _ }) (v := ?_) rfl (by kernel_rfl) (by kernel_rfl) (by kernel_rfl) (fun _ _ _ h => h) (Or.inl ⟨by rfl, ?_⟩) hH ?_
          rotate_left 1
          · intro W hSw
            (try dsimp only at hSw)
            go_simp
            (try with_reducible rfl)
          try simp only [Act.put, List.setIfInBounds_toArray, List.set_cons_zero, List.set_cons_succ]
          refine wpAnyH_take (i := 11) (oi := { dst := some 50, op := _, type := _, pos := _, after := _, guard := _ }) (v := ?_) rfl (by kernel_rfl) (by kernel_rfl) (by kernel_rfl) (fun _ _ _ h => h) (Or.inl ⟨by rfl, ?_⟩) hH ?_
          rotate_left 1
          · intro W hSw
            (try dsimp only at hSw)
            go_simp
            (try with_reducible rfl)
          try simp only [Act.put, List.setIfInBounds_toArray, List.set_cons_zero, List.set_cons_succ]
          refine wpAnyH_take (i := 12) (oi := { dst := some 51, op := _, type := _, pos := _, after := _, guard := _ }) (v := ?_) rfl (by kernel_rfl) (by kernel_rfl) (by kernel_rfl) (fun _ _ _ h => h) (Or.inl ⟨by rfl, ?_⟩) hH ?_
          rotate_left 1
          · intro W hSw
            (try dsimp only at hSw)
            go_simp
            (try with_reducible rfl)
          try simp only [Act.put, List.setIfInBounds_toArray, List.set_cons_zero, List.set_cons_succ]
          refine wpAnyH_ready (rs := [10]) (by kernel_rfl) (by simp) (AllReadyH.cons rfl (fun K hK => ?_) AllReadyH.nil)
          go_simp
          go_at_call 78; ((with_reducible refine (C2.out _).mono ?_); rintro e V5 ⟨rfl, hb⟩); go_wp2_with fail
          refine hK.out _ _ ?_ (fun hG => ?_)
          · exact ⟨cell_below hb hH.1, cell_below hb hH.2.1, cell_below hb hH.2.2.1, cell_below hb hH.2.2.2.1, cell_below hb hH.2.2.2.2.1, cell_below hb hH.2.2.2.2.2.1, cell_below hb hH.2.2.2.2.2.2.1, cell_below hb hH.2.2.2.2.2.2.2.1, hH.2.2.2.2.2.2.2.2.trans (hb.mono hH.2.2.2.2.2.2.2.2.size)⟩
          replace hH := hG
          clear hK K hG
          try simp only [Act.put, List.setIfInBounds_toArray, List.set_cons_zero, List.set_cons_succ]
          clear hb
          refine wpAnyH_ready (rs := [13]) (by kernel_rfl) (by simp) (AllReadyH.cons rfl (fun K hK => ?_) AllReadyH.nil)
          go_simp
          go_at_call 77; ((with_reducible refine (C3.out _).mono ?_); rintro e V6 ⟨rfl, hb⟩); go_wp2_with fail
          refine hK.out _ _ ?_ (fun hG => ?_)
          · exact ⟨cell_below hb hH.1, cell_below hb hH.2.1, cell_below hb hH.2.2.1, cell_below hb hH.2.2.2.1, cell_below hb hH.2.2.2.2.1, cell_below hb hH.2.2.2.2.2.1, cell_below hb hH.2.2.2.2.2.2.1, cell_below hb hH.2.2.2.2.2.2.2.1, hH.2.2.2.2.2.2.2.2.trans (hb.mono hH.2.2.2.2.2.2.2.2.size)⟩
          replace hH := hG
          clear hK K hG
          try simp only [Act.put, List.setIfInBounds_toArray, List.set_cons_zero, List.set_cons_succ]
          clear hb
          refine wpAnyH_done (by kernel_rfl) ?_ _
          refine NoPanic.normal ?_
          have hb := hH.2.2.2.2.2.2.2.2
          clear hH
          clear fKB_0 fKB_1 fKB_2 fKB_3 fKP_0 fKP_1 fKD_0 fKD_1
          clear C2 C3 hw1 hw2
          have BBz := Lib.hid (BB.out.trans (hb.mono BB.out.size))
          have KBz := Lib.hid (KB.out.below hb)
          have KRz := Lib.hid (KR.out.below hb)
          have OLz := Lib.hid (owns_below OL.out hb)
          have KXz := Lib.hid (KX.out.below hb)
          have KPz := Lib.hid (KP.out.below hb)
          have KDz := Lib.hid (KD.out.below hb)
          clear hb BB KB KR OL KX KP KD
          have BB := BBz
          clear BBz
          have KB := KBz
          clear KBz
          have KR := KRz
          clear KRz
          have OL := OLz
          clear OLz
          have KX := KXz
          clear KXz
          have KP := KPz
          clear KPz
          have KD := KDz
          clear KDz
          cases r
          · have N5 := Lib.hid (show Below4 (wetK b.d.x b.d.y b.d.hd b.d.tl b.l ps x y z u) (j + 1) from below4_next N4.out HR.out)
            clear N4 KD
            go_wp2_with fail
            go_roundw
            case rel => first | exact ⟨j + 1, by omega, by go_num, N5, OL, KB, KR, KX, KP, BB⟩ | ((repeat apply Exists.intro); exact ⟨⟨j + 1, by omega, by go_num, N5, OL, KB, KR, KX, KP, BB⟩, rfl⟩)
            case measure => simp [intOf]; omega
          · have HE := Lib.hid (HO.out.symm.trans (wz_here HZ.out (wet_at hl4 HR.out N4.out) NK.out))
            clear N4 NK KD KP KB OL HR HO
            have g0 := KX.out.cell (i := 0) rfl
            have q0 := KR.out.cell (i := 0) rfl
            have z0 := KR.out.frozen 0
            have g1 := KX.out.cell (i := 1) rfl
            have q1 := KR.out.cell (i := 1) rfl
            have z1 := KR.out.frozen 1
            have g2 := KX.out.cell (i := 2) rfl
            have q2 := KR.out.cell (i := 2) rfl
            have z2 := KR.out.frozen 2
            have g3 := KX.out.cell (i := 3) rfl
            have q3 := KR.out.cell (i := 3) rfl
            have z3 := KR.out.frozen 3
            have g4 := KX.out.cell (i := 4) rfl
            have q4 := KR.out.cell (i := 4) rfl
            have z4 := KR.out.frozen 4
            have g5 := KX.out.cell (i := 5) rfl
            have q5 := KR.out.cell (i := 5) rfl
            have z5 := KR.out.frozen 5
            have g6 := KX.out.cell (i := 6) rfl
            have q6 := KR.out.cell (i := 6) rfl
            have z6 := KR.out.frozen 6
            have l9 := KR.out.lt
            have S7 := Lib.hid (set7 (W := V6) (b := w.heap.size + 1 + 1) (v0 := .string b.d.nm) (v1 := .int .i64 b.b) (v2 := .int .i64 b.d.x) (v3 := .int .i64 b.d.y) (v4 := .int .i64 b.d.hd) (v5 := .int .i64 b.d.tl) (v6 := .int .i64 b.l) (by intro j hj; match j, hj with | 0, _ => (rw [q0]; rfl) | 1, _ => (rw [q1]; rfl) | 2, _ => (rw [q2]; rfl) | 3, _ => (rw [q3]; rfl) | 4, _ => (rw [q4]; rfl) | 5, _ => (rw [q5]; rfl) | 6, _ => (rw [q6]; rfl)))
            go_wp2_with fail
            obtain ⟨s0, s1, s2, s3, s4, s5, s6⟩ := S7.out
            clear q0 q1 q2 q3 q4 q5 q6 z0 z1 z2 z3 z4 z5 z6 g0 g1 g2 g3 g4 g5 g6 S7
            (try simp only [Exit.inBlock, Exit.then])
            refine bodyPost_ret (v := wzV (some (b, j))) (by simp only [results, Tryz.results35, s0, s1, s2, s3, s4, s5, s6]; simp [go_sem, wzV, s0, s1, s2, s3, s4, s5, s6]; try rfl) rfl ?_
            exact ⟨by rw [HE.out], BB.out.trans (by have h9 := BB.out.size; go_grown)⟩
        · obtain rfl : j = 4 := by omega
          have NN := Lib.hid (wet_not N4.out)
          have NX := Lib.hid (take_next HZ.out NK.out NN.out)
          clear NN N4 KX KP NK
          go_wp2_with fail
          go_roundw
          case rel => first | exact ⟨k + 1, by omega, by go_num, NX, OL, KB, KR, BB⟩ | ((repeat apply Exists.intro); exact ⟨⟨k + 1, by omega, by go_num, NX, OL, KB, KR, BB⟩, rfl⟩)
          case measure => simp [intOf]; omega
    · obtain rfl : k = m := by omega
      have HE := Lib.hid (show wzO zs ps x y z u = none from wz_none fun b hb => NK.out b (by rw [List.take_of_length_le (Nat.le_of_eq HM.out)]; exact hb))
      have HE2 := Lib.hid (HO.out.symm.trans HE.out)
      clear HE NK OL KB HO
      have q0 := KR.out.cell (i := 0) rfl
      have z0 := KR.out.frozen 0
      have q1 := KR.out.cell (i := 1) rfl
      have z1 := KR.out.frozen 1
      have q2 := KR.out.cell (i := 2) rfl
      have z2 := KR.out.frozen 2
      have q3 := KR.out.cell (i := 3) rfl
      have z3 := KR.out.frozen 3
      have q4 := KR.out.cell (i := 4) rfl
      have z4 := KR.out.frozen 4
      have q5 := KR.out.cell (i := 5) rfl
      have z5 := KR.out.frozen 5
      have q6 := KR.out.cell (i := 6) rfl
      have z6 := KR.out.frozen 6
      have l9 := KR.out.lt
      have S7 := Lib.hid (set7 (W := wr) (b := w.heap.size + 1 + 1) (v0 := .string ⟨#[]⟩) (v1 := .int .i64 0) (v2 := .int .i64 0) (v3 := .int .i64 0) (v4 := .int .i64 0) (v5 := .int .i64 0) (v6 := .int .i64 0) (by intro j hj; match j, hj with | 0, _ => (rw [q0]; rfl) | 1, _ => (rw [q1]; rfl) | 2, _ => (rw [q2]; rfl) | 3, _ => (rw [q3]; rfl) | 4, _ => (rw [q4]; rfl) | 5, _ => (rw [q5]; rfl) | 6, _ => (rw [q6]; rfl)))
      go_wp2_with fail
      obtain ⟨s0, s1, s2, s3, s4, s5, s6⟩ := S7.out
      clear q0 q1 q2 q3 q4 q5 q6 z0 z1 z2 z3 z4 z5 z6 S7
      (try simp only [Exit.inBlock, Exit.then])
      refine bodyPost_ret (v := wzV none) (by simp only [results, Tryz.results35, s0, s1, s2, s3, s4, s5, s6]; simp [go_sem, wzV, s0, s1, s2, s3, s4, s5, s6]; try rfl) rfl ?_
      exact ⟨by rw [HE2.out], BB.out.trans (by have h9 := BB.out.size; go_grown)⟩
set_option maxRecDepth 100000 in
set_option maxHeartbeats 4000000 in
theorem wetWindS (A0 : Option Addr) (n0 c0 : Nat) (A1 : Option Addr) (n1 c1 : Nat) (A2 : Option Addr) (n2 c2 : Nat) (T : Int) (ds : List D) (cs : List C) (gs : List G) (A9 : Option Addr) (n9 c9 : Nat) (ps : List (Int × Int)) (x y z u : Int) (w : World) (hf : Fit n0 n1 n2 ds cs gs) (hr : SR w A0 A1 A2 ds cs gs) (hn9 : ps.length = n9) (hb9 : n9 ≤ 1048576) (hr9 : Rd w w.heap.size A9 (pls ps)) (hsz : ∀ z ∈ ds, z.nm.size ≤ 1048576 ∧ z.ln.size ≤ 1048576) (hsc : ∀ z ∈ cs, z.nm.size ≤ 1048576) :
    Calls Tryz.prog 9 #[sv A0 n0 c0 A1 n1 c1 A2 n2 c2 T, .slice A9 n9 c9, .agg #[.int .i64 x, .int .i64 y, .int .i64 z, .int .i64 u]] w (RowW w (wwL ps (wwO ds cs gs T ps x y z u)) (wwO ds cs gs T ps x y z u).isSome) := by
  obtain ⟨r1, hr1⟩ : ∃ r, show9 ds cs gs T = r := ⟨_, rfl⟩
  obtain ⟨r2, hp⟩ : ∃ r, rs ps = r := ⟨_, rfl⟩
  obtain ⟨r3, hr3⟩ : ∃ r, bx x y z u = r := ⟨_, rfl⟩
  have CS := Lib.hid (fun (W : World) (h : SR W A0 A1 A2 ds cs gs) => (by have := Sw9.isShowS A0 n0 c0 A1 n1 c1 A2 n2 c2 T ds cs gs W hf h hsz hsc; rw [hr1] at this; exact this : Calls Tryz.prog 32 #[sv A0 n0 c0 A1 n1 c1 A2 n2 c2 T] W fun e w' => e = .returned (.bool r1) ∧ Below W.heap.size W w'))
  have CR := Lib.hid (fun (W : World) (h9 : Below w.heap.size w W) => Wx.roseS (A := A9) (c := c9) (H := w.heap.size) hn9 hb9 hp W h9.size (hr9.below h9))
  have CB := Lib.hid (fun (W : World) => (by have := Is10.isBoxS x y z u W; rw [hr3] at this; exact this : Calls Tryz.prog 34 #[.agg #[.int .i64 x, .int .i64 y, .int .i64 z, .int .i64 u]] W fun e w' => e = .returned (.bool r3) ∧ Below W.heap.size W w'))
  have BB := Lib.hid (Below.refl w.heap.size w)
  have HS := Lib.hid hr
  have hb := (Below.refl w.heap.size w).alloc (Nat.le_refl _) (.cells #[.slice A0 n0 c0, .slice A1 n1 c1, .slice A2 n2 c2, .int .i64 T] 40)
  have KSN := Lib.hid (Bk.new w #[.slice A0 n0 c0, .slice A1 n1 c1, .slice A2 n2 c2, .int .i64 T] 40)
  have BBz := Lib.hid (BB.out.trans (hb.mono BB.out.size))
  have HSz := Lib.hid (HS.out.below hb)
  clear hb BB HS
  have BB := BBz
  clear BBz
  have HS := HSz
  clear HSz
  have KS := KSN
  clear KSN
  have hb := (Below.refl (w.alloc (.cells #[.slice A0 n0 c0, .slice A1 n1 c1, .slice A2 n2 c2, .int .i64 T] 40)).heap.size (w.alloc (.cells #[.slice A0 n0 c0, .slice A1 n1 c1, .slice A2 n2 c2, .int .i64 T] 40))).alloc (Nat.le_refl _) (.cells #[.int .i64 x, .int .i64 y, .int .i64 z, .int .i64 u] 46)
  have KBN := Lib.hid (Bk.new (w.alloc (.cells #[.slice A0 n0 c0, .slice A1 n1 c1, .slice A2 n2 c2, .int .i64 T] 40)) #[.int .i64 x, .int .i64 y, .int .i64 z, .int .i64 u] 46)
  have hzN : (w.alloc (.cells #[.slice A0 n0 c0, .slice A1 n1 c1, .slice A2 n2 c2, .int .i64 T] 40)).heap.size = w.heap.size + 1 := by simp [go_sem]
  have KBM := KBN.out
  clear KBN
  rw [hzN] at KBM
  have KBN := Lib.hid KBM
  clear KBM hzN
  have BBz := Lib.hid (BB.out.trans (hb.mono BB.out.size))
  have HSz := Lib.hid (HS.out.below hb)
  have KSz := Lib.hid (KS.out.below hb)
  clear hb BB HS KS
  have BB := BBz
  clear BBz
  have HS := HSz
  clear HSz
  have KS := KSz
  clear KSz
  have KB := KBN
  clear KBN
  have fKS_0 := KS.out.cell (i := 0) rfl
  have fKS_1 := KS.out.cell (i := 1) rfl
  have fKS_2 := KS.out.cell (i := 2) rfl
  have fKS_3 := KS.out.cell (i := 3) rfl
  have fKB_0 := KB.out.cell (i := 0) rfl
  have fKB_1 := KB.out.cell (i := 1) rfl
  have fKB_2 := KB.out.cell (i := 2) rfl
  have fKB_3 := KB.out.cell (i := 3) rfl
  have HV0 := Lib.hid (show (r1 && r2 && r3) = false → wwO ds cs gs T ps x y z u = none from fun h => by unfold wwO snd9; rw [hr1, hp, hr3, h]; rfl)
  cases r1
  · rw [HV0.out (by simp)]
    clear HV0 hf hr hn9 hb9 hr9 hsz hsc hr1 hp hr3
    go_enter Tryz.func9, Tryz.ntmps9
    go_wp2_with fail
    refine (CS.out _ HS.out).mono ?_
    rintro e V1 ⟨rfl, hb⟩
    clear fKS_0 fKS_1 fKS_2 fKS_3 fKB_0 fKB_1 fKB_2 fKB_3
    clear CS
    have BBz := Lib.hid (BB.out.trans (hb.mono BB.out.size))
    have HSz := Lib.hid (HS.out.below hb)
    have KSz := Lib.hid (KS.out.below hb)
    have KBz := Lib.hid (KB.out.below hb)
    clear hb BB HS KS KB
    have BB := BBz
    clear BBz
    have HS := HSz
    clear HSz
    have KS := KSz
    clear KSz
    have KB := KBz
    clear KBz
    have fKS_0 := KS.out.cell (i := 0) rfl
    have fKS_1 := KS.out.cell (i := 1) rfl
    have fKS_2 := KS.out.cell (i := 2) rfl
    have fKS_3 := KS.out.cell (i := 3) rfl
    have fKB_0 := KB.out.cell (i := 0) rfl
    have fKB_1 := KB.out.cell (i := 1) rfl
    have fKB_2 := KB.out.cell (i := 2) rfl
    have fKB_3 := KB.out.cell (i := 3) rfl
    go_wp2_with fail
    go_returns
    exact ⟨V1.heap.size, 0, rfl, World.ownsRow_lit (base := w.heap.size) (e := 89) (size := 3) V1 #[] 0 BB.out.size (Nat.zero_le _) rfl, BB.out.alloc BB.out.size _⟩
  cases r2
  · rw [HV0.out (by simp)]
    clear HV0 hf hr hn9 hb9 hr9 hsz hsc hr1 hp hr3
    go_enter Tryz.func9, Tryz.ntmps9
    go_wp2_with fail
    refine (CS.out _ HS.out).mono ?_
    rintro e V1 ⟨rfl, hb⟩
    clear fKS_0 fKS_1 fKS_2 fKS_3 fKB_0 fKB_1 fKB_2 fKB_3
    clear CS
    have BBz := Lib.hid (BB.out.trans (hb.mono BB.out.size))
    have HSz := Lib.hid (HS.out.below hb)
    have KSz := Lib.hid (KS.out.below hb)
    have KBz := Lib.hid (KB.out.below hb)
    clear hb BB HS KS KB
    have BB := BBz
    clear BBz
    have HS := HSz
    clear HSz
    have KS := KSz
    clear KSz
    have KB := KBz
    clear KBz
    have fKS_0 := KS.out.cell (i := 0) rfl
    have fKS_1 := KS.out.cell (i := 1) rfl
    have fKS_2 := KS.out.cell (i := 2) rfl
    have fKS_3 := KS.out.cell (i := 3) rfl
    have fKB_0 := KB.out.cell (i := 0) rfl
    have fKB_1 := KB.out.cell (i := 1) rfl
    have fKB_2 := KB.out.cell (i := 2) rfl
    have fKB_3 := KB.out.cell (i := 3) rfl
    go_wp2_with fail
    refine (CR.out _ BB.out).mono ?_
    rintro e V2 ⟨rfl, hb⟩
    clear fKS_0 fKS_1 fKS_2 fKS_3 fKB_0 fKB_1 fKB_2 fKB_3
    clear CR
    have BBz := Lib.hid (BB.out.trans (hb.mono BB.out.size))
    have HSz := Lib.hid (HS.out.below hb)
    have KSz := Lib.hid (KS.out.below hb)
    have KBz := Lib.hid (KB.out.below hb)
    clear hb BB HS KS KB
    have BB := BBz
    clear BBz
    have HS := HSz
    clear HSz
    have KS := KSz
    clear KSz
    have KB := KBz
    clear KBz
    have fKS_0 := KS.out.cell (i := 0) rfl
    have fKS_1 := KS.out.cell (i := 1) rfl
    have fKS_2 := KS.out.cell (i := 2) rfl
    have fKS_3 := KS.out.cell (i := 3) rfl
    have fKB_0 := KB.out.cell (i := 0) rfl
    have fKB_1 := KB.out.cell (i := 1) rfl
    have fKB_2 := KB.out.cell (i := 2) rfl
    have fKB_3 := KB.out.cell (i := 3) rfl
    go_wp2_with fail
    go_returns
    exact ⟨V2.heap.size, 0, rfl, World.ownsRow_lit (base := w.heap.size) (e := 89) (size := 3) V2 #[] 0 BB.out.size (Nat.zero_le _) rfl, BB.out.alloc BB.out.size _⟩
  cases r3
  · rw [HV0.out (by simp)]
    clear HV0 hf hr hn9 hb9 hr9 hsz hsc hr1 hp hr3
    go_enter Tryz.func9, Tryz.ntmps9
    go_wp2_with fail
    refine (CS.out _ HS.out).mono ?_
    rintro e V1 ⟨rfl, hb⟩
    clear fKS_0 fKS_1 fKS_2 fKS_3 fKB_0 fKB_1 fKB_2 fKB_3
    clear CS
    have BBz := Lib.hid (BB.out.trans (hb.mono BB.out.size))
    have HSz := Lib.hid (HS.out.below hb)
    have KSz := Lib.hid (KS.out.below hb)
    have KBz := Lib.hid (KB.out.below hb)
    clear hb BB HS KS KB
    have BB := BBz
    clear BBz
    have HS := HSz
    clear HSz
    have KS := KSz
    clear KSz
    have KB := KBz
    clear KBz
    have fKS_0 := KS.out.cell (i := 0) rfl
    have fKS_1 := KS.out.cell (i := 1) rfl
    have fKS_2 := KS.out.cell (i := 2) rfl
    have fKS_3 := KS.out.cell (i := 3) rfl
    have fKB_0 := KB.out.cell (i := 0) rfl
    have fKB_1 := KB.out.cell (i := 1) rfl
    have fKB_2 := KB.out.cell (i := 2) rfl
    have fKB_3 := KB.out.cell (i := 3) rfl
    go_wp2_with fail
    refine (CR.out _ BB.out).mono ?_
    rintro e V2 ⟨rfl, hb⟩
    clear fKS_0 fKS_1 fKS_2 fKS_3 fKB_0 fKB_1 fKB_2 fKB_3
    clear CR
    have BBz := Lib.hid (BB.out.trans (hb.mono BB.out.size))
    have HSz := Lib.hid (HS.out.below hb)
    have KSz := Lib.hid (KS.out.below hb)
    have KBz := Lib.hid (KB.out.below hb)
    clear hb BB HS KS KB
    have BB := BBz
    clear BBz
    have HS := HSz
    clear HSz
    have KS := KSz
    clear KSz
    have KB := KBz
    clear KBz
    have fKS_0 := KS.out.cell (i := 0) rfl
    have fKS_1 := KS.out.cell (i := 1) rfl
    have fKS_2 := KS.out.cell (i := 2) rfl
    have fKS_3 := KS.out.cell (i := 3) rfl
    have fKB_0 := KB.out.cell (i := 0) rfl
    have fKB_1 := KB.out.cell (i := 1) rfl
    have fKB_2 := KB.out.cell (i := 2) rfl
    have fKB_3 := KB.out.cell (i := 3) rfl
    go_wp2_with fail
    refine (CB.out _).mono ?_
    rintro e V3 ⟨rfl, hb⟩
    clear fKS_0 fKS_1 fKS_2 fKS_3 fKB_0 fKB_1 fKB_2 fKB_3
    clear CB
    have BBz := Lib.hid (BB.out.trans (hb.mono BB.out.size))
    have HSz := Lib.hid (HS.out.below hb)
    have KSz := Lib.hid (KS.out.below hb)
    have KBz := Lib.hid (KB.out.below hb)
    clear hb BB HS KS KB
    have BB := BBz
    clear BBz
    have HS := HSz
    clear HSz
    have KS := KSz
    clear KSz
    have KB := KBz
    clear KBz
    have fKS_0 := KS.out.cell (i := 0) rfl
    have fKS_1 := KS.out.cell (i := 1) rfl
    have fKS_2 := KS.out.cell (i := 2) rfl
    have fKS_3 := KS.out.cell (i := 3) rfl
    have fKB_0 := KB.out.cell (i := 0) rfl
    have fKB_1 := KB.out.cell (i := 1) rfl
    have fKB_2 := KB.out.cell (i := 2) rfl
    have fKB_3 := KB.out.cell (i := 3) rfl
    go_wp2_with fail
    go_returns
    exact ⟨V3.heap.size, 0, rfl, World.ownsRow_lit (base := w.heap.size) (e := 89) (size := 3) V3 #[] 0 BB.out.size (Nat.zero_le _) rfl, BB.out.alloc BB.out.size _⟩
  have hs : snd9 ds cs gs T ps x y z u = true := by unfold snd9; rw [hr1, hp, hr3]; rfl
  have CW := Lib.hid (fun (W : World) (h : SR W A0 A1 A2 ds cs gs) (h9 : Below w.heap.size w W) => wetS A0 n0 c0 A1 n1 c1 A2 n2 c2 T ds cs gs A9 n9 c9 ps x y z u W hf h hn9 hb9 ((hr9.below h9).more h9.size) hsz hsc hr1 hp hr3)
  have hwt := wz_wt ds cs gs T ps x y z u
  have hww : wwO ds cs gs T ps x y z u = wtO ds cs gs T ps x y z u := by unfold wwO; rw [if_pos hs]
  rw [hww, hwt]
  have HK := Lib.hid (wz_four (zs := all9 ds cs gs T) (ps := ps) (x := x) (y := y) (z := z) (u := u))
  obtain ⟨o9, ho9⟩ : ∃ o, wzO (all9 ds cs gs T) ps x y z u = o := ⟨_, rfl⟩
  rw [ho9] at CW ⊢
  have HN9 := Lib.hid (And.intro hn9 hb9)
  have HR9 := Lib.hid hr9
  have HP := Lib.hid hp
  have HO := Lib.hid ho9
  clear hf hr hn9 hb9 hr9 hsz hsc hr1 hp hr3 hs hwt hww HV0 ho9
  cases o9 with
  | none =>
    clear HK HO
    go_enter Tryz.func9, Tryz.ntmps9
    go_wp2_with fail
    refine (CS.out _ HS.out).mono ?_
    rintro e V1 ⟨rfl, hb⟩
    clear fKS_0 fKS_1 fKS_2 fKS_3 fKB_0 fKB_1 fKB_2 fKB_3
    clear CS
    have BBz := Lib.hid (BB.out.trans (hb.mono BB.out.size))
    have HSz := Lib.hid (HS.out.below hb)
    have KSz := Lib.hid (KS.out.below hb)
    have KBz := Lib.hid (KB.out.below hb)
    clear hb BB HS KS KB
    have BB := BBz
    clear BBz
    have HS := HSz
    clear HSz
    have KS := KSz
    clear KSz
    have KB := KBz
    clear KBz
    have fKS_0 := KS.out.cell (i := 0) rfl
    have fKS_1 := KS.out.cell (i := 1) rfl
    have fKS_2 := KS.out.cell (i := 2) rfl
    have fKS_3 := KS.out.cell (i := 3) rfl
    have fKB_0 := KB.out.cell (i := 0) rfl
    have fKB_1 := KB.out.cell (i := 1) rfl
    have fKB_2 := KB.out.cell (i := 2) rfl
    have fKB_3 := KB.out.cell (i := 3) rfl
    go_wp2_with fail
    refine (CR.out _ BB.out).mono ?_
    rintro e V2 ⟨rfl, hb⟩
    clear fKS_0 fKS_1 fKS_2 fKS_3 fKB_0 fKB_1 fKB_2 fKB_3
    clear CR
    have BBz := Lib.hid (BB.out.trans (hb.mono BB.out.size))
    have HSz := Lib.hid (HS.out.below hb)
    have KSz := Lib.hid (KS.out.below hb)
    have KBz := Lib.hid (KB.out.below hb)
    clear hb BB HS KS KB
    have BB := BBz
    clear BBz
    have HS := HSz
    clear HSz
    have KS := KSz
    clear KSz
    have KB := KBz
    clear KBz
    have fKS_0 := KS.out.cell (i := 0) rfl
    have fKS_1 := KS.out.cell (i := 1) rfl
    have fKS_2 := KS.out.cell (i := 2) rfl
    have fKS_3 := KS.out.cell (i := 3) rfl
    have fKB_0 := KB.out.cell (i := 0) rfl
    have fKB_1 := KB.out.cell (i := 1) rfl
    have fKB_2 := KB.out.cell (i := 2) rfl
    have fKB_3 := KB.out.cell (i := 3) rfl
    go_wp2_with fail
    refine (CB.out _).mono ?_
    rintro e V3 ⟨rfl, hb⟩
    clear fKS_0 fKS_1 fKS_2 fKS_3 fKB_0 fKB_1 fKB_2 fKB_3
    clear CB
    have BBz := Lib.hid (BB.out.trans (hb.mono BB.out.size))
    have HSz := Lib.hid (HS.out.below hb)
    have KSz := Lib.hid (KS.out.below hb)
    have KBz := Lib.hid (KB.out.below hb)
    clear hb BB HS KS KB
    have BB := BBz
    clear BBz
    have HS := HSz
    clear HSz
    have KS := KSz
    clear KSz
    have KB := KBz
    clear KBz
    have fKS_0 := KS.out.cell (i := 0) rfl
    have fKS_1 := KS.out.cell (i := 1) rfl
    have fKS_2 := KS.out.cell (i := 2) rfl
    have fKS_3 := KS.out.cell (i := 3) rfl
    have fKB_0 := KB.out.cell (i := 0) rfl
    have fKB_1 := KB.out.cell (i := 1) rfl
    have fKB_2 := KB.out.cell (i := 2) rfl
    have fKB_3 := KB.out.cell (i := 3) rfl
    go_wp2_with fail
    refine (CW.out _ HS.out BB.out).mono ?_
    rintro e V4 ⟨rfl, hb⟩
    clear fKS_0 fKS_1 fKS_2 fKS_3 fKB_0 fKB_1 fKB_2 fKB_3
    clear CW
    have BBz := Lib.hid (BB.out.trans (hb.mono BB.out.size))
    have HSz := Lib.hid (HS.out.below hb)
    have KSz := Lib.hid (KS.out.below hb)
    have KBz := Lib.hid (KB.out.below hb)
    clear hb BB HS KS KB
    have BB := BBz
    clear BBz
    have HS := HSz
    clear HSz
    have KS := KSz
    clear KSz
    have KB := KBz
    clear KBz
    unfold wzV
    have BF := Lib.hid (BB.out.alloc BB.out.size (.cells #[.string ⟨#[]⟩, .int .i64 0, .int .i64 0, .int .i64 0, .int .i64 0, .int .i64 0, .int .i64 0] 71))
    clear BB HS KS KB
    go_wp2_with fail
    go_returns
    have hOw := World.ownsRow_lit (base := w.heap.size) (e := 89) (size := 3) (V4.alloc (.cells #[.string ⟨#[]⟩, .int .i64 0, .int .i64 0, .int .i64 0, .int .i64 0, .int .i64 0, .int .i64 0] 71)) #[] 0 BF.out.size (Nat.zero_le _) rfl
    rw [show (V4.alloc (.cells #[.string ⟨#[]⟩, .int .i64 0, .int .i64 0, .int .i64 0, .int .i64 0, .int .i64 0, .int .i64 0] 71)).heap.size = V4.heap.size + 1 by simp [go_sem]] at hOw
    exact ⟨_, 0, rfl, hOw, BF.out.alloc BF.out.size _⟩
  | some q =>
    obtain ⟨b, k⟩ := q
    have hk4 := HK.out b k HO.out
    clear HK HO
    obtain ⟨⟨dx, dy⟩, hd⟩ : ∃ q, wD ps (k : Int) = q := ⟨_, rfl⟩
    have hwo : wD ps (k : Int) = wor (k : Int) ps := w_yes HP.out (hd_four hk4)
    have hdb := wor_le HP.out (k : Int)
    rw [← hwo, hd] at hdb
    simp only at hdb
    have CD := Lib.hid (fun (W : World) (h9 : Below w.heap.size w W) => (by have := worstS A9 n9 c9 ps (k : Int) W HN9.out.1 HN9.out.2 ((HR9.out.below h9).more h9.size); rw [hd] at this; exact this : Calls Tryz.prog 37 #[.slice A9 n9 c9, .int .i64 (k : Int)] W fun e w' => e = .returned (.agg #[.int .i64 dx, .int .i64 dy]) ∧ Below W.heap.size W w'))
    have CT := Lib.hid (fun (W : World) => steadyS dx dy hdb W)
    have HW := Lib.hid (show wwL ps (some k) = chg [(dx, dy)] by show lat [(0, wD ps (k : Int))] 0 = _; rw [hd]; exact lat_one hdb)
    clear hd hwo hdb
    go_enter Tryz.func9, Tryz.ntmps9
    go_wp2_with fail
    refine (CS.out _ HS.out).mono ?_
    rintro e V1 ⟨rfl, hb⟩
    clear fKS_0 fKS_1 fKS_2 fKS_3 fKB_0 fKB_1 fKB_2 fKB_3
    clear CS
    have BBz := Lib.hid (BB.out.trans (hb.mono BB.out.size))
    have HSz := Lib.hid (HS.out.below hb)
    have KSz := Lib.hid (KS.out.below hb)
    have KBz := Lib.hid (KB.out.below hb)
    clear hb BB HS KS KB
    have BB := BBz
    clear BBz
    have HS := HSz
    clear HSz
    have KS := KSz
    clear KSz
    have KB := KBz
    clear KBz
    have fKS_0 := KS.out.cell (i := 0) rfl
    have fKS_1 := KS.out.cell (i := 1) rfl
    have fKS_2 := KS.out.cell (i := 2) rfl
    have fKS_3 := KS.out.cell (i := 3) rfl
    have fKB_0 := KB.out.cell (i := 0) rfl
    have fKB_1 := KB.out.cell (i := 1) rfl
    have fKB_2 := KB.out.cell (i := 2) rfl
    have fKB_3 := KB.out.cell (i := 3) rfl
    go_wp2_with fail
    refine (CR.out _ BB.out).mono ?_
    rintro e V2 ⟨rfl, hb⟩
    clear fKS_0 fKS_1 fKS_2 fKS_3 fKB_0 fKB_1 fKB_2 fKB_3
    clear CR
    have BBz := Lib.hid (BB.out.trans (hb.mono BB.out.size))
    have HSz := Lib.hid (HS.out.below hb)
    have KSz := Lib.hid (KS.out.below hb)
    have KBz := Lib.hid (KB.out.below hb)
    clear hb BB HS KS KB
    have BB := BBz
    clear BBz
    have HS := HSz
    clear HSz
    have KS := KSz
    clear KSz
    have KB := KBz
    clear KBz
    have fKS_0 := KS.out.cell (i := 0) rfl
    have fKS_1 := KS.out.cell (i := 1) rfl
    have fKS_2 := KS.out.cell (i := 2) rfl
    have fKS_3 := KS.out.cell (i := 3) rfl
    have fKB_0 := KB.out.cell (i := 0) rfl
    have fKB_1 := KB.out.cell (i := 1) rfl
    have fKB_2 := KB.out.cell (i := 2) rfl
    have fKB_3 := KB.out.cell (i := 3) rfl
    go_wp2_with fail
    refine (CB.out _).mono ?_
    rintro e V3 ⟨rfl, hb⟩
    clear fKS_0 fKS_1 fKS_2 fKS_3 fKB_0 fKB_1 fKB_2 fKB_3
    clear CB
    have BBz := Lib.hid (BB.out.trans (hb.mono BB.out.size))
    have HSz := Lib.hid (HS.out.below hb)
    have KSz := Lib.hid (KS.out.below hb)
    have KBz := Lib.hid (KB.out.below hb)
    clear hb BB HS KS KB
    have BB := BBz
    clear BBz
    have HS := HSz
    clear HSz
    have KS := KSz
    clear KSz
    have KB := KBz
    clear KBz
    have fKS_0 := KS.out.cell (i := 0) rfl
    have fKS_1 := KS.out.cell (i := 1) rfl
    have fKS_2 := KS.out.cell (i := 2) rfl
    have fKS_3 := KS.out.cell (i := 3) rfl
    have fKB_0 := KB.out.cell (i := 0) rfl
    have fKB_1 := KB.out.cell (i := 1) rfl
    have fKB_2 := KB.out.cell (i := 2) rfl
    have fKB_3 := KB.out.cell (i := 3) rfl
    go_wp2_with fail
    refine (CW.out _ HS.out BB.out).mono ?_
    rintro e V4 ⟨rfl, hb⟩
    clear fKS_0 fKS_1 fKS_2 fKS_3 fKB_0 fKB_1 fKB_2 fKB_3
    clear CW
    have BBz := Lib.hid (BB.out.trans (hb.mono BB.out.size))
    have HSz := Lib.hid (HS.out.below hb)
    have KSz := Lib.hid (KS.out.below hb)
    have KBz := Lib.hid (KB.out.below hb)
    clear hb BB HS KS KB
    have BB := BBz
    clear BBz
    have HS := HSz
    clear HSz
    have KS := KSz
    clear KSz
    have KB := KBz
    clear KBz
    unfold wzV
    have BF := Lib.hid (BB.out.alloc BB.out.size (.cells #[.string b.d.nm, .int .i64 b.b, .int .i64 b.d.x, .int .i64 b.d.y, .int .i64 b.d.hd, .int .i64 b.d.tl, .int .i64 b.l] 71))
    clear BB HS KS KB
    go_wp2_with fail
    refine (CD.out _ BF.out).mono ?_
    rintro e v9 ⟨rfl, hb⟩
    have BG := Lib.hid (BF.out.trans (hb.mono BF.out.size))
    clear hb BF CD
    go_wp2_with fail
    refine (CT.out _).mono ?_
    rintro e v8 ⟨g, c, rfl, ho, hb⟩
    have ho := owns_base ho (Nat.le_trans BG.out.size (ho.lt g rfl).1)
    have hb := BG.out.trans (hb.mono BG.out.size)
    have HO := Lib.hid ho
    have HB9 := Lib.hid hb
    clear ho hb CT BG
    go_wp2_with fail
    go_returns
    show RowW w (wwL ps (some k)) true _ _
    rw [HW.out]
    exact ⟨g, c, rfl, HO.out, HB9.out⟩
end Go.Proofs.YtokncfhpmjohdaaGreat.Wg11
