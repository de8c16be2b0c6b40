/- Levels: what the cues of a name make of them; the ramp's methods. -/
import Derived.Test.YtejeikfgmiadhabGreatM13
import Derived.Deep.RegionHeld3
set_option linter.unusedVariables false
set_option linter.unusedSimpArgs false
namespace Go.Proofs.YtejeikfgmiadhabGreat.Ld
open Go.RowKit Go.ChangeShapes Go.WideShapes Go.WideElems Go.Deep Go.Proofs.YtejeikfgmiadhabGreat.Mem Go.Proofs.YtejeikfgmiadhabGreat.Rw Go.Proofs.YtejeikfgmiadhabGreat.P2 Go.Proofs.YtejeikfgmiadhabGreat.Cd Go.Proofs.YtejeikfgmiadhabGreat.Cv Go.Proofs.YtejeikfgmiadhabGreat.Cl Go.Proofs.YtejeikfgmiadhabGreat.Cs
set_option linter.unusedVariables false
set_option linter.unusedSimpArgs false
open Go.Proofs.YtejeikfgmiadhabGreat.Sd Go.Proofs.YtejeikfgmiadhabGreat.Tn Go.Proofs.YtejeikfgmiadhabGreat.Oc Go.Proofs.YtejeikfgmiadhabGreat.RampAt Go.Proofs.YtejeikfgmiadhabGreat.Jt

/-- A cue behind those that led to this level. -/
def stepC (t : Int) (u : Int × C) (x : C) : Int × C := if x.tk ≤ t then (level u.1 u.2.lv (x.tk - u.2.tk) u.2.rp, x) else u
/-- Where the first cues lead. -/
def reach (t : Int) (ys : List C) : Int × C := ys.foldl (stepC t) (0, d0)
/-- The level by cues of one name. -/
def levP (t : Int) (ys : List C) : Int := level (reach t ys).1 (reach t ys).2.lv (t - (reach t ys).2.tk) (reach t ys).2.rp
/-- The level of a name. -/
noncomputable def levV (zs : List C) (s : ByteArray) (t : Int) : Int := levP t (only zs [s])
theorem reach_snoc (t : Int) (ys : List C) (x : C) : reach t (ys ++ [x]) = stepC t (reach t ys) x := by unfold reach; rw [List.foldl_append]; rfl
theorem step_yes {t : Int} (u : Int × C) {x : C} (h : x.tk ≤ t) : stepC t u x = (level u.1 u.2.lv (x.tk - u.2.tk) u.2.rp, x) := by unfold stepC; rw [if_pos h]
theorem step_no {t : Int} (u : Int × C) {x : C} (h : ¬ x.tk ≤ t) : stepC t u x = u := by unfold stepC; rw [if_neg h]
/-- A cue's ticks are those of a cue, or of none. -/
def Tame (t : Int) (u : Int × C) : Prop := (0 ≤ u.2.tk ∧ u.2.tk ≤ 64) ∧ (0 ≤ u.2.rp ∧ u.2.rp ≤ 16) ∧ (u.2.tk ≤ t ∨ u.2.tk = 0)
theorem cB_in {d : C} (h : cB d = true) : (0 ≤ d.tk ∧ d.tk ≤ 64) ∧ (0 ≤ d.lv ∧ d.lv ≤ 32) ∧ (0 ≤ d.rp ∧ d.rp ≤ 16) := by
  unfold cB cueB at h
  rw [Bool.and_eq_true, Bool.and_eq_true, Bool.and_eq_true] at h
  have h1 := iw_iff.1 h.1
  have h2 := iw_iff.1 h.2.2.1
  have h3 := iw_iff.1 h.2.2.2
  omega
theorem tame_zero (t : Int) : Tame t (0, d0) := ⟨⟨by decide, by decide⟩, ⟨by decide, by decide⟩, Or.inr rfl⟩
theorem tame_step {t : Int} {u : Int × C} (h : Tame t u) {x : C} (hx : cB x = true) : Tame t (stepC t u x) := by
  by_cases e : x.tk ≤ t
  · rw [step_yes u e]
    have := cB_in hx
    exact ⟨this.1, this.2.2, Or.inl e⟩
  · rw [step_no u e]; exact h
theorem reach_tame (t : Int) (ys : List C) (h : ∀ x ∈ ys, cB x = true) : Tame t (reach t ys) := by
  have key : ∀ (ys : List C) (u : Int × C), Tame t u → (∀ x ∈ ys, cB x = true) → Tame t (ys.foldl (stepC t) u) := by
    intro ys
    induction ys with
    | nil => intro u hu _; exact hu
    | cons y r ih => intro u hu hr; exact ih _ (tame_step hu (hr y (List.mem_cons_self ..))) (fun x hx => hr x (List.mem_cons_of_mem _ hx))
  exact key ys _ (tame_zero t) h
theorem score_all {zs : List C} (h : score zs = true) : ∀ x ∈ zs, cB x = true := fun x hx => by
  obtain ⟨k, hk, rfl⟩ := List.getElem_of_mem hx
  exact ((score_of h).2 k _ (List.getElem?_eq_getElem hk)).1
theorem pick_all {zs : List C} {ss : List ByteArray} (h : ∀ x ∈ zs, cB x = true) : ∀ x ∈ pick zs ss, cB x = true := fun x hx => h x ((List.mem_filter.1 hx).1)
theorem only_all (zs : List C) (ss : List ByteArray) : ∀ x ∈ only zs ss, cB x = true := fun x hx => by
  cases c : score zs
  · rw [only_no c] at hx; cases hx
  · rw [only_yes c] at hx; exact pick_all (score_all c) x hx
theorem wf64 {x : Int} (h1 : -9223372036854775808 ≤ x) (h2 : x ≤ 9223372036854775807) : (Lit.int .i64 x).wf = true := by
  simp [Lit.wf, IntKind.min, IntKind.max, IntKind.signed, IntKind.bits]
  omega
theorem hasN_one (s x : ByteArray) : hasN [s] x = (x.toList == s.toList) := by
  by_cases h : x = s
  · subst h; rw [hasN_yes (List.mem_singleton.2 rfl), bl_eq.2 rfl]
  · rw [hasN_no (fun c => h (List.mem_singleton.1 c)), bl_ne h]
theorem wpAnyH_to {P : Program} {md : Region.Mode} {ops : Array Oper} {Q : Exit → Act → World → Prop} {S S' : World → Prop} (hSS : ∀ w, S' w → S w) : ∀ (fuel : Nat) (listed : Array Bool) (a : Act) (w : World), wpAnyH P md ops Q S' fuel listed a w → wpAnyH P md ops Q S fuel listed a w
  | 0, _, _, _, h => h
  | fuel + 1, _, _, _, h => ⟨h.1, fun i hi => wpOp_mono (fun a' w' r => ⟨hSS _ r.1, wpAnyH_to hSS fuel _ a' w' r.2⟩) (h.2 i hi)⟩

theorem set4 {W : World} {g : Nat} {a b c d p q r s : Value} (h0 : W.cell? ⟨g, 0, none⟩ = some p) (h1 : W.cell? ⟨g, 1, none⟩ = some q) (h2 : W.cell? ⟨g, 2, none⟩ = some r) (h3 : W.cell? ⟨g, 3, none⟩ = some s) :
    ((((W.setCell ⟨g, 0, none⟩ a).setCell ⟨g, 1, none⟩ b).setCell ⟨g, 2, none⟩ c).setCell ⟨g, 3, none⟩ d).cell? ⟨g, 0, none⟩ = some a ∧
    ((((W.setCell ⟨g, 0, none⟩ a).setCell ⟨g, 1, none⟩ b).setCell ⟨g, 2, none⟩ c).setCell ⟨g, 3, none⟩ d).cell? ⟨g, 1, none⟩ = some b ∧
    ((((W.setCell ⟨g, 0, none⟩ a).setCell ⟨g, 1, none⟩ b).setCell ⟨g, 2, none⟩ c).setCell ⟨g, 3, none⟩ d).cell? ⟨g, 2, none⟩ = some c ∧
    ((((W.setCell ⟨g, 0, none⟩ a).setCell ⟨g, 1, none⟩ b).setCell ⟨g, 2, none⟩ c).setCell ⟨g, 3, none⟩ d).cell? ⟨g, 3, none⟩ = some d := by
  have o : ∀ (X : World) (i j : Nat) (v : Value), i ≠ j → (X.setCell ⟨g, i, none⟩ v).cell? ⟨g, j, none⟩ = X.cell? ⟨g, j, none⟩ := fun X i j v h => World.cell?_setCell_other _ _ _ _ (by simp [h])
  refine ⟨?_, ?_, ?_, ?_⟩
  · rw [o _ 3 0 _ (by decide), o _ 2 0 _ (by decide), o _ 1 0 _ (by decide)]; exact World.cell?_setCell_same' _ _ _ (by rw [h0]; rfl)
  · rw [o _ 3 1 _ (by decide), o _ 2 1 _ (by decide)]; exact World.cell?_setCell_same' _ _ _ (by rw [o _ 0 1 _ (by decide), h1]; rfl)
  · rw [o _ 3 2 _ (by decide)]; exact World.cell?_setCell_same' _ _ _ (by rw [o _ 1 2 _ (by decide), o _ 0 2 _ (by decide), h2]; rfl)
  · exact World.cell?_setCell_same' _ _ _ (by rw [o _ 2 3 _ (by decide), o _ 1 3 _ (by decide), o _ 0 3 _ (by decide), h3]; rfl)

set_option maxHeartbeats 1000000 in
theorem levelAtI (f l fr tk t : Int) (hw : wrap64 (t - fr) = t - fr) (w1 : (Lit.int .i64 (t - fr)).wf = true) (w2 : (Lit.int .i64 tk).wf = true) (w : World) :
    Calls Tryz.prog 188 #[.agg #[.int .i64 f, .int .i64 l, .int .i64 fr, .int .i64 tk], .int .i64 t] w fun e w' => e = .returned (.int .i64 (level f l (t - fr) tk)) ∧ w' = w.alloc (.cells #[.int .i64 f, .int .i64 l, .int .i64 fr, .int .i64 tk] 217) := by
  have C := Lib.hid (RampAt.impl f l (t - fr) tk w1 w2)
  clear w1 w2
  obtain ⟨v, hv⟩ : ∃ v, level f l (t - fr) tk = v := ⟨_, rfl⟩
  rw [hv] at C ⊢
  clear hv
  go_enter Tryz.func188, Tryz.ntmps188
  go_wp2_with fail
  refine (C.out _).mono ?_
  rintro e w' ⟨rfl, rfl⟩
  go_wp2_with fail
  go_returns
  exact ⟨rfl, rfl⟩

set_option maxHeartbeats 4000000 in
set_option maxRecDepth 100000 in
theorem interruptedI (f l fr tk t : Int) (n : ByteArray) (lv rp : Int) (hw : wrap64 (t - fr) = t - fr) (w1 : (Lit.int .i64 (t - fr)).wf = true) (w2 : (Lit.int .i64 tk).wf = true) (w : World) :
    Calls Tryz.prog 187 #[.agg #[.int .i64 f, .int .i64 l, .int .i64 fr, .int .i64 tk], va t n lv rp] w fun e w' => e = .returned (.agg #[.int .i64 (level f l (t - fr) tk), .int .i64 lv, .int .i64 t, .int .i64 rp]) ∧ Below w.heap.size w w' := by
  have C := Lib.hid (levelAtI f l fr tk t hw w1 w2)
  clear w1 w2 hw
  obtain ⟨v, hv⟩ : ∃ v, level f l (t - fr) tk = v := ⟨_, rfl⟩
  rw [hv] at C ⊢
  clear hv
  go_enter Tryz.func187, Tryz.ntmps187
  go_wp2_with fail
  refine wp_region_noPanic ?_
  refine wp_region_held_drew (S := (fun w' => w'.cell? ⟨w.heap.size, 0, none⟩ = some (.int .i64 f) ∧ w'.cell? ⟨w.heap.size, 1, none⟩ = some (.int .i64 l) ∧ w'.cell? ⟨w.heap.size, 2, none⟩ = some (.int .i64 fr) ∧ w'.cell? ⟨w.heap.size, 3, none⟩ = some (.int .i64 tk) ∧ w'.cell? ⟨w.heap.size + 1, 0, none⟩ = some (.int .i64 t) ∧ w'.cell? ⟨w.heap.size + 1, 1, none⟩ = some (.string n) ∧ w'.cell? ⟨w.heap.size + 1, 2, none⟩ = some (.int .i64 lv) ∧ w'.cell? ⟨w.heap.size + 1, 3, none⟩ = some (.int .i64 rp) ∧ (∃ p, w'.cell? ⟨w.heap.size + 1 + 1, 0, none⟩ = some p) ∧ (∃ p, w'.cell? ⟨w.heap.size + 1 + 1, 1, none⟩ = some p) ∧ (∃ p, w'.cell? ⟨w.heap.size + 1 + 1, 2, none⟩ = some p) ∧ (∃ p, w'.cell? ⟨w.heap.size + 1 + 1, 3, none⟩ = some p) ∧ w'.frozen? ⟨w.heap.size + 1 + 1, 0, none⟩ = false ∧ w'.frozen? ⟨w.heap.size + 1 + 1, 1, none⟩ = false ∧ w'.frozen? ⟨w.heap.size + 1 + 1, 2, none⟩ = false ∧ w'.frozen? ⟨w.heap.size + 1 + 1, 3, none⟩ = false ∧ Below w.heap.size w w')) (by kernel_rfl) ?_ (fun hH => ?_)
  · exact ⟨by simp [go_sem], by simp [go_sem], by simp [go_sem], by simp [go_sem], by simp [go_sem], by simp [go_sem], by simp [go_sem], by simp [go_sem], ⟨.int .i64 0, by simp [go_sem]⟩, ⟨.int .i64 0, by simp [go_sem]⟩, ⟨.int .i64 0, by simp [go_sem]⟩, ⟨.int .i64 0, by simp [go_sem]⟩, by simp [go_sem], by simp [go_sem], by simp [go_sem], by simp [go_sem], by go_grown⟩
  refine wpAnyH_take (i := 0) (oi := { dst := some 5, op := _, type := _, pos := _, after := _, guard := _ }) (v := ?_) rfl (by kernel_rfl) (by kernel_rfl) (by kernel_rfl) (fun _ _ _ h => h) (Or.inl ⟨by rfl, ?_⟩) hH ?_
  rotate_left 1
  · intro W hSw
    (try dsimp only at hSw)
    go_simp
    (try with_reducible rfl)
  try simp only [Act.put, List.setIfInBounds_toArray, List.set_cons_zero, List.set_cons_succ]
  refine wpAnyH_take (i := 1) (oi := { dst := some 6, op := _, type := _, pos := _, after := _, guard := _ }) (v := ?_) rfl (by kernel_rfl) (by kernel_rfl) (by kernel_rfl) (fun _ _ _ h => h) (Or.inl ⟨by rfl, ?_⟩) hH ?_
  rotate_left 1
  · intro W hSw
    (try dsimp only at hSw)
    go_simp
    (try with_reducible rfl)
  try simp only [Act.put, List.setIfInBounds_toArray, List.set_cons_zero, List.set_cons_succ]
  refine wpAnyH_take (i := 2) (oi := { dst := some 7, op := _, type := _, pos := _, after := _, guard := _ }) (v := ?_) rfl (by kernel_rfl) (by kernel_rfl) (by kernel_rfl) (fun _ _ _ h => h) (Or.inl ⟨by rfl, ?_⟩) hH ?_
  rotate_left 1
  · intro W hSw
    (try dsimp only at hSw)
    go_simp
    (try with_reducible rfl)
  try simp only [Act.put, List.setIfInBounds_toArray, List.set_cons_zero, List.set_cons_succ]
  refine wpAnyH_take (i := 4) (oi := { dst := some 9, op := _, type := _, pos := _, after := _, guard := _ }) (v := ?_) rfl (by kernel_rfl) (by kernel_rfl) (by kernel_rfl) (fun _ _ _ h => h) (Or.inl ⟨by rfl, ?_⟩) hH ?_
  rotate_left 1
  · intro W hSw
    (try dsimp only at hSw)
    go_simp
    (try with_reducible rfl)
  try simp only [Act.put, List.setIfInBounds_toArray, List.set_cons_zero, List.set_cons_succ]
  refine wpAnyH_take (i := 5) (oi := { dst := some 10, op := _, type := _, pos := _, after := _, guard := _ }) (v := ?_) rfl (by kernel_rfl) (by kernel_rfl) (by kernel_rfl) (fun _ _ _ h => h) (Or.inl ⟨by rfl, ?_⟩) hH ?_
  rotate_left 1
  · intro W hSw
    (try dsimp only at hSw)
    go_simp
    (try with_reducible rfl)
  try simp only [Act.put, List.setIfInBounds_toArray, List.set_cons_zero, List.set_cons_succ]
  refine wpAnyH_take (i := 6) (oi := { dst := some 11, op := _, type := _, pos := _, after := _, guard := _ }) (v := ?_) rfl (by kernel_rfl) (by kernel_rfl) (by kernel_rfl) (fun _ _ _ h => h) (Or.inl ⟨by rfl, ?_⟩) hH ?_
  rotate_left 1
  · intro W hSw
    (try dsimp only at hSw)
    go_simp
    (try with_reducible rfl)
  try simp only [Act.put, List.setIfInBounds_toArray, List.set_cons_zero, List.set_cons_succ]
  refine wpAnyH_take (i := 7) (oi := { dst := some 12, op := _, type := _, pos := _, after := _, guard := _ }) (v := ?_) rfl (by kernel_rfl) (by kernel_rfl) (by kernel_rfl) (fun _ _ _ h => h) (Or.inl ⟨by rfl, ?_⟩) hH ?_
  rotate_left 1
  · intro W hSw
    (try dsimp only at hSw)
    go_simp
    (try with_reducible rfl)
  try simp only [Act.put, List.setIfInBounds_toArray, List.set_cons_zero, List.set_cons_succ]
  refine wpAnyH_take (i := 8) (oi := { dst := some 13, op := _, type := _, pos := _, after := _, guard := _ }) (v := ?_) rfl (by kernel_rfl) (by kernel_rfl) (by kernel_rfl) (fun _ _ _ h => h) (Or.inl ⟨by rfl, ?_⟩) hH ?_
  rotate_left 1
  · intro W hSw
    (try dsimp only at hSw)
    go_simp
    (try with_reducible rfl)
  try simp only [Act.put, List.setIfInBounds_toArray, List.set_cons_zero, List.set_cons_succ]
  refine wpAnyH_take (i := 9) (oi := { dst := some 14, op := _, type := _, pos := _, after := _, guard := _ }) (v := ?_) rfl (by kernel_rfl) (by kernel_rfl) (by kernel_rfl) (fun _ _ _ h => h) (Or.inl ⟨by rfl, ?_⟩) hH ?_
  rotate_left 1
  · intro W hSw
    (try dsimp only at hSw)
    go_simp
    (try with_reducible rfl)
  try simp only [Act.put, List.setIfInBounds_toArray, List.set_cons_zero, List.set_cons_succ]
  refine wpAnyH_ready (rs := [3]) (by kernel_rfl) (by simp) (AllReadyH.cons rfl (fun K hK => ?_) AllReadyH.nil)
  go_simp
  go_at_call 188; ((with_reducible refine (C.out _).mono ?_); rintro e r1 ⟨rfl, rfl⟩); go_wp2_with fail
  refine hK.out _ _ ?_ (fun hG => ?_)
  · exact ⟨by simp [go_sem], by simp [go_sem], by simp [go_sem], by simp [go_sem], by simp [go_sem], by simp [go_sem], by simp [go_sem], by simp [go_sem], ⟨.int .i64 0, by simp [go_sem]⟩, ⟨.int .i64 0, by simp [go_sem]⟩, ⟨.int .i64 0, by simp [go_sem]⟩, ⟨.int .i64 0, by simp [go_sem]⟩, by simp [go_sem], by simp [go_sem], by simp [go_sem], by simp [go_sem], by go_grown⟩
  replace hH := hG
  clear hK K hG
  try simp only [Act.put, List.setIfInBounds_toArray, List.set_cons_zero, List.set_cons_succ]
  refine wpAnyH_take (i := 10) (oi := { dst := some 15, op := _, type := _, pos := _, after := _, guard := _ }) (v := ?_) rfl (by kernel_rfl) (by kernel_rfl) (by kernel_rfl) (fun _ _ _ h => h) (Or.inl ⟨by rfl, ?_⟩) hH ?_
  rotate_left 1
  · intro W hSw
    (try dsimp only at hSw)
    go_simp
    (try with_reducible rfl)
  try simp only [Act.put, List.setIfInBounds_toArray, List.set_cons_zero, List.set_cons_succ]
  refine wpAnyH_to (S' := (fun w' => w'.cell? ⟨w.heap.size, 0, none⟩ = some (.int .i64 f) ∧ w'.cell? ⟨w.heap.size, 1, none⟩ = some (.int .i64 l) ∧ w'.cell? ⟨w.heap.size, 2, none⟩ = some (.int .i64 fr) ∧ w'.cell? ⟨w.heap.size, 3, none⟩ = some (.int .i64 tk) ∧ w'.cell? ⟨w.heap.size + 1, 0, none⟩ = some (.int .i64 t) ∧ w'.cell? ⟨w.heap.size + 1, 1, none⟩ = some (.string n) ∧ w'.cell? ⟨w.heap.size + 1, 2, none⟩ = some (.int .i64 lv) ∧ w'.cell? ⟨w.heap.size + 1, 3, none⟩ = some (.int .i64 rp) ∧ w'.cell? ⟨w.heap.size + 1 + 1, 0, none⟩ = some (.int .i64 v) ∧ w'.cell? ⟨w.heap.size + 1 + 1, 1, none⟩ = some (.int .i64 lv) ∧ w'.cell? ⟨w.heap.size + 1 + 1, 2, none⟩ = some (.int .i64 t) ∧ w'.cell? ⟨w.heap.size + 1 + 1, 3, none⟩ = some (.int .i64 rp) ∧ w'.frozen? ⟨w.heap.size + 1 + 1, 0, none⟩ = false ∧ w'.frozen? ⟨w.heap.size + 1 + 1, 1, none⟩ = false ∧ w'.frozen? ⟨w.heap.size + 1 + 1, 2, none⟩ = false ∧ w'.frozen? ⟨w.heap.size + 1 + 1, 3, none⟩ = false ∧ Below w.heap.size w w')) (fun w' h => ⟨h.1, h.2.1, h.2.2.1, h.2.2.2.1, h.2.2.2.2.1, h.2.2.2.2.2.1, h.2.2.2.2.2.2.1, h.2.2.2.2.2.2.2.1, ⟨_, h.2.2.2.2.2.2.2.2.1⟩, ⟨_, h.2.2.2.2.2.2.2.2.2.1⟩, ⟨_, h.2.2.2.2.2.2.2.2.2.2.1⟩, ⟨_, h.2.2.2.2.2.2.2.2.2.2.2.1⟩, h.2.2.2.2.2.2.2.2.2.2.2.2⟩) _ _ _ _ ?_
  obtain ⟨x0, x1, x2, x3, y0, y1, y2, y3, ⟨p0, z0⟩, ⟨p1, z1⟩, ⟨p2, z2⟩, ⟨p3, z3⟩, f0, f1, f2, f3, hB⟩ := hH
  generalize (World.drew _) = V at *
  refine wpAnyH_ready (rs := [11]) (by kernel_rfl) (by simp) (AllReadyH.cons rfl (fun K hK => ?_) AllReadyH.nil)
  go_simp
  refine hK.out _ _ ?_ (fun hG => ?_)
  · obtain ⟨s0, s1, s2, s3⟩ := set4 (a := .int .i64 v) (b := .int .i64 lv) (c := .int .i64 t) (d := .int .i64 rp) z0 z1 z2 z3
    exact ⟨by simp [go_sem, x0], by simp [go_sem, x1], by simp [go_sem, x2], by simp [go_sem, x3], by simp [go_sem, y0], by simp [go_sem, y1], by simp [go_sem, y2], by simp [go_sem, y3], s0, s1, s2, s3, by simp [go_sem, f0], by simp [go_sem, f1], by simp [go_sem, f2], by simp [go_sem, f3], hB.trans (by go_grown)⟩
  replace hH := hG
  clear hK K hG
  try simp only [Act.put, List.setIfInBounds_toArray, List.set_cons_zero, List.set_cons_succ]
  refine wpAnyH_done (by kernel_rfl) ?_ _
  refine NoPanic.normal ?_
  obtain ⟨_, _, _, _, _, _, _, _, s0, s1, s2, s3, _, _, _, _, hB2⟩ := hH
  have HB := Lib.hid hB2
  clear hB2 hB x0 x1 x2 x3 y0 y1 y2 y3 z0 z1 z2 z3 f0 f1 f2 f3
  go_wp2_with fail
  (try simp only [Exit.inBlock, Exit.then])
  refine bodyPost_ret (v := .agg #[.int .i64 v, .int .i64 lv, .int .i64 t, .int .i64 rp]) (by simp only [results, Tryz.results187, s0, s1, s2, s3]; simp [go_sem, s0, s1, s2, s3]; try rfl) rfl ?_
  exact ⟨rfl, HB.out⟩
end Go.Proofs.YtejeikfgmiadhabGreat.Ld
namespace Go.Proofs.YtejeikfgmiadhabGreat.Fe9
open Go.RowKit Go.ChangeShapes Go.WideShapes Go.WideElems Go.Deep Go.Proofs.YtejeikfgmiadhabGreat.Mem Go.Proofs.YtejeikfgmiadhabGreat.Rw Go.Proofs.YtejeikfgmiadhabGreat.P2 Go.Proofs.YtejeikfgmiadhabGreat.Cd Go.Proofs.YtejeikfgmiadhabGreat.Cv Go.Proofs.YtejeikfgmiadhabGreat.Cl Go.Proofs.YtejeikfgmiadhabGreat.Cs
set_option linter.unusedVariables false
set_option linter.unusedSimpArgs false
open Go.Proofs.YtejeikfgmiadhabGreat.Jt Go.Proofs.YtejeikfgmiadhabGreat.IsName Go.Proofs.YtejeikfgmiadhabGreat.Sd Go.Proofs.YtejeikfgmiadhabGreat.Oc Go.Proofs.YtejeikfgmiadhabGreat.Ld Go.Proofs.YtejeikfgmiadhabGreat.RampAt Go.Proofs.YtejeikfgmiadhabGreat.Tn

theorem quo_between (d i n : Int) (hi : 0 < i) (hin : i < n) : (0 ≤ d → 0 ≤ d * i / n ∧ d * i / n ≤ d) ∧ (d ≤ 0 → d ≤ d * i / n ∧ d * i / n ≤ 0) := by
  have hn : 0 < n := by omega
  constructor
  · intro hd
    refine ⟨Int.ediv_nonneg (Int.mul_nonneg hd (by omega)) (by omega), ?_⟩
    have : d * i ≤ d * n := Int.mul_le_mul_of_nonneg_left (by omega) hd
    calc d * i / n ≤ d * n / n := Int.ediv_le_ediv hn this
      _ = d := Int.mul_ediv_cancel _ (by omega)
  · intro hd
    constructor
    · have : d * n ≤ d * i := Int.mul_le_mul_of_nonpos_left hd (by omega)
      calc d = d * n / n := (Int.mul_ediv_cancel _ (by omega)).symm
        _ ≤ d * i / n := Int.ediv_le_ediv hn this
    · have : d * i ≤ 0 := Int.mul_nonpos_of_nonpos_of_nonneg hd (by omega)
      calc d * i / n ≤ 0 / n := Int.ediv_le_ediv hn this
        _ = 0 := Int.zero_ediv _
theorem level_between {a b : Int} (i n : Int) (ha1 : -4096 ≤ a) (ha2 : a ≤ 4096) (hb1 : -4096 ≤ b) (hb2 : b ≤ 4096) : (a ≤ level a b i n ∧ level a b i n ≤ b) ∨ (b ≤ level a b i n ∧ level a b i n ≤ a) := by
  rw [level_yes i n ha1 ha2 hb1 hb2]
  split
  · omega
  · split
    · omega
    · have := quo_between (b - a) i n (by omega) (by omega)
      generalize (b - a) * i / n = q at *
      by_cases h : a ≤ b
      · have := this.1 (by omega); omega
      · have := this.2 (by omega); omega
theorem level_in {a b : Int} (i n : Int) (ha1 : 0 ≤ a) (ha2 : a ≤ 32) (hb1 : 0 ≤ b) (hb2 : b ≤ 32) : 0 ≤ level a b i n ∧ level a b i n ≤ 32 := by
  have := level_between i n (show -4096 ≤ a by omega) (by omega) (show -4096 ≤ b by omega) (by omega)
  omega
/-- What is known where the cues led. -/
def Sane (u : Int × C) : Prop := (0 ≤ u.1 ∧ u.1 ≤ 32) ∧ (0 ≤ u.2.lv ∧ u.2.lv ≤ 32)
theorem sane_step {t : Int} {u : Int × C} (h : Sane u) {x : C} (hx : cB x = true) : Sane (stepC t u x) := by
  by_cases e : x.tk ≤ t
  · rw [step_yes u e]
    exact ⟨level_in _ _ h.1.1 h.1.2 h.2.1 h.2.2, (cB_in hx).2.1⟩
  · rw [step_no u e]; exact h
theorem reach_sane (t : Int) (ys : List C) (h : ∀ x ∈ ys, cB x = true) : Sane (reach t ys) := by
  have key : ∀ (ys : List C) (u : Int × C), Sane u → (∀ x ∈ ys, cB x = true) → Sane (ys.foldl (stepC t) u) := by
    intro ys
    induction ys with
    | nil => intro u hu _; exact hu
    | cons y r ih => intro u hu hr; exact ih _ (sane_step hu (hr y (List.mem_cons_self ..))) (fun x hx => hr x (List.mem_cons_of_mem _ hx))
  exact key ys _ ⟨⟨Int.le_refl _, by decide⟩, ⟨Int.le_refl _, by decide⟩⟩ h
theorem lev_in (t : Int) {ys : List C} (h : ∀ x ∈ ys, cB x = true) : 0 ≤ levP t ys ∧ levP t ys ≤ 32 := by
  have := reach_sane t ys h
  exact level_in _ _ this.1.1 this.1.2 this.2.1 this.2.2
theorem levV_in (zs : List C) (s : ByteArray) (t : Int) : 0 ≤ levV zs s t ∧ levV zs s t ≤ 32 := lev_in t (only_all zs [s])
end Go.Proofs.YtejeikfgmiadhabGreat.Fe9
