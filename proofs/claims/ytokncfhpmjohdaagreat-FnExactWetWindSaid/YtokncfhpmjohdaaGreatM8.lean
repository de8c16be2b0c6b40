/- Levels: what the cues of a name make of them; the ramp's methods. -/
import Derived.Test.YtokncfhpmjohdaaGreatM7
import Derived.Deep.RegionHeld3
import Derived.Test.YtokncfhpmjohdaaGreatRows
import Derived.Test.YtokncfhpmjohdaaGreatM5
import Derived.Test.YtokncfhpmjohdaaGreatM3
set_option linter.unusedVariables false
set_option linter.unusedSimpArgs false
namespace Go.Proofs.YtokncfhpmjohdaaGreat.Ld
open Go.RowKit Go.ChangeShapes Go.WideShapes Go.WideElems Go.Deep Go.Proofs.YtokncfhpmjohdaaGreat.Mem Go.Proofs.YtokncfhpmjohdaaGreat.Rw Go.Proofs.YtokncfhpmjohdaaGreat.P2 Go.Proofs.YtokncfhpmjohdaaGreat.Cd Go.Proofs.YtokncfhpmjohdaaGreat.Cv Go.Proofs.YtokncfhpmjohdaaGreat.Cl Go.Proofs.YtokncfhpmjohdaaGreat.Cs
set_option linter.unusedVariables false
set_option linter.unusedSimpArgs false
open Go.Proofs.YtokncfhpmjohdaaGreat.Sd Go.Proofs.YtokncfhpmjohdaaGreat.Tn Go.Proofs.YtokncfhpmjohdaaGreat.Oc Go.Proofs.YtokncfhpmjohdaaGreat.RampAt Go.Proofs.YtokncfhpmjohdaaGreat.Jt

/-- A cue behind those that led to this level. -/
def stepC (t : Int) (u : Int × C) (x : C) : Int × C := if x.tk ≤ t then (level u.1 u.2.lv (x.tk - u.2.tk) u.2.rp, x) else u
/-- Where the first cues lead. -/
def reach (t : Int) (ys : List C) : Int × C := ys.foldl (stepC t) (0, d0)
/-- The level by cues of one name. -/
def levP (t : Int) (ys : List C) : Int := level (reach t ys).1 (reach t ys).2.lv (t - (reach t ys).2.tk) (reach t ys).2.rp
/-- The level of a name. -/
noncomputable def levV (zs : List C) (s : ByteArray) (t : Int) : Int := levP t (only zs [s])
theorem reach_snoc (t : Int) (ys : List C) (x : C) : reach t (ys ++ [x]) = stepC t (reach t ys) x := by unfold reach; rw [List.foldl_append]; rfl
theorem step_yes {t : Int} (u : Int × C) {x : C} (h : x.tk ≤ t) : stepC t u x = (level u.1 u.2.lv (x.tk - u.2.tk) u.2.rp, x) := by unfold stepC; rw [if_pos h]
theorem step_no {t : Int} (u : Int × C) {x : C} (h : ¬ x.tk ≤ t) : stepC t u x = u := by unfold stepC; rw [if_neg h]
/-- A cue's ticks are those of a cue, or of none. -/
def Tame (t : Int) (u : Int × C) : Prop := (0 ≤ u.2.tk ∧ u.2.tk ≤ 64) ∧ (0 ≤ u.2.rp ∧ u.2.rp ≤ 16) ∧ (u.2.tk ≤ t ∨ u.2.tk = 0)
theorem cB_in {d : C} (h : cB d = true) : (0 ≤ d.tk ∧ d.tk ≤ 64) ∧ (0 ≤ d.lv ∧ d.lv ≤ 32) ∧ (0 ≤ d.rp ∧ d.rp ≤ 16) := by
  unfold cB cueB at h
  rw [Bool.and_eq_true, Bool.and_eq_true, Bool.and_eq_true] at h
  have h1 := iw_iff.1 h.1
  have h2 := iw_iff.1 h.2.2.1
  have h3 := iw_iff.1 h.2.2.2
  omega
theorem tame_zero (t : Int) : Tame t (0, d0) := ⟨⟨by decide, by decide⟩, ⟨by decide, by decide⟩, Or.inr rfl⟩
theorem tame_step {t : Int} {u : Int × C} (h : Tame t u) {x : C} (hx : cB x = true) : Tame t (stepC t u x) := by
  by_cases e : x.tk ≤ t
  · rw [step_yes u e]
    have := cB_in hx
    exact ⟨this.1, this.2.2, Or.inl e⟩
  · rw [step_no u e]; exact h
theorem reach_tame (t : Int) (ys : List C) (h : ∀ x ∈ ys, cB x = true) : Tame t (reach t ys) := by
  have key : ∀ (ys : List C) (u : Int × C), Tame t u → (∀ x ∈ ys, cB x = true) → Tame t (ys.foldl (stepC t) u) := by
    intro ys
    induction ys with
    | nil => intro u hu _; exact hu
    | cons y r ih => intro u hu hr; exact ih _ (tame_step hu (hr y (List.mem_cons_self ..))) (fun x hx => hr x (List.mem_cons_of_mem _ hx))
  exact key ys _ (tame_zero t) h
theorem score_all {zs : List C} (h : score zs = true) : ∀ x ∈ zs, cB x = true := fun x hx => by
  obtain ⟨k, hk, rfl⟩ := List.getElem_of_mem hx
  exact ((score_of h).2 k _ (List.getElem?_eq_getElem hk)).1
theorem pick_all {zs : List C} {ss : List ByteArray} (h : ∀ x ∈ zs, cB x = true) : ∀ x ∈ pick zs ss, cB x = true := fun x hx => h x ((List.mem_filter.1 hx).1)
theorem only_all (zs : List C) (ss : List ByteArray) : ∀ x ∈ only zs ss, cB x = true := fun x hx => by
  cases c : score zs
  · rw [only_no c] at hx; cases hx
  · rw [only_yes c] at hx; exact pick_all (score_all c) x hx
theorem wf64 {x : Int} (h1 : -9223372036854775808 ≤ x) (h2 : x ≤ 9223372036854775807) : (Lit.int .i64 x).wf = true := by
  simp [Lit.wf, IntKind.min, IntKind.max, IntKind.signed, IntKind.bits]
  omega
theorem hasN_one (s x : ByteArray) : hasN [s] x = (x.toList == s.toList) := by
  by_cases h : x = s
  · subst h; rw [hasN_yes (List.mem_singleton.2 rfl), bl_eq.2 rfl]
  · rw [hasN_no (fun c => h (List.mem_singleton.1 c)), bl_ne h]
theorem wpAnyH_to {P : Program} {md : Region.Mode} {ops : Array Oper} {Q : Exit → Act → World → Prop} {S S' : World → Prop} (hSS : ∀ w, S' w → S w) : ∀ (fuel : Nat) (listed : Array Bool) (a : Act) (w : World), wpAnyH P md ops Q S' fuel listed a w → wpAnyH P md ops Q S fuel listed a w
  | 0, _, _, _, h => h
  | fuel + 1, _, _, _, h => ⟨h.1, fun i hi => wpOp_mono (fun a' w' r => ⟨hSS _ r.1, wpAnyH_to hSS fuel _ a' w' r.2⟩) (h.2 i hi)⟩

theorem set4 {W : World} {g : Nat} {a b c d p q r s : Value} (h0 : W.cell? ⟨g, 0, none⟩ = some p) (h1 : W.cell? ⟨g, 1, none⟩ = some q) (h2 : W.cell? ⟨g, 2, none⟩ = some r) (h3 : W.cell? ⟨g, 3, none⟩ = some s) :
    ((((W.setCell ⟨g, 0, none⟩ a).setCell ⟨g, 1, none⟩ b).setCell ⟨g, 2, none⟩ c).setCell ⟨g, 3, none⟩ d).cell? ⟨g, 0, none⟩ = some a ∧
    ((((W.setCell ⟨g, 0, none⟩ a).setCell ⟨g, 1, none⟩ b).setCell ⟨g, 2, none⟩ c).setCell ⟨g, 3, none⟩ d).cell? ⟨g, 1, none⟩ = some b ∧
    ((((W.setCell ⟨g, 0, none⟩ a).setCell ⟨g, 1, none⟩ b).setCell ⟨g, 2, none⟩ c).setCell ⟨g, 3, none⟩ d).cell? ⟨g, 2, none⟩ = some c ∧
    ((((W.setCell ⟨g, 0, none⟩ a).setCell ⟨g, 1, none⟩ b).setCell ⟨g, 2, none⟩ c).setCell ⟨g, 3, none⟩ d).cell? ⟨g, 3, none⟩ = some d := by
  have o : ∀ (X : World) (i j : Nat) (v : Value), i ≠ j → (X.setCell ⟨g, i, none⟩ v).cell? ⟨g, j, none⟩ = X.cell? ⟨g, j, none⟩ := fun X i j v h => World.cell?_setCell_other _ _ _ _ (by simp [h])
  refine ⟨?_, ?_, ?_, ?_⟩
  · rw [o _ 3 0 _ (by decide), o _ 2 0 _ (by decide), o _ 1 0 _ (by decide)]; exact World.cell?_setCell_same' _ _ _ (by rw [h0]; rfl)
  · rw [o _ 3 1 _ (by decide), o _ 2 1 _ (by decide)]; exact World.cell?_setCell_same' _ _ _ (by rw [o _ 0 1 _ (by decide), h1]; rfl)
  · rw [o _ 3 2 _ (by decide)]; exact World.cell?_setCell_same' _ _ _ (by rw [o _ 1 2 _ (by decide), o _ 0 2 _ (by decide), h2]; rfl)
  · exact World.cell?_setCell_same' _ _ _ (by rw [o _ 2 3 _ (by decide), o _ 1 3 _ (by decide), o _ 0 3 _ (by decide), h3]; rfl)

set_option maxHeartbeats 1000000 in
theorem levelAtI (f l fr tk t : Int) (hw : wrap64 (t - fr) = t - fr) (w1 : (Lit.int .i64 (t - fr)).wf = true) (w2 : (Lit.int .i64 tk).wf = true) (w : World) :
    Calls Tryz.prog 187 #[.agg #[.int .i64 f, .int .i64 l, .int .i64 fr, .int .i64 tk], .int .i64 t] w fun e w' => e = .returned (.int .i64 (level f l (t - fr) tk)) ∧ w' = w.alloc (.cells #[.int .i64 f, .int .i64 l, .int .i64 fr, .int .i64 tk] 217) := by
  have C := Lib.hid (RampAt.impl f l (t - fr) tk w1 w2)
  clear w1 w2
  obtain ⟨v, hv⟩ : ∃ v, level f l (t - fr) tk = v := ⟨_, rfl⟩
  rw [hv] at C ⊢
  clear hv
  go_enter Tryz.func187, Tryz.ntmps187
  go_wp2_with fail
  refine (C.out _).mono ?_
  rintro e w' ⟨rfl, rfl⟩
  go_wp2_with fail
  go_returns
  exact ⟨rfl, rfl⟩

set_option maxHeartbeats 4000000 in
set_option maxRecDepth 100000 in
theorem interruptedI (f l fr tk t : Int) (n : ByteArray) (lv rp : Int) (hw : wrap64 (t - fr) = t - fr) (w1 : (Lit.int .i64 (t - fr)).wf = true) (w2 : (Lit.int .i64 tk).wf = true) (w : World) :
    Calls Tryz.prog 186 #[.agg #[.int .i64 f, .int .i64 l, .int .i64 fr, .int .i64 tk], va t n lv rp] w fun e w' => e = .returned (.agg #[.int .i64 (level f l (t - fr) tk), .int .i64 lv, .int .i64 t, .int .i64 rp]) ∧ Below w.heap.size w w' := by
  have C := Lib.hid (levelAtI f l fr tk t hw w1 w2)
  clear w1 w2 hw
  obtain ⟨v, hv⟩ : ∃ v, level f l (t - fr) tk = v := ⟨_, rfl⟩
  rw [hv] at C ⊢
  clear hv
  go_enter Tryz.func186, Tryz.ntmps186
  go_wp2_with fail
  refine wp_region_noPanic ?_
  refine wp_region_held_drew (S := (fun w' => w'.cell? ⟨w.heap.size, 0, none⟩ = some (.int .i64 f) ∧ w'.cell? ⟨w.heap.size, 1, none⟩ = some (.int .i64 l) ∧ w'.cell? ⟨w.heap.size, 2, none⟩ = some (.int .i64 fr) ∧ w'.cell? ⟨w.heap.size, 3, none⟩ = some (.int .i64 tk) ∧ w'.cell? ⟨w.heap.size + 1, 0, none⟩ = some (.int .i64 t) ∧ w'.cell? ⟨w.heap.size + 1, 1, none⟩ = some (.string n) ∧ w'.cell? ⟨w.heap.size + 1, 2, none⟩ = some (.int .i64 lv) ∧ w'.cell? ⟨w.heap.size + 1, 3, none⟩ = some (.int .i64 rp) ∧ (∃ p, w'.cell? ⟨w.heap.size + 1 + 1, 0, none⟩ = some p) ∧ (∃ p, w'.cell? ⟨w.heap.size + 1 + 1, 1, none⟩ = some p) ∧ (∃ p, w'.cell? ⟨w.heap.size + 1 + 1, 2, none⟩ = some p) ∧ (∃ p, w'.cell? ⟨w.heap.size + 1 + 1, 3, none⟩ = some p) ∧ w'.frozen? ⟨w.heap.size + 1 + 1, 0, none⟩ = false ∧ w'.frozen? ⟨w.heap.size + 1 + 1, 1, none⟩ = false ∧ w'.frozen? ⟨w.heap.size + 1 + 1, 2, none⟩ = false ∧ w'.frozen? ⟨w.heap.size + 1 + 1, 3, none⟩ = false ∧ Below w.heap.size w w')) (by kernel_rfl) ?_ (fun hH => ?_)
  · exact ⟨by simp [go_sem], by simp [go_sem], by simp [go_sem], by simp [go_sem], by simp [go_sem], by simp [go_sem], by simp [go_sem], by simp [go_sem], ⟨.int .i64 0, by simp [go_sem]⟩, ⟨.int .i64 0, by simp [go_sem]⟩, ⟨.int .i64 0, by simp [go_sem]⟩, ⟨.int .i64 0, by simp [go_sem]⟩, by simp [go_sem], by simp [go_sem], by simp [go_sem], by simp [go_sem], by go_grown⟩
  refine wpAnyH_take (i := 0) (oi := { dst := some 5, op := _, type := _, pos := _, after := _, guard := _ }) (v := ?_) rfl (by kernel_rfl) (by kernel_rfl) (by kernel_rfl) (fun _ _ _ h => h) (Or.inl ⟨by rfl, ?_⟩) hH ?_
  rotate_left 1
  · intro W hSw
    (try dsimp only at hSw)
    go_simp
    (try with_reducible rfl)
  try simp only [Act.put, List.setIfInBounds_toArray, List.set_cons_zero, List.set_cons_succ]
  refine wpAnyH_take (i := 1) (oi := { dst := some 6, op := _, type := _, pos := _, after := _, guard := _ }) (v := ?_) rfl (by kernel_rfl) (by kernel_rfl) (by kernel_rfl) (fun _ _ _ h => h) (Or.inl ⟨by rfl, ?_⟩) hH ?_
  rotate_left 1
  · intro W hSw
    (try dsimp only at hSw)
    go_simp
    (try with_reducible rfl)
  try simp only [Act.put, List.setIfInBounds_toArray, List.set_cons_zero, List.set_cons_succ]
  refine wpAnyH_take (i := 2) (oi := { dst := some 7, op := _, type := _, pos := _, after := _, guard := _ }) (v := ?_) rfl (by kernel_rfl) (by kernel_rfl) (by kernel_rfl) (fun _ _ _ h => h) (Or.inl ⟨by rfl, ?_⟩) hH ?_
  rotate_left 1
  · intro W hSw
    (try dsimp only at hSw)
    go_simp
    (try with_reducible rfl)
  try simp only [Act.put, List.setIfInBounds_toArray, List.set_cons_zero, List.set_cons_succ]
  refine wpAnyH_take (i := 4) (oi := { dst := some 9, op := _, type := _, pos := _, after := _, guard := _ }) (v := ?_) rfl (by kernel_rfl) (by kernel_rfl) (by kernel_rfl) (fun _ _ _ h => h) (Or.inl ⟨by rfl, ?_⟩) hH ?_
  rotate_left 1
  · intro W hSw
    (try dsimp only at hSw)
    go_simp
    (try with_reducible rfl)
  try simp only [Act.put, List.setIfInBounds_toArray, List.set_cons_zero, List.set_cons_succ]
  refine wpAnyH_take (i := 5) (oi := { dst := some 10, op := _, type := _, pos := _, after := _, guard := _ }) (v := ?_) rfl (by kernel_rfl) (by kernel_rfl) (by kernel_rfl) (fun _ _ _ h => h) (Or.inl ⟨by rfl, ?_⟩) hH ?_
  rotate_left 1
  · intro W hSw
    (try dsimp only at hSw)
    go_simp
    (try with_reducible rfl)
  try simp only [Act.put, List.setIfInBounds_toArray, List.set_cons_zero, List.set_cons_succ]
  refine wpAnyH_take (i := 6) (oi := { dst := some 11, op := _, type := _, pos := _, after := _, guard := _ }) (v := ?_) rfl (by kernel_rfl) (by kernel_rfl) (by kernel_rfl) (fun _ _ _ h => h) (Or.inl ⟨by rfl, ?_⟩) hH ?_
  rotate_left 1
  · intro W hSw
    (try dsimp only at hSw)
    go_simp
    (try with_reducible rfl)
  try simp only [Act.put, List.setIfInBounds_toArray, List.set_cons_zero, List.set_cons_succ]
  refine wpAnyH_take (i := 7) (oi := { dst := some 12, op := _, type := _, pos := _, after := _, guard := _ }) (v := ?_) rfl (by kernel_rfl) (by kernel_rfl) (by kernel_rfl) (fun _ _ _ h => h) (Or.inl ⟨by rfl, ?_⟩) hH ?_
  rotate_left 1
  · intro W hSw
    (try dsimp only at hSw)
    go_simp
    (try with_reducible rfl)
  try simp only [Act.put, List.setIfInBounds_toArray, List.set_cons_zero, List.set_cons_succ]
  refine wpAnyH_take (i := 8) (oi := { dst := some 13, op := _, type := _, pos := _, after := _, guard := _ }) (v := ?_) rfl (by kernel_rfl) (by kernel_rfl) (by kernel_rfl) (fun _ _ _ h => h) (Or.inl ⟨by rfl, ?_⟩) hH ?_
  rotate_left 1
  · intro W hSw
    (try dsimp only at hSw)
    go_simp
    (try with_reducible rfl)
  try simp only [Act.put, List.setIfInBounds_toArray, List.set_cons_zero, List.set_cons_succ]
  refine wpAnyH_take (i := 9) (oi := { dst := some 14, op := _, type := _, pos := _, after := _, guard := _ }) (v := ?_) rfl (by kernel_rfl) (by kernel_rfl) (by kernel_rfl) (fun _ _ _ h => h) (Or.inl ⟨by rfl, ?_⟩) hH ?_
  rotate_left 1
  · intro W hSw
    (try dsimp only at hSw)
    go_simp
    (try with_reducible rfl)
  try simp only [Act.put, List.setIfInBounds_toArray, List.set_cons_zero, List.set_cons_succ]
  refine wpAnyH_ready (rs := [3]) (by kernel_rfl) (by simp) (AllReadyH.cons rfl (fun K hK => ?_) AllReadyH.nil)
  go_simp
  go_at_call 187; ((with_reducible refine (C.out _).mono ?_); rintro e r1 ⟨rfl, rfl⟩); go_wp2_with fail
  refine hK.out _ _ ?_ (fun hG => ?_)
  · exact ⟨by simp [go_sem], by simp [go_sem], by simp [go_sem], by simp [go_sem], by simp [go_sem], by simp [go_sem], by simp [go_sem], by simp [go_sem], ⟨.int .i64 0, by simp [go_sem]⟩, ⟨.int .i64 0, by simp [go_sem]⟩, ⟨.int .i64 0, by simp [go_sem]⟩, ⟨.int .i64 0, by simp [go_sem]⟩, by simp [go_sem], by simp [go_sem], by simp [go_sem], by simp [go_sem], by go_grown⟩
  replace hH := hG
  clear hK K hG
  try simp only [Act.put, List.setIfInBounds_toArray, List.set_cons_zero, List.set_cons_succ]
  refine wpAnyH_take (i := 10) (oi := { dst := some 15, op := _, type := _, pos := _, after := _, guard := _ }) (v := ?_) rfl (by kernel_rfl) (by kernel_rfl) (by kernel_rfl) (fun _ _ _ h => h) (Or.inl ⟨by rfl, ?_⟩) hH ?_
  rotate_left 1
  · intro W hSw
    (try dsimp only at hSw)
    go_simp
    (try with_reducible rfl)
  try simp only [Act.put, List.setIfInBounds_toArray, List.set_cons_zero, List.set_cons_succ]
  refine wpAnyH_to (S' := (fun w' => w'.cell? ⟨w.heap.size, 0, none⟩ = some (.int .i64 f) ∧ w'.cell? ⟨w.heap.size, 1, none⟩ = some (.int .i64 l) ∧ w'.cell? ⟨w.heap.size, 2, none⟩ = some (.int .i64 fr) ∧ w'.cell? ⟨w.heap.size, 3, none⟩ = some (.int .i64 tk) ∧ w'.cell? ⟨w.heap.size + 1, 0, none⟩ = some (.int .i64 t) ∧ w'.cell? ⟨w.heap.size + 1, 1, none⟩ = some (.string n) ∧ w'.cell? ⟨w.heap.size + 1, 2, none⟩ = some (.int .i64 lv) ∧ w'.cell? ⟨w.heap.size + 1, 3, none⟩ = some (.int .i64 rp) ∧ w'.cell? ⟨w.heap.size + 1 + 1, 0, none⟩ = some (.int .i64 v) ∧ w'.cell? ⟨w.heap.size + 1 + 1, 1, none⟩ = some (.int .i64 lv) ∧ w'.cell? ⟨w.heap.size + 1 + 1, 2, none⟩ = some (.int .i64 t) ∧ w'.cell? ⟨w.heap.size + 1 + 1, 3, none⟩ = some (.int .i64 rp) ∧ w'.frozen? ⟨w.heap.size + 1 + 1, 0, none⟩ = false ∧ w'.frozen? ⟨w.heap.size + 1 + 1, 1, none⟩ = false ∧ w'.frozen? ⟨w.heap.size + 1 + 1, 2, none⟩ = false ∧ w'.frozen? ⟨w.heap.size + 1 + 1, 3, none⟩ = false ∧ Below w.heap.size w w')) (fun w' h => ⟨h.1, h.2.1, h.2.2.1, h.2.2.2.1, h.2.2.2.2.1, h.2.2.2.2.2.1, h.2.2.2.2.2.2.1, h.2.2.2.2.2.2.2.1, ⟨_, h.2.2.2.2.2.2.2.2.1⟩, ⟨_, h.2.2.2.2.2.2.2.2.2.1⟩, ⟨_, h.2.2.2.2.2.2.2.2.2.2.1⟩, ⟨_, h.2.2.2.2.2.2.2.2.2.2.2.1⟩, h.2.2.2.2.2.2.2.2.2.2.2.2⟩) _ _ _ _ ?_
  obtain ⟨x0, x1, x2, x3, y0, y1, y2, y3, ⟨p0, z0⟩, ⟨p1, z1⟩, ⟨p2, z2⟩, ⟨p3, z3⟩, f0, f1, f2, f3, hB⟩ := hH
  generalize (World.drew _) = V at *
  refine wpAnyH_ready (rs := [11]) (by kernel_rfl) (by simp) (AllReadyH.cons rfl (fun K hK => ?_) AllReadyH.nil)
  go_simp
  refine hK.out _ _ ?_ (fun hG => ?_)
  · obtain ⟨s0, s1, s2, s3⟩ := set4 (a := .int .i64 v) (b := .int .i64 lv) (c := .int .i64 t) (d := .int .i64 rp) z0 z1 z2 z3
    exact ⟨by simp [go_sem, x0], by simp [go_sem, x1], by simp [go_sem, x2], by simp [go_sem, x3], by simp [go_sem, y0], by simp [go_sem, y1], by simp [go_sem, y2], by simp [go_sem, y3], s0, s1, s2, s3, by simp [go_sem, f0], by simp [go_sem, f1], by simp [go_sem, f2], by simp [go_sem, f3], hB.trans (by go_grown)⟩
  replace hH := hG
  clear hK K hG
  try simp only [Act.put, List.setIfInBounds_toArray, List.set_cons_zero, List.set_cons_succ]
  refine wpAnyH_done (by kernel_rfl) ?_ _
  refine NoPanic.normal ?_
  obtain ⟨_, _, _, _, _, _, _, _, s0, s1, s2, s3, _, _, _, _, hB2⟩ := hH
  have HB := Lib.hid hB2
  clear hB2 hB x0 x1 x2 x3 y0 y1 y2 y3 z0 z1 z2 z3 f0 f1 f2 f3
  go_wp2_with fail
  (try simp only [Exit.inBlock, Exit.then])
  refine bodyPost_ret (v := .agg #[.int .i64 v, .int .i64 lv, .int .i64 t, .int .i64 rp]) (by simp only [results, Tryz.results186, s0, s1, s2, s3]; simp [go_sem, s0, s1, s2, s3]; try rfl) rfl ?_
  exact ⟨rfl, HB.out⟩
end Go.Proofs.YtokncfhpmjohdaaGreat.Ld
namespace Go.Proofs.YtokncfhpmjohdaaGreat.Fe9
open Go.RowKit Go.ChangeShapes Go.WideShapes Go.WideElems Go.Deep Go.Proofs.YtokncfhpmjohdaaGreat.Mem Go.Proofs.YtokncfhpmjohdaaGreat.Rw Go.Proofs.YtokncfhpmjohdaaGreat.P2 Go.Proofs.YtokncfhpmjohdaaGreat.Cd Go.Proofs.YtokncfhpmjohdaaGreat.Cv Go.Proofs.YtokncfhpmjohdaaGreat.Cl Go.Proofs.YtokncfhpmjohdaaGreat.Cs
set_option linter.unusedVariables false
set_option linter.unusedSimpArgs false
open Go.Proofs.YtokncfhpmjohdaaGreat.Jt Go.Proofs.YtokncfhpmjohdaaGreat.IsName Go.Proofs.YtokncfhpmjohdaaGreat.Sd Go.Proofs.YtokncfhpmjohdaaGreat.Oc Go.Proofs.YtokncfhpmjohdaaGreat.Ld Go.Proofs.YtokncfhpmjohdaaGreat.RampAt Go.Proofs.YtokncfhpmjohdaaGreat.Tn

theorem quo_between (d i n : Int) (hi : 0 < i) (hin : i < n) : (0 ≤ d → 0 ≤ d * i / n ∧ d * i / n ≤ d) ∧ (d ≤ 0 → d ≤ d * i / n ∧ d * i / n ≤ 0) := by
  have hn : 0 < n := by omega
  constructor
  · intro hd
    refine ⟨Int.ediv_nonneg (Int.mul_nonneg hd (by omega)) (by omega), ?_⟩
    have : d * i ≤ d * n := Int.mul_le_mul_of_nonneg_left (by omega) hd
    calc d * i / n ≤ d * n / n := Int.ediv_le_ediv hn this
      _ = d := Int.mul_ediv_cancel _ (by omega)
  · intro hd
    constructor
    · have : d * n ≤ d * i := Int.mul_le_mul_of_nonpos_left hd (by omega)
      calc d = d * n / n := (Int.mul_ediv_cancel _ (by omega)).symm
        _ ≤ d * i / n := Int.ediv_le_ediv hn this
    · have : d * i ≤ 0 := Int.mul_nonpos_of_nonpos_of_nonneg hd (by omega)
      calc d * i / n ≤ 0 / n := Int.ediv_le_ediv hn this
        _ = 0 := Int.zero_ediv _
theorem level_between {a b : Int} (i n : Int) (ha1 : -4096 ≤ a) (ha2 : a ≤ 4096) (hb1 : -4096 ≤ b) (hb2 : b ≤ 4096) : (a ≤ level a b i n ∧ level a b i n ≤ b) ∨ (b ≤ level a b i n ∧ level a b i n ≤ a) := by
  rw [level_yes i n ha1 ha2 hb1 hb2]
  split
  · omega
  · split
    · omega
    · have := quo_between (b - a) i n (by omega) (by omega)
      generalize (b - a) * i / n = q at *
      by_cases h : a ≤ b
      · have := this.1 (by omega); omega
      · have := this.2 (by omega); omega
theorem level_in {a b : Int} (i n : Int) (ha1 : 0 ≤ a) (ha2 : a ≤ 32) (hb1 : 0 ≤ b) (hb2 : b ≤ 32) : 0 ≤ level a b i n ∧ level a b i n ≤ 32 := by
  have := level_between i n (show -4096 ≤ a by omega) (by omega) (show -4096 ≤ b by omega) (by omega)
  omega
/-- What is known where the cues led. -/
def Sane (u : Int × C) : Prop := (0 ≤ u.1 ∧ u.1 ≤ 32) ∧ (0 ≤ u.2.lv ∧ u.2.lv ≤ 32)
theorem sane_step {t : Int} {u : Int × C} (h : Sane u) {x : C} (hx : cB x = true) : Sane (stepC t u x) := by
  by_cases e : x.tk ≤ t
  · rw [step_yes u e]
    exact ⟨level_in _ _ h.1.1 h.1.2 h.2.1 h.2.2, (cB_in hx).2.1⟩
  · rw [step_no u e]; exact h
theorem reach_sane (t : Int) (ys : List C) (h : ∀ x ∈ ys, cB x = true) : Sane (reach t ys) := by
  have key : ∀ (ys : List C) (u : Int × C), Sane u → (∀ x ∈ ys, cB x = true) → Sane (ys.foldl (stepC t) u) := by
    intro ys
    induction ys with
    | nil => intro u hu _; exact hu
    | cons y r ih => intro u hu hr; exact ih _ (sane_step hu (hr y (List.mem_cons_self ..))) (fun x hx => hr x (List.mem_cons_of_mem _ hx))
  exact key ys _ ⟨⟨Int.le_refl _, by decide⟩, ⟨Int.le_refl _, by decide⟩⟩ h
theorem lev_in (t : Int) {ys : List C} (h : ∀ x ∈ ys, cB x = true) : 0 ≤ levP t ys ∧ levP t ys ≤ 32 := by
  have := reach_sane t ys h
  exact level_in _ _ this.1.1 this.1.2 this.2.1 this.2.2
theorem levV_in (zs : List C) (s : ByteArray) (t : Int) : 0 ≤ levV zs s t ∧ levV zs s t ≤ 32 := lev_in t (only_all zs [s])
end Go.Proofs.YtokncfhpmjohdaaGreat.Fe9
namespace Go.Proofs.YtokncfhpmjohdaaGreat.Dm
set_option linter.unusedVariables false
set_option linter.unusedSimpArgs false

/-- Each is an eighth that may be wanted. -/
def okD (zs : List Int) : Prop := ∀ z ∈ zs, 0 ≤ z ∧ z ≤ 64
/-- Whether a list is demands. -/
noncomputable def dm (zs : List Int) : Bool := @decide (zs.length ≤ 8 ∧ okD zs) (Classical.propDecidable _)
theorem dm_iff {zs : List Int} : dm zs = true ↔ zs.length ≤ 8 ∧ okD zs := by unfold dm; exact @decide_eq_true_iff _ (Classical.propDecidable _)
theorem dm_yes {zs : List Int} (h : zs.length ≤ 8) (k : okD zs) : dm zs = true := dm_iff.2 ⟨h, k⟩
theorem dm_long {zs : List Int} (h : 8 < zs.length) : dm zs = false := by rw [← Bool.not_eq_true, dm_iff]; omega
theorem dm_bad {zs : List Int} {z : Int} {k : Nat} (h : zs[k]? = some z) (b : z < 0 ∨ 64 < z) : dm zs = false := by
  rw [← Bool.not_eq_true, dm_iff]; intro ⟨_, c⟩; have := c z (List.mem_of_getElem? h); omega
theorem okD_nil : okD [] := fun _ h => by cases h
theorem okD_take_succ {zs : List Int} {z : Int} {k : Nat} (h : zs[k]? = some z) (b : 0 ≤ z ∧ z ≤ 64) (c : okD (zs.take k)) : okD (zs.take (k + 1)) := by
  obtain ⟨hk, rfl⟩ := List.getElem?_eq_some_iff.1 h
  rw [List.take_succ_eq_append_getElem hk]
  intro x hx
  rcases List.mem_append.1 hx with hx | hx
  · exact c x hx
  · rw [List.mem_singleton.1 hx]; exact b

/-- The sum. -/
def tot : List Int → Int
  | [] => 0
  | z :: zs => z + tot zs
theorem tot_append : ∀ a b : List Int, tot (a ++ b) = tot a + tot b
  | [], b => by simp [tot]
  | z :: a, b => by simp only [List.cons_append, tot]; rw [tot_append a b]; omega
theorem tot_take {zs : List Int} {z : Int} {k : Nat} (h : zs[k]? = some z) : tot (zs.take (k + 1)) = tot (zs.take k) + z := by
  obtain ⟨hk, rfl⟩ := List.getElem?_eq_some_iff.1 h
  rw [List.take_succ_eq_append_getElem hk, tot_append]; simp [tot]
theorem tot_bound {B : Int} : ∀ {zs : List Int}, (∀ z ∈ zs, 0 ≤ z ∧ z ≤ B) → 0 ≤ tot zs ∧ tot zs ≤ B * zs.length
  | [], _ => by simp [tot]
  | z :: zs, h => by
    have h1 := h z (List.mem_cons_self ..)
    have h2 := tot_bound (B := B) (zs := zs) fun x hx => h x (List.mem_cons_of_mem _ hx)
    simp only [tot, List.length_cons]
    push_cast
    rw [Int.mul_add]
    omega
theorem tot_small {zs : List Int} (hl : zs.length ≤ 8) (h : okD zs) : 0 ≤ tot zs ∧ tot zs ≤ 512 := by
  have := tot_bound (B := 64) h
  have h2 : (64 : Int) * zs.length ≤ 64 * 8 := by omega
  omega
theorem okD_take {zs : List Int} (h : okD zs) (k : Nat) : okD (zs.take k) := fun z hz => h z (List.mem_of_mem_take hz)
theorem tot_take_small {zs : List Int} (hl : zs.length ≤ 8) (h : okD zs) (k : Nat) : 0 ≤ tot (zs.take k) ∧ tot (zs.take k) ≤ 512 := tot_small (by rw [List.length_take]; omega) (okD_take h k)

theorem min_if (z l : Int) : min z l = if l < z then l else z := by split <;> omega
/-- Cut at a level. -/
def cut (zs : List Int) (l : Int) : List Int := zs.map fun z => min z l
theorem cut_len (zs : List Int) (l : Int) : (cut zs l).length = zs.length := by simp [cut]
theorem cut_get {zs : List Int} {z l : Int} {k : Nat} (h : zs[k]? = some z) : (cut zs l)[k]? = some (min z l) := by unfold cut; rw [List.getElem?_map, h]; rfl
theorem cut_take_succ {zs : List Int} {z l : Int} {k : Nat} (h : zs[k]? = some z) : (cut zs l).take k ++ [min z l] = (cut zs l).take (k + 1) := by
  obtain ⟨hk, e⟩ := List.getElem?_eq_some_iff.1 (cut_get (l := l) h)
  rw [List.take_succ_eq_append_getElem hk, e]
theorem cut_ok {zs : List Int} (h : okD zs) {l : Int} (hl : 0 ≤ l) : okD (cut zs l) := by
  intro x hx
  obtain ⟨z, hz, rfl⟩ := List.mem_map.1 hx
  have := h z hz
  show 0 ≤ min z l ∧ min z l ≤ 64
  omega
theorem cut_mono (l m : Int) (h : l ≤ m) : ∀ zs : List Int, tot (cut zs l) ≤ tot (cut zs m)
  | [] => Int.le_refl _
  | z :: zs => by
    have := cut_mono l m h zs
    simp only [cut, List.map_cons, tot] at *
    omega
theorem cut_zero : ∀ {zs : List Int}, okD zs → tot (cut zs 0) = 0
  | [], _ => rfl
  | z :: zs, h => by
    have h1 := h z (List.mem_cons_self ..)
    have := cut_zero (zs := zs) fun x hx => h x (List.mem_cons_of_mem _ hx)
    simp only [cut, List.map_cons, tot] at *
    omega
theorem cut_all : ∀ {zs : List Int} {l : Int}, (∀ z ∈ zs, z ≤ l) → cut zs l = zs
  | [], _, _ => rfl
  | z :: zs, l, h => by
    have h1 := h z (List.mem_cons_self ..)
    have := cut_all (zs := zs) (l := l) fun x hx => h x (List.mem_cons_of_mem _ hx)
    simp only [cut, List.map_cons] at *
    rw [this, show min z l = z by omega]

/-- A sum up to k of what is cut. -/
theorem cut_tot_take {zs : List Int} {z l : Int} {k : Nat} (h : zs[k]? = some z) : tot ((cut zs l).take (k + 1)) = tot ((cut zs l).take k) + min z l := tot_take (cut_get h)

/-- The greatest level up to n at which the cut ones fit. -/
def lv (s : Int) (zs : List Int) : Nat → Nat
  | 0 => 0
  | n + 1 => if tot (cut zs ((n : Int) + 1)) ≤ s then n + 1 else lv s zs n
theorem lv_yes {s : Int} {zs : List Int} {n : Nat} (h : tot (cut zs ((n : Int) + 1)) ≤ s) : lv s zs (n + 1) = n + 1 := if_pos h
theorem lv_no {s : Int} {zs : List Int} {n : Nat} (h : ¬ tot (cut zs ((n : Int) + 1)) ≤ s) : lv s zs (n + 1) = lv s zs n := if_neg h
theorem lv_le (s : Int) (zs : List Int) : ∀ n, lv s zs n ≤ n
  | 0 => Nat.le_refl _
  | n + 1 => by unfold lv; have := lv_le s zs n; split <;> omega
/-- What the level for a supply is. -/
theorem lv_fits {s : Int} {zs : List Int} (hz : okD zs) (hs : 0 ≤ s) : ∀ n, tot (cut zs (lv s zs n : Nat)) ≤ s
  | 0 => by rw [show ((lv s zs 0 : Nat) : Int) = 0 from rfl, cut_zero hz]; exact hs
  | n + 1 => by
    by_cases h : tot (cut zs ((n : Int) + 1)) ≤ s
    · rw [lv_yes h]; push_cast; exact h
    · rw [lv_no h]; exact lv_fits hz hs n
theorem lv_next {s : Int} {zs : List Int} : ∀ n, lv s zs n < n → s < tot (cut zs ((lv s zs n : Nat) + 1 : Int))
  | 0, h => absurd h (Nat.lt_irrefl _)
  | n + 1, h => by
    by_cases c : tot (cut zs ((n : Int) + 1)) ≤ s
    · rw [lv_yes c] at h; omega
    · rw [lv_no c]
      by_cases e : lv s zs n = n
      · rw [e]; omega
      · exact lv_next n (by have := lv_le s zs n; omega)
/-- Found by halves. -/
theorem lv_is {s : Int} {zs : List Int} {i : Nat} (hz : okD zs) (hs : 0 ≤ s) (hi : i ≤ 64) (h1 : i = 0 ∨ tot (cut zs (i : Int)) ≤ s) (h2 : i = 64 ∨ s < tot (cut zs ((i : Int) + 1))) : lv s zs 64 = i := by
  have f := lv_fits hz hs 64
  have l := lv_le s zs 64
  rcases Nat.lt_trichotomy (lv s zs 64) i with h | h | h
  · have n := lv_next (s := s) (zs := zs) 64 (by omega)
    have m := cut_mono ((lv s zs 64 : Nat) + 1 : Int) (i : Int) (by omega) zs
    rcases h1 with h1 | h1 <;> omega
  · exact h
  · have m := cut_mono ((i : Int) + 1) ((lv s zs 64 : Nat) : Int) (by omega) zs
    rcases h2 with h2 | h2 <;> omega
/-- The level for a supply. -/
noncomputable def level (s : Int) (zs : List Int) : Nat := if dm zs = true ∧ 0 ≤ s ∧ s ≤ 512 then lv s zs 64 else 0
theorem level_yes {s : Int} {zs : List Int} (h : dm zs = true) (h1 : 0 ≤ s) (h2 : s ≤ 512) : level s zs = lv s zs 64 := if_pos ⟨h, h1, h2⟩
theorem level_no {s : Int} {zs : List Int} (h : ¬ (dm zs = true ∧ 0 ≤ s ∧ s ≤ 512)) : level s zs = 0 := if_neg h
/-- An eighth more for those above the level, as long as there is a rest: what there is, and the rest, behind k of them. -/
def more (l r : Int) (zs : List Int) : Nat → List Int × Int
  | 0 => (cut zs l, r)
  | k + 1 => if l < zs.getD k 0 ∧ 0 < (more l r zs k).2 then ((more l r zs k).1.set k (min (zs.getD k 0) l + 1), (more l r zs k).2 - 1) else more l r zs k
theorem getD_of {zs : List Int} {z : Int} {k : Nat} (h : zs[k]? = some z) : zs.getD k 0 = z := by rw [List.getD_eq_getElem?_getD, h]; rfl
theorem more_yes {l r : Int} {zs : List Int} {z : Int} {k : Nat} (h : zs[k]? = some z) (h1 : l < z) (h2 : 0 < (more l r zs k).2) : more l r zs (k + 1) = ((more l r zs k).1.set k (min z l + 1), (more l r zs k).2 - 1) := by
  show (if _ then _ else _) = _
  rw [getD_of h, if_pos ⟨h1, h2⟩]
theorem more_no {l r : Int} {zs : List Int} {z : Int} {k : Nat} (h : zs[k]? = some z) (h1 : ¬ (l < z ∧ 0 < (more l r zs k).2)) : more l r zs (k + 1) = more l r zs k := by
  show (if _ then _ else _) = _
  rw [getD_of h, if_neg h1]
theorem more_len (l r : Int) (zs : List Int) : ∀ k, (more l r zs k).1.length = zs.length
  | 0 => cut_len zs l
  | k + 1 => by
    show (if _ then _ else _ : List Int × Int).1.length = _
    split
    · rw [List.length_set]; exact more_len l r zs k
    · exact more_len l r zs k
theorem more_far (l r : Int) (zs : List Int) : ∀ k j, k ≤ j → (more l r zs k).1[j]? = (cut zs l)[j]?
  | 0, _, _ => rfl
  | k + 1, j, h => by
    show (if _ then _ else _ : List Int × Int).1[j]? = _
    split
    · rw [List.getElem?_set_ne (by omega)]; exact more_far l r zs k j (by omega)
    · exact more_far l r zs k j (by omega)
theorem more_at {l r : Int} {zs : List Int} {z : Int} {k : Nat} (h : zs[k]? = some z) : (more l r zs k).1[k]? = some (min z l) := (more_far l r zs k k (Nat.le_refl _)).trans (cut_get h)
theorem more_rest (l r : Int) (zs : List Int) (hr : 0 ≤ r) : ∀ k, 0 ≤ (more l r zs k).2 ∧ (more l r zs k).2 ≤ r
  | 0 => ⟨hr, Int.le_refl _⟩
  | k + 1 => by
    show 0 ≤ (if _ then _ else _ : List Int × Int).2 ∧ (if _ then _ else _ : List Int × Int).2 ≤ r
    have := more_rest l r zs hr k
    split
    · rename_i h
      show 0 ≤ (more l r zs k).2 - 1 ∧ (more l r zs k).2 - 1 ≤ r
      omega
    · exact this
/-- What is shared out. -/
noncomputable def share (s : Int) (zs : List Int) : List Int :=
  if dm zs = true ∧ 0 ≤ s ∧ s ≤ 512 then (more (lv s zs 64) (s - tot (cut zs (lv s zs 64))) zs zs.length).1 else []
theorem share_yes {s : Int} {zs : List Int} (h : dm zs = true) (h1 : 0 ≤ s) (h2 : s ≤ 512) : share s zs = (more (lv s zs 64) (s - tot (cut zs (lv s zs 64))) zs zs.length).1 := if_pos ⟨h, h1, h2⟩
theorem share_no {s : Int} {zs : List Int} (h : ¬ (dm zs = true ∧ 0 ≤ s ∧ s ≤ 512)) : share s zs = [] := if_neg h
noncomputable def totB (zs : List Int) : Int := if dm zs = true then tot zs else 0
theorem totB_yes {zs : List Int} (h : dm zs = true) : totB zs = tot zs := if_pos h
theorem totB_no {zs : List Int} (h : dm zs = false) : totB zs = 0 := if_neg (by rw [h]; decide)
noncomputable def cutB (zs : List Int) (l : Int) : List Int := if dm zs = true ∧ 0 ≤ l then cut zs l else []
theorem cutB_yes {zs : List Int} {l : Int} (h : dm zs = true) (h1 : 0 ≤ l) : cutB zs l = cut zs l := if_pos ⟨h, h1⟩
theorem cutB_no {zs : List Int} {l : Int} (h : ¬ (dm zs = true ∧ 0 ≤ l)) : cutB zs l = [] := if_neg h
end Go.Proofs.YtokncfhpmjohdaaGreat.Dm
namespace Go.Proofs.YtokncfhpmjohdaaGreat.Dn
open Go.Proofs.YtokncfhpmjohdaaGreat.Dm
set_option linter.unusedVariables false
set_option linter.unusedSimpArgs false

theorem tot_set : ∀ (l : List Int) (k : Nat) (v a : Int), l[k]? = some a → tot (l.set k v) = tot l - a + v
  | [], _, _, _, h => by simp at h
  | x :: l, 0, v, a, h => by simp at h; subst h; simp only [List.set_cons_zero, tot]; omega
  | x :: l, k + 1, v, a, h => by
    have := tot_set l k v a (by simpa using h)
    simp only [List.set_cons_succ, tot]; omega
/-- Sums of lists that compare place by place. -/
theorem tot_le : ∀ (a b : List Int), a.length = b.length → (∀ (j : Nat) (x y : Int), a[j]? = some x → b[j]? = some y → x ≤ y) → tot a ≤ tot b
  | [], [], _, _ => Int.le_refl _
  | [], _ :: _, h, _ => by simp at h
  | _ :: _, [], h, _ => by simp at h
  | x :: a, y :: b, h, k => by
    have h0 := k 0 x y rfl rfl
    have := tot_le a b (by simpa using h) fun j p q e1 e2 => k (j + 1) p q (by simpa using e1) (by simpa using e2)
    simp only [tot]; omega
/-- What is known behind k of them. -/
theorem more_inv (l r : Int) (zs : List Int) (hr : 0 ≤ r) : ∀ k, k ≤ zs.length →
    tot (more l r zs k).1 + (more l r zs k).2 = tot (cut zs l) + r ∧
    (∀ (j : Nat) (z : Int), zs[j]? = some z → ∃ s, (more l r zs k).1[j]? = some s ∧ min z l ≤ s ∧ s ≤ min z l + 1 ∧ s ≤ z) ∧
    (0 < (more l r zs k).2 → ∀ (j : Nat) (z : Int), j < k → zs[j]? = some z → l < z → (more l r zs k).1[j]? = some (l + 1))
  | 0, _ => ⟨rfl, fun j z h => ⟨min z l, cut_get h, by omega, by omega, by omega⟩, fun _ j z h => absurd h (Nat.not_lt_zero _)⟩
  | k + 1, hk => by
    obtain ⟨i1, i2, i3⟩ := more_inv l r zs hr k (by omega)
    obtain ⟨z, hz⟩ : ∃ z, zs[k]? = some z := ⟨_, List.getElem?_eq_getElem (by omega)⟩
    have hat := more_at (l := l) (r := r) hz
    by_cases c : l < z ∧ 0 < (more l r zs k).2
    · rw [more_yes hz c.1 c.2]
      refine ⟨?_, ?_, ?_⟩
      · show tot ((more l r zs k).1.set k (min z l + 1)) + ((more l r zs k).2 - 1) = _
        rw [tot_set _ _ _ _ hat]; omega
      · intro j y hy
        by_cases e : k = j
        · subst e
          rw [hz] at hy; cases hy
          have hb := (List.getElem?_eq_some_iff.1 hat).1
          exact ⟨min z l + 1, by show ((more l r zs k).1.set k (min z l + 1))[k]? = _; rw [List.getElem?_set_self hb], by omega, by omega, by omega⟩
        · obtain ⟨s, h1, h2⟩ := i2 j y hy
          exact ⟨s, by show ((more l r zs k).1.set k (min z l + 1))[j]? = _; rw [List.getElem?_set_ne e]; exact h1, h2⟩
      · intro h j y hj hy hl
        have h : 0 < (more l r zs k).2 - 1 := h
        by_cases e : k = j
        · subst e
          rw [hz] at hy; cases hy
          have hb := (List.getElem?_eq_some_iff.1 hat).1
          show ((more l r zs k).1.set k (min z l + 1))[k]? = _
          rw [List.getElem?_set_self hb, show min z l = l by omega]
        · show ((more l r zs k).1.set k (min z l + 1))[j]? = _
          rw [List.getElem?_set_ne e]; exact i3 (by omega) j y (by omega) hy hl
    · rw [more_no hz c]
      refine ⟨i1, i2, fun h j y hj hy hl => ?_⟩
      by_cases e : j = k
      · subst e; rw [hz] at hy; cases hy; exact absurd ⟨hl, h⟩ c
      · exact i3 h j y (by omega) hy hl
/-- What is shared out of a supply among demands: all that the law asks. -/
theorem share_facts {n : Int} {zs : List Int} (hd : dm zs = true) (h0 : 0 ≤ n) (h5 : n ≤ 512) :
    (share n zs).length = zs.length ∧ tot (share n zs) = min n (tot zs) ∧
    ∀ (j : Nat) (z : Int), zs[j]? = some z → ∃ s, (share n zs)[j]? = some s ∧ min z (lv n zs 64 : Nat) ≤ s ∧ s ≤ min z (lv n zs 64 : Nat) + 1 ∧ s ≤ z := by
  have hz := (dm_iff.1 hd).2
  have fits := lv_fits (s := n) hz h0 64
  have nxt := lv_next (s := n) (zs := zs) 64
  have le := lv_le n zs 64
  rw [share_yes hd h0 h5]
  obtain ⟨L, hL⟩ : ∃ L, lv n zs 64 = L := ⟨_, rfl⟩
  rw [hL] at fits nxt le ⊢
  obtain ⟨r, hr⟩ : ∃ r, n - tot (cut zs (L : Int)) = r := ⟨_, rfl⟩
  rw [hr]
  have hr0 : 0 ≤ r := by omega
  obtain ⟨i1, i2, i3⟩ := more_inv (L : Int) r zs hr0 zs.length (Nat.le_refl _)
  have hlen := more_len (L : Int) r zs zs.length
  have hq := more_rest (L : Int) r zs hr0 zs.length
  refine ⟨hlen, ?_, i2⟩
  have hle : tot (more (L : Int) r zs zs.length).1 ≤ tot zs := tot_le _ _ hlen fun j x y e1 e2 => by
    obtain ⟨s, h1, _, _, h4⟩ := i2 j y e2
    rw [h1] at e1; cases e1; exact h4
  by_cases c : 0 < (more (L : Int) r zs zs.length).2
  · have full : (more (L : Int) r zs zs.length).1 = cut zs ((L : Int) + 1) := by
      apply List.ext_getElem?
      intro j
      by_cases hj : j < zs.length
      · have e : zs[j]? = some zs[j] := List.getElem?_eq_getElem hj
        rw [cut_get e]
        by_cases g : (L : Int) < zs[j]
        · rw [i3 c j _ hj e g, show min zs[j] ((L : Int) + 1) = (L : Int) + 1 by omega]
        · obtain ⟨s, h1, h2, _, h4⟩ := i2 j _ e
          rw [h1]; congr 1; omega
      · rw [List.getElem?_eq_none (by rw [hlen]; omega), List.getElem?_eq_none (by rw [cut_len]; omega)]
    by_cases hL64 : L < 64
    · have := nxt hL64
      rw [full] at i1
      omega
    · have e64 : cut zs ((L : Int) + 1) = zs := cut_all fun z h => by have := (hz z h).2; omega
      rw [full, e64] at i1 ⊢
      omega
  · omega
end Go.Proofs.YtokncfhpmjohdaaGreat.Dn
namespace Go.Proofs.YtokncfhpmjohdaaGreat.Wm
open Go.RowKit Go.Proofs.YtokncfhpmjohdaaGreat.Jt Go.Proofs.YtokncfhpmjohdaaGreat.Gs
set_option linter.unusedVariables false

/-- Whether a place is a drift. -/
def dk (x y : Int) : Bool := iw x (-8) 8 && iw y (-8) 8
theorem dk_iff {x y : Int} : dk x y = true ↔ (-8 ≤ x ∧ x ≤ 8) ∧ (-8 ≤ y ∧ y ≤ 8) := by unfold dk; rw [Bool.and_eq_true, iw_iff, iw_iff]

abbrev G := Int × Int × Int
/-- Whether the gust at i may stand there. -/
def okAt (zs : List G) (i : Nat) : Bool := match zs[i]? with
  | none => true
  | some z => iw z.1 0 64 && dk z.2.1 z.2.2 && (decide (i = 0) || match zs[i - 1]? with | none => true | some p => decide (p.1 < z.1))
def okUp (zs : List G) (k : Nat) : Bool := (List.range k).all (okAt zs)
/-- Whether a list is a wind. -/
def wd (zs : List G) : Bool := okUp zs zs.length && decide (zs.length ≤ 8)

theorem okUp_zero (zs : List G) : okUp zs 0 = true := rfl
theorem okUp_succ {zs : List G} {k : Nat} : okUp zs (k + 1) = (okUp zs k && okAt zs k) := by
  unfold okUp; rw [List.range_succ, List.all_append]; simp
theorem okUp_no {zs : List G} {k m : Nat} (hk : k < m) (h : okAt zs k = false) : okUp zs m = false := by
  unfold okUp; rw [List.all_eq_false]; exact ⟨k, List.mem_range.2 hk, by rw [h]; decide⟩
theorem okUp_at {zs : List G} {k m : Nat} (hk : k < m) (h : okUp zs m = true) : okAt zs k = true := by
  unfold okUp at h; exact List.all_eq_true.1 h k (List.mem_range.2 hk)

theorem ok_from {zs : List G} {k : Nat} {z : G} (hz : zs[k]? = some z) (h : iw z.1 0 64 = false) : okAt zs k = false := by
  unfold okAt; rw [hz]; simp [h]
theorem ok_drift {zs : List G} {k : Nat} {z : G} (hz : zs[k]? = some z) (h : dk z.2.1 z.2.2 = false) : okAt zs k = false := by
  unfold okAt; rw [hz]; simp [h]
theorem ok_first {zs : List G} {z : G} (hz : zs[0]? = some z) (h : iw z.1 0 64 = true) (h2 : dk z.2.1 z.2.2 = true) : okAt zs 0 = true := by
  unfold okAt; rw [hz]; simp [h, h2]
theorem ok_next {zs : List G} {k : Nat} {z p : G} (hz : zs[k]? = some z) (h : iw z.1 0 64 = true) (h2 : dk z.2.1 z.2.2 = true) (hk : k ≠ 0) (hp : zs[k - 1]? = some p) : okAt zs k = decide (p.1 < z.1) := by
  unfold okAt; rw [hz]; simp [h, h2, hk, hp]
theorem wd_no {zs : List G} {k n : Nat} (hn : zs.length = n) (hk : k < n) (h : okAt zs k = false) : wd zs = false := by
  unfold wd; rw [hn, okUp_no hk h]; rfl
theorem wd_long {zs : List G} {n : Nat} (hn : zs.length = n) (h : 8 < n) : wd zs = false := by
  unfold wd; rw [hn, decide_eq_false (p := n ≤ 8) (by omega), Bool.and_false]
theorem wd_fin {zs : List G} {n : Nat} (hn : zs.length = n) (h : okUp zs n = true) : wd zs = decide (n ≤ 8) := by
  unfold wd; rw [hn, h]; rfl
/-- Each gust of a wind begins at a tick from 0 to 64, and has a drift. -/
theorem wd_each {zs : List G} (h : wd zs = true) {k : Nat} {z : G} (hz : zs[k]? = some z) : (0 ≤ z.1 ∧ z.1 ≤ 64) ∧ (-8 ≤ z.2.1 ∧ z.2.1 ≤ 8) ∧ (-8 ≤ z.2.2 ∧ z.2.2 ≤ 8) := by
  have hk : k < zs.length := (List.getElem?_eq_some_iff.1 hz).1
  unfold wd at h
  rw [Bool.and_eq_true] at h
  have := okUp_at hk h.1
  unfold okAt at this
  rw [hz] at this
  simp only [Bool.and_eq_true] at this
  exact ⟨iw_iff.1 this.1.1, dk_iff.1 this.1.2⟩

/-- The drift at a tick: that of the last gust that has begun. -/
def dr (zs : List G) (t : Int) : Int × Int := zs.foldl (fun p z => if z.1 ≤ t then z.2 else p) (0, 0)
theorem dr_take {zs : List G} {k : Nat} {z : G} (h : zs[k]? = some z) (t : Int) : dr (zs.take (k + 1)) t = if z.1 ≤ t then z.2 else dr (zs.take k) t := by
  obtain ⟨hk, rfl⟩ := List.getElem?_eq_some_iff.1 h
  rw [List.take_succ_eq_append_getElem hk]
  unfold dr
  rw [List.foldl_append]; rfl
theorem dr_ind {zs : List G} {t : Int} (Q : Int × Int → Prop) (h0 : Q (0, 0)) (h : ∀ (k : Nat) (z : G), zs[k]? = some z → Q z.2) : Q (dr zs t) := by
  have key : ∀ k, k ≤ zs.length → Q (dr (zs.take k) t) := by
    intro k
    induction k with
    | zero => intro _; exact h0
    | succ k ih =>
      intro hk
      obtain ⟨z, hz⟩ : ∃ z, zs[k]? = some z := ⟨_, List.getElem?_eq_getElem (by omega)⟩
      rw [dr_take hz]
      split
      · exact h k z hz
      · exact ih (by omega)
  have := key zs.length (Nat.le_refl _)
  rwa [List.take_length] at this
theorem dr_bound {zs : List G} (h : wd zs = true) (t : Int) : (-8 ≤ (dr zs t).1 ∧ (dr zs t).1 ≤ 8) ∧ (-8 ≤ (dr zs t).2 ∧ (dr zs t).2 ≤ 8) :=
  dr_ind (fun p => (-8 ≤ p.1 ∧ p.1 ≤ 8) ∧ (-8 ≤ p.2 ∧ p.2 ≤ 8)) (by decide) fun k z hz => (wd_each h hz).2
/-- From tick 64 on the drift stays. -/
theorem dr_late {zs : List G} (h : wd zs = true) {t : Int} (ht : 64 ≤ t) : dr zs t = dr zs 64 := by
  have key : ∀ k, k ≤ zs.length → dr (zs.take k) t = dr (zs.take k) 64 := by
    intro k
    induction k with
    | zero => intro _; rfl
    | succ k ih =>
      intro hk
      obtain ⟨z, hz⟩ : ∃ z, zs[k]? = some z := ⟨_, List.getElem?_eq_getElem (by omega)⟩
      have := (wd_each h hz).1
      rw [dr_take hz, dr_take hz, if_pos (by omega), if_pos (by omega)]
  have := key zs.length (Nat.le_refl _)
  rwa [List.take_length] at this

/-- The drifts of m ticks from a on. -/
def drs (zs : List G) (a m : Nat) : List (Int × Int) := (List.range m).map fun j => dr zs ((a + j : Nat) : Int)
theorem drs_len (zs : List G) (a m : Nat) : (drs zs a m).length = m := by simp [drs]
theorem drs_get {zs : List G} {a m j : Nat} (h : j < m) : (drs zs a m)[j]? = some (dr zs ((a + j : Nat) : Int)) := by
  unfold drs; rw [List.getElem?_map, List.getElem?_range h]; rfl
theorem drs_take {zs : List G} {a m k : Nat} (h : k ≤ m) : (drs zs a m).take k = drs zs a k := by
  unfold drs; rw [← List.map_take, List.take_range, Nat.min_eq_left h]
theorem drs_drop {zs : List G} {m k : Nat} : (drs zs 0 m).drop k = drs zs k (m - k) := by
  apply List.ext_getElem?
  intro j
  rw [List.getElem?_drop]
  by_cases h : k + j < m
  · rw [drs_get h, drs_get (by omega), Nat.zero_add]
  · rw [List.getElem?_eq_none (by rw [drs_len]; omega), List.getElem?_eq_none (by rw [drs_len]; omega)]
/-- The place before, at the k-th one of a list. -/
def was (l : List (Int × Int)) (k : Nat) : Int × Int := if k = 0 then (0, 0) else l.getD (k - 1) (0, 0)
/-- The changes of a list of places, the one before the first being 0, 0. -/
def chgs (l : List (Int × Int)) (k : Nat) : List G := ((List.range k).filter fun j : Nat => decide (l.getD j (0, 0) ≠ was l j)).map fun j : Nat => ((j : Int), l.getD j (0, 0))
def chg (l : List (Int × Int)) : List G := chgs l l.length
theorem chgs_yes {l : List (Int × Int)} {k : Nat} {p : Int × Int} (h : l[k]? = some p) (hp : p ≠ was l k) : chgs l (k + 1) = chgs l k ++ [((k : Int), p)] := by
  unfold chgs
  have e : l.getD k (0, 0) = p := by rw [List.getD_eq_getElem?_getD, h]; rfl
  rw [List.range_succ, List.filter_append, List.map_append]
  simp only [List.filter_cons, e, List.filter_nil, decide_eq_true hp, if_true, List.map_cons, List.map_nil]
theorem chgs_no {l : List (Int × Int)} {k : Nat} {p : Int × Int} (h : l[k]? = some p) (hp : p = was l k) : chgs l (k + 1) = chgs l k := by
  unfold chgs
  have e : l.getD k (0, 0) = p := by rw [List.getD_eq_getElem?_getD, h]; rfl
  rw [List.range_succ, List.filter_append, List.map_append]
  have : decide (p ≠ was l k) = false := decide_eq_false (by simpa using hp)
  simp only [List.filter_cons, e, List.filter_nil, this]
  simp
theorem chgs_len (l : List (Int × Int)) (k : Nat) : (chgs l k).length ≤ k := by
  unfold chgs; rw [List.length_map]; have := List.length_filter_le (fun j => decide (l.getD j (0, 0) ≠ was l j)) (List.range k); simpa using this
theorem was_next {l : List (Int × Int)} {k : Nat} {p : Int × Int} (h : l[k]? = some p) : was l (k + 1) = p := by
  unfold was; rw [if_neg (by omega), Nat.add_sub_cancel, List.getD_eq_getElem?_getD, h]; rfl
theorem was_zero (l : List (Int × Int)) : was l 0 = (0, 0) := rfl

end Go.Proofs.YtokncfhpmjohdaaGreat.Wm
