/- Levels: what the cues of a name make of them; the ramp's methods. -/
import Derived.Test.YtokncfhpmjohdabGreatM4
import Derived.Deep.RegionHeld3
import Derived.Lib.SliceRun
import Derived.Deep.RegionLaw
import Derived.Deep.DeepCutAuto
set_option linter.unusedVariables false
set_option linter.unusedSimpArgs false
namespace Go.Proofs.YtokncfhpmjohdabGreat.Ld
open Go.RowKit Go.ChangeShapes Go.WideShapes Go.WideElems Go.Deep Go.Proofs.YtokncfhpmjohdabGreat.Mem Go.Proofs.YtokncfhpmjohdabGreat.Rw Go.Proofs.YtokncfhpmjohdabGreat.P2 Go.Proofs.YtokncfhpmjohdabGreat.Cd Go.Proofs.YtokncfhpmjohdabGreat.Cv Go.Proofs.YtokncfhpmjohdabGreat.Cl Go.Proofs.YtokncfhpmjohdabGreat.Cs
set_option linter.unusedVariables false
set_option linter.unusedSimpArgs false
open Go.Proofs.YtokncfhpmjohdabGreat.Sd Go.Proofs.YtokncfhpmjohdabGreat.Tn Go.Proofs.YtokncfhpmjohdabGreat.Oc Go.Proofs.YtokncfhpmjohdabGreat.RampAt Go.Proofs.YtokncfhpmjohdabGreat.Jt

/-- A cue behind those that led to this level. -/
def stepC (t : Int) (u : Int × C) (x : C) : Int × C := if x.tk ≤ t then (level u.1 u.2.lv (x.tk - u.2.tk) u.2.rp, x) else u
/-- Where the first cues lead. -/
def reach (t : Int) (ys : List C) : Int × C := ys.foldl (stepC t) (0, d0)
/-- The level by cues of one name. -/
def levP (t : Int) (ys : List C) : Int := level (reach t ys).1 (reach t ys).2.lv (t - (reach t ys).2.tk) (reach t ys).2.rp
/-- The level of a name. -/
noncomputable def levV (zs : List C) (s : ByteArray) (t : Int) : Int := levP t (only zs [s])
theorem reach_snoc (t : Int) (ys : List C) (x : C) : reach t (ys ++ [x]) = stepC t (reach t ys) x := by unfold reach; rw [List.foldl_append]; rfl
theorem step_yes {t : Int} (u : Int × C) {x : C} (h : x.tk ≤ t) : stepC t u x = (level u.1 u.2.lv (x.tk - u.2.tk) u.2.rp, x) := by unfold stepC; rw [if_pos h]
theorem step_no {t : Int} (u : Int × C) {x : C} (h : ¬ x.tk ≤ t) : stepC t u x = u := by unfold stepC; rw [if_neg h]
/-- A cue's ticks are those of a cue, or of none. -/
def Tame (t : Int) (u : Int × C) : Prop := (0 ≤ u.2.tk ∧ u.2.tk ≤ 64) ∧ (0 ≤ u.2.rp ∧ u.2.rp ≤ 16) ∧ (u.2.tk ≤ t ∨ u.2.tk = 0)
theorem cB_in {d : C} (h : cB d = true) : (0 ≤ d.tk ∧ d.tk ≤ 64) ∧ (0 ≤ d.lv ∧ d.lv ≤ 32) ∧ (0 ≤ d.rp ∧ d.rp ≤ 16) := by
  unfold cB cueB at h
  rw [Bool.and_eq_true, Bool.and_eq_true, Bool.and_eq_true] at h
  have h1 := iw_iff.1 h.1
  have h2 := iw_iff.1 h.2.2.1
  have h3 := iw_iff.1 h.2.2.2
  omega
theorem tame_zero (t : Int) : Tame t (0, d0) := ⟨⟨by decide, by decide⟩, ⟨by decide, by decide⟩, Or.inr rfl⟩
theorem tame_step {t : Int} {u : Int × C} (h : Tame t u) {x : C} (hx : cB x = true) : Tame t (stepC t u x) := by
  by_cases e : x.tk ≤ t
  · rw [step_yes u e]
    have := cB_in hx
    exact ⟨this.1, this.2.2, Or.inl e⟩
  · rw [step_no u e]; exact h
theorem reach_tame (t : Int) (ys : List C) (h : ∀ x ∈ ys, cB x = true) : Tame t (reach t ys) := by
  have key : ∀ (ys : List C) (u : Int × C), Tame t u → (∀ x ∈ ys, cB x = true) → Tame t (ys.foldl (stepC t) u) := by
    intro ys
    induction ys with
    | nil => intro u hu _; exact hu
    | cons y r ih => intro u hu hr; exact ih _ (tame_step hu (hr y (List.mem_cons_self ..))) (fun x hx => hr x (List.mem_cons_of_mem _ hx))
  exact key ys _ (tame_zero t) h
theorem score_all {zs : List C} (h : score zs = true) : ∀ x ∈ zs, cB x = true := fun x hx => by
  obtain ⟨k, hk, rfl⟩ := List.getElem_of_mem hx
  exact ((score_of h).2 k _ (List.getElem?_eq_getElem hk)).1
theorem pick_all {zs : List C} {ss : List ByteArray} (h : ∀ x ∈ zs, cB x = true) : ∀ x ∈ pick zs ss, cB x = true := fun x hx => h x ((List.mem_filter.1 hx).1)
theorem only_all (zs : List C) (ss : List ByteArray) : ∀ x ∈ only zs ss, cB x = true := fun x hx => by
  cases c : score zs
  · rw [only_no c] at hx; cases hx
  · rw [only_yes c] at hx; exact pick_all (score_all c) x hx
theorem wf64 {x : Int} (h1 : -9223372036854775808 ≤ x) (h2 : x ≤ 9223372036854775807) : (Lit.int .i64 x).wf = true := by
  simp [Lit.wf, IntKind.min, IntKind.max, IntKind.signed, IntKind.bits]
  omega
theorem hasN_one (s x : ByteArray) : hasN [s] x = (x.toList == s.toList) := by
  by_cases h : x = s
  · subst h; rw [hasN_yes (List.mem_singleton.2 rfl), bl_eq.2 rfl]
  · rw [hasN_no (fun c => h (List.mem_singleton.1 c)), bl_ne h]
theorem wpAnyH_to {P : Program} {md : Region.Mode} {ops : Array Oper} {Q : Exit → Act → World → Prop} {S S' : World → Prop} (hSS : ∀ w, S' w → S w) : ∀ (fuel : Nat) (listed : Array Bool) (a : Act) (w : World), wpAnyH P md ops Q S' fuel listed a w → wpAnyH P md ops Q S fuel listed a w
  | 0, _, _, _, h => h
  | fuel + 1, _, _, _, h => ⟨h.1, fun i hi => wpOp_mono (fun a' w' r => ⟨hSS _ r.1, wpAnyH_to hSS fuel _ a' w' r.2⟩) (h.2 i hi)⟩

theorem set4 {W : World} {g : Nat} {a b c d p q r s : Value} (h0 : W.cell? ⟨g, 0, none⟩ = some p) (h1 : W.cell? ⟨g, 1, none⟩ = some q) (h2 : W.cell? ⟨g, 2, none⟩ = some r) (h3 : W.cell? ⟨g, 3, none⟩ = some s) :
    ((((W.setCell ⟨g, 0, none⟩ a).setCell ⟨g, 1, none⟩ b).setCell ⟨g, 2, none⟩ c).setCell ⟨g, 3, none⟩ d).cell? ⟨g, 0, none⟩ = some a ∧
    ((((W.setCell ⟨g, 0, none⟩ a).setCell ⟨g, 1, none⟩ b).setCell ⟨g, 2, none⟩ c).setCell ⟨g, 3, none⟩ d).cell? ⟨g, 1, none⟩ = some b ∧
    ((((W.setCell ⟨g, 0, none⟩ a).setCell ⟨g, 1, none⟩ b).setCell ⟨g, 2, none⟩ c).setCell ⟨g, 3, none⟩ d).cell? ⟨g, 2, none⟩ = some c ∧
    ((((W.setCell ⟨g, 0, none⟩ a).setCell ⟨g, 1, none⟩ b).setCell ⟨g, 2, none⟩ c).setCell ⟨g, 3, none⟩ d).cell? ⟨g, 3, none⟩ = some d := by
  have o : ∀ (X : World) (i j : Nat) (v : Value), i ≠ j → (X.setCell ⟨g, i, none⟩ v).cell? ⟨g, j, none⟩ = X.cell? ⟨g, j, none⟩ := fun X i j v h => World.cell?_setCell_other _ _ _ _ (by simp [h])
  refine ⟨?_, ?_, ?_, ?_⟩
  · rw [o _ 3 0 _ (by decide), o _ 2 0 _ (by decide), o _ 1 0 _ (by decide)]; exact World.cell?_setCell_same' _ _ _ (by rw [h0]; rfl)
  · rw [o _ 3 1 _ (by decide), o _ 2 1 _ (by decide)]; exact World.cell?_setCell_same' _ _ _ (by rw [o _ 0 1 _ (by decide), h1]; rfl)
  · rw [o _ 3 2 _ (by decide)]; exact World.cell?_setCell_same' _ _ _ (by rw [o _ 1 2 _ (by decide), o _ 0 2 _ (by decide), h2]; rfl)
  · exact World.cell?_setCell_same' _ _ _ (by rw [o _ 2 3 _ (by decide), o _ 1 3 _ (by decide), o _ 0 3 _ (by decide), h3]; rfl)

set_option maxHeartbeats 1000000 in
theorem levelAtI (f l fr tk t : Int) (hw : wrap64 (t - fr) = t - fr) (w1 : (Lit.int .i64 (t - fr)).wf = true) (w2 : (Lit.int .i64 tk).wf = true) (w : World) :
    Calls Tryz.prog 31 #[.agg #[.int .i64 f, .int .i64 l, .int .i64 fr, .int .i64 tk], .int .i64 t] w fun e w' => e = .returned (.int .i64 (level f l (t - fr) tk)) ∧ w' = w.alloc (.cells #[.int .i64 f, .int .i64 l, .int .i64 fr, .int .i64 tk] 59) := by
  have C := Lib.hid (RampAt.impl f l (t - fr) tk w1 w2)
  clear w1 w2
  obtain ⟨v, hv⟩ : ∃ v, level f l (t - fr) tk = v := ⟨_, rfl⟩
  rw [hv] at C ⊢
  clear hv
  go_enter Tryz.func31, Tryz.ntmps31
  go_wp2_with fail
  refine (C.out _).mono ?_
  rintro e w' ⟨rfl, rfl⟩
  go_wp2_with fail
  go_returns
  exact ⟨rfl, rfl⟩

set_option maxHeartbeats 4000000 in
set_option maxRecDepth 100000 in
theorem interruptedI (f l fr tk t : Int) (n : ByteArray) (lv rp : Int) (hw : wrap64 (t - fr) = t - fr) (w1 : (Lit.int .i64 (t - fr)).wf = true) (w2 : (Lit.int .i64 tk).wf = true) (w : World) :
    Calls Tryz.prog 30 #[.agg #[.int .i64 f, .int .i64 l, .int .i64 fr, .int .i64 tk], va t n lv rp] w fun e w' => e = .returned (.agg #[.int .i64 (level f l (t - fr) tk), .int .i64 lv, .int .i64 t, .int .i64 rp]) ∧ Below w.heap.size w w' := by
  have C := Lib.hid (levelAtI f l fr tk t hw w1 w2)
  clear w1 w2 hw
  obtain ⟨v, hv⟩ : ∃ v, level f l (t - fr) tk = v := ⟨_, rfl⟩
  rw [hv] at C ⊢
  clear hv
  go_enter Tryz.func30, Tryz.ntmps30
  go_wp2_with fail
  refine wp_region_noPanic ?_
  refine wp_region_held_drew (S := (fun w' => w'.cell? ⟨w.heap.size, 0, none⟩ = some (.int .i64 f) ∧ w'.cell? ⟨w.heap.size, 1, none⟩ = some (.int .i64 l) ∧ w'.cell? ⟨w.heap.size, 2, none⟩ = some (.int .i64 fr) ∧ w'.cell? ⟨w.heap.size, 3, none⟩ = some (.int .i64 tk) ∧ w'.cell? ⟨w.heap.size + 1, 0, none⟩ = some (.int .i64 t) ∧ w'.cell? ⟨w.heap.size + 1, 1, none⟩ = some (.string n) ∧ w'.cell? ⟨w.heap.size + 1, 2, none⟩ = some (.int .i64 lv) ∧ w'.cell? ⟨w.heap.size + 1, 3, none⟩ = some (.int .i64 rp) ∧ (∃ p, w'.cell? ⟨w.heap.size + 1 + 1, 0, none⟩ = some p) ∧ (∃ p, w'.cell? ⟨w.heap.size + 1 + 1, 1, none⟩ = some p) ∧ (∃ p, w'.cell? ⟨w.heap.size + 1 + 1, 2, none⟩ = some p) ∧ (∃ p, w'.cell? ⟨w.heap.size + 1 + 1, 3, none⟩ = some p) ∧ w'.frozen? ⟨w.heap.size + 1 + 1, 0, none⟩ = false ∧ w'.frozen? ⟨w.heap.size + 1 + 1, 1, none⟩ = false ∧ w'.frozen? ⟨w.heap.size + 1 + 1, 2, none⟩ = false ∧ w'.frozen? ⟨w.heap.size + 1 + 1, 3, none⟩ = false ∧ Below w.heap.size w w')) (by kernel_rfl) ?_ (fun hH => ?_)
  · exact ⟨by simp [go_sem], by simp [go_sem], by simp [go_sem], by simp [go_sem], by simp [go_sem], by simp [go_sem], by simp [go_sem], by simp [go_sem], ⟨.int .i64 0, by simp [go_sem]⟩, ⟨.int .i64 0, by simp [go_sem]⟩, ⟨.int .i64 0, by simp [go_sem]⟩, ⟨.int .i64 0, by simp [go_sem]⟩, by simp [go_sem], by simp [go_sem], by simp [go_sem], by simp [go_sem], by go_grown⟩
  refine wpAnyH_take (i := 0) (oi := { dst := some 5, op := _, type := _, pos := _, after := _, guard := _ }) (v := ?_) rfl (by kernel_rfl) (by kernel_rfl) (by kernel_rfl) (fun _ _ _ h => h) (Or.inl ⟨by rfl, ?_⟩) hH ?_
  rotate_left 1
  · intro W hSw
    (try dsimp only at hSw)
    go_simp
    (try with_reducible rfl)
  try simp only [Act.put, List.setIfInBounds_toArray, List.set_cons_zero, List.set_cons_succ]
  refine wpAnyH_take (i := 1) (oi := { dst := some 6, op := _, type := _, pos := _, after := _, guard := _ }) (v := ?_) rfl (by kernel_rfl) (by kernel_rfl) (by kernel_rfl) (fun _ _ _ h => h) (Or.inl ⟨by rfl, ?_⟩) hH ?_
  rotate_left 1
  · intro W hSw
    (try dsimp only at hSw)
    go_simp
    (try with_reducible rfl)
  try simp only [Act.put, List.setIfInBounds_toArray, List.set_cons_zero, List.set_cons_succ]
  refine wpAnyH_take (i := 2) (oi := { dst := some 7, op := _, type := _, pos := _, after := _, guard := _ }) (v := ?_) rfl (by kernel_rfl) (by kernel_rfl) (by kernel_rfl) (fun _ _ _ h => h) (Or.inl ⟨by rfl, ?_⟩) hH ?_
  rotate_left 1
  · intro W hSw
    (try dsimp only at hSw)
    go_simp
    (try with_reducible rfl)
  try simp only [Act.put, List.setIfInBounds_toArray, List.set_cons_zero, List.set_cons_succ]
  refine wpAnyH_take (i := 4) (oi := { dst := some 9, op := _, type := _, pos := _, after := _, guard := _ }) (v := ?_) rfl (by kernel_rfl) (by kernel_rfl) (by kernel_rfl) (fun _ _ _ h => h) (Or.inl ⟨by rfl, ?_⟩) hH ?_
  rotate_left 1
  · intro W hSw
    (try dsimp only at hSw)
    go_simp
    (try with_reducible rfl)
  try simp only [Act.put, List.setIfInBounds_toArray, List.set_cons_zero, List.set_cons_succ]
  refine wpAnyH_take (i := 5) (oi := { dst := some 10, op := _, type := _, pos := _, after := _, guard := _ }) (v := ?_) rfl (by kernel_rfl) (by kernel_rfl) (by kernel_rfl) (fun _ _ _ h => h) (Or.inl ⟨by rfl, ?_⟩) hH ?_
  rotate_left 1
  · intro W hSw
    (try dsimp only at hSw)
    go_simp
    (try with_reducible rfl)
  try simp only [Act.put, List.setIfInBounds_toArray, List.set_cons_zero, List.set_cons_succ]
  refine wpAnyH_take (i := 6) (oi := { dst := some 11, op := _, type := _, pos := _, after := _, guard := _ }) (v := ?_) rfl (by kernel_rfl) (by kernel_rfl) (by kernel_rfl) (fun _ _ _ h => h) (Or.inl ⟨by rfl, ?_⟩) hH ?_
  rotate_left 1
  · intro W hSw
    (try dsimp only at hSw)
    go_simp
    (try with_reducible rfl)
  try simp only [Act.put, List.setIfInBounds_toArray, List.set_cons_zero, List.set_cons_succ]
  refine wpAnyH_take (i := 7) (oi := { dst := some 12, op := _, type := _, pos := _, after := _, guard := _ }) (v := ?_) rfl (by kernel_rfl) (by kernel_rfl) (by kernel_rfl) (fun _ _ _ h => h) (Or.inl ⟨by rfl, ?_⟩) hH ?_
  rotate_left 1
  · intro W hSw
    (try dsimp only at hSw)
    go_simp
    (try with_reducible rfl)
  try simp only [Act.put, List.setIfInBounds_toArray, List.set_cons_zero, List.set_cons_succ]
  refine wpAnyH_take (i := 8) (oi := { dst := some 13, op := _, type := _, pos := _, after := _, guard := _ }) (v := ?_) rfl (by kernel_rfl) (by kernel_rfl) (by kernel_rfl) (fun _ _ _ h => h) (Or.inl ⟨by rfl, ?_⟩) hH ?_
  rotate_left 1
  · intro W hSw
    (try dsimp only at hSw)
    go_simp
    (try with_reducible rfl)
  try simp only [Act.put, List.setIfInBounds_toArray, List.set_cons_zero, List.set_cons_succ]
  refine wpAnyH_take (i := 9) (oi := { dst := some 14, op := _, type := _, pos := _, after := _, guard := _ }) (v := ?_) rfl (by kernel_rfl) (by kernel_rfl) (by kernel_rfl) (fun _ _ _ h => h) (Or.inl ⟨by rfl, ?_⟩) hH ?_
  rotate_left 1
  · intro W hSw
    (try dsimp only at hSw)
    go_simp
    (try with_reducible rfl)
  try simp only [Act.put, List.setIfInBounds_toArray, List.set_cons_zero, List.set_cons_succ]
  refine wpAnyH_ready (rs := [3]) (by kernel_rfl) (by simp) (AllReadyH.cons rfl (fun K hK => ?_) AllReadyH.nil)
  go_simp
  go_at_call 31; ((with_reducible refine (C.out _).mono ?_); rintro e r1 ⟨rfl, rfl⟩); go_wp2_with fail
  refine hK.out _ _ ?_ (fun hG => ?_)
  · exact ⟨by simp [go_sem], by simp [go_sem], by simp [go_sem], by simp [go_sem], by simp [go_sem], by simp [go_sem], by simp [go_sem], by simp [go_sem], ⟨.int .i64 0, by simp [go_sem]⟩, ⟨.int .i64 0, by simp [go_sem]⟩, ⟨.int .i64 0, by simp [go_sem]⟩, ⟨.int .i64 0, by simp [go_sem]⟩, by simp [go_sem], by simp [go_sem], by simp [go_sem], by simp [go_sem], by go_grown⟩
  replace hH := hG
  clear hK K hG
  try simp only [Act.put, List.setIfInBounds_toArray, List.set_cons_zero, List.set_cons_succ]
  refine wpAnyH_take (i := 10) (oi := { dst := some 15, op := _, type := _, pos := _, after := _, guard := _ }) (v := ?_) rfl (by kernel_rfl) (by kernel_rfl) (by kernel_rfl) (fun _ _ _ h => h) (Or.inl ⟨by rfl, ?_⟩) hH ?_
  rotate_left 1
  · intro W hSw
    (try dsimp only at hSw)
    go_simp
    (try with_reducible rfl)
  try simp only [Act.put, List.setIfInBounds_toArray, List.set_cons_zero, List.set_cons_succ]
  refine wpAnyH_to (S' := (fun w' => w'.cell? ⟨w.heap.size, 0, none⟩ = some (.int .i64 f) ∧ w'.cell? ⟨w.heap.size, 1, none⟩ = some (.int .i64 l) ∧ w'.cell? ⟨w.heap.size, 2, none⟩ = some (.int .i64 fr) ∧ w'.cell? ⟨w.heap.size, 3, none⟩ = some (.int .i64 tk) ∧ w'.cell? ⟨w.heap.size + 1, 0, none⟩ = some (.int .i64 t) ∧ w'.cell? ⟨w.heap.size + 1, 1, none⟩ = some (.string n) ∧ w'.cell? ⟨w.heap.size + 1, 2, none⟩ = some (.int .i64 lv) ∧ w'.cell? ⟨w.heap.size + 1, 3, none⟩ = some (.int .i64 rp) ∧ w'.cell? ⟨w.heap.size + 1 + 1, 0, none⟩ = some (.int .i64 v) ∧ w'.cell? ⟨w.heap.size + 1 + 1, 1, none⟩ = some (.int .i64 lv) ∧ w'.cell? ⟨w.heap.size + 1 + 1, 2, none⟩ = some (.int .i64 t) ∧ w'.cell? ⟨w.heap.size + 1 + 1, 3, none⟩ = some (.int .i64 rp) ∧ w'.frozen? ⟨w.heap.size + 1 + 1, 0, none⟩ = false ∧ w'.frozen? ⟨w.heap.size + 1 + 1, 1, none⟩ = false ∧ w'.frozen? ⟨w.heap.size + 1 + 1, 2, none⟩ = false ∧ w'.frozen? ⟨w.heap.size + 1 + 1, 3, none⟩ = false ∧ Below w.heap.size w w')) (fun w' h => ⟨h.1, h.2.1, h.2.2.1, h.2.2.2.1, h.2.2.2.2.1, h.2.2.2.2.2.1, h.2.2.2.2.2.2.1, h.2.2.2.2.2.2.2.1, ⟨_, h.2.2.2.2.2.2.2.2.1⟩, ⟨_, h.2.2.2.2.2.2.2.2.2.1⟩, ⟨_, h.2.2.2.2.2.2.2.2.2.2.1⟩, ⟨_, h.2.2.2.2.2.2.2.2.2.2.2.1⟩, h.2.2.2.2.2.2.2.2.2.2.2.2⟩) _ _ _ _ ?_
  obtain ⟨x0, x1, x2, x3, y0, y1, y2, y3, ⟨p0, z0⟩, ⟨p1, z1⟩, ⟨p2, z2⟩, ⟨p3, z3⟩, f0, f1, f2, f3, hB⟩ := hH
  generalize (World.drew _) = V at *
  refine wpAnyH_ready (rs := [11]) (by kernel_rfl) (by simp) (AllReadyH.cons rfl (fun K hK => ?_) AllReadyH.nil)
  go_simp
  refine hK.out _ _ ?_ (fun hG => ?_)
  · obtain ⟨s0, s1, s2, s3⟩ := set4 (a := .int .i64 v) (b := .int .i64 lv) (c := .int .i64 t) (d := .int .i64 rp) z0 z1 z2 z3
    exact ⟨by simp [go_sem, x0], by simp [go_sem, x1], by simp [go_sem, x2], by simp [go_sem, x3], by simp [go_sem, y0], by simp [go_sem, y1], by simp [go_sem, y2], by simp [go_sem, y3], s0, s1, s2, s3, by simp [go_sem, f0], by simp [go_sem, f1], by simp [go_sem, f2], by simp [go_sem, f3], hB.trans (by go_grown)⟩
  replace hH := hG
  clear hK K hG
  try simp only [Act.put, List.setIfInBounds_toArray, List.set_cons_zero, List.set_cons_succ]
  refine wpAnyH_done (by kernel_rfl) ?_ _
  refine NoPanic.normal ?_
  obtain ⟨_, _, _, _, _, _, _, _, s0, s1, s2, s3, _, _, _, _, hB2⟩ := hH
  have HB := Lib.hid hB2
  clear hB2 hB x0 x1 x2 x3 y0 y1 y2 y3 z0 z1 z2 z3 f0 f1 f2 f3
  go_wp2_with fail
  (try simp only [Exit.inBlock, Exit.then])
  refine bodyPost_ret (v := .agg #[.int .i64 v, .int .i64 lv, .int .i64 t, .int .i64 rp]) (by simp only [results, Tryz.results30, s0, s1, s2, s3]; simp [go_sem, s0, s1, s2, s3]; try rfl) rfl ?_
  exact ⟨rfl, HB.out⟩
end Go.Proofs.YtokncfhpmjohdabGreat.Ld
namespace Go.Proofs.YtokncfhpmjohdabGreat.Cq
open Go.RowKit Go.ChangeShapes Go.WideShapes Go.WideElems Go.Deep Go.Proofs.YtokncfhpmjohdabGreat.Mem Go.Proofs.YtokncfhpmjohdabGreat.Rw Go.Proofs.YtokncfhpmjohdabGreat.P2 Go.Proofs.YtokncfhpmjohdabGreat.Cd Go.Proofs.YtokncfhpmjohdabGreat.Cv Go.Proofs.YtokncfhpmjohdabGreat.Cl Go.Proofs.YtokncfhpmjohdabGreat.Cs
set_option linter.unusedVariables false
set_option linter.unusedSimpArgs false
open Go.Proofs.YtokncfhpmjohdabGreat.Sd Go.Proofs.YtokncfhpmjohdabGreat.Tn Go.Proofs.YtokncfhpmjohdabGreat.Ld

theorem bl_iff : ∀ (x y : List UInt8), Op.bytesLess x y = true ↔ x < y
  | [], [] => by simp [Op.bytesLess]
  | a :: x, [] => by simp [Op.bytesLess]
  | [], b :: y => by simp [Op.bytesLess]
  | a :: x, b :: y => by
    have ih := bl_iff x y
    rw [Op.bytesLess, List.cons_lt_cons_iff, ← ih]
    by_cases h1 : a < b
    · simp [h1]
    · by_cases h2 : a = b
      · simp [h2]
      · simp [h1, h2]
theorem lt_iff {a b : ByteArray} : Cs.lt a b = true ↔ a.toList < b.toList := bl_iff _ _
theorem lt_trans {a b c : ByteArray} (h : Cs.lt a b = true) (k : Cs.lt b c = true) : Cs.lt a c = true := lt_iff.2 (List.lt_trans (lt_iff.1 h) (lt_iff.1 k))
theorem lt_irrefl (a : ByteArray) : Cs.lt a a = false := by
  cases h : Cs.lt a a
  · rfl
  · exact absurd (lt_iff.1 h) (List.lt_irrefl _)
theorem lt_other {a b : ByteArray} (h : Cs.lt a b = false) (hn : a ≠ b) : Cs.lt b a = true := by
  have h1 : ¬ a.toList < b.toList := fun c => by rw [lt_iff.2 c] at h; cases h
  refine lt_iff.2 ?_
  by_cases k : b.toList < a.toList
  · exact k
  · exact absurd (toList_inj (Std.Trichotomous.trichotomous (r := (· < · : List UInt8 → List UInt8 → Prop)) a.toList b.toList h1 k)) hn
theorem sb_iff {a b : ByteArray} : sb a b = true ↔ a = b := bl_eq
theorem sb_self (a : ByteArray) : sb a a = true := sb_iff.2 rfl
theorem sb_ne {a b : ByteArray} (h : a ≠ b) : sb a b = false := bl_ne h

theorem cc_neg {t t' : Int} {n n' : ByteArray} : cc t n t' n' < 0 ↔ t < t' ∨ (t = t' ∧ Cs.lt n n' = true) := by
  unfold cc cn
  by_cases h : t < t'
  · rw [if_pos h]; exact ⟨fun _ => Or.inl h, fun _ => by decide⟩
  · rw [if_neg h]
    by_cases e : t = t'
    · rw [if_pos e]
      cases h1 : Cs.lt n n'
      · rw [if_neg (by decide)]
        constructor
        · intro c; exfalso; split at c <;> exact absurd c (by decide)
        · rintro (c | ⟨_, c⟩); exact absurd c h; cases c
      · rw [if_pos rfl]; exact ⟨fun _ => Or.inr ⟨e, rfl⟩, fun _ => by decide⟩
    · rw [if_neg e]
      exact ⟨fun c => absurd c (by decide), fun c => by rcases c with c | ⟨c, _⟩; exact absurd c h; exact absurd c e⟩
theorem cc_zero {t t' : Int} {n n' : ByteArray} : cc t n t' n' = 0 ↔ t = t' ∧ n = n' := by
  unfold cc cn
  by_cases h : t < t'
  · rw [if_pos h]; exact ⟨fun c => absurd c (by decide), fun c => by omega⟩
  · rw [if_neg h]
    by_cases e : t = t'
    · rw [if_pos e]
      cases h1 : Cs.lt n n'
      · rw [if_neg (by decide)]
        by_cases c : n = n'
        · rw [if_pos (sb_iff.2 c)]; exact ⟨fun _ => ⟨e, c⟩, fun _ => rfl⟩
        · rw [if_neg (by rw [sb_ne c]; decide)]; exact ⟨fun k => absurd k (by decide), fun k => absurd k.2 c⟩
      · rw [if_pos rfl]
        refine ⟨fun c => absurd c (by decide), fun c => ?_⟩
        rw [c.2, lt_irrefl] at h1; cases h1
    · rw [if_neg e]; exact ⟨fun c => absurd c (by decide), fun c => absurd c.1 e⟩
/-- A cue stands before another one. -/
def Bef (a d : C) : Prop := cmp2 a d < 0
theorem bef_iff {a d : C} : Bef a d ↔ a.tk < d.tk ∨ (a.tk = d.tk ∧ Cs.lt a.nm d.nm = true) := cc_neg
theorem same_iff {a d : C} : cmp2 a d = 0 ↔ a.tk = d.tk ∧ a.nm = d.nm := cc_zero
theorem bef_trans {a b c : C} (h : Bef a b) (k : Bef b c) : Bef a c := by
  rw [bef_iff] at h k ⊢
  rcases h with h | ⟨h, h'⟩ <;> rcases k with k | ⟨k, k'⟩
  · exact Or.inl (by omega)
  · exact Or.inl (by omega)
  · exact Or.inl (by omega)
  · exact Or.inr ⟨by omega, lt_trans h' k'⟩
theorem bef_total {a d : C} (h : ¬ Bef a d) (k : cmp2 a d ≠ 0) : Bef d a := by
  rw [bef_iff] at h ⊢
  by_cases e : a.tk = d.tk
  · refine Or.inr ⟨e.symm, ?_⟩
    refine lt_other ?_ fun c => k (same_iff.2 ⟨e, c⟩)
    cases q : Cs.lt a.nm d.nm
    · rfl
    · exact absurd (Or.inr ⟨e, q⟩) h
  · exact Or.inl (by
      have : ¬ a.tk < d.tk := fun c => h (Or.inl c)
      omega)
theorem bef_same {a b c : C} (h : Bef a b) (k : cmp2 b c = 0) : Bef a c := by
  obtain ⟨e1, e2⟩ := same_iff.1 k
  rw [bef_iff] at h ⊢
  rw [← e1, ← e2]; exact h
theorem bef_not_same {a b : C} (h : Bef a b) : cmp2 a b ≠ 0 := fun k => by unfold Bef at h; rw [k] at h; exact absurd h (by decide)

/-- Each cue stands before all that come behind it. -/
def Ord (zs : List C) : Prop := zs.Pairwise Bef
theorem ord_of : ∀ (zs : List C), (∀ k, k < zs.length → ordA zs k = true) → Ord zs
  | [], _ => List.Pairwise.nil
  | [d], _ => List.pairwise_singleton _ _
  | a :: d :: r, h => by
    have hr : Ord (d :: r) := ord_of (d :: r) fun k hk => by
      cases k with
      | zero => rfl
      | succ p =>
        have := h (p + 2) (by simp only [List.length_cons] at hk ⊢; omega)
        obtain ⟨x, hx⟩ : ∃ x, (d :: r)[p]? = some x := ⟨_, List.getElem?_eq_getElem (by simp only [List.length_cons] at hk ⊢; omega)⟩
        obtain ⟨y, hy⟩ : ∃ y, (d :: r)[p + 1]? = some y := ⟨_, List.getElem?_eq_getElem hk⟩
        rw [ordA_succ (zs := a :: d :: r) (p := p + 1) (a := x) (d := y) (by rw [List.getElem?_cons_succ]; exact hx) (by rw [List.getElem?_cons_succ]; exact hy)] at this
        rw [ordA_succ hx hy]
        exact this
    have h1 : Bef a d := by
      have := h 1 (by simp)
      rw [ordA_succ (zs := a :: d :: r) (p := 0) (a := a) (d := d) rfl rfl] at this
      have h2 : cmp2 a d < 0 := of_decide_eq_true this
      exact h2
    refine List.Pairwise.cons (fun x hx => ?_) hr
    rcases List.mem_cons.1 hx with rfl | hx
    · exact h1
    · exact bef_trans h1 ((List.pairwise_cons.1 hr).1 x hx)
theorem ord_to {zs : List C} (h : Ord zs) (k : Nat) : ordA zs k = true := by
  cases k with
  | zero => rfl
  | succ p =>
    cases hb : zs[p + 1]? with
    | none =>
      show (match zs[p]?, zs[p + 1]? with | some a, some d => neg (cmp2 a d) | _, _ => true) = true
      rw [hb]; cases zs[p]? <;> rfl
    | some d =>
      obtain ⟨hk, e⟩ := List.getElem?_eq_some_iff.1 hb
      obtain ⟨a, ha⟩ : ∃ a, zs[p]? = some a := ⟨_, List.getElem?_eq_getElem (by omega)⟩
      rw [ordA_succ ha hb]
      obtain ⟨hk2, e2⟩ := List.getElem?_eq_some_iff.1 ha
      have := List.pairwise_iff_getElem.1 h p (p + 1) hk2 hk (by omega)
      rw [e, e2] at this
      have h2 : cmp2 a d < 0 := this
      unfold neg
      exact decide_eq_true h2
/-- A score, by membership. -/
theorem score_set {zs : List C} : Score zs ↔ zs.length ≤ 12 ∧ Ord zs ∧ ∀ d ∈ zs, cB d = true := by
  constructor
  · rintro ⟨h1, h2⟩
    refine ⟨h1, ord_of zs fun k hk => (h2 k _ (List.getElem?_eq_getElem hk)).2, fun d hd => ?_⟩
    obtain ⟨k, hk, rfl⟩ := List.getElem_of_mem hd
    exact (h2 k _ (List.getElem?_eq_getElem hk)).1
  · rintro ⟨h1, ho, h2⟩
    exact ⟨h1, fun k d hd => ⟨h2 d (List.mem_of_getElem? hd), ord_to ho k⟩⟩
theorem ord_at {zs : List C} (h : Ord zs) {i j : Nat} {a b : C} (ha : zs[i]? = some a) (hb : zs[j]? = some b) (hij : i < j) : Bef a b := by
  obtain ⟨hi, rfl⟩ := List.getElem?_eq_some_iff.1 ha
  obtain ⟨hj, rfl⟩ := List.getElem?_eq_some_iff.1 hb
  exact List.pairwise_iff_getElem.1 h i j hi hj hij

/-- The first r of a list stand before x, the others don't. -/
def Parts (zs : List C) (x : C) (r : Nat) : Prop := r ≤ zs.length ∧ (∀ k d, k < r → zs[k]? = some d → Bef d x) ∧ (∀ k d, r ≤ k → zs[k]? = some d → ¬ Bef d x)
theorem parts_none {zs : List C} (h : Ord zs) {x : C} {r : Nat} (hp : Parts zs x r) (hx : ∀ d, zs[r]? = some d → cmp2 d x ≠ 0) : ∀ d ∈ zs, cmp2 d x ≠ 0 := fun d hd e => by
  obtain ⟨k, hk, rfl⟩ := List.getElem_of_mem hd
  have hk' := List.getElem?_eq_getElem hk
  by_cases c : k < r
  · exact bef_not_same (hp.2.1 k _ c hk') e
  · by_cases c2 : k = r
    · subst c2; exact hx _ hk' e
    · have hr : r < zs.length := by omega
      have := ord_at h (List.getElem?_eq_getElem hr) hk' (by omega)
      exact hp.2.2 r _ (Nat.le_refl _) (List.getElem?_eq_getElem hr) (bef_same this e)
end Go.Proofs.YtokncfhpmjohdabGreat.Cq
namespace Go.Proofs.YtokncfhpmjohdabGreat.Cr
open Go.RowKit Go.ChangeShapes Go.WideShapes Go.WideElems Go.Deep Go.Proofs.YtokncfhpmjohdabGreat.Mem Go.Proofs.YtokncfhpmjohdabGreat.Rw Go.Proofs.YtokncfhpmjohdabGreat.P2 Go.Proofs.YtokncfhpmjohdabGreat.Cd Go.Proofs.YtokncfhpmjohdabGreat.Cv Go.Proofs.YtokncfhpmjohdabGreat.Cl Go.Proofs.YtokncfhpmjohdabGreat.Cs
set_option linter.unusedVariables false
set_option linter.unusedSimpArgs false
open Go.Proofs.YtokncfhpmjohdabGreat.Sd Go.Proofs.YtokncfhpmjohdabGreat.Oc
open Go.Proofs.YtokncfhpmjohdabGreat.Rw (owns_below owns_grown)

theorem dls_cell {zs : List C} {v : Value} (h : v ∈ dls zs) : v.oneCell' = true := by
  unfold dls at h
  obtain ⟨d, _, hd⟩ := List.mem_flatMap.1 h
  unfold dc at hd
  simp at hd
  rcases hd with rfl | rfl | rfl | rfl <;> rfl

/-- Cells written over a list, one after another. -/
def layL : List Value → Nat → List Value → List Value
  | xs, _, [] => xs
  | xs, o, u :: r => layL (xs.set o u) (o + 1) r
theorem layL_len : ∀ (r xs : List Value) (o : Nat), (layL xs o r).length = xs.length
  | [], _, _ => rfl
  | u :: r, xs, o => by rw [layL, layL_len r]; simp
theorem layL_get : ∀ (r xs : List Value) (o : Nat), o + r.length ≤ xs.length → ∀ t, (layL xs o r)[t]? = if t < o then xs[t]? else if t < o + r.length then r[t - o]? else xs[t]?
  | [], xs, o, _, t => by
    rw [layL]
    split
    · rfl
    · rw [if_neg (by simp only [List.length_nil]; omega)]
  | u :: r, xs, o, h, t => by
    simp only [List.length_cons] at h
    rw [layL, layL_get r (xs.set o u) (o + 1) (by rw [List.length_set]; omega) t]
    by_cases c1 : t < o
    · rw [if_pos (by omega), if_pos c1, List.getElem?_set_ne (by omega)]
    · rw [if_neg c1]
      by_cases c2 : t = o
      · subst c2
        rw [if_pos (by omega), if_pos (by simp only [List.length_cons]; omega), Nat.sub_self, List.getElem?_set_self (by omega)]; rfl
      · rw [if_neg (by omega)]
        by_cases c3 : t < o + (r.length + 1)
        · rw [if_pos (by omega), if_pos (by simp only [List.length_cons]; exact c3), show t - o = (t - (o + 1)) + 1 by omega, List.getElem?_cons_succ]
        · rw [if_neg (by omega), if_neg (by simp only [List.length_cons]; exact c3), List.getElem?_set_ne (by omega)]
theorem gtrans {a b c : World} {row : Option Nat} (h : a.grownBy b row) (k : b.grownBy c row) : a.grownBy c row :=
  ⟨k.os.trans h.os, k.tape.trans h.tape, k.output.trans h.output, Nat.le_trans h.size k.size, fun i hi hne => (k.block i (Nat.lt_of_lt_of_le hi h.size) hne).trans (h.block i hi hne)⟩
theorem owns_lay {base : Nat} {e : TypeId} {size g n cap : Nat} : ∀ (r : List Value) (o : Nat) (w : World) (xs : List Value), w.ownsRow base e size (.slice (some ⟨g, 0, none⟩) n cap) n xs → (w.setCells g o r).ownsRow base e size (.slice (some ⟨g, 0, none⟩) n cap) n (layL xs o r) ∧ w.grownBy (w.setCells g o r) (some g)
  | [], _, w, _, h => ⟨h, World.grownBy.refl _ _⟩
  | u :: r, o, w, xs, h => by
    obtain ⟨h1, g1⟩ := h.stored o u
    obtain ⟨h2, g2⟩ := owns_lay r (o + 1) _ _ h1
    exact ⟨h2, gtrans g1 g2⟩
theorem owns_fewer {w : World} {base : Nat} {e : TypeId} {size g n cap : Nat} {xs : List Value} (h : w.ownsRow base e size (.slice (some ⟨g, 0, none⟩) n cap) n xs) {m : Nat} (hm : m ≤ n) : w.ownsRow base e size (.slice (some ⟨g, 0, none⟩) m cap) m (xs.take (m * size)) := by
  rcases h.2 with ⟨h', _⟩ | ⟨g', cap', cur, h', hb, hg, hnc, hcm, hcs, htake⟩
  · simp at h'
  · simp only [Value.slice.injEq, Option.some.injEq, Addr.mk.injEq, and_true, true_and] at h'
    obtain ⟨rfl, rfl⟩ := h'
    have hle : m * size ≤ n * size := Nat.mul_le_mul_right _ hm
    refine ⟨by rw [List.length_take, h.1]; omega, .inr ⟨g, cap, cur, rfl, hb, hg, by omega, hcm, hcs, ?_⟩⟩
    rw [← htake, List.take_take, Nat.min_eq_left hle]
theorem owns_cap {w : World} {base : Nat} {e : TypeId} {size g n cap : Nat} {xs : List Value} (h : w.ownsRow base e size (.slice (some ⟨g, 0, none⟩) n cap) n xs) : n ≤ cap ∧ cap ≤ maxLen := by
  rcases h.2 with ⟨h', _⟩ | ⟨g', cap', cur, h', hb, hg, hnc, hcm, hcs, htake⟩
  · simp at h'
  · simp only [Value.slice.injEq, Option.some.injEq, Addr.mk.injEq, and_true, true_and] at h'
    obtain ⟨rfl, rfl⟩ := h'
    exact ⟨hnc, hcm⟩
theorem rd_take {w : World} {B : Nat} {A : Option Addr} {xs : List Value} (h : Rd w B A xs) (k : Nat) : Rd w B A (xs.take k) := by
  rcases h with h | ⟨b, o, e, hb, hc⟩
  · exact Or.inl (by rw [h]; simp)
  · exact Or.inr ⟨b, o, e, hb, fun j u hj => hc j u (by rw [List.getElem?_take] at hj; split at hj; exact hj; cases hj)⟩

theorem dls_app (xs ys : List C) : dls (xs ++ ys) = dls xs ++ dls ys := by unfold dls; rw [List.flatMap_append]
theorem dls_part {zs : List C} {k : Nat} (h : k ≤ zs.length) : dls (zs.take k) = (dls zs).take (k * 4) ∧ dls (zs.drop k) = (dls zs).drop (k * 4) := by
  have e : dls zs = dls (zs.take k) ++ dls (zs.drop k) := by rw [← dls_app, List.take_append_drop]
  have l : (dls (zs.take k)).length = k * 4 := by rw [dls_len, List.length_take]; omega
  rw [e, ← l]
  exact ⟨(List.take_left).symm, (List.drop_left).symm⟩
/-- The list without its j-th. -/
def cut (zs : List C) (j : Nat) : List C := zs.take j ++ zs.drop (j + 1)
theorem cut_len {zs : List C} {j : Nat} (h : j < zs.length) : (cut zs j).length = zs.length - 1 := by unfold cut; simp; omega
theorem cut_lay {zs : List C} {j : Nat} (h : j < zs.length) {z : List Value} (hz : z.length = 4) : (layL (layL (dls zs) (j * 4) (dls (zs.drop (j + 1)))) ((zs.length - 1) * 4) z).take ((zs.length - 1) * 4) = dls (cut zs j) := by
  have l0 := dls_len zs
  have l1 : (dls (zs.drop (j + 1))).length = (zs.length - (j + 1)) * 4 := by rw [dls_len, List.length_drop]
  have l2 : (dls (zs.take j)).length = j * 4 := by rw [dls_len, List.length_take]; omega
  unfold cut
  rw [dls_app]
  apply List.ext_getElem?
  intro t
  rw [List.getElem?_take]
  by_cases c : t < (zs.length - 1) * 4
  · rw [if_pos c, layL_get _ _ _ (by rw [layL_len, hz, l0]; omega), if_pos c, layL_get _ _ _ (by rw [l1, l0]; omega)]
    by_cases c1 : t < j * 4
    · rw [if_pos c1, List.getElem?_append_left (by omega), (dls_part (Nat.le_of_lt h)).1, List.getElem?_take, if_pos c1]
    · rw [if_neg c1, if_pos (by omega), List.getElem?_append_right (by omega), l2]
  · rw [if_neg c, List.getElem?_eq_none (by rw [List.length_append, l1, l2]; omega)]

set_option maxRecDepth 100000 in
set_option maxHeartbeats 400000 in
theorem copiesC (a : Addr) (n0 c9 : Nat) (zs : List C) (w : World) (hn : zs.length = n0) (hb : n0 ≤ 1048576) (hr : Rd w w.heap.size (some a) (dls zs)) :
    Calls Tryz.prog 100 #[.slice (some a) n0 c9] w (RowC w zs) := by
  obtain ⟨i0, hi, hz0, hz1, hz2⟩ := info_of infoD
  have R0 := Lib.hid (World.ownsRow_lit (base := w.heap.size) (e := 63) (size := 4) w #[] 0 (Nat.le_refl _) (Nat.zero_le _) rfl)
  have HC := Lib.hid (show ∀ j u, (dls zs)[j]? = some u → (w.alloc (.cells #[] 63)).cell? (a.add j) = some u by
    intro j u hj
    have hl := (List.getElem?_eq_some_iff.1 hj).1
    obtain ⟨b, o, e, hbl, hc⟩ := hr.get hl
    injection e with e
    subst e
    have := hc j u hj
    rw [show (⟨b, o, none⟩ : Addr).add j = ⟨b, o + j, none⟩ by simp [Addr.add]]
    exact cell_alloc this)
  have HN := Lib.hid hn
  have HW := Lib.hid (show w.heap.size ≤ (w.alloc (.cells #[] 63)).heap.size by simp)
  clear hr hn
  go_enter Tryz.func100, Tryz.ntmps100
  go_wp2_with (at_builtin; refine wpList_append_own _ rfl _ _ 25 rfl w.heap.size 63 i0 (.agg #[.int .i64 0, .string ⟨#[]⟩, .int .i64 0, .int .i64 0]) 4 40 Tryz.underlying25 hi hz0 hz1 hz2 rfl (by decide) _ _ _ rfl R0.out a n0 _ (dls zs) rfl (by rw [dls_len, HN.out]) HC.out (fun u hu => dls_cell hu) (by unfold maxLen; omega) (by omega) HW.out ?_; intro v' w5 hown' hgrow hnil)
  have hg : ∃ g c, v' = .slice (some ⟨g, 0, none⟩) n0 c := by
    rcases hown'.2 with ⟨e1, _⟩ | ⟨g, cap, cur, e1, _⟩
    · exact absurd (hnil.1 e1).1 (by intro h; cases h)
    · exact ⟨g, cap, by rw [e1, Nat.zero_add]⟩
  obtain ⟨g, c, rfl⟩ := hg
  have RO := Lib.hid (show w5.ownsRow w.heap.size 63 4 (.slice (some ⟨g, 0, none⟩) n0 c) n0 (dls zs) by
    have := hown'; rw [Nat.zero_add] at this; exact this)
  have B5 := Lib.hid (show Below w.heap.size w w5 from Below.grown (by go_grown) hgrow (by simp) (fun j hj => by cases hj; exact Nat.le_refl _))
  clear hown' hgrow hnil R0 HC
  go_wp2_with fail
  go_ret
  exact ⟨g, c, by rw [HN.out]; rfl, by rw [HN.out]; exact RO.out, B5.out⟩

end Go.Proofs.YtokncfhpmjohdabGreat.Cr
namespace Go.Proofs.YtokncfhpmjohdabGreat.Ac
open Go.RowKit Go.ChangeShapes Go.WideShapes Go.WideElems Go.Deep Go.Proofs.YtokncfhpmjohdabGreat.Mem Go.Proofs.YtokncfhpmjohdabGreat.Rw Go.Proofs.YtokncfhpmjohdabGreat.P2 Go.Proofs.YtokncfhpmjohdabGreat.Cd Go.Proofs.YtokncfhpmjohdabGreat.Cv Go.Proofs.YtokncfhpmjohdabGreat.Cl Go.Proofs.YtokncfhpmjohdabGreat.Cs
set_option linter.unusedVariables false
set_option linter.unusedSimpArgs false
open Go.Proofs.YtokncfhpmjohdabGreat.Sd Go.Proofs.YtokncfhpmjohdabGreat.Oc Go.Proofs.YtokncfhpmjohdabGreat.Cr Go.Proofs.YtokncfhpmjohdabGreat.Ld Go.Proofs.YtokncfhpmjohdabGreat.Cq

/-- How many cues at the front stand before x. -/
def front : List C → C → Nat
  | [], _ => 0
  | d :: r, x => if cmp2 d x < 0 then front r x + 1 else 0
theorem front_le : ∀ (zs : List C) (x : C), front zs x ≤ zs.length
  | [], _ => Nat.le_refl _
  | d :: r, x => by unfold front; split; have := front_le r x; simp; omega; simp
theorem front_lt : ∀ {zs : List C} {x : C} {k : Nat} {d : C}, k < front zs x → zs[k]? = some d → cmp2 d x < 0
  | [], x, k, d, h, _ => by unfold front at h; omega
  | e :: r, x, k, d, h, hd => by
    unfold front at h
    by_cases c : cmp2 e x < 0
    · rw [if_pos c] at h
      cases k with
      | zero => simp at hd; subst hd; exact c
      | succ k => exact front_lt (zs := r) (k := k) (by omega) (by simpa using hd)
    · rw [if_neg c] at h; omega
theorem front_at : ∀ {zs : List C} {x : C} {d : C}, zs[front zs x]? = some d → ¬ cmp2 d x < 0
  | [], x, d, h => by simp at h
  | e :: r, x, d, h => by
    unfold front at h
    by_cases c : cmp2 e x < 0
    · rw [if_pos c] at h; exact front_at (zs := r) (by simpa using h)
    · rw [if_neg c] at h; simp at h; subst h; exact c
theorem front_is {zs : List C} {x : C} {k : Nat} (hk : k ≤ zs.length) (h1 : ∀ j d, j < k → zs[j]? = some d → cmp2 d x < 0) (h2 : ∀ d, zs[k]? = some d → ¬ cmp2 d x < 0) : front zs x = k := by
  have a := front_le zs x
  by_cases c : front zs x < k
  · obtain ⟨d, hd⟩ : ∃ d, zs[front zs x]? = some d := ⟨_, List.getElem?_eq_getElem (by omega)⟩
    exact absurd (h1 _ d c hd) (front_at hd)
  · by_cases e : k < front zs x
    · obtain ⟨d, hd⟩ : ∃ d, zs[k]? = some d := ⟨_, List.getElem?_eq_getElem (by omega)⟩
      exact absurd (front_lt e hd) (h2 d hd)
    · omega
/-- Whether x may be put in there: no cue there is its like. -/
def freeB (zs : List C) (x : C) : Bool := match zs[front zs x]? with | some d => !(cmp2 d x == 0) | none => true
theorem free_none {zs : List C} {x : C} (h : zs[front zs x]? = none) : freeB zs x = true := by unfold freeB; rw [h]
theorem free_some {zs : List C} {x d : C} (h : zs[front zs x]? = some d) : freeB zs x = !(cmp2 d x == 0) := by unfold freeB; rw [h]
def insC (zs : List C) (x : C) : List C := zs.take (front zs x) ++ x :: zs.drop (front zs x)
theorem ins_len (zs : List C) (x : C) : (insC zs x).length = zs.length + 1 := by
  have := front_le zs x
  unfold insC; simp; omega
def putL (zs : List C) (x : C) : List C := if freeB zs x = true then insC zs x else zs
theorem putL_yes {zs : List C} {x : C} (h : freeB zs x = true) : putL zs x = insC zs x := by unfold putL; rw [if_pos h]
theorem putL_no {zs : List C} {x : C} (h : freeB zs x = false) : putL zs x = zs := by unfold putL; rw [h]; rfl
theorem mem_ins {zs : List C} {x e : C} : e ∈ insC zs x ↔ e = x ∨ e ∈ zs := by
  unfold insC
  rw [List.mem_append, List.mem_cons]
  constructor
  · rintro (h | h | h)
    · exact Or.inr (List.mem_of_mem_take h)
    · exact Or.inl h
    · exact Or.inr (List.mem_of_mem_drop h)
  · rintro (h | h)
    · exact Or.inr (Or.inl h)
    · rw [← List.take_append_drop (front zs x) zs] at h
      rcases List.mem_append.1 h with h | h
      · exact Or.inl h
      · exact Or.inr (Or.inr h)
theorem parts_front {zs : List C} (h : Ord zs) (x : C) : Parts zs x (front zs x) := by
  refine ⟨front_le _ _, fun k d hk hd => front_lt hk hd, fun k d hk hd hb => ?_⟩
  have hl := (List.getElem?_eq_some_iff.1 hd).1
  obtain ⟨e, he⟩ : ∃ e, zs[front zs x]? = some e := ⟨_, List.getElem?_eq_getElem (by omega)⟩
  by_cases c : k = front zs x
  · subst c; exact front_at hd hb
  · exact front_at he (bef_trans (ord_at h he hd (by omega)) hb)
/-- A place is free just if no cue is the like of x. -/
theorem free_iff {zs : List C} (h : Ord zs) (x : C) : freeB zs x = true ↔ ∀ d ∈ zs, cmp2 d x ≠ 0 := by
  constructor
  · intro hf
    refine parts_none h (parts_front h x) fun d hd e => ?_
    rw [free_some hd, e] at hf
    cases hf
  · intro hf
    cases hz : zs[front zs x]? with
    | none => exact free_none hz
    | some d =>
      rw [free_some hz]
      have := hf d (List.mem_of_getElem? hz)
      simp [this]
theorem ins_ord {zs : List C} (h : Ord zs) {x : C} (hf : freeB zs x = true) : Ord (insC zs x) := by
  have hp := parts_front h x
  have hn := (free_iff h x).1 hf
  unfold insC
  refine List.pairwise_append.2 ⟨h.sublist (List.take_sublist _ _), List.pairwise_cons.2 ⟨fun d hd => ?_, h.sublist (List.drop_sublist _ _)⟩, fun a ha b hb => ?_⟩
  · obtain ⟨j, hj, rfl⟩ := List.getElem_of_mem hd
    rw [List.length_drop] at hj
    have hg : zs[front zs x + j]? = some (zs.drop (front zs x))[j] := by rw [List.getElem_drop]; exact List.getElem?_eq_getElem (by omega)
    exact bef_total (hp.2.2 _ _ (by omega) hg) (hn _ (List.mem_of_getElem? hg))
  · obtain ⟨i, hi, rfl⟩ := List.getElem_of_mem ha
    rw [List.length_take] at hi
    have hg : zs[i]? = some (zs.take (front zs x))[i] := by rw [List.getElem_take]; exact List.getElem?_eq_getElem (by omega)
    have h1 := hp.2.1 i _ (by omega) hg
    rcases List.mem_cons.1 hb with rfl | hb
    · exact h1
    · obtain ⟨j, hj, rfl⟩ := List.getElem_of_mem hb
      rw [List.length_drop] at hj
      have hg2 : zs[front zs x + j]? = some (zs.drop (front zs x))[j] := by rw [List.getElem_drop]; exact List.getElem?_eq_getElem (by omega)
      exact ord_at h hg hg2 (by omega)
/-- Whether a cue is added; the list behind it. -/
noncomputable def addG (zs : List C) (x : C) : Bool := score zs && (cB x && (freeB zs x && decide (zs.length ≠ 12)))
noncomputable def addL (zs : List C) (x : C) : List C := if addG zs x = true then insC zs x else zs
theorem addL_yes {zs : List C} {x : C} (h : addG zs x = true) : addL zs x = insC zs x := by unfold addL; rw [if_pos h]
theorem addL_no {zs : List C} {x : C} (h : addG zs x = false) : addL zs x = zs := by unfold addL; rw [h]; rfl
theorem addL_len (zs : List C) (x : C) : (addL zs x).length ≤ zs.length + 1 := by
  unfold addL; split
  · rw [ins_len]; exact Nat.le_refl _
  · exact Nat.le_succ _
theorem add_score {zs : List C} {x : C} (h : score zs = true) : score (addL zs x) = true := by
  cases hg : addG zs x
  · rw [addL_no hg]; exact h
  · rw [addL_yes hg]
    unfold addG at hg
    rw [Bool.and_eq_true, Bool.and_eq_true, Bool.and_eq_true] at hg
    obtain ⟨_, h2, h3, h4⟩ := hg
    obtain ⟨a, b, c⟩ := score_set.1 (score_of h)
    have h5 := of_decide_eq_true h4
    refine score_yes (score_set.2 ⟨by rw [ins_len]; omega, ins_ord b h3, fun d hd => ?_⟩)
    rcases mem_ins.1 hd with rfl | hd
    · exact h2
    · exact c d hd
theorem add_mem {zs : List C} {x e : C} (h : e ∈ addL zs x) : e = x ∨ e ∈ zs := by
  unfold addL at h
  split at h
  · exact mem_ins.1 h
  · exact Or.inr h
end Go.Proofs.YtokncfhpmjohdabGreat.Ac
namespace Go.Proofs.YtokncfhpmjohdabGreat.Hc
open Go.RowKit Go.ChangeShapes Go.WideShapes Go.WideElems Go.Deep Go.Proofs.YtokncfhpmjohdabGreat.Mem Go.Proofs.YtokncfhpmjohdabGreat.Rw Go.Proofs.YtokncfhpmjohdabGreat.P2 Go.Proofs.YtokncfhpmjohdabGreat.Cd Go.Proofs.YtokncfhpmjohdabGreat.Cv Go.Proofs.YtokncfhpmjohdabGreat.Cl Go.Proofs.YtokncfhpmjohdabGreat.Cs
set_option linter.unusedVariables false
set_option linter.unusedSimpArgs false
open Go.Proofs.YtokncfhpmjohdabGreat.Ld

theorem grown_setCell (W : World) (b o : Nat) (v : Value) : W.grownBy (W.setCell ⟨b, o, none⟩ v) (some b) :=
  ⟨rfl, rfl, rfl, by simp, fun j _ hr => Below.heap_setCell _ _ _ _ (fun e => hr (by rw [e]))⟩
/-- These four lie in a block. -/
structure R4 (W : World) (b : Nat) (p q r s : Value) : Prop where
  c0 : W.cell? ⟨b, 0, none⟩ = some p
  c1 : W.cell? ⟨b, 1, none⟩ = some q
  c2 : W.cell? ⟨b, 2, none⟩ = some r
  c3 : W.cell? ⟨b, 3, none⟩ = some s
  f0 : W.frozen? ⟨b, 0, none⟩ = false
  f1 : W.frozen? ⟨b, 1, none⟩ = false
  f2 : W.frozen? ⟨b, 2, none⟩ = false
  f3 : W.frozen? ⟨b, 3, none⟩ = false
theorem R4.lt {W : World} {b : Nat} {p q r s : Value} (h : R4 W b p q r s) : b < W.heap.size := World.block_lt_of_cell? W _ h.c0
theorem R4.new (W : World) (p q r s : Value) (t : TypeId) : R4 (W.alloc (.cells #[p, q, r, s] t)) W.heap.size p q r s :=
  ⟨cell_here rfl, cell_here rfl, cell_here rfl, cell_here rfl, by simp [go_sem], by simp [go_sem], by simp [go_sem], by simp [go_sem]⟩
theorem R4.kept {W W' : World} {b : Nat} {p q r s : Value} (h : R4 W b p q r s) (hc : ∀ j, W'.cell? ⟨b, j, none⟩ = W.cell? ⟨b, j, none⟩) (hf : ∀ j, W'.frozen? ⟨b, j, none⟩ = W.frozen? ⟨b, j, none⟩) : R4 W' b p q r s :=
  ⟨(hc 0).trans h.c0, (hc 1).trans h.c1, (hc 2).trans h.c2, (hc 3).trans h.c3, (hf 0).trans h.f0, (hf 1).trans h.f1, (hf 2).trans h.f2, (hf 3).trans h.f3⟩
theorem R4.below {W W' : World} {b : Nat} {p q r s : Value} (h : R4 W b p q r s) (hb : Below W.heap.size W W') : R4 W' b p q r s :=
  h.kept (fun j => hb.cell h.lt) (fun j => hb.frozen h.lt)
theorem R4.alloc {W : World} {b : Nat} {p q r s : Value} (h : R4 W b p q r s) (o : Obj) : R4 (W.alloc o) b p q r s :=
  h.below ((Below.refl _ _).alloc (Nat.le_refl _) o)
theorem R4.drew {W : World} {b : Nat} {p q r s : Value} (h : R4 W b p q r s) : R4 W.drew b p q r s := ⟨h.c0, h.c1, h.c2, h.c3, h.f0, h.f1, h.f2, h.f3⟩
theorem R4.drewN {W : World} {b : Nat} {p q r s : Value} (m : Nat) (h : R4 W b p q r s) : R4 (W.drewN m) b p q r s := ⟨h.c0, h.c1, h.c2, h.c3, h.f0, h.f1, h.f2, h.f3⟩
theorem R4.grown {W W' : World} {b : Nat} {p q r s : Value} {row : Option Nat} (h : R4 W b p q r s) (hg : W.grownBy W' row) (hr : row ≠ some b) : R4 W' b p q r s := by
  have hk := hg.block b h.lt (fun e => hr e.symm)
  refine h.kept (fun j => ?_) (fun j => ?_)
  · simp only [World.cell?, hk]
  · simp only [World.frozen?, hk]
abbrev put4 (W : World) (b : Nat) (x y z u : Value) : World := (((W.setCell ⟨b, 0, none⟩ x).setCell ⟨b, 1, none⟩ y).setCell ⟨b, 2, none⟩ z).setCell ⟨b, 3, none⟩ u
theorem R4.put {W : World} {b : Nat} {p q r s : Value} (h : R4 W b p q r s) (x y z u : Value) : R4 (put4 W b x y z u) b x y z u := by
  obtain ⟨s0, s1, s2, s3⟩ := set4 (a := x) (b := y) (c := z) (d := u) h.c0 h.c1 h.c2 h.c3
  exact ⟨s0, s1, s2, s3, by simp [go_sem, h.f0], by simp [go_sem, h.f1], by simp [go_sem, h.f2], by simp [go_sem, h.f3]⟩
theorem put_grown (W : World) (b : Nat) (x y z u : Value) : W.grownBy (put4 W b x y z u) (some b) :=
  Rw.grown_trans (Rw.grown_trans (Rw.grown_trans (grown_setCell _ _ _ _) (grown_setCell _ _ _ _)) (grown_setCell _ _ _ _)) (grown_setCell _ _ _ _)
end Go.Proofs.YtokncfhpmjohdabGreat.Hc
