/- Lists of cues that a call makes. -/
import Derived.Test.YtkndejjfndjcoaaM14
import Derived.Laws.AppendOwn
import Derived.Laws.OwnMore
import Derived.OwnWalk
import Derived.Test.YtkndejjfndjcoaaM3
import Derived.Lib.Hide
import Derived.Laws.Externs
import Derived.Deep.RegionHeld3
namespace Go.Proofs.Ytkndejjfndjcoaa.Oc
open Go.RowKit Go.ChangeShapes Go.WideShapes Go.WideElems Go.Deep Go.Proofs.Ytkndejjfndjcoaa.Mem Go.Proofs.Ytkndejjfndjcoaa.Rw Go.Proofs.Ytkndejjfndjcoaa.P2 Go.Proofs.Ytkndejjfndjcoaa.Cd Go.Proofs.Ytkndejjfndjcoaa.Cv Go.Proofs.Ytkndejjfndjcoaa.Cl Go.Proofs.Ytkndejjfndjcoaa.Cs
set_option linter.unusedVariables false
set_option linter.unusedSimpArgs false
open Go.Proofs.Ytkndejjfndjcoaa.Sd Go.Proofs.Ytkndejjfndjcoaa.Tn
open Go.Proofs.Ytkndejjfndjcoaa.Rw (owns_below owns_grown)

/-- A list of the call's own that holds these cues. -/
def RowC (w : World) (ds : List C) (e : Ending) (w' : World) : Prop :=
  ∃ g c, e = .returned (.slice (some ⟨g, 0, none⟩) ds.length c) ∧ w'.ownsRow w.heap.size 63 4 (.slice (some ⟨g, 0, none⟩) ds.length c) ds.length (dls ds) ∧ Below w.heap.size w w'
/-- .. and whether it has all of them. -/
def RowB (w : World) (ds : List C) (r : Bool) (e : Ending) (w' : World) : Prop :=
  ∃ g c, e = .returned (.tuple #[.slice (some ⟨g, 0, none⟩) ds.length c, .bool r]) ∧ w'.ownsRow w.heap.size 63 4 (.slice (some ⟨g, 0, none⟩) ds.length c) ds.length (dls ds) ∧ Below w.heap.size w w'
theorem own_mk {w : World} {base n : Nat} {v : Value} {xs : List Value} (h : w.ownsRow base 63 4 v (n + 1) xs) : ∃ g c, v = .slice (some ⟨g, 0, none⟩) (n + 1) c := by
  rcases h.2 with ⟨_, e⟩ | ⟨g, cap, cur, e, _⟩
  · omega
  · exact ⟨g, cap, e⟩
theorem own_drew {w : World} {base n : Nat} {v : Value} {xs : List Value} (h : w.ownsRow base 63 4 v n xs) : w.drew.ownsRow base 63 4 v n xs := ⟨h.1, h.2⟩
theorem own_drewN {w : World} {base n : Nat} {v : Value} {xs : List Value} (m : Nat) (h : w.ownsRow base 63 4 v n xs) : (w.drewN m).ownsRow base 63 4 v n xs := ⟨h.1, h.2⟩
theorem own_base {w : World} {base n : Nat} {v : Value} {xs : List Value} (h : w.ownsRow base 63 4 v n xs) : ∀ k, v.ownBlock = some k → base ≤ k := fun k e => (h.lt k e).1

/-- The cues of these names. -/
noncomputable def pick (zs : List C) (ss : List ByteArray) : List C := zs.filter fun d => hasN ss d.nm
/-- A list, or none. -/
def bon : Bool → List C → List C
  | true, l => l
  | false, _ => []
noncomputable def only (zs : List C) (ss : List ByteArray) : List C := if score zs = true then pick zs ss else []
theorem only_no {zs : List C} (h : score zs = false) (ss : List ByteArray) : only zs ss = [] := by unfold only; rw [h]; rfl
theorem only_yes {zs : List C} (h : score zs = true) (ss : List ByteArray) : only zs ss = pick zs ss := by unfold only; rw [if_pos h]
theorem pick_len (zs : List C) (ss : List ByteArray) : (pick zs ss).length ≤ zs.length := List.length_filter_le _ _
theorem only_len (zs : List C) (ss : List ByteArray) : (only zs ss).length ≤ zs.length := by
  unfold only; split
  · exact pick_len _ _
  · exact Nat.zero_le _
theorem pick_yes {zs : List C} {ss : List ByteArray} {k : Nat} {d : C} (h : zs[k]? = some d) (hn : hasN ss d.nm = true) : pick (zs.take (k + 1)) ss = pick (zs.take k) ss ++ [d] := by
  obtain ⟨hk, rfl⟩ := List.getElem?_eq_some_iff.1 h
  unfold pick
  rw [List.take_succ_eq_append_getElem hk, List.filter_append]
  simp [hn]
theorem pick_no {zs : List C} {ss : List ByteArray} {k : Nat} {d : C} (h : zs[k]? = some d) (hn : hasN ss d.nm = false) : pick (zs.take (k + 1)) ss = pick (zs.take k) ss := by
  obtain ⟨hk, rfl⟩ := List.getElem?_eq_some_iff.1 h
  unfold pick
  rw [List.take_succ_eq_append_getElem hk, List.filter_append]
  simp [hn]
end Go.Proofs.Ytkndejjfndjcoaa.Oc
namespace Go.Proofs.Ytkndejjfndjcoaa.Times
open Go.RowKit Go.Proofs.Ytkndejjfndjcoaa.Flt Go.Proofs.Ytkndejjfndjcoaa.Meas

def good (x n : Int) : Bool := decide (-4096 ≤ x ∧ x ≤ 4096 ∧ (x = 0 ∨ -4096 ≤ n ∧ n ≤ 4096 ∧ -4096 ≤ x * n ∧ x * n ≤ 4096))
def val (x n : Int) : Int := if good x n = true then x * n else 0

theorem mk_no {x n : Int} (h : ¬ (-4096 ≤ x ∧ x ≤ 4096 ∧ (x = 0 ∨ -4096 ≤ n ∧ n ≤ 4096 ∧ -4096 ≤ x * n ∧ x * n ≤ 4096))) : good x n = false ∧ val x n = 0 := by
  have : good x n = false := decide_eq_false h
  exact ⟨this, by unfold val; rw [this]; rfl⟩
theorem mk_yes {x n : Int} (h : -4096 ≤ x ∧ x ≤ 4096 ∧ (x = 0 ∨ -4096 ≤ n ∧ n ≤ 4096 ∧ -4096 ≤ x * n ∧ x * n ≤ 4096)) : good x n = true ∧ val x n = x * n := by
  have : good x n = true := decide_eq_true h
  exact ⟨this, by unfold val; rw [this]; rfl⟩

/-- What a way of the walk ends in. -/
theorem fin {x n v : Int} {b : Bool} (h : good x n = b ∧ val x n = v) : Ending.returned (.tuple #[.int .i64 v, .bool b]) = .returned (.tuple #[.int .i64 (val x n), .bool (good x n)]) := by rw [h.1, h.2]

theorem prod_bound {x n : Int} (hx1 : -4096 ≤ x) (hx2 : x ≤ 4096) (hn1 : -4096 ≤ n) (hn2 : n ≤ 4096) : -16777216 ≤ x * n ∧ x * n ≤ 16777216 := by
  have h : (x * n).natAbs ≤ 4096 * 4096 := by rw [Int.natAbs_mul]; exact Nat.mul_le_mul (by omega) (by omega)
  omega

theorem isMeasure_impl (x : Int) (w : World) (h1 : -4096 ≤ x) (h2 : x ≤ 4096) : Calls Try.prog 103 #[.int .i64 x] w fun e w' => e = .returned (.bool true) ∧ w = w' := by
  go_enter Try.func103, Try.ntmps103
  go_wp2
  go_ret
  exact ⟨rfl, rfl⟩
theorem isMeasure_impl_no (x : Int) (w : World) (h : x < -4096 ∨ 4096 < x) : Calls Try.prog 103 #[.int .i64 x] w fun e w' => e = .returned (.bool false) ∧ w = w' := by
  rcases h with h | h
  · go_enter Try.func103, Try.ntmps103
    go_wp2
    go_ret
    exact ⟨rfl, rfl⟩
  · have hd : decide (x ≤ 4096) = false := decide_eq_false (by omega)
    go_enter Try.func103, Try.ntmps103
    go_wp2
    go_ret
    exact ⟨rfl, rfl⟩
theorem isMeasure_spec (x : Int) (w : World) (h1 : -4096 ≤ x) (h2 : x ≤ 4096) : Calls Try.prog 60 #[.int .i64 x] w fun e w' => e = .returned (.bool true) ∧ w = w' := by
  go_enter Try.func60, Try.ntmps60
  go_wp2
  go_ret
  exact ⟨rfl, rfl⟩
theorem isMeasure_spec_no (x : Int) (w : World) (h : x < -4096 ∨ 4096 < x) : Calls Try.prog 60 #[.int .i64 x] w fun e w' => e = .returned (.bool false) ∧ w = w' := by
  rcases h with h | h
  · go_enter Try.func60, Try.ntmps60
    go_wp2
    go_ret
    exact ⟨rfl, rfl⟩
  · have hd : decide (x ≤ 4096) = false := decide_eq_false (by omega)
    go_enter Try.func60, Try.ntmps60
    go_wp2
    go_ret
    exact ⟨rfl, rfl⟩

theorem eM : f32 16777216 = 1241513984 := by decide
theorem emM : f32 (-16777216) = 3388997632 := by decide
end Go.Proofs.Ytkndejjfndjcoaa.Times
namespace Go.Proofs.Ytkndejjfndjcoaa.Ramp
open Go.RowKit Go.Proofs.Ytkndejjfndjcoaa.Flt Go.Proofs.Ytkndejjfndjcoaa.Meas Go.Proofs.Ytkndejjfndjcoaa.Times

theorem widen (K p : Int) (hK : K.natAbs < 16777216) (hp : -149 ≤ p) (hq : p ≤ 100) : floatToFloatBits .f32 (fl Ieee.single K p) .f64 = some (fl Ieee.double K p) := by
  have h1 := fits_single K p hK hp hq
  have h2 := fits_double K p (by omega) (by omega) (by omega)
  have e : FloatKind.f64.encode (FloatKind.f32.decode (fl Ieee.single K p)) = fl Ieee.double K p := rewrite_fl Ieee.single Ieee.double K p h1
  obtain ⟨s, m, x, hr⟩ := read_number Ieee.single K p h1
  obtain ⟨s2, m2, x2, hr2⟩ := read_number Ieee.double K p h2
  have hr' : FloatKind.f32.decode (fl Ieee.single K p) = .number s m x := hr
  have hr2' : FloatKind.f64.decode (fl Ieee.double K p) = .number s2 m2 x2 := hr2
  unfold floatToFloatBits
  rw [if_neg (by decide), hr']
  rw [hr'] at e
  simp only [e, hr2', Ieee.Datum.isInfinity]
  rfl

/-- What the model's entry gives at a number. -/
theorem integral_run (name : String) (way : Ieee.Toward) (x : Nat) (s : Bool) (m : Nat) (p : Int) (h : FloatKind.f64.decode x = .number s m p) (w : World) :
    (Extern.MathFloor.toIntegral name way #[.float .f64 x]).run Try.prog w = .ok (.float .f64 (FloatKind.f64.encode ((Ieee.Datum.number s m p).integral way))) w := by
  conv in (Extern.MathFloor.toIntegral _ _ _) => whnf
  rw [h]
  rfl

theorem prod_abs (r i n : Int) (hr1 : -8192 ≤ r) (hr2 : r ≤ 8192) (hi : 1 ≤ i) (hin : i < n) (hn : n ≤ 999) : (r * i).natAbs < 8388608 ∧ (r * i).natAbs < 8192 * n.toNat := by
  have h : (r * i).natAbs ≤ 8192 * i.natAbs := by rw [Int.natAbs_mul]; exact Nat.mul_le_mul_right _ (by omega)
  omega

/-- The floor keeps within the quotient's bounds. -/
theorem quo_abs (A : Int) (n : Nat) (hn : 0 < n) (h : A.natAbs < 8192 * n) : -8192 ≤ A / n ∧ A / n < 8192 := by
  have h1 : -8192 * (n : Int) ≤ A := by omega
  have h2 : A < 8192 * (n : Int) := by omega
  have hn' : (0 : Int) < n := by omega
  exact ⟨(Int.le_ediv_iff_mul_le hn').2 h1, (Int.ediv_lt_iff_lt_mul hn').2 h2⟩

end Go.Proofs.Ytkndejjfndjcoaa.Ramp
namespace Go.Proofs.Ytkndejjfndjcoaa.RampAt
open Go.RowKit Go.Proofs.Ytkndejjfndjcoaa.Flt Go.Proofs.Ytkndejjfndjcoaa.Meas Go.Proofs.Ytkndejjfndjcoaa.Times Go.Proofs.Ytkndejjfndjcoaa.Ramp

def isM (x : Int) : Bool := decide (-4096 ≤ x ∧ x ≤ 4096)
def level (a b i n : Int) : Int := if isM a = true ∧ isM b = true then if n ≤ i then b else if i ≤ 0 ∨ 999 < n then a else a + (b - a) * i / n else 0

theorem ret_int {a b : Int} (h : a = b) : Ending.returned (.int .i64 a) = .returned (.int .i64 b) := by rw [h]

theorem level_no {a b : Int} (i n : Int) (h : (a < -4096 ∨ 4096 < a) ∨ (b < -4096 ∨ 4096 < b)) : 0 = level a b i n := by
  unfold level isM
  rw [if_neg]
  simp only [decide_eq_true_eq]
  omega
theorem level_yes {a b : Int} (i n : Int) (ha1 : -4096 ≤ a) (ha2 : a ≤ 4096) (hb1 : -4096 ≤ b) (hb2 : b ≤ 4096) : level a b i n = if n ≤ i then b else if i ≤ 0 ∨ 999 < n then a else a + (b - a) * i / n := by
  unfold level isM
  rw [if_pos]
  simp only [decide_eq_true_eq]
  omega

theorem tdiv_floor (A n : Int) (hn : 0 < n) : (A.tmod n < 0 → A.tdiv n - 1 = A / n) ∧ (¬ A.tmod n < 0 → A.tdiv n = A / n) := by
  have h1 := @Int.tdiv_eq_ediv A n
  have h2 := @Int.tmod_eq_emod A n
  have h3 := Int.emod_nonneg A (Int.ne_of_gt hn)
  have h4 := Int.emod_lt_of_pos A hn
  have hs : n.sign = 1 := Int.sign_eq_one_of_pos hn
  rw [hs] at h1
  by_cases c : 0 ≤ A ∨ n ∣ A
  · rw [if_pos c] at h1 h2
    exact ⟨fun h => by omega, fun _ => by omega⟩
  · rw [if_neg c] at h1 h2
    exact ⟨fun h => by omega, fun h => by omega⟩

end Go.Proofs.Ytkndejjfndjcoaa.RampAt
namespace Go.Proofs.Ytkndejjfndjcoaa.Ld
open Go.RowKit Go.ChangeShapes Go.WideShapes Go.WideElems Go.Deep Go.Proofs.Ytkndejjfndjcoaa.Mem Go.Proofs.Ytkndejjfndjcoaa.Rw Go.Proofs.Ytkndejjfndjcoaa.P2 Go.Proofs.Ytkndejjfndjcoaa.Cd Go.Proofs.Ytkndejjfndjcoaa.Cv Go.Proofs.Ytkndejjfndjcoaa.Cl Go.Proofs.Ytkndejjfndjcoaa.Cs
set_option linter.unusedVariables false
set_option linter.unusedSimpArgs false
open Go.Proofs.Ytkndejjfndjcoaa.Sd Go.Proofs.Ytkndejjfndjcoaa.Tn Go.Proofs.Ytkndejjfndjcoaa.Oc Go.Proofs.Ytkndejjfndjcoaa.RampAt Go.Proofs.Ytkndejjfndjcoaa.Jt

/-- A cue behind those that led to this level. -/
def stepC (t : Int) (u : Int × C) (x : C) : Int × C := if x.tk ≤ t then (level u.1 u.2.lv (x.tk - u.2.tk) u.2.rp, x) else u
/-- Where the first cues lead. -/
def reach (t : Int) (ys : List C) : Int × C := ys.foldl (stepC t) (0, d0)
/-- The level by cues of one name. -/
def levP (t : Int) (ys : List C) : Int := level (reach t ys).1 (reach t ys).2.lv (t - (reach t ys).2.tk) (reach t ys).2.rp
/-- The level of a name. -/
noncomputable def levV (zs : List C) (s : ByteArray) (t : Int) : Int := levP t (only zs [s])
theorem reach_snoc (t : Int) (ys : List C) (x : C) : reach t (ys ++ [x]) = stepC t (reach t ys) x := by unfold reach; rw [List.foldl_append]; rfl
theorem step_yes {t : Int} (u : Int × C) {x : C} (h : x.tk ≤ t) : stepC t u x = (level u.1 u.2.lv (x.tk - u.2.tk) u.2.rp, x) := by unfold stepC; rw [if_pos h]
theorem step_no {t : Int} (u : Int × C) {x : C} (h : ¬ x.tk ≤ t) : stepC t u x = u := by unfold stepC; rw [if_neg h]
/-- A cue's ticks are those of a cue, or of none. -/
def Tame (t : Int) (u : Int × C) : Prop := (0 ≤ u.2.tk ∧ u.2.tk ≤ 64) ∧ (0 ≤ u.2.rp ∧ u.2.rp ≤ 16) ∧ (u.2.tk ≤ t ∨ u.2.tk = 0)
theorem cB_in {d : C} (h : cB d = true) : (0 ≤ d.tk ∧ d.tk ≤ 64) ∧ (0 ≤ d.lv ∧ d.lv ≤ 32) ∧ (0 ≤ d.rp ∧ d.rp ≤ 16) := by
  unfold cB cueB at h
  rw [Bool.and_eq_true, Bool.and_eq_true, Bool.and_eq_true] at h
  have h1 := iw_iff.1 h.1
  have h2 := iw_iff.1 h.2.2.1
  have h3 := iw_iff.1 h.2.2.2
  omega
theorem tame_zero (t : Int) : Tame t (0, d0) := ⟨⟨by decide, by decide⟩, ⟨by decide, by decide⟩, Or.inr rfl⟩
theorem tame_step {t : Int} {u : Int × C} (h : Tame t u) {x : C} (hx : cB x = true) : Tame t (stepC t u x) := by
  by_cases e : x.tk ≤ t
  · rw [step_yes u e]
    have := cB_in hx
    exact ⟨this.1, this.2.2, Or.inl e⟩
  · rw [step_no u e]; exact h
theorem reach_tame (t : Int) (ys : List C) (h : ∀ x ∈ ys, cB x = true) : Tame t (reach t ys) := by
  have key : ∀ (ys : List C) (u : Int × C), Tame t u → (∀ x ∈ ys, cB x = true) → Tame t (ys.foldl (stepC t) u) := by
    intro ys
    induction ys with
    | nil => intro u hu _; exact hu
    | cons y r ih => intro u hu hr; exact ih _ (tame_step hu (hr y (List.mem_cons_self ..))) (fun x hx => hr x (List.mem_cons_of_mem _ hx))
  exact key ys _ (tame_zero t) h
theorem score_all {zs : List C} (h : score zs = true) : ∀ x ∈ zs, cB x = true := fun x hx => by
  obtain ⟨k, hk, rfl⟩ := List.getElem_of_mem hx
  exact ((score_of h).2 k _ (List.getElem?_eq_getElem hk)).1
theorem pick_all {zs : List C} {ss : List ByteArray} (h : ∀ x ∈ zs, cB x = true) : ∀ x ∈ pick zs ss, cB x = true := fun x hx => h x ((List.mem_filter.1 hx).1)
theorem only_all (zs : List C) (ss : List ByteArray) : ∀ x ∈ only zs ss, cB x = true := fun x hx => by
  cases c : score zs
  · rw [only_no c] at hx; cases hx
  · rw [only_yes c] at hx; exact pick_all (score_all c) x hx
theorem wf64 {x : Int} (h1 : -9223372036854775808 ≤ x) (h2 : x ≤ 9223372036854775807) : (Lit.int .i64 x).wf = true := by
  simp [Lit.wf, IntKind.min, IntKind.max, IntKind.signed, IntKind.bits]
  omega
theorem hasN_one (s x : ByteArray) : hasN [s] x = (x.toList == s.toList) := by
  by_cases h : x = s
  · subst h; rw [hasN_yes (List.mem_singleton.2 rfl), bl_eq.2 rfl]
  · rw [hasN_no (fun c => h (List.mem_singleton.1 c)), bl_ne h]
theorem reach_early {t : Int} (h : t < 0) (ys : List C) (hy : ∀ x ∈ ys, cB x = true) : reach t ys = (0, d0) := by
  unfold reach
  induction ys with
  | nil => rfl
  | cons y r ih =>
    have := cB_in (hy y (List.mem_cons_self ..))
    rw [List.foldl_cons, step_no _ (by omega)]
    exact ih fun x hx => hy x (List.mem_cons_of_mem _ hx)
theorem level_none (t : Int) : level 0 0 (t - 0) 0 = 0 := by
  unfold level
  rw [if_pos (by decide)]
  by_cases h : (0 : Int) ≤ t - 0
  · rw [if_pos h]
  · rw [if_neg h, if_pos (by omega)]
/-- Of no score, or before its first tick, the level is 0. -/
theorem levV_none {zs : List C} {t : Int} (s : ByteArray) (h : score zs = false ∨ t < 0) : levV zs s t = 0 := by
  unfold levV levP
  have e : reach t (only zs [s]) = (0, d0) := by
    rcases h with h | h
    · rw [only_no h]; rfl
    · exact reach_early h _ (only_all zs [s])
  rw [e]
  exact level_none t

theorem wpAnyH_to {P : Program} {md : Region.Mode} {ops : Array Oper} {Q : Exit → Act → World → Prop} {S S' : World → Prop} (hSS : ∀ w, S' w → S w) : ∀ (fuel : Nat) (listed : Array Bool) (a : Act) (w : World), wpAnyH P md ops Q S' fuel listed a w → wpAnyH P md ops Q S fuel listed a w
  | 0, _, _, _, h => h
  | fuel + 1, _, _, _, h => ⟨h.1, fun i hi => wpOp_mono (fun a' w' r => ⟨hSS _ r.1, wpAnyH_to hSS fuel _ a' w' r.2⟩) (h.2 i hi)⟩

theorem set4 {W : World} {g : Nat} {a b c d p q r s : Value} (h0 : W.cell? ⟨g, 0, none⟩ = some p) (h1 : W.cell? ⟨g, 1, none⟩ = some q) (h2 : W.cell? ⟨g, 2, none⟩ = some r) (h3 : W.cell? ⟨g, 3, none⟩ = some s) :
    ((((W.setCell ⟨g, 0, none⟩ a).setCell ⟨g, 1, none⟩ b).setCell ⟨g, 2, none⟩ c).setCell ⟨g, 3, none⟩ d).cell? ⟨g, 0, none⟩ = some a ∧
    ((((W.setCell ⟨g, 0, none⟩ a).setCell ⟨g, 1, none⟩ b).setCell ⟨g, 2, none⟩ c).setCell ⟨g, 3, none⟩ d).cell? ⟨g, 1, none⟩ = some b ∧
    ((((W.setCell ⟨g, 0, none⟩ a).setCell ⟨g, 1, none⟩ b).setCell ⟨g, 2, none⟩ c).setCell ⟨g, 3, none⟩ d).cell? ⟨g, 2, none⟩ = some c ∧
    ((((W.setCell ⟨g, 0, none⟩ a).setCell ⟨g, 1, none⟩ b).setCell ⟨g, 2, none⟩ c).setCell ⟨g, 3, none⟩ d).cell? ⟨g, 3, none⟩ = some d := by
  have o : ∀ (X : World) (i j : Nat) (v : Value), i ≠ j → (X.setCell ⟨g, i, none⟩ v).cell? ⟨g, j, none⟩ = X.cell? ⟨g, j, none⟩ := fun X i j v h => World.cell?_setCell_other _ _ _ _ (by simp [h])
  refine ⟨?_, ?_, ?_, ?_⟩
  · rw [o _ 3 0 _ (by decide), o _ 2 0 _ (by decide), o _ 1 0 _ (by decide)]; exact World.cell?_setCell_same' _ _ _ (by rw [h0]; rfl)
  · rw [o _ 3 1 _ (by decide), o _ 2 1 _ (by decide)]; exact World.cell?_setCell_same' _ _ _ (by rw [o _ 0 1 _ (by decide), h1]; rfl)
  · rw [o _ 3 2 _ (by decide)]; exact World.cell?_setCell_same' _ _ _ (by rw [o _ 1 2 _ (by decide), o _ 0 2 _ (by decide), h2]; rfl)
  · exact World.cell?_setCell_same' _ _ _ (by rw [o _ 2 3 _ (by decide), o _ 1 3 _ (by decide), o _ 0 3 _ (by decide), h3]; rfl)

end Go.Proofs.Ytkndejjfndjcoaa.Ld
namespace Go.Proofs.Ytkndejjfndjcoaa.Fe9
open Go.RowKit Go.ChangeShapes Go.WideShapes Go.WideElems Go.Deep Go.Proofs.Ytkndejjfndjcoaa.Mem Go.Proofs.Ytkndejjfndjcoaa.Rw Go.Proofs.Ytkndejjfndjcoaa.P2 Go.Proofs.Ytkndejjfndjcoaa.Cd Go.Proofs.Ytkndejjfndjcoaa.Cv Go.Proofs.Ytkndejjfndjcoaa.Cl Go.Proofs.Ytkndejjfndjcoaa.Cs
set_option linter.unusedVariables false
set_option linter.unusedSimpArgs false
open Go.Proofs.Ytkndejjfndjcoaa.Jt Go.Proofs.Ytkndejjfndjcoaa.IsName Go.Proofs.Ytkndejjfndjcoaa.Sd Go.Proofs.Ytkndejjfndjcoaa.Oc Go.Proofs.Ytkndejjfndjcoaa.Ld Go.Proofs.Ytkndejjfndjcoaa.RampAt Go.Proofs.Ytkndejjfndjcoaa.Tn

theorem quo_between (d i n : Int) (hi : 0 < i) (hin : i < n) : (0 ≤ d → 0 ≤ d * i / n ∧ d * i / n ≤ d) ∧ (d ≤ 0 → d ≤ d * i / n ∧ d * i / n ≤ 0) := by
  have hn : 0 < n := by omega
  constructor
  · intro hd
    refine ⟨Int.ediv_nonneg (Int.mul_nonneg hd (by omega)) (by omega), ?_⟩
    have : d * i ≤ d * n := Int.mul_le_mul_of_nonneg_left (by omega) hd
    calc d * i / n ≤ d * n / n := Int.ediv_le_ediv hn this
      _ = d := Int.mul_ediv_cancel _ (by omega)
  · intro hd
    constructor
    · have : d * n ≤ d * i := Int.mul_le_mul_of_nonpos_left hd (by omega)
      calc d = d * n / n := (Int.mul_ediv_cancel _ (by omega)).symm
        _ ≤ d * i / n := Int.ediv_le_ediv hn this
    · have : d * i ≤ 0 := Int.mul_nonpos_of_nonpos_of_nonneg hd (by omega)
      calc d * i / n ≤ 0 / n := Int.ediv_le_ediv hn this
        _ = 0 := Int.zero_ediv _
theorem level_between {a b : Int} (i n : Int) (ha1 : -4096 ≤ a) (ha2 : a ≤ 4096) (hb1 : -4096 ≤ b) (hb2 : b ≤ 4096) : (a ≤ level a b i n ∧ level a b i n ≤ b) ∨ (b ≤ level a b i n ∧ level a b i n ≤ a) := by
  rw [level_yes i n ha1 ha2 hb1 hb2]
  split
  · omega
  · split
    · omega
    · have := quo_between (b - a) i n (by omega) (by omega)
      generalize (b - a) * i / n = q at *
      by_cases h : a ≤ b
      · have := this.1 (by omega); omega
      · have := this.2 (by omega); omega
/-- Behind the ramp's ticks the level is the one it led to. -/
theorem level_rest {a b i n : Int} (ha1 : 0 ≤ a) (ha2 : a ≤ 32) (hb1 : 0 ≤ b) (hb2 : b ≤ 32) (h : n ≤ i) : level a b i n = b := by
  rw [level_yes i n (by omega) (by omega) (by omega) (by omega), if_pos h]
theorem level_in {a b : Int} (i n : Int) (ha1 : 0 ≤ a) (ha2 : a ≤ 32) (hb1 : 0 ≤ b) (hb2 : b ≤ 32) : 0 ≤ level a b i n ∧ level a b i n ≤ 32 := by
  have := level_between i n (show -4096 ≤ a by omega) (by omega) (show -4096 ≤ b by omega) (by omega)
  omega
/-- What is known where the cues led. -/
def Sane (u : Int × C) : Prop := (0 ≤ u.1 ∧ u.1 ≤ 32) ∧ (0 ≤ u.2.lv ∧ u.2.lv ≤ 32)
theorem sane_step {t : Int} {u : Int × C} (h : Sane u) {x : C} (hx : cB x = true) : Sane (stepC t u x) := by
  by_cases e : x.tk ≤ t
  · rw [step_yes u e]
    exact ⟨level_in _ _ h.1.1 h.1.2 h.2.1 h.2.2, (cB_in hx).2.1⟩
  · rw [step_no u e]; exact h
theorem reach_sane (t : Int) (ys : List C) (h : ∀ x ∈ ys, cB x = true) : Sane (reach t ys) := by
  have key : ∀ (ys : List C) (u : Int × C), Sane u → (∀ x ∈ ys, cB x = true) → Sane (ys.foldl (stepC t) u) := by
    intro ys
    induction ys with
    | nil => intro u hu _; exact hu
    | cons y r ih => intro u hu hr; exact ih _ (sane_step hu (hr y (List.mem_cons_self ..))) (fun x hx => hr x (List.mem_cons_of_mem _ hx))
  exact key ys _ ⟨⟨Int.le_refl _, by decide⟩, ⟨Int.le_refl _, by decide⟩⟩ h
theorem lev_in (t : Int) {ys : List C} (h : ∀ x ∈ ys, cB x = true) : 0 ≤ levP t ys ∧ levP t ys ≤ 32 := by
  have := reach_sane t ys h
  exact level_in _ _ this.1.1 this.1.2 this.2.1 this.2.2
theorem levV_in (zs : List C) (s : ByteArray) (t : Int) : 0 ≤ levV zs s t ∧ levV zs s t ≤ 32 := lev_in t (only_all zs [s])
end Go.Proofs.Ytkndejjfndjcoaa.Fe9
