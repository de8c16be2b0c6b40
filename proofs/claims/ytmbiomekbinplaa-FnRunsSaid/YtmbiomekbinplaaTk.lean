/- Tracks in numbers: levels, windows, the higher of two, what is cut, the greatest step, blocks and runs; no program. -/
import Derived.Test.YtmbiomekbinplaaRows
namespace Go.Proofs.Ytmbiomekbinplaa.Tk
set_option linter.unusedVariables false
set_option linter.unusedSimpArgs false

/-- Each is a level. -/
def okT (zs : List Int) : Prop := ∀ z ∈ zs, 0 ≤ z ∧ z ≤ 32
/-- Whether a list is a track. -/
noncomputable def tk (zs : List Int) : Bool := @decide (zs.length ≤ 64 ∧ okT zs) (Classical.propDecidable _)
theorem tk_iff {zs : List Int} : tk zs = true ↔ zs.length ≤ 64 ∧ okT zs := by unfold tk; exact @decide_eq_true_iff _ (Classical.propDecidable _)
theorem tk_yes {zs : List Int} (h : zs.length ≤ 64) (k : okT zs) : tk zs = true := tk_iff.2 ⟨h, k⟩
theorem tk_no {zs : List Int} (h : ¬ (zs.length ≤ 64 ∧ okT zs)) : tk zs = false := by rw [← Bool.not_eq_true, tk_iff]; exact h
theorem tk_long {zs : List Int} (h : 64 < zs.length) : tk zs = false := tk_no (by omega)
theorem tk_bad {zs : List Int} {z : Int} {k : Nat} (h : zs[k]? = some z) (b : z < 0 ∨ 32 < z) : tk zs = false := by
  refine tk_no ?_; intro ⟨_, c⟩; have := c z (List.mem_of_getElem? h); omega
theorem okT_nil : okT [] := fun _ h => by cases h
theorem okT_take_succ {zs : List Int} {z : Int} {k : Nat} (h : zs[k]? = some z) (b : 0 ≤ z ∧ z ≤ 32) (c : okT (zs.take k)) : okT (zs.take (k + 1)) := by
  obtain ⟨hk, rfl⟩ := List.getElem?_eq_some_iff.1 h
  rw [List.take_succ_eq_append_getElem hk]
  intro x hx
  rcases List.mem_append.1 hx with hx | hx
  · exact c x hx
  · rw [List.mem_singleton.1 hx]; exact b
theorem okT_take {zs : List Int} (h : okT zs) (k : Nat) : okT (zs.take k) := fun z hz => h z (List.mem_of_mem_take hz)
theorem okT_drop {zs : List Int} (h : okT zs) (k : Nat) : okT (zs.drop k) := fun z hz => h z (List.mem_of_mem_drop hz)
theorem okT_append {a b : List Int} : okT (a ++ b) ↔ okT a ∧ okT b := by
  constructor
  · intro h; exact ⟨fun z hz => h z (List.mem_append_left _ hz), fun z hz => h z (List.mem_append_right _ hz)⟩
  · rintro ⟨h, k⟩ z hz
    rcases List.mem_append.1 hz with hz | hz
    · exact h z hz
    · exact k z hz
theorem okT_get {zs : List Int} (h : okT zs) {k : Nat} {z : Int} (hz : zs[k]? = some z) : 0 ≤ z ∧ z ≤ 32 := h z (List.mem_of_getElem? hz)
theorem okT_getD {zs : List Int} (h : okT zs) (k : Nat) : 0 ≤ zs.getD k 0 ∧ zs.getD k 0 ≤ 32 := by
  rw [List.getD_eq_getElem?_getD]
  cases hz : zs[k]? with
  | none => simp
  | some z => simpa using okT_get h hz
theorem okT_replicate {z : Int} (h : 0 ≤ z ∧ z ≤ 32) (n : Nat) : okT (List.replicate n z) := by
  intro x hx
  rw [(List.mem_replicate.1 hx).2]; exact h

/-- A list, or none. -/
def bon : Bool → List Int → List Int
  | true, l => l
  | false, _ => []
theorem bon_len (b : Bool) (l : List Int) : (bon b l).length ≤ l.length := by cases b <;> simp [bon]

/-- Windows. -/
noncomputable def wnG (zs : List Int) (a b : Int) : Bool := tk zs && decide (0 ≤ a ∧ a ≤ b ∧ b ≤ zs.length)
noncomputable def wnL (zs : List Int) (a b : Int) : List Int := bon (wnG zs a b) ((zs.take b.toNat).drop a.toNat)
theorem wnG_iff {zs : List Int} {a b : Int} : wnG zs a b = true ↔ tk zs = true ∧ 0 ≤ a ∧ a ≤ b ∧ b ≤ zs.length := by unfold wnG; rw [Bool.and_eq_true, decide_eq_true_eq]
theorem wnG_no {zs : List Int} {a b : Int} (h : ¬ (tk zs = true ∧ 0 ≤ a ∧ a ≤ b ∧ b ≤ zs.length)) : wnG zs a b = false := by rw [← Bool.not_eq_true, wnG_iff]; exact h
theorem wnL_no {zs : List Int} {a b : Int} (h : wnG zs a b = false) : wnL zs a b = [] := by unfold wnL; rw [h]; rfl
theorem wnL_yes {zs : List Int} {a b : Int} (h : wnG zs a b = true) : wnL zs a b = (zs.take b.toNat).drop a.toNat := by unfold wnL; rw [h]; rfl
theorem wnL_len (zs : List Int) (a b : Int) : (wnL zs a b).length ≤ zs.length := by
  unfold wnL; refine Nat.le_trans (bon_len _ _) ?_; simp; omega

/-- Two tracks joined. -/
noncomputable def jnG (a b : List Int) : Bool := tk a && tk b && decide (a.length + b.length ≤ 64)
noncomputable def jnL (a b : List Int) : List Int := bon (jnG a b) (a ++ b)
theorem jnG_iff {a b : List Int} : jnG a b = true ↔ tk a = true ∧ tk b = true ∧ a.length + b.length ≤ 64 := by unfold jnG; rw [Bool.and_eq_true, Bool.and_eq_true, decide_eq_true_eq, and_assoc]
theorem jnG_no {a b : List Int} (h : ¬ (tk a = true ∧ tk b = true ∧ a.length + b.length ≤ 64)) : jnG a b = false := by rw [← Bool.not_eq_true, jnG_iff]; exact h
theorem jnL_no {a b : List Int} (h : jnG a b = false) : jnL a b = [] := by unfold jnL; rw [h]; rfl
theorem jnL_yes {a b : List Int} (h : jnG a b = true) : jnL a b = a ++ b := by unfold jnL; rw [h]; rfl
theorem jnL_len (a b : List Int) : (jnL a b).length ≤ a.length + b.length := by unfold jnL; refine Nat.le_trans (bon_len _ _) ?_; simp
theorem tk_append {a b : List Int} (ha : tk a = true) (hb : tk b = true) : tk (a ++ b) = decide (a.length + b.length ≤ 64) := by
  by_cases h : a.length + b.length ≤ 64
  · rw [decide_eq_true h]; exact tk_yes (by simpa using h) (okT_append.2 ⟨(tk_iff.1 ha).2, (tk_iff.1 hb).2⟩)
  · rw [decide_eq_false h]; exact tk_long (by simp; omega)

/-- The higher of two. -/
def hi (a b : List Int) : List Int := (List.range (max a.length b.length)).map fun k => max (a.getD k 0) (b.getD k 0)
theorem hi_len (a b : List Int) : (hi a b).length = max a.length b.length := by simp [hi]
theorem hi_get {a b : List Int} {k : Nat} (h : k < max a.length b.length) : (hi a b)[k]? = some (max (a.getD k 0) (b.getD k 0)) := by
  unfold hi; rw [List.getElem?_map, List.getElem?_range h]; rfl
noncomputable def hiV (a b : List Int) : List Int := bon (tk a && tk b) (hi a b)
theorem hiV_no {a b : List Int} (h : ¬ (tk a = true ∧ tk b = true)) : hiV a b = [] := by
  unfold hiV; rw [show (tk a && tk b) = false by rw [← Bool.not_eq_true, Bool.and_eq_true]; exact h]; rfl
theorem hiV_yes {a b : List Int} (h : tk a = true) (k : tk b = true) : hiV a b = hi a b := by unfold hiV; rw [h, k]; rfl
theorem hiV_len (a b : List Int) : (hiV a b).length ≤ max a.length b.length := by unfold hiV; refine Nat.le_trans (bon_len _ _) ?_; rw [hi_len]; exact Nat.le_refl _
theorem hi_ok {a b : List Int} (ha : okT a) (hb : okT b) : okT (hi a b) := by
  intro z hz
  unfold hi at hz
  obtain ⟨k, _, rfl⟩ := List.mem_map.1 hz
  have := okT_getD ha k
  have := okT_getD hb k
  show 0 ≤ max _ _ ∧ max _ _ ≤ 32
  omega

/-- Cut at a level. -/
def ct (zs : List Int) (m : Int) : List Int := zs.map fun z => min z m
theorem ct_len (zs : List Int) (m : Int) : (ct zs m).length = zs.length := by simp [ct]
theorem ct_get {zs : List Int} {z m : Int} {k : Nat} (h : zs[k]? = some z) : (ct zs m)[k]? = some (min z m) := by unfold ct; rw [List.getElem?_map, h]; rfl
noncomputable def ctV (zs : List Int) (m : Int) : List Int := bon (tk zs && decide (0 ≤ m)) (ct zs m)
theorem ctV_no {zs : List Int} {m : Int} (h : ¬ (tk zs = true ∧ 0 ≤ m)) : ctV zs m = [] := by
  unfold ctV; rw [show (tk zs && decide (0 ≤ m)) = false by rw [← Bool.not_eq_true, Bool.and_eq_true, decide_eq_true_eq]; exact h]; rfl
theorem ctV_yes {zs : List Int} {m : Int} (h : tk zs = true) (k : 0 ≤ m) : ctV zs m = ct zs m := by unfold ctV; rw [h, decide_eq_true k]; rfl
theorem ctV_len (zs : List Int) (m : Int) : (ctV zs m).length ≤ zs.length := by unfold ctV; refine Nat.le_trans (bon_len _ _) ?_; rw [ct_len]; exact Nat.le_refl _
theorem ct_32 {zs : List Int} (h : okT zs) (m : Int) : ct zs m = ct zs (min m 32) := by
  unfold ct
  refine List.map_congr_left fun z hz => ?_
  have := h z hz
  omega
theorem ct_ok {zs : List Int} (h : okT zs) {m : Int} (hm : 0 ≤ m) : okT (ct zs m) := by
  intro x hx
  obtain ⟨z, hz, rfl⟩ := List.mem_map.1 hx
  have := h z hz
  show 0 ≤ min z m ∧ min z m ≤ 32
  omega

/-- The greatest step among the first k levels. -/
def stp (zs : List Int) : Nat → Int
  | 0 => 0
  | k + 1 => max (stp zs k) (max (zs.getD (k + 1) 0 - zs.getD k 0) (zs.getD k 0 - zs.getD (k + 1) 0))
theorem stp_bound {zs : List Int} (h : okT zs) : ∀ k, 0 ≤ stp zs k ∧ stp zs k ≤ 32
  | 0 => by simp [stp]
  | k + 1 => by
    have := stp_bound h k
    have := okT_getD h k
    have := okT_getD h (k + 1)
    simp only [stp]; omega
noncomputable def stV (zs : List Int) : Int := if tk zs = true then stp zs (zs.length - 1) else 0
theorem stV_no {zs : List Int} (h : tk zs = false) : stV zs = 0 := by unfold stV; rw [h]; rfl
theorem stV_yes {zs : List Int} (h : tk zs = true) : stV zs = stp zs (zs.length - 1) := by unfold stV; rw [if_pos h]
theorem stV_bound (zs : List Int) : 0 ≤ stV zs ∧ stV zs ≤ 32 := by
  unfold stV; split
  · rename_i h; exact stp_bound (tk_iff.1 h).2 _
  · decide

/-- The sum. -/
def tot : List Int → Int
  | [] => 0
  | z :: zs => z + tot zs
theorem tot_append : ∀ a b : List Int, tot (a ++ b) = tot a + tot b
  | [], b => by simp [tot]
  | z :: a, b => by simp only [List.cons_append, tot]; rw [tot_append a b]; omega
theorem tot_take {zs : List Int} {z : Int} {k : Nat} (h : zs[k]? = some z) : tot (zs.take (k + 1)) = tot (zs.take k) + z := by
  obtain ⟨hk, rfl⟩ := List.getElem?_eq_some_iff.1 h
  rw [List.take_succ_eq_append_getElem hk, tot_append]; simp [tot]
theorem tot_bound : ∀ {zs : List Int}, okT zs → 0 ≤ tot zs ∧ tot zs ≤ 32 * zs.length
  | [], _ => by simp [tot]
  | z :: zs, h => by
    have h1 := h z (List.mem_cons_self ..)
    have h2 := tot_bound (zs := zs) fun x hx => h x (List.mem_cons_of_mem _ hx)
    simp only [tot, List.length_cons]
    push_cast
    omega
theorem tot_take_bound {zs : List Int} (h : tk zs = true) (k : Nat) : 0 ≤ tot (zs.take k) ∧ tot (zs.take k) ≤ 2048 := by
  have h1 := tot_bound (okT_take (tk_iff.1 h).2 k)
  have h2 := (tk_iff.1 h).1
  have h3 : (zs.take k).length ≤ zs.length := by rw [List.length_take]; omega
  omega
noncomputable def smV (zs : List Int) : Int := if tk zs = true then tot zs else 0
theorem smV_no {zs : List Int} (h : tk zs = false) : smV zs = 0 := by unfold smV; rw [h]; rfl
theorem smV_yes {zs : List Int} (h : tk zs = true) : smV zs = tot zs := by unfold smV; rw [if_pos h]
theorem smV_bound (zs : List Int) : 0 ≤ smV zs ∧ smV zs ≤ 2048 := by
  unfold smV; split
  · rename_i h; have := tot_take_bound h zs.length; rwa [List.take_length] at this
  · decide

/-- Blocks, their levels one behind the other: filled up with the last level. -/
def fill8 (zs : List Int) : Nat := (8 - zs.length % 8) % 8
def pd (zs : List Int) : List Int := zs ++ List.replicate (fill8 zs) (zs.getD (zs.length - 1) 0)
theorem pd_len (zs : List Int) : (pd zs).length = (zs.length + 7) / 8 * 8 := by unfold pd fill8; simp; omega
theorem pd_get {zs : List Int} {k : Nat} (h : k < (zs.length + 7) / 8 * 8) : (pd zs)[k]? = some (zs.getD (min k (zs.length - 1)) 0) := by
  unfold pd
  by_cases hk : k < zs.length
  · rw [List.getElem?_append_left hk, Nat.min_eq_left (by omega), List.getD_eq_getElem?_getD, List.getElem?_eq_getElem hk]; rfl
  · rw [List.getElem?_append_right (by omega), List.getElem?_replicate, if_pos (by unfold fill8; omega), Nat.min_eq_right (by omega)]
theorem pd_ok {zs : List Int} (h : okT zs) : okT (pd zs) := okT_append.2 ⟨h, okT_replicate (okT_getD h _) _⟩
theorem pd_take (zs : List Int) : (pd zs).take zs.length = zs := by unfold pd; rw [List.take_append_of_le_length (Nat.le_refl _), List.take_length]
noncomputable def blV (zs : List Int) : List Int := bon (tk zs) (pd zs)
theorem blV_no {zs : List Int} (h : tk zs = false) : blV zs = [] := by unfold blV; rw [h]; rfl
theorem blV_yes {zs : List Int} (h : tk zs = true) : blV zs = pd zs := by unfold blV; rw [h]; rfl
theorem blV_div (zs : List Int) : (blV zs).length = (blV zs).length / 8 * 8 := by
  unfold blV
  cases tk zs
  · show ([] : List Int).length = ([] : List Int).length / 8 * 8; simp
  · show (pd zs).length = (pd zs).length / 8 * 8
    rw [pd_len]; omega

/-- The first n levels of blocks. -/
noncomputable def frG (bs : List Int) (n : Int) : Bool := decide (0 ≤ n ∧ n ≤ bs.length) && tk (bs.take n.toNat)
noncomputable def frL (bs : List Int) (n : Int) : List Int := bon (frG bs n) (bs.take n.toNat)
theorem frG_iff {bs : List Int} {n : Int} : frG bs n = true ↔ (0 ≤ n ∧ n ≤ bs.length) ∧ tk (bs.take n.toNat) = true := by unfold frG; rw [Bool.and_eq_true, decide_eq_true_eq]
theorem frG_no {bs : List Int} {n : Int} (h : ¬ ((0 ≤ n ∧ n ≤ bs.length) ∧ tk (bs.take n.toNat) = true)) : frG bs n = false := by rw [← Bool.not_eq_true, frG_iff]; exact h
theorem frL_no {bs : List Int} {n : Int} (h : frG bs n = false) : frL bs n = [] := by unfold frL; rw [h]; rfl
theorem frL_yes {bs : List Int} {n : Int} (h : frG bs n = true) : frL bs n = bs.take n.toNat := by unfold frL; rw [h]; rfl
theorem frL_len (bs : List Int) (n : Int) : (frL bs n).length ≤ bs.length := by unfold frL; refine Nat.le_trans (bon_len _ _) ?_; rw [List.length_take]; omega

/-- Runs: one more level. -/
def addR (rs : List (Int × Int)) (z : Int) : List (Int × Int) :=
  match rs.getLast? with
  | some (l, c) => if l = z then rs.dropLast ++ [(l, c + 1)] else rs ++ [(z, 1)]
  | none => [(z, 1)]
def rn (zs : List Int) : List (Int × Int) := zs.foldl addR []
theorem rn_snoc (zs : List Int) (z : Int) : rn (zs ++ [z]) = addR (rn zs) z := by unfold rn; rw [List.foldl_append]; rfl
theorem rn_take {zs : List Int} {z : Int} {k : Nat} (h : zs[k]? = some z) : rn (zs.take (k + 1)) = addR (rn (zs.take k)) z := by
  obtain ⟨hk, rfl⟩ := List.getElem?_eq_some_iff.1 h
  rw [List.take_succ_eq_append_getElem hk, rn_snoc]
theorem addR_new {rs : List (Int × Int)} {z : Int} (h : rs = [] ∨ ∃ l c, rs.getLast? = some (l, c) ∧ l ≠ z) : addR rs z = rs ++ [(z, 1)] := by
  unfold addR
  rcases h with rfl | ⟨l, c, h, hl⟩
  · rfl
  · rw [h]; simp [hl]
theorem addR_old {rs : List (Int × Int)} {z c : Int} (h : rs.getLast? = some (z, c)) : addR rs z = rs.dropLast ++ [(z, c + 1)] := by
  unfold addR; rw [h]; simp
/-- The last of the runs has the last level. -/
theorem rn_last {zs : List Int} {z : Int} {k : Nat} (h : zs[k]? = some z) : ∃ c, (rn (zs.take (k + 1))).getLast? = some (z, c) := by
  rw [rn_take h]
  unfold addR
  split
  · split
    · rename_i l c _ e; subst e; exact ⟨c + 1, by simp⟩
    · exact ⟨1, by simp⟩
  · exact ⟨1, rfl⟩
theorem addR_len (rs : List (Int × Int)) (z : Int) : (addR rs z).length ≤ rs.length + 1 := by
  unfold addR
  split
  · rename_i l c h
    have hp : rs ≠ [] := by intro e; subst e; simp at h
    have := List.length_pos_iff.2 hp
    split <;> simp <;> omega
  · simp
theorem rn_len (zs : List Int) : ∀ k, k ≤ zs.length → (rn (zs.take k)).length ≤ k
  | 0, _ => by simp [rn]
  | k + 1, h => by
    rw [rn_take (List.getElem?_eq_getElem (by omega : k < zs.length))]
    have := rn_len zs k (by omega)
    have := addR_len (rn (zs.take k)) zs[k]
    omega
noncomputable def rnV (zs : List Int) : List (Int × Int) := if tk zs = true then rn zs else []
theorem rnV_no {zs : List Int} (h : tk zs = false) : rnV zs = [] := by unfold rnV; rw [h]; rfl
theorem rnV_yes {zs : List Int} (h : tk zs = true) : rnV zs = rn zs := by unfold rnV; rw [if_pos h]
theorem rnV_len (zs : List Int) : (rnV zs).length ≤ 64 := by
  unfold rnV; split
  · rename_i h
    have h1 := rn_len zs zs.length (Nat.le_refl _)
    rw [List.take_length] at h1
    exact Nat.le_trans h1 (tk_iff.1 h).1
  · exact Nat.zero_le _

/-- The levels of runs. -/
def ex (rs : List (Int × Int)) : List Int := rs.flatMap fun r => List.replicate r.2.toNat r.1
theorem ex_snoc (rs : List (Int × Int)) (r : Int × Int) : ex (rs ++ [r]) = ex rs ++ List.replicate r.2.toNat r.1 := by unfold ex; simp
theorem ex_take {rs : List (Int × Int)} {r : Int × Int} {k : Nat} (h : rs[k]? = some r) : ex (rs.take (k + 1)) = ex (rs.take k) ++ List.replicate r.2.toNat r.1 := by
  obtain ⟨hk, rfl⟩ := List.getElem?_eq_some_iff.1 h
  rw [List.take_succ_eq_append_getElem hk, ex_snoc]
/-- Each stands there at least once, and not beside one of its level. -/
def fit (rs : List (Int × Int)) : Prop := ∀ (k : Nat) (r : Int × Int), rs[k]? = some r → (1 : Int) ≤ r.2 ∧ ∀ q : Int × Int, 0 < k → rs[k - 1]? = some q → q.1 ≠ r.1
theorem fit_take {rs : List (Int × Int)} (h : fit rs) (n : Nat) : fit (rs.take n) := by
  intro k r hk
  have hn : k < n := by have := (List.getElem?_eq_some_iff.1 hk).1; rw [List.length_take] at this; omega
  rw [List.getElem?_take_of_lt hn] at hk
  refine ⟨(h k r hk).1, fun q h0 hq => ?_⟩
  rw [List.getElem?_take_of_lt (by omega)] at hq
  exact (h k r hk).2 q h0 hq
theorem fit_take_succ {rs : List (Int × Int)} {r : Int × Int} {n : Nat} (h : rs[n]? = some r) (hf : fit (rs.take n)) (h1 : 1 ≤ r.2) (h2 : ∀ q, 0 < n → rs[n - 1]? = some q → q.1 ≠ r.1) : fit (rs.take (n + 1)) := by
  intro k x hk
  have hn : k < n + 1 := by have := (List.getElem?_eq_some_iff.1 hk).1; rw [List.length_take] at this; omega
  rw [List.getElem?_take_of_lt hn] at hk
  by_cases e : k = n
  · subst e
    rw [h] at hk; injection hk with hk; subst hk
    refine ⟨h1, fun q h0 hq => ?_⟩
    rw [List.getElem?_take_of_lt (by omega)] at hq
    exact h2 q h0 hq
  · have := hf k x (by rw [List.getElem?_take_of_lt (by omega)]; exact hk)
    refine ⟨this.1, fun q h0 hq => this.2 q h0 ?_⟩
    rw [List.getElem?_take_of_lt (by omega)] at hq ⊢
    exact hq
noncomputable def rkG (rs : List (Int × Int)) : Bool := @decide (fit rs) (Classical.propDecidable _) && tk (ex rs)
noncomputable def rkL (rs : List (Int × Int)) : List Int := bon (rkG rs) (ex rs)
theorem rkG_iff {rs : List (Int × Int)} : rkG rs = true ↔ fit rs ∧ tk (ex rs) = true := by unfold rkG; rw [Bool.and_eq_true, @decide_eq_true_iff _ (Classical.propDecidable _)]
theorem rkG_no {rs : List (Int × Int)} (h : ¬ (fit rs ∧ tk (ex rs) = true)) : rkG rs = false := by rw [← Bool.not_eq_true, rkG_iff]; exact h
theorem rkL_no {rs : List (Int × Int)} (h : rkG rs = false) : rkL rs = [] := by unfold rkL; rw [h]; rfl
theorem rkL_yes {rs : List (Int × Int)} (h : rkG rs = true) : rkL rs = ex rs := by unfold rkL; rw [h]; rfl
theorem rkL_len (rs : List (Int × Int)) : (rkL rs).length ≤ 64 := by
  cases h : rkG rs
  · rw [rkL_no h]; exact Nat.zero_le _
  · rw [rkL_yes h]; exact (tk_iff.1 (rkG_iff.1 h).2).1
theorem ex_prefix (rs : List (Int × Int)) (k : Nat) : ∃ t, ex rs = ex (rs.take k) ++ t := ⟨ex (rs.drop k), by
  conv => lhs; rw [← List.take_append_drop k rs]
  unfold ex; rw [List.flatMap_append]⟩
theorem tk_prefix {a t : List Int} (h : tk (a ++ t) = true) : tk a = true := by
  obtain ⟨h1, h2⟩ := tk_iff.1 h
  exact tk_yes (by simp at h1; omega) (okT_append.1 h2).1
theorem rk_prefix {rs : List (Int × Int)} (k : Nat) (h : tk (ex (rs.take k)) = false) : rkG rs = false := by
  refine rkG_no ?_
  intro ⟨_, c⟩
  obtain ⟨t, ht⟩ := ex_prefix rs k
  rw [ht] at c
  rw [tk_prefix c] at h; cases h
theorem addR_rep {rs : List (Int × Int)} {l : Int} (hr : rs = [] ∨ ∃ a c, rs.getLast? = some (a, c) ∧ a ≠ l) : ∀ n : Nat, 0 < n → (List.replicate n l).foldl addR rs = rs ++ [(l, (n : Int))]
  | 0, h => absurd h (Nat.lt_irrefl _)
  | 1, _ => by show addR rs l = _; rw [addR_new hr]; rfl
  | n + 2, _ => by
    have := addR_rep hr (n + 1) (by omega)
    rw [List.replicate_succ', List.foldl_append, this]
    show addR _ l = _
    rw [addR_old (c := ((n + 1 : Nat) : Int)) (by simp)]
    simp
    omega
/-- Runs that fit are the runs of their levels. -/
theorem rn_ex {rs : List (Int × Int)} (h : fit rs) : ∀ k, k ≤ rs.length → rn (ex (rs.take k)) = rs.take k
  | 0, _ => rfl
  | k + 1, hk => by
    have hg := List.getElem?_eq_getElem (by omega : k < rs.length)
    obtain ⟨h1, h2⟩ := h k _ hg
    have ih := rn_ex h k (by omega)
    rw [ex_take hg]
    unfold rn at ih ⊢
    rw [List.foldl_append, ih, addR_rep _ _ (by omega), List.take_succ_eq_append_getElem (by omega)]
    · congr 2
      rw [Int.toNat_of_nonneg (by omega)]
    · by_cases e : k = 0
      · subst e; exact Or.inl rfl
      · have hp : k - 1 < rs.length := by omega
        refine Or.inr ⟨rs[k - 1].1, rs[k - 1].2, ?_, h2 _ (by omega) (List.getElem?_eq_getElem hp)⟩
        rw [List.getLast?_eq_getElem?, List.length_take, Nat.min_eq_left (by omega), List.getElem?_take_of_lt (by omega), List.getElem?_eq_getElem hp]
theorem rn_all {rs : List (Int × Int)} (h : fit rs) : rn (ex rs) = rs := by
  have := rn_ex h rs.length (Nat.le_refl _)
  rwa [List.take_length] at this

/-- The runs of a list fit, and their levels are the list. -/
theorem addR_fit {rs : List (Int × Int)} (h : fit rs) (z : Int) : fit (addR rs z) ∧ ex (addR rs z) = ex rs ++ [z] := by
  cases hl : rs.getLast? with
  | none =>
    have e : rs = [] := List.getLast?_eq_none_iff.1 hl
    subst e
    refine ⟨?_, by simp [addR, ex]⟩
    intro k r hk
    show 1 ≤ r.2 ∧ _
    match k, hk with
    | 0, hk => simp [addR] at hk; subst hk; exact ⟨Int.le_refl _, fun q h0 _ => absurd h0 (Nat.lt_irrefl _)⟩
    | k + 1, hk => simp [addR] at hk
  | some p =>
    obtain ⟨l, c⟩ := p
    obtain ⟨rs', e⟩ : ∃ rs', rs = rs' ++ [(l, c)] := ⟨rs.dropLast, by
      have hne : rs ≠ [] := by intro e; subst e; simp at hl
      have h2 := List.dropLast_concat_getLast hne
      rw [List.getLast?_eq_some_getLast hne] at hl
      injection hl with hl
      rw [hl] at h2
      exact h2.symm⟩
    subst e
    have hc : 1 ≤ c := (h rs'.length (l, c) (by simp)).1
    by_cases hz : l = z
    · subst hz
      rw [addR_old (c := c) (by simp)]
      simp only [List.dropLast_concat]
      constructor
      · intro k r hk
        by_cases hk2 : k < rs'.length
        · rw [List.getElem?_append_left hk2] at hk
          have := h k r (by rw [List.getElem?_append_left hk2]; exact hk)
          refine ⟨this.1, fun q h0 hq => this.2 q h0 ?_⟩
          rw [List.getElem?_append_left (by omega)] at hq ⊢
          exact hq
        · have hk3 : k = rs'.length := by
            have := (List.getElem?_eq_some_iff.1 hk).1
            simp at this; omega
          subst hk3
          simp at hk
          subst hk
          refine ⟨by show 1 ≤ c + 1; omega, fun q h0 hq => ?_⟩
          rw [List.getElem?_append_left (by omega)] at hq
          exact (h rs'.length (l, c) (by simp)).2 q h0 (by rw [List.getElem?_append_left (by omega)]; exact hq)
      · rw [ex_snoc, ex_snoc, List.append_assoc]
        congr 1
        show List.replicate (c + 1).toNat l = List.replicate c.toNat l ++ [l]
        rw [show (c + 1).toNat = c.toNat + 1 by omega, List.replicate_succ']
    · rw [addR_new (Or.inr ⟨l, c, by simp, hz⟩)]
      constructor
      · intro k r hk
        by_cases hk2 : k < (rs' ++ [(l, c)]).length
        · rw [List.getElem?_append_left hk2] at hk
          have := h k r hk
          refine ⟨this.1, fun q h0 hq => this.2 q h0 ?_⟩
          rw [List.getElem?_append_left (by omega)] at hq
          exact hq
        · have hk3 : k = (rs' ++ [(l, c)]).length := by
            have := (List.getElem?_eq_some_iff.1 hk).1
            simp at this ⊢; simp at hk2; omega
          subst hk3
          simp at hk
          subst hk
          refine ⟨Int.le_refl _, fun q h0 hq => ?_⟩
          have : (rs' ++ [(l, c)]).length - 1 = rs'.length := by simp
          rw [this, List.getElem?_append_left (by simp)] at hq
          simp at hq
          subst hq; exact hz
      · rw [ex_snoc]; rfl
theorem rn_fit : ∀ zs : List Int, fit (rn zs) ∧ ex (rn zs) = zs := by
  intro zs
  have : ∀ k, k ≤ zs.length → fit (rn (zs.take k)) ∧ ex (rn (zs.take k)) = zs.take k := by
    intro k
    induction k with
    | zero => intro _; exact ⟨fun k r hk => by simp [rn] at hk, rfl⟩
    | succ k ih =>
      intro hk
      obtain ⟨h1, h2⟩ := ih (by omega)
      have hg := List.getElem?_eq_getElem (by omega : k < zs.length)
      rw [rn_take hg]
      obtain ⟨h3, h4⟩ := addR_fit h1 zs[k]
      refine ⟨h3, ?_⟩
      rw [h4, h2, List.take_succ_eq_append_getElem (by omega)]
  have h := this zs.length (Nat.le_refl _)
  rwa [List.take_length] at h
/-- The program's way to find whether runs fit. -/
theorem rk_found {rs : List (Int × Int)} : rnV (ex rs) = rs ↔ rkG rs = true := by
  rw [rkG_iff]
  constructor
  · intro h
    cases ht : tk (ex rs)
    · rw [rnV_no ht] at h
      subst h
      rw [show ex [] = [] from rfl, tk_yes (zs := []) (by simp) okT_nil] at ht; cases ht
    · rw [rnV_yes ht] at h
      have := (rn_fit (ex rs)).1
      rw [h] at this
      exact ⟨this, rfl⟩
  · rintro ⟨h1, h2⟩
    rw [rnV_yes h2, rn_all h1]

end Go.Proofs.Ytmbiomekbinplaa.Tk
