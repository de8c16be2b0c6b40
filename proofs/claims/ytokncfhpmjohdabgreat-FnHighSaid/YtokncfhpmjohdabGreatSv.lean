/- Shows in numbers: which nozzles hang on a pump, what they want, their lifts, and all drops that are thrown. -/
import Derived.Test.YtokncfhpmjohdabGreatM9
import Derived.Test.YtokncfhpmjohdabGreatM16
import Derived.Test.YtokncfhpmjohdabGreatM15
set_option linter.unusedVariables false
set_option linter.unusedSimpArgs false
namespace Go.Proofs.YtokncfhpmjohdabGreat.Sv
open Go.RowKit Go.Proofs.YtokncfhpmjohdabGreat.Mem Go.Proofs.YtokncfhpmjohdabGreat.Jt Go.Proofs.YtokncfhpmjohdabGreat.IsName
open Go.Proofs.YtokncfhpmjohdabGreat.Ds (sb nozB pumpB devB)
open Go.Proofs.YtokncfhpmjohdabGreat.Ig (rig Rig dB rig_of)
open Go.Proofs.YtokncfhpmjohdabGreat.Sd (score)
open Go.Proofs.YtokncfhpmjohdabGreat.Wm (wd)
open Go.Proofs.YtokncfhpmjohdabGreat.Ld (levV)
open Go.Proofs.YtokncfhpmjohdabGreat.Dm (share dm)
set_option linter.unusedVariables false
set_option linter.unusedSimpArgs false
abbrev D := Dd.D
abbrev C := Cd.C
abbrev G := Int × Int × Int

/-- Whether a show is valid. -/
noncomputable def show9 (ds : List D) (cs : List C) (gs : List G) (T : Int) : Bool := rig ds && (score cs && (wd gs && iw T 0 64))
theorem show_iff {ds : List D} {cs : List C} {gs : List G} {T : Int} : show9 ds cs gs T = true ↔ rig ds = true ∧ score cs = true ∧ wd gs = true ∧ 0 ≤ T ∧ T ≤ 64 := by
  unfold show9
  simp only [Bool.and_eq_true, iw_iff]
  
/-- The places of what hangs on a name. -/
def hang (s : ByteArray) : List D → Nat → List Nat
  | [], _ => []
  | d :: r, i => if sb d.ln s then i :: hang s r (i + 1) else hang s r (i + 1)
theorem hang_snoc (s : ByteArray) (d : D) : ∀ (ds : List D) (i : Nat), hang s (ds ++ [d]) i = hang s ds i ++ (if sb d.ln s then [i + ds.length] else [])
  | [], i => by simp [hang]
  | x :: r, i => by
    simp only [List.cons_append, hang, hang_snoc s d r (i + 1), List.length_cons]
    rw [show i + 1 + r.length = i + (r.length + 1) by omega]
    split <;> simp
theorem hang_take {s : ByteArray} {ds : List D} {k : Nat} {d : D} (h : ds[k]? = some d) : hang s (ds.take (k + 1)) 0 = if sb d.ln s then hang s (ds.take k) 0 ++ [k] else hang s (ds.take k) 0 := by
  obtain ⟨hk, rfl⟩ := List.getElem?_eq_some_iff.1 h
  rw [List.take_succ_eq_append_getElem hk, hang_snoc, List.length_take, Nat.min_eq_left (Nat.le_of_lt hk), Nat.zero_add]
  split <;> simp
theorem hang_len (s : ByteArray) : ∀ (ds : List D) (i : Nat), (hang s ds i).length ≤ ds.length
  | [], _ => Nat.le_refl _
  | d :: r, i => by
    have := hang_len s r (i + 1)
    unfold hang
    split
    · simp only [List.length_cons]; omega
    · simp only [List.length_cons]; omega
theorem hang_at {s : ByteArray} : ∀ (ds : List D) (i j : Nat), j ∈ hang s ds i → ∃ k d, j = i + k ∧ ds[k]? = some d ∧ sb d.ln s = true
  | [], _, _, h => by cases h
  | d :: r, i, j, h => by
    unfold hang at h
    split at h
    · rename_i c
      rcases List.mem_cons.1 h with rfl | h
      · exact ⟨0, d, rfl, rfl, c⟩
      · obtain ⟨k, e, h1, h2, h3⟩ := hang_at r (i + 1) j h
        exact ⟨k + 1, e, by omega, h2, h3⟩
    · obtain ⟨k, e, h1, h2, h3⟩ := hang_at r (i + 1) j h
      exact ⟨k + 1, e, by omega, h2, h3⟩
theorem hang_lt {s : ByteArray} {ds : List D} {j : Nat} (h : j ∈ hang s ds 0) : ∃ d, ds[j]? = some d ∧ sb d.ln s = true := by
  obtain ⟨k, d, rfl, h2, h3⟩ := hang_at ds 0 j h
  exact ⟨d, by rw [Nat.zero_add]; exact h2, h3⟩
/-- What a device wants at a tick. -/
noncomputable def want (cs : List C) (t : Int) (d : D) : Int := min (levV cs d.nm t) d.ms
/-- What the one at a place wants. -/
noncomputable def wantAt (ds : List D) (cs : List C) (t : Int) (i : Nat) : Int := match ds[i]? with | some d => want cs t d | none => 0
theorem wantAt_of {ds : List D} {cs : List C} {t : Int} {i : Nat} {d : D} (h : ds[i]? = some d) : wantAt ds cs t i = want cs t d := by unfold wantAt; rw [h]
/-- What those at these places want. -/
noncomputable def wants (ds : List D) (cs : List C) (t : Int) (l : List Nat) : List Int := l.map (wantAt ds cs t)
theorem wants_len (ds : List D) (cs : List C) (t : Int) (l : List Nat) : (wants ds cs t l).length = l.length := by simp [wants]
theorem wants_get {ds : List D} {cs : List C} {t : Int} {l : List Nat} {i k : Nat} {d : D} (h : l[k]? = some i) (hd : ds[i]? = some d) : (wants ds cs t l)[k]? = some (want cs t d) := by
  unfold wants; rw [List.getElem?_map, h]; show some _ = _; rw [wantAt_of hd]
theorem wants_snoc {ds : List D} {cs : List C} {t : Int} {l : List Nat} {i : Nat} {d : D} (hd : ds[i]? = some d) : wants ds cs t (l ++ [i]) = wants ds cs t l ++ [want cs t d] := by
  unfold wants; rw [List.map_append, List.map_singleton, wantAt_of hd]
/-- A list into which these are written at these places. -/
def put : List Int → List Nat → List Int → List Int
  | o, i :: r, x :: xs => put (o.set i x) r xs
  | o, _, _ => o
theorem put_len : ∀ (o : List Int) (l : List Nat) (xs : List Int), (put o l xs).length = o.length
  | o, i :: r, x :: xs => by rw [put, put_len]; simp
  | o, [], xs => by simp [put]
  | o, i :: r, [] => by simp [put]
theorem put_snoc : ∀ (o : List Int) (l : List Nat) (xs : List Int) (i : Nat) (x : Int), l.length = xs.length → put o (l ++ [i]) (xs ++ [x]) = (put o l xs).set i x
  | o, [], [], i, x, _ => rfl
  | o, j :: l, y :: xs, i, x, h => by
    show put (o.set j y) (l ++ [i]) (xs ++ [x]) = _
    rw [put_snoc _ l xs i x (by simpa using h)]; rfl
theorem put_take {o : List Int} {l : List Nat} {xs : List Int} {k i : Nat} {x : Int} (hi : l[k]? = some i) (hx : xs[k]? = some x) : put o (l.take (k + 1)) (xs.take (k + 1)) = (put o (l.take k) (xs.take k)).set i x := by
  obtain ⟨h1, rfl⟩ := List.getElem?_eq_some_iff.1 hi
  obtain ⟨h2, rfl⟩ := List.getElem?_eq_some_iff.1 hx
  rw [List.take_succ_eq_append_getElem h1, List.take_succ_eq_append_getElem h2, put_snoc]
  rw [List.length_take, List.length_take]; omega
theorem put_nil (o : List Int) (xs : List Int) : put o [] xs = o := by cases xs <;> rfl
/-- The lifts behind one more device. -/
noncomputable def stepL (ds : List D) (cs : List C) (t : Int) (o : List Int) (p : D) : List Int :=
  if p.kd = 1 then put o (hang p.nm ds 0) (share p.ms (wants ds cs t (hang p.nm ds 0))) else o
/-- The lifts by the first devices. -/
noncomputable def liftK (ds : List D) (cs : List C) (t : Int) (k : Nat) : List Int := (ds.take k).foldl (stepL ds cs t) (List.replicate ds.length 0)
/-- The lifts of a show at a tick. -/
noncomputable def lifts (ds : List D) (cs : List C) (T t : Int) : List Int := if 0 ≤ t ∧ t < T then liftK ds cs t ds.length else List.replicate ds.length 0
theorem step_len (ds : List D) (cs : List C) (t : Int) (o : List Int) (p : D) : (stepL ds cs t o p).length = o.length := by
  unfold stepL; split
  · exact put_len _ _ _
  · rfl
theorem fold_len (ds : List D) (cs : List C) (t : Int) : ∀ (l : List D) (o : List Int), (l.foldl (stepL ds cs t) o).length = o.length
  | [], o => rfl
  | p :: l, o => by rw [List.foldl_cons, fold_len ds cs t l, step_len]
theorem liftK_zero (ds : List D) (cs : List C) (t : Int) : liftK ds cs t 0 = List.replicate ds.length 0 := by simp [liftK]
theorem liftK_succ {ds : List D} {cs : List C} {t : Int} {k : Nat} {p : D} (h : ds[k]? = some p) : liftK ds cs t (k + 1) = stepL ds cs t (liftK ds cs t k) p := by
  obtain ⟨hk, rfl⟩ := List.getElem?_eq_some_iff.1 h
  unfold liftK
  rw [List.take_succ_eq_append_getElem hk, List.foldl_append]; rfl
theorem liftK_len (ds : List D) (cs : List C) (t : Int) (k : Nat) : (liftK ds cs t k).length = ds.length := by unfold liftK; rw [fold_len]; simp
theorem lifts_len (ds : List D) (cs : List C) (T t : Int) : (lifts ds cs T t).length = ds.length := by
  unfold lifts; split
  · exact liftK_len _ _ _ _
  · simp
theorem lifts_in {ds : List D} {cs : List C} {T t : Int} (h : 0 ≤ t ∧ t < T) : lifts ds cs T t = liftK ds cs t ds.length := if_pos h
theorem lifts_out {ds : List D} {cs : List C} {T t : Int} (h : ¬ (0 ≤ t ∧ t < T)) : lifts ds cs T t = List.replicate ds.length 0 := if_neg h

/-- What a valid nozzle is. -/
def NozB (d : D) : Prop := jt d.x d.y d.hd d.tl 1 = true ∧ 0 ≤ d.ms ∧ d.ms ≤ 32
theorem dB_noz {d : D} (h : dB d = true) (k : d.kd = 2) : NozB d := by
  unfold dB devB at h
  rw [k, if_neg (by decide), if_pos rfl, Bool.and_eq_true] at h
  have h2 := h.2
  unfold nozB at h2
  rw [Bool.and_eq_true, Bool.and_eq_true] at h2
  exact ⟨h2.2.1, iw_iff.1 h2.2.2⟩
theorem dB_pump {d : D} (h : dB d = true) (k : d.kd = 1) : (0 ≤ d.ms ∧ d.ms ≤ 512) ∧ sb d.ln ⟨#[]⟩ = true := by
  unfold dB devB at h
  rw [k, if_pos rfl, Bool.and_eq_true] at h
  have h2 := h.2
  unfold pumpB at h2
  rw [Bool.and_eq_true, Bool.and_eq_true] at h2
  exact ⟨iw_iff.1 h2.1, h2.2.1⟩
theorem dB_kd {d : D} (h : dB d = true) : d.kd = 1 ∨ d.kd = 2 ∨ d.kd = 3 := by
  unfold dB devB at h
  rw [Bool.and_eq_true] at h
  have h2 := h.2
  by_cases a : d.kd = 1
  · exact Or.inl a
  · by_cases b : d.kd = 2
    · exact Or.inr (Or.inl b)
    · by_cases c : d.kd = 3
      · exact Or.inr (Or.inr c)
      · rw [if_neg a, if_neg b, if_neg c] at h2; cases h2
theorem dB_name {d : D} (h : dB d = true) : nameB d.nm = true := by
  unfold dB devB at h; rw [Bool.and_eq_true] at h; exact h.1
theorem sb_iff {a b : ByteArray} : sb a b = true ↔ a.toList = b.toList := by unfold sb; simp
theorem sb_ref (a : ByteArray) : sb a a = true := sb_iff.2 rfl
theorem sb_trans {a b c : ByteArray} (h : sb a b = true) (k : sb b c = true) : sb a c = true := sb_iff.2 ((sb_iff.1 h).trans (sb_iff.1 k))

theorem name_ne {a b : ByteArray} (h : nameB a = true) (hb : sb b ⟨#[]⟩ = true) : sb b a = false := by
  rw [← Bool.not_eq_true]
  intro e
  have h1 := sb_iff.1 e
  have h2 := sb_iff.1 hb
  have h3 : a.toList = [] := by rw [← h1, h2]; simp [ByteArray.toList_eq]
  have h4 : a.size = 0 := by
    have h5 : a.data.toList.length = a.size := by simp
    rw [ByteArray.toList_eq] at h3
    rw [h3] at h5; exact h5.symm
  rw [nameB_len (Or.inl (by omega))] at h; cases h
/-- On a pump hang nozzles only; on a nozzle, lamps only; on a lamp nothing. -/
theorem hangs_on {ds : List D} (hr : rig ds = true) {p e : D} (hp : p ∈ ds) (he : e ∈ ds) (h : sb e.ln p.nm = true) : (p.kd = 1 ∧ e.kd = 2) ∨ (p.kd = 2 ∧ e.kd = 3) := by
  obtain ⟨_, ho, hall⟩ := Rz.rig_set.1 (rig_of hr)
  obtain ⟨he1, he2, he3⟩ := hall e he
  have hpn := dB_name (hall p hp).1
  have same : ∀ x ∈ ds, sb x.nm e.ln = true → x = p := fun x hx hs => Rz.ord_one ho hx hp (sb_iff.1 (sb_trans hs h))
  rcases dB_kd he1 with k | k | k
  · have := name_ne hpn (dB_pump he1 k).2
    rw [this] at h; cases h
  · obtain ⟨x, hx, hs, hk⟩ := he2 k
    rw [same x hx hs] at hk; exact Or.inl ⟨hk, k⟩
  · obtain ⟨x, hx, hs, hk⟩ := he3 k
    rw [same x hx hs] at hk; exact Or.inr ⟨hk, k⟩
/-- What the model looks for and what the program looks for. -/
theorem kinds {ds : List D} (hr : rig ds = true) {p e : D} (hp : p ∈ ds) (he : e ∈ ds) : (decide (e.kd = 2) && sb e.ln p.nm) = (decide (p.kd = 1) && sb e.ln p.nm) := by
  cases h : sb e.ln p.nm
  · simp
  · rcases hangs_on hr hp he h with ⟨a, b⟩ | ⟨a, b⟩
    · rw [a, b]; rfl
    · rw [a, b]; rfl
theorem hang_noz {ds : List D} (hr : rig ds = true) {p : D} (hp : p ∈ ds) (hk : p.kd = 1) {j : Nat} (h : j ∈ hang p.nm ds 0) : ∃ d, ds[j]? = some d ∧ sb d.ln p.nm = true ∧ d.kd = 2 ∧ NozB d := by
  obtain ⟨d, h1, h2⟩ := hang_lt h
  have hm := List.mem_of_getElem? h1
  have k2 : d.kd = 2 := by
    rcases hangs_on hr hp hm h2 with ⟨_, b⟩ | ⟨a, _⟩
    · exact b
    · omega
  obtain ⟨_, _, hall⟩ := Rz.rig_set.1 (rig_of hr)
  exact ⟨d, h1, h2, k2, dB_noz (hall d hm).1 k2⟩
theorem want_in {cs : List C} {t : Int} {d : D} (h : NozB d) : 0 ≤ want cs t d ∧ want cs t d ≤ 32 ∧ want cs t d ≤ d.ms := by
  have h1 := Fe9.levV_in cs d.nm t
  have h2 := h.2
  unfold want; omega
theorem wants_dm {ds : List D} {cs : List C} {t : Int} (hr : rig ds = true) {p : D} (hp : p ∈ ds) (hk : p.kd = 1) : dm (wants ds cs t (hang p.nm ds 0)) = true := by
  refine Dm.dm_yes ?_ ?_
  · rw [wants_len]
    have := hang_len p.nm ds 0
    have := (Rz.rig_set.1 (rig_of hr)).1
    omega
  · intro z hz
    unfold wants at hz
    obtain ⟨i, hi, rfl⟩ := List.mem_map.1 hz
    obtain ⟨d, h1, _, _, h4⟩ := hang_noz hr hp hk hi
    rw [wantAt_of h1]
    have := want_in (cs := cs) (t := t) h4
    omega
theorem pump_ms {ds : List D} (hr : rig ds = true) {p : D} (hp : p ∈ ds) (hk : p.kd = 1) : 0 ≤ p.ms ∧ p.ms ≤ 512 := by
  obtain ⟨_, _, hall⟩ := Rz.rig_set.1 (rig_of hr)
  exact (dB_pump (hall p hp).1 hk).1
theorem share_size {ds : List D} {cs : List C} {t : Int} (hr : rig ds = true) {p : D} (hp : p ∈ ds) (hk : p.kd = 1) : (share p.ms (wants ds cs t (hang p.nm ds 0))).length = (hang p.nm ds 0).length := by
  have hm := pump_ms hr hp hk
  rw [(Dn.share_facts (wants_dm hr hp hk) hm.1 hm.2).1, wants_len]
/-- A lift is 0, or that of a nozzle, and as it may be. -/
def LiftOk (ds : List D) (o : List Int) : Prop := ∀ (j : Nat) (x : Int), o[j]? = some x → x = 0 ∨ (0 ≤ x ∧ x ≤ 32 ∧ ∃ d, ds[j]? = some d ∧ d.kd = 2 ∧ NozB d ∧ x ≤ d.ms)
theorem ok_zero (ds : List D) (n : Nat) : LiftOk ds (List.replicate n 0) := fun j x h => by
  rw [List.getElem?_replicate] at h
  split at h
  · injection h with h; exact Or.inl h.symm
  · cases h
theorem ok_put {ds : List D} : ∀ {o : List Int} (l : List Nat) (xs : List Int), LiftOk ds o →
    (∀ (k j : Nat) (x : Int), l[k]? = some j → xs[k]? = some x → 0 ≤ x ∧ x ≤ 32 ∧ ∃ d, ds[j]? = some d ∧ d.kd = 2 ∧ NozB d ∧ x ≤ d.ms) → LiftOk ds (put o l xs)
  | o, [], xs, h, _ => by rw [put_nil]; exact h
  | o, i :: l, [], h, _ => h
  | o, i :: l, x :: xs, h, k => by
    rw [put]
    refine ok_put l xs ?_ fun q j y h1 h2 => k (q + 1) j y h1 h2
    intro j y hy
    rw [List.getElem?_set] at hy
    split at hy
    · rename_i e
      split at hy
      · injection hy with hy
        subst hy e
        exact Or.inr (k 0 i x rfl rfl)
      · cases hy
    · exact h j y hy
theorem ok_step {ds : List D} {cs : List C} {t : Int} (hr : rig ds = true) {p : D} (hp : p ∈ ds) {o : List Int} (h : LiftOk ds o) : LiftOk ds (stepL ds cs t o p) := by
  unfold stepL
  split
  · rename_i hk
    refine ok_put _ _ h ?_
    intro k j x h1 h2
    obtain ⟨d, e1, e2, e3, e4⟩ := hang_noz hr hp hk (List.mem_of_getElem? h1)
    have hm := pump_ms hr hp hk
    obtain ⟨s, f1, f2, f3, f4⟩ := (Dn.share_facts (wants_dm (cs := cs) (t := t) hr hp hk) hm.1 hm.2).2.2 k _ (wants_get h1 e1)
    rw [f1] at h2; injection h2 with h2; subst h2
    have hw := want_in (cs := cs) (t := t) e4
    have hl := (Dm.dm_iff.1 (wants_dm (cs := cs) (t := t) hr hp hk)).2
    exact ⟨by omega, by omega, d, e1, e3, e4, by omega⟩
  · exact h
theorem ok_liftK {ds : List D} (cs : List C) (t : Int) (hr : rig ds = true) : ∀ k, k ≤ ds.length → LiftOk ds (liftK ds cs t k)
  | 0, _ => by rw [liftK_zero]; exact ok_zero _ _
  | k + 1, h => by
    have e : ds[k]? = some ds[k] := List.getElem?_eq_getElem (by omega)
    rw [liftK_succ e]
    exact ok_step hr (List.mem_of_getElem? e) (ok_liftK cs t hr k (by omega))
theorem ok_lifts {ds : List D} (cs : List C) (T t : Int) (hr : rig ds = true) : LiftOk ds (lifts ds cs T t) := by
  unfold lifts; split
  · exact ok_liftK cs t hr _ (Nat.le_refl _)
  · exact ok_zero _ _

/-- What hangs on a name, or nothing. -/
def hgB (b : Bool) (s : ByteArray) (l : List D) : List Nat := if b then hang s l 0 else []
theorem hgB_no {b : Bool} {s : ByteArray} {ds : List D} {k : Nat} {d : D} (h : ds[k]? = some d) (c : (b && sb d.ln s) = false) : hgB b s (ds.take (k + 1)) = hgB b s (ds.take k) := by
  cases b
  · rfl
  · show hang s _ 0 = hang s _ 0
    rw [hang_take h, if_neg (by rw [show sb d.ln s = false from c]; decide)]
theorem hgB_yes {b : Bool} {s : ByteArray} {ds : List D} {k : Nat} {d : D} (h : ds[k]? = some d) (c : (b && sb d.ln s) = true) : hgB b s (ds.take (k + 1)) = hgB b s (ds.take k) ++ [k] := by
  rw [Bool.and_eq_true] at c
  obtain ⟨rfl, c⟩ := c
  show hang s _ 0 = hang s _ 0 ++ _
  rw [hang_take h, if_pos c]
theorem hgB_len (b : Bool) (s : ByteArray) (l : List D) : (hgB b s l).length ≤ l.length := by
  unfold hgB; split
  · exact hang_len _ _ _
  · exact Nat.zero_le _
/-- The model's lifts by the first devices. -/
noncomputable def modK (r : Bool) (ds : List D) (cs : List C) (t : Int) (k : Nat) : List Int := if r then liftK ds cs t k else List.replicate ds.length 0
theorem modK_len (r : Bool) (ds : List D) (cs : List C) (t : Int) (k : Nat) : (modK r ds cs t k).length = ds.length := by
  unfold modK; split
  · exact liftK_len _ _ _ _
  · simp
theorem modK_zero (r : Bool) (ds : List D) (cs : List C) (t : Int) : modK r ds cs t 0 = List.replicate ds.length 0 := by
  unfold modK; split
  · exact liftK_zero _ _ _
  · rfl
theorem modK_succ {r : Bool} {ds : List D} {cs : List C} {t : Int} {k : Nat} {p : D} (h : ds[k]? = some p) :
    modK r ds cs t (k + 1) = put (modK r ds cs t k) (hgB (r && decide (p.kd = 1)) p.nm ds) (share p.ms (wants ds cs t (hgB (r && decide (p.kd = 1)) p.nm ds))) := by
  cases r
  · show List.replicate _ _ = put (List.replicate _ _) [] _
    rw [put_nil]
  · show liftK ds cs t (k + 1) = put (liftK ds cs t k) (hgB (decide (p.kd = 1)) p.nm ds) _
    rw [liftK_succ h]
    unfold stepL
    by_cases c : p.kd = 1
    · rw [if_pos c]; simp only [Bool.true_and]; rw [decide_eq_true c]; rfl
    · rw [if_neg c]; simp only [Bool.true_and]; rw [decide_eq_false c]; exact (put_nil _ _).symm
theorem modK_all {ds : List D} {cs : List C} {T t : Int} {r : Bool} (h : iw t 0 (T - 1) = r) : modK r ds cs t ds.length = lifts ds cs T t := by
  cases r
  · rw [lifts_out (fun c => by rw [iw_yes ⟨c.1, by omega⟩] at h; cases h)]; rfl
  · rw [lifts_in (by have := iw_iff.1 h; omega)]; rfl

/-- A drop that is thrown: its birth, its nozzle and its lift. -/
structure B where
  b : Nat
  d : D
  l : Int
instance : Inhabited B := ⟨⟨0, default, 0⟩⟩
def BOk (z : B) : Prop := jt z.d.x z.d.y z.d.hd z.d.tl z.l = true
/-- The drops of a tick, by the first devices. -/
def rowK (ds : List D) (L : List Int) (t : Nat) : Nat → List B
  | 0 => []
  | i + 1 => match ds[i]?, L[i]? with
    | some d, some x => if x = 0 then rowK ds L t i else rowK ds L t i ++ [⟨t, d, x⟩]
    | _, _ => rowK ds L t i
theorem row_no {ds : List D} {L : List Int} {t i : Nat} {d : D} {x : Int} (hd : ds[i]? = some d) (hx : L[i]? = some x) (h : x = 0) : rowK ds L t (i + 1) = rowK ds L t i := by
  rw [rowK, hd, hx]; exact if_pos h
theorem row_yes {ds : List D} {L : List Int} {t i : Nat} {d : D} {x : Int} (hd : ds[i]? = some d) (hx : L[i]? = some x) (h : x ≠ 0) : rowK ds L t (i + 1) = rowK ds L t i ++ [⟨t, d, x⟩] := by
  rw [rowK, hd, hx]; exact if_neg h
/-- The drops of the first ticks. -/
noncomputable def allK (ds : List D) (cs : List C) (T : Int) : Nat → List B
  | 0 => []
  | t + 1 => allK ds cs T t ++ rowK ds (lifts ds cs T (t : Int)) t ds.length
/-- All drops of a show. -/
noncomputable def all9 (ds : List D) (cs : List C) (gs : List G) (T : Int) : List B := if show9 ds cs gs T = true then allK ds cs T T.toNat else []
theorem row_len (ds : List D) (L : List Int) (t : Nat) : ∀ i, (rowK ds L t i).length ≤ i
  | 0 => Nat.le_refl _
  | i + 1 => by
    have := row_len ds L t i
    rw [rowK]
    split
    · split
      · omega
      · rw [List.length_append]; show _ + 1 ≤ _; omega
    · omega
theorem all_len {ds : List D} {cs : List C} {T : Int} (h : ds.length ≤ 8) : ∀ t, (allK ds cs T t).length ≤ t * 8
  | 0 => Nat.le_refl _
  | t + 1 => by
    have h1 := all_len (cs := cs) (T := T) h t
    have h2 := row_len ds (lifts ds cs T (t : Int)) t ds.length
    rw [allK, List.length_append]; omega
theorem noz_jet {d : D} {x : Int} (h : NozB d) (h0 : 1 ≤ x) (h1 : x ≤ 32) : jt d.x d.y d.hd d.tl x = true := by
  have := jt_iff.1 h.1
  exact jt_iff.2 ⟨this.1, this.2.1, this.2.2.1, this.2.2.2.1, h0, h1⟩
/-- What is known of a drop. -/
def BIn (ds : List D) (z : B) : Prop := BOk z ∧ z.d ∈ ds ∧ z.d.kd = 2 ∧ z.l ≤ z.d.ms
theorem row_ok {ds : List D} {L : List Int} (h : LiftOk ds L) (t : Nat) : ∀ i, ∀ z ∈ rowK ds L t i, BIn ds z ∧ z.b = t
  | 0, z, hz => by cases hz
  | i + 1, z, hz => by
    rw [rowK] at hz
    split at hz
    · rename_i d x hd hx
      split at hz
      · exact row_ok h t i z hz
      · rename_i hne
        rcases List.mem_append.1 hz with hz | hz
        · exact row_ok h t i z hz
        · rw [List.mem_singleton] at hz; subst hz
          rcases h i x hx with e | ⟨a, b, d', e, k, n, m⟩
          · exact absurd e hne
          · rw [hd] at e; injection e with e; subst e
            have h1 : 1 ≤ x := by omega
            exact ⟨⟨noz_jet n h1 b, List.mem_of_getElem? hd, k, m⟩, rfl⟩
    · exact row_ok h t i z hz
theorem all_ok {ds : List D} {cs : List C} {T : Int} (hr : rig ds = true) : ∀ t, ∀ z ∈ allK ds cs T t, BIn ds z ∧ z.b < t
  | 0, z, hz => by cases hz
  | t + 1, z, hz => by
    rw [allK] at hz
    rcases List.mem_append.1 hz with hz | hz
    · have := all_ok hr t z hz; exact ⟨this.1, by omega⟩
    · have := row_ok (ok_lifts cs T (t : Int) hr) t _ z hz; exact ⟨this.1, by omega⟩
theorem all9_yes {ds : List D} {cs : List C} {gs : List G} {T : Int} (h : show9 ds cs gs T = true) : all9 ds cs gs T = allK ds cs T T.toNat := if_pos h
theorem all9_no {ds : List D} {cs : List C} {gs : List G} {T : Int} (h : show9 ds cs gs T = false) : all9 ds cs gs T = [] := if_neg (by rw [h]; decide)
theorem all9_ok {ds : List D} {cs : List C} {gs : List G} {T : Int} : ∀ z ∈ all9 ds cs gs T, BIn ds z ∧ z.b < 64 := fun z hz => by
  cases h : show9 ds cs gs T
  · rw [all9_no h] at hz; cases hz
  · rw [all9_yes h] at hz
    obtain ⟨h1, _, _, h4, h5⟩ := show_iff.1 h
    have := all_ok h1 _ z hz
    exact ⟨this.1, by omega⟩
theorem all9_len (ds : List D) (cs : List C) (gs : List G) (T : Int) : (all9 ds cs gs T).length ≤ 512 := by
  cases h : show9 ds cs gs T
  · rw [all9_no h]; exact Nat.zero_le _
  · rw [all9_yes h]
    obtain ⟨h1, _, _, h4, h5⟩ := show_iff.1 h
    have := all_len (cs := cs) (T := T) (Rz.rig_set.1 (rig_of h1)).1 T.toNat
    omega
end Go.Proofs.YtokncfhpmjohdabGreat.Sv
