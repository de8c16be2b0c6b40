/- The end of a score: the last cue of each name. -/
import Derived.Test.YtdhdmdjahfnicaaLd
namespace Go.Proofs.Ytdhdmdjahfnicaa.Ed
open Go.RowKit Go.ChangeShapes Go.WideShapes Go.WideElems Go.Deep Go.Proofs.Ytdhdmdjahfnicaa.Mem Go.Proofs.Ytdhdmdjahfnicaa.Rw Go.Proofs.Ytdhdmdjahfnicaa.P2 Go.Proofs.Ytdhdmdjahfnicaa.Cd Go.Proofs.Ytdhdmdjahfnicaa.Cv Go.Proofs.Ytdhdmdjahfnicaa.Cl Go.Proofs.Ytdhdmdjahfnicaa.Cs
set_option linter.unusedVariables false
set_option linter.unusedSimpArgs false
open Go.Proofs.Ytdhdmdjahfnicaa.Sd Go.Proofs.Ytdhdmdjahfnicaa.Ld

/-- What a map has at a name. -/
def upd : List (ByteArray × Int) → ByteArray → Int → List (ByteArray × Int)
  | [], s, c => [(s, c)]
  | (k, v) :: r, s, c => if k = s then (k, c) :: r else (k, v) :: upd r s c
def keys (M : List (ByteArray × Int)) : List ByteArray := M.map (·.1)
theorem upd_keys : ∀ (M : List (ByteArray × Int)) (s : ByteArray) (c : Int), (s ∈ keys M → keys (upd M s c) = keys M) ∧ (¬ s ∈ keys M → keys (upd M s c) = keys M ++ [s])
  | [], s, c => ⟨(fun h => by cases h), (fun _ => rfl)⟩
  | (k, v) :: r, s, c => by
    have ih := upd_keys r s c
    unfold upd
    by_cases e : k = s
    · rw [if_pos e]
      exact ⟨fun _ => rfl, fun h => absurd (by unfold keys; simp [e]) h⟩
    · rw [if_neg e]
      refine ⟨fun h => ?_, fun h => ?_⟩
      · have : s ∈ keys r := by
          unfold keys at h ⊢
          rcases List.mem_cons.1 h with h | h
          · exact absurd h.symm e
          · exact h
        show k :: keys (upd r s c) = k :: keys r
        rw [ih.1 this]
      · have : ¬ s ∈ keys r := fun h2 => h (by unfold keys at h2 ⊢; exact List.mem_cons_of_mem _ h2)
        show k :: keys (upd r s c) = k :: keys r ++ [s]
        rw [ih.2 this]; rfl
theorem upd_nodup {M : List (ByteArray × Int)} (h : (keys M).Nodup) (s : ByteArray) (c : Int) : (keys (upd M s c)).Nodup := by
  by_cases e : s ∈ keys M
  · rw [(upd_keys M s c).1 e]; exact h
  · rw [(upd_keys M s c).2 e]
    refine List.nodup_append.2 ⟨h, List.pairwise_singleton _ _, fun a ha b hb => ?_⟩
    rw [List.mem_singleton.1 hb]
    intro e2; subst e2; exact e ha
theorem upd_mem : ∀ {M : List (ByteArray × Int)} {s : ByteArray} {c : Int}, (keys M).Nodup → ∀ {k : ByteArray} {v : Int}, (k, v) ∈ upd M s c ↔ (k = s ∧ v = c) ∨ (k ≠ s ∧ (k, v) ∈ M)
  | [], s, c, _, k, v => by
    unfold upd
    constructor
    · intro h; have := List.mem_singleton.1 h; cases this; exact Or.inl ⟨rfl, rfl⟩
    · rintro (⟨rfl, rfl⟩ | ⟨_, h⟩)
      · exact List.mem_singleton.2 rfl
      · cases h
  | (k', v') :: r, s, c, hn, k, v => by
    have hn2 := List.nodup_cons.1 (show (k' :: keys r).Nodup from hn)
    unfold upd
    by_cases e : k' = s
    · rw [if_pos e]
      subst e
      constructor
      · intro h
        rcases List.mem_cons.1 h with h9 | h9
        · cases h9; exact Or.inl ⟨rfl, rfl⟩
        · refine Or.inr ⟨fun e => hn2.1 ?_, List.mem_cons_of_mem _ h9⟩
          rw [← e]; exact List.mem_map.2 ⟨(k, v), h9, rfl⟩
      · rintro (⟨rfl, rfl⟩ | ⟨h1, h2⟩)
        · exact List.mem_cons_self ..
        · rcases List.mem_cons.1 h2 with h | h
          · cases h; exact absurd rfl h1
          · exact List.mem_cons_of_mem _ h
    · rw [if_neg e]
      have ih := upd_mem (M := r) (s := s) (c := c) hn2.2 (k := k) (v := v)
      constructor
      · intro h
        rcases List.mem_cons.1 h with h | h
        · cases h; exact Or.inr ⟨e, List.mem_cons_self ..⟩
        · rcases ih.1 h with h | ⟨h1, h2⟩
          · exact Or.inl h
          · exact Or.inr ⟨h1, List.mem_cons_of_mem _ h2⟩
      · rintro (h | ⟨h1, h2⟩)
        · exact List.mem_cons_of_mem _ (ih.2 (Or.inl h))
        · rcases List.mem_cons.1 h2 with h | h
          · cases h; exact List.mem_cons_self ..
          · exact List.mem_cons_of_mem _ (ih.2 (Or.inr ⟨h1, h⟩))
/-- The ends of the last cues of each name. -/
def ends (zs : List C) : List (ByteArray × Int) := zs.foldl (fun M d => upd M d.nm (d.tk + d.rp)) []
theorem ends_snoc (zs : List C) (d : C) : ends (zs ++ [d]) = upd (ends zs) d.nm (d.tk + d.rp) := by unfold ends; rw [List.foldl_append]; rfl
/-- Whether the cue at a place is the last one of its name. -/
def LastAt (zs : List C) (i : Nat) (d : C) : Prop := zs[i]? = some d ∧ ∀ j e, i < j → zs[j]? = some e → e.nm ≠ d.nm
theorem last_snoc {zs : List C} {x : C} {i : Nat} {d : C} : LastAt (zs ++ [x]) i d ↔ (i = zs.length ∧ d = x) ∨ (LastAt zs i d ∧ d.nm ≠ x.nm) := by
  have hx : (zs ++ [x])[zs.length]? = some x := by simp
  constructor
  · rintro ⟨h1, h2⟩
    by_cases c : i < zs.length
    · rw [List.getElem?_append_left c] at h1
      refine Or.inr ⟨⟨h1, fun j e hj he => ?_⟩, fun e => h2 zs.length x c hx e.symm⟩
      have hl := (List.getElem?_eq_some_iff.1 he).1
      exact h2 j e hj (by rw [List.getElem?_append_left hl]; exact he)
    · have hl := (List.getElem?_eq_some_iff.1 h1).1
      simp only [List.length_append, List.length_cons, List.length_nil] at hl
      have hi : i = zs.length := by omega
      rw [hi, hx] at h1
      exact Or.inl ⟨hi, by cases h1; rfl⟩
  · rintro (⟨rfl, rfl⟩ | ⟨⟨h1, h2⟩, h3⟩)
    · refine ⟨hx, fun j e hj he => ?_⟩
      have hl := (List.getElem?_eq_some_iff.1 he).1
      simp only [List.length_append, List.length_cons, List.length_nil] at hl
      omega
    · have hl := (List.getElem?_eq_some_iff.1 h1).1
      refine ⟨by rw [List.getElem?_append_left hl]; exact h1, fun j e hj he => ?_⟩
      by_cases c : j < zs.length
      · rw [List.getElem?_append_left c] at he; exact h2 j e hj he
      · have hl2 := (List.getElem?_eq_some_iff.1 he).1
        simp only [List.length_append, List.length_cons, List.length_nil] at hl2
        have hj2 : j = zs.length := by omega
        rw [hj2, hx] at he; cases he
        exact fun e => h3 e.symm
theorem ends_good (zs : List C) : (keys (ends zs)).Nodup ∧ ∀ k v, (k, v) ∈ ends zs ↔ ∃ i d, LastAt zs i d ∧ d.nm = k ∧ v = d.tk + d.rp := by
  have key : ∀ n, ∀ zs : List C, zs.length = n → (keys (ends zs)).Nodup ∧ ∀ k v, (k, v) ∈ ends zs ↔ ∃ i d, LastAt zs i d ∧ d.nm = k ∧ v = d.tk + d.rp := by
    intro n
    induction n with
    | zero =>
      intro zs h
      obtain rfl := List.length_eq_zero_iff.1 h
      refine ⟨List.nodup_nil, fun k v => ⟨(fun h => by cases h), ?_⟩⟩
      rintro ⟨i, d, ⟨h, _⟩, _⟩
      simp at h
    | succ n ih =>
      intro zs h
      have hne : zs ≠ [] := fun e => by rw [e] at h; cases h
      obtain ⟨ys, x, rfl⟩ : ∃ ys x, zs = ys ++ [x] := ⟨zs.dropLast, zs.getLast hne, (List.dropLast_concat_getLast hne).symm⟩
      obtain ⟨i1, i2⟩ := ih ys (by simp at h; exact h)
      rw [ends_snoc]
      refine ⟨upd_nodup i1 _ _, fun k v => ?_⟩
      rw [upd_mem i1]
      constructor
      · rintro (⟨rfl, rfl⟩ | ⟨h1, h2⟩)
        · exact ⟨ys.length, x, last_snoc.2 (Or.inl ⟨rfl, rfl⟩), rfl, rfl⟩
        · obtain ⟨i, d, a, b, c⟩ := (i2 k v).1 h2
          exact ⟨i, d, last_snoc.2 (Or.inr ⟨a, fun e => h1 (by rw [← b, e])⟩), b, c⟩
      · rintro ⟨i, d, a, b, c⟩
        rcases last_snoc.1 a with ⟨_, rfl⟩ | ⟨a1, a2⟩
        · exact Or.inl ⟨b.symm, c⟩
        · exact Or.inr ⟨fun e => a2 (by rw [b, e]), (i2 k v).2 ⟨i, d, a1, b, c⟩⟩
  exact key zs.length zs rfl

/-- v is the greatest end of the last cues, or 0. -/
def IsEnd (zs : List C) (v : Int) : Prop := 0 ≤ v ∧ (∀ i d, LastAt zs i d → d.tk + d.rp ≤ v) ∧ (v = 0 ∨ ∃ i d, LastAt zs i d ∧ v = d.tk + d.rp)
theorem end_one {zs : List C} {v u : Int} (h : IsEnd zs v) (k : IsEnd zs u) : v = u := by
  obtain ⟨h1, h2, h3⟩ := h
  obtain ⟨k1, k2, k3⟩ := k
  rcases h3 with h3 | ⟨i, d, a, e⟩
  · rcases k3 with k3 | ⟨i, d, a, e⟩
    · omega
    · have := h2 i d a; omega
  · rcases k3 with k3 | ⟨i2, d2, a2, e2⟩
    · have := k2 i d a; omega
    · have := k2 i d a; have := h2 i2 d2 a2; omega
def maxM : List (ByteArray × Int) → Int
  | [] => 0
  | (_, c) :: r => max c (maxM r)
theorem maxM_good : ∀ (M : List (ByteArray × Int)), 0 ≤ maxM M ∧ (∀ k v, (k, v) ∈ M → v ≤ maxM M) ∧ (maxM M = 0 ∨ ∃ k, (k, maxM M) ∈ M)
  | [] => ⟨Int.le_refl _, (fun k v h => by cases h), Or.inl rfl⟩
  | (k, c) :: r => by
    obtain ⟨h1, h2, h3⟩ := maxM_good r
    have e : maxM ((k, c) :: r) = max c (maxM r) := rfl
    rw [e]
    refine ⟨by omega, fun k' v h => ?_, ?_⟩
    · rcases List.mem_cons.1 h with h | h
      · cases h; omega
      · have := h2 k' v h; omega
    · by_cases q : c ≤ maxM r
      · rw [Int.max_eq_right q]
        rcases h3 with h3 | ⟨k', h3⟩
        · exact Or.inl h3
        · exact Or.inr ⟨k', List.mem_cons_of_mem _ h3⟩
      · rw [Int.max_eq_left (by omega)]
        exact Or.inr ⟨k, List.mem_cons_self ..⟩
theorem end_of (zs : List C) : IsEnd zs (maxM (ends zs)) := by
  obtain ⟨h1, h2, h3⟩ := maxM_good (ends zs)
  have hg := (ends_good zs).2
  refine ⟨h1, fun i d h => h2 d.nm _ ((hg _ _).2 ⟨i, d, h, rfl, rfl⟩), ?_⟩
  rcases h3 with h3 | ⟨k, h3⟩
  · exact Or.inl h3
  · obtain ⟨i, d, a, _, c⟩ := (hg _ _).1 h3
    exact Or.inr ⟨i, d, a, c⟩
/-- The end of a score. -/
noncomputable def endV (zs : List C) : Int := if score zs = true then maxM (ends zs) else 0
theorem endV_no {zs : List C} (h : score zs = false) : endV zs = 0 := by unfold endV; rw [h]; rfl
theorem endV_yes {zs : List C} (h : score zs = true) : endV zs = maxM (ends zs) := by unfold endV; rw [if_pos h]
theorem endV_is {zs : List C} (h : score zs = true) {v : Int} (k : IsEnd zs v) : v = endV zs := by rw [endV_yes h]; exact end_one k (end_of zs)
end Go.Proofs.Ytdhdmdjahfnicaa.Ed
