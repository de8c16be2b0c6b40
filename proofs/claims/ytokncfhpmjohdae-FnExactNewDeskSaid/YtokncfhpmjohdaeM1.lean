/- Words for memory that the proofs of this program share: a slice that reads as a list of cells, and what the laws' own helpers on lists of integers do. -/
import Derived.Test.YtokncfhpmjohdaeRows
import Derived.WalkKit
import Derived.WalkLawsBesides
import Derived.Lib.Hide
import Derived.Laws.OwnMore
import Derived.OwnWalk
import Derived.Deep.QuietTactic
import Derived.BigQuiet
import Derived.Deep.Draws
import Derived.ProofKit
import Derived.OpenShut
import Derived.SliceStrings
import Derived.Deep.Slices
import Derived.Deep.SlicePairs
import Derived.Lib.SmallJoins
import Derived.ChangeArms
set_option linter.unusedVariables false
set_option linter.unusedSimpArgs false
namespace Go.Proofs.Ytokncfhpmjohdae.Mem
open Go.RowKit Go.ChangeShapes Go.WideShapes Go.WideElems

/-- The address A reads, cell by cell, as xs, all below block B. -/
def Rd (w : World) (B : Nat) (A : Option Addr) (xs : List Value) : Prop :=
  xs = [] ∨ ∃ b o, A = some ⟨b, o, none⟩ ∧ b < B ∧ ∀ j v, xs[j]? = some v → w.cell? ⟨b, o + j, none⟩ = some v

theorem Rd.nil (w : World) (B : Nat) (A : Option Addr) : Rd w B A [] := Or.inl rfl

theorem Rd.get {w : World} {B : Nat} {A : Option Addr} {xs : List Value} (h : Rd w B A xs) {k : Nat} (hk : k < xs.length) :
    ∃ b o, A = some ⟨b, o, none⟩ ∧ b < B ∧ ∀ j v, xs[j]? = some v → w.cell? ⟨b, o + j, none⟩ = some v := by
  rcases h with rfl | h
  · exact absurd hk (Nat.not_lt_zero _)
  · exact h

theorem Rd.keep {w w' : World} {B : Nat} {A : Option Addr} {xs : List Value} (h : Rd w B A xs) (hc : ∀ p : Addr, p.block < B → w'.cell? p = w.cell? p) : Rd w' B A xs := by
  rcases h with h | ⟨b, o, e, hb, hx⟩
  · exact Or.inl h
  · exact Or.inr ⟨b, o, e, hb, fun j v hv => (hc _ hb).trans (hx j v hv)⟩

theorem Rd.below {w w' : World} {B : Nat} {A : Option Addr} {xs : List Value} (h : Rd w B A xs) (hb : Below B w w') : Rd w' B A xs := h.keep fun _ hp => hb.cell hp
theorem Rd.more {w : World} {B B' : Nat} {A : Option Addr} {xs : List Value} (h : Rd w B A xs) (hB : B ≤ B') : Rd w B' A xs := by
  rcases h with h | ⟨b, o, e, hb, hx⟩
  · exact Or.inl h
  · exact Or.inr ⟨b, o, e, Nat.lt_of_lt_of_le hb hB, hx⟩
theorem Rd.drewN {w : World} {B : Nat} {A : Option Addr} {xs : List Value} (h : Rd w B A xs) (n : Nat) : Rd (w.drewN n) B A xs := h.keep fun _ _ => rfl

theorem Rd.own {w : World} {base : Nat} {e : TypeId} {size g n c : Nat} {xs : List Value} (h : w.ownsRow base e size (.slice (some ⟨g, 0, none⟩) n c) n xs) : Rd w w.heap.size (some ⟨g, 0, none⟩) xs := by
  by_cases hx : xs = []
  · exact Or.inl hx
  · have hl : xs.length = n * size := h.1
    refine Or.inr ⟨g, 0, rfl, (h.lt g rfl).2, fun j v hv => ?_⟩
    have hj : j < xs.length := (List.getElem?_eq_some_iff.1 hv).1
    rw [Nat.zero_add, h.cellAt j (by omega), hv]

theorem below_drewN {B : Nat} {a w : World} (h : Below B a w) (n : Nat) : Below B a (w.drewN n) := by
  induction n with
  | zero => exact h
  | succ n ih => exact h.trans ⟨rfl, rfl, rfl, Nat.le_refl _, fun _ _ => rfl⟩

def ints (zs : List Int) : List Value := zs.map (Value.int .i64)
theorem ints_len (zs : List Int) : (ints zs).length = zs.length := List.length_map ..
theorem ints_get {zs : List Int} {k : Nat} (hk : k < zs.length) : (ints zs)[k]? = some (.int .i64 zs[k]) := by
  unfold ints; rw [List.getElem?_map, List.getElem?_eq_getElem hk]; rfl

/-- A list that is filled from the left: the first k values are there, the others are still z. -/
def filled (xs : List Value) (z : Value) (k : Nat) : List Value := xs.take k ++ List.replicate (xs.length - k) z
theorem filled_zero (xs : List Value) (z : Value) : filled xs z 0 = List.replicate xs.length z := by simp [filled]
theorem filled_all (xs : List Value) (z : Value) : filled xs z xs.length = xs := by simp [filled]
theorem filled_get {xs : List Value} {z : Value} {k : Nat} (hk : k < xs.length) : (filled xs z k)[k]? = some z := by
  unfold filled
  rw [List.getElem?_append_right (by rw [List.length_take]; omega), List.length_take, Nat.min_eq_left (by omega), Nat.sub_self, List.getElem?_replicate, if_pos (by omega)]
theorem filled_set {xs : List Value} {z : Value} {k : Nat} (hk : k < xs.length) : (filled xs z k).set k xs[k] = filled xs z (k + 1) := by
  apply List.ext_getElem?
  intro j
  unfold filled
  rw [List.getElem?_set]
  by_cases e : k = j
  · subst e
    rw [if_pos rfl, if_pos (by simp; omega), List.getElem?_append_left (by simp; omega), List.getElem?_take_of_lt (by omega), List.getElem?_eq_getElem hk]
  · rw [if_neg e]
    by_cases hj : j < k
    · rw [List.getElem?_append_left (by simp; omega), List.getElem?_append_left (by simp; omega), List.getElem?_take_of_lt hj, List.getElem?_take_of_lt (by omega)]
    · rw [List.getElem?_append_right (by simp; omega), List.getElem?_append_right (by simp; omega), List.getElem?_replicate, List.getElem?_replicate]
      simp only [List.length_take]
      congr 1
      rw [eq_iff_iff]
      omega

theorem filled_put {xs : List Value} {z v : Value} {k : Nat} (h : xs[k]? = some v) : (filled xs z k).set k v = filled xs z (k + 1) := by
  obtain ⟨hk, rfl⟩ := List.getElem?_eq_some_iff.1 h
  exact filled_set hk
theorem mapStr_len (ss : List ByteArray) : (ss.map Value.string).length = ss.length := List.length_map ..
theorem mapStr_get {ss : List ByteArray} {k : Nat} (hk : k < ss.length) : (ss.map Value.string)[k]? = some (.string ss[k]) := by
  rw [List.getElem?_map, List.getElem?_eq_getElem hk]; rfl

section
variable {H : Type} {enc : TypeId × Value → H} {P : Program}

/-- Arguments that are not written read as they did. -/
theorem trodAll_stays {W W' : World} {sp : Nat → Bool} (hl : laidOutB P = true) (hb : Below W.heap.size W W') : ∀ {ts : List TypeId} {vs : List Value} {ds : List (DataW H)} {ps : List MemPlace},
    (∀ t ∈ ts, P.readableRec t = true ∧ t < P.types.size) → DataW.TrodAll enc P W 0 (fun _ => true) true ts vs ds ps → (∀ x ∈ ps, x.block < W.heap.size) → (∀ x ∈ ps, sp x.block = true) → DataW.TrodAll enc P W' 0 sp true ts vs ds ps
  | [], _, _, _, _, h, _, _ => by
    obtain ⟨rfl, rfl, rfl⟩ := trodAll_nil h
    exact trodAll_mk0
  | t :: ts, _, _, _, hr, h, hlt, hsp => by
    obtain ⟨v, vs', d, ds', p, q, rfl, rfl, rfl, h0, h1⟩ := trodAll_cons h
    obtain ⟨r1, r2⟩ := hr t (List.mem_cons_self ..)
    exact trodAll_cons_mk (Trod_stays hl r1 r2 h0 (fun x hx => hb.same (hlt x (List.mem_append_left _ hx))) (fun x hx => hsp x (List.mem_append_left _ hx)))
      (trodAll_stays hl hb (fun t' ht' => hr t' (List.mem_cons_of_mem _ ht')) h1 (fun x hx => hlt x (List.mem_append_right _ hx)) (fun x hx => hsp x (List.mem_append_right _ hx)))

/-- The row's last step for a law whose call leaves all old memory as it was. -/
theorem post_law {f : Func} {s : ChangeSpec} {fresh handsOn again : Bool} {W W' : World} {args : Array Value} {ds : List (DataW H)} {before : List MemPlace}
    (hv : s.vars = []) (hW : DataW.Whole enc P f.params.toList s.vars false W args.toList ds [] before)
    (hA : DataW.TrodAll enc P W 0 (fun _ => true) true f.params.toList args.toList ds before)
    (hl : laidOutB P = true) (hr : ∀ t ∈ f.params.toList, P.readableRec t = true ∧ t < P.types.size) (tb : TypeId) (hrt : f.resultTypes = #[tb]) (htb : P.underlying tb = some .bool)
    (hs : s.fn H (ds ++ []) = { results := [.lit (.bool true)], args := ds }) (hb : Below W.heap.size W W') :
    s.post enc P f false fresh handsOn again W args (.bool true) W' := by
  have hlt : ∀ p ∈ before, p.block < W.heap.size := fun p hp => hW.lt p hp
  have hargs : ∀ sp : Nat → Bool, (∀ p ∈ before, sp p.block = true) → DataW.TrodAll enc P W' 0 sp true f.params.toList args.toList ds before := fun sp hsp => trodAll_stays hl hb hr hA hlt hsp
  have hold : ∀ p ∈ before, (fun b => decide (b < W.heap.size)) p.block = true := fun p hp => by simpa using hlt p hp
  have hres : ∀ (b : Nat) (sp : Nat → Bool) (hd : Bool), DataW.TrodAll enc P W' b sp hd f.resultTypes.toList ((Value.bool true).resultList f.resultTypes.size) [.lit (.bool true)] [] := fun b sp hd => by
    rw [hrt]
    exact trodAll_cons_mk (shut_bool htb true) trodAll_mk0
  have hvars : ∀ sp : Nat → Bool, DataW.TrodVars enc P W' sp s.vars [] [] := fun sp => by rw [hv]; rfl
  refine ⟨ds, [], before, [], before, [], hW, by rw [hs]; exact hres _ _ _, by rw [hs]; exact hargs _ hold, by rw [hs]; exact hvars _, World.keptBut_mono (fun p hp => ⟨hp, ?_⟩) (hb.frame (· ∈ before)), fun _ => ?_⟩
  · simpa using hp
  · obtain ⟨_, _, _, _, _, hz, _⟩ := hW
    refine ⟨?_, _, _, ([] ++ before) ++ [], ⟨[] ++ before, [], trodAll_append (hargs _ (fun _ _ => rfl)) (hres _ _ _), hvars _, rfl, ?_, fun h => by cases h⟩, ?_⟩
    · intro j t r ht hr'
      rw [hrt] at ht hr'
      match j, ht, hr' with
      | 0, ht, hr' =>
        simp at ht
        subst ht
        simp [Value.resultList] at hr'
        subst hr'
        exact okWide_bool_mk htb _
      | j + 1, ht, _ => simp at ht
    · intro b off hp
      have hin : MemPlace.cell b off ∈ before := by simpa using hp
      rw [hb.frozen (hlt _ hin)]
      exact hz b off hin
    · intro p hp _
      simpa using hp

/-- A slice of integers that came in. -/
theorem take_ints {W : World} {r : Reach} {b0 : Nat} {t e : TypeId} {v : Value} {d : DataW H} {ps : List MemPlace} (ht : P.underlying t = some (.slice e)) (he : P.underlying e = some (.int .i64)) (hc : P.cellsOf e = 1)
    (hval : Value.okWide P W r b0 t v) (h : DataW.Trod enc P W 0 (fun _ => true) true t v d ps) :
    ∃ (A : Option Addr) (n c : Nat) (zs : List Int), v = .slice A n c ∧ zs.length = n ∧ n ≤ maxLen ∧ Rd W W.heap.size A (ints zs) ∧ ∀ z ∈ zs, (Lit.int .i64 z).wf = true := by
  obtain ⟨a0, len, cap, rfl⟩ := okWide_slice ht hval
  obtain ⟨fuel, hf⟩ := h
  rcases open_ints ht he hc hf with ⟨hcs, _⟩ | ⟨a, len', cap', zs, hcs, _, hl, hm, hz, _, hcell, hwz⟩
  · simp [Value.cells] at hcs
    obtain ⟨rfl, rfl, rfl⟩ := hcs
    exact ⟨none, 0, 0, [], rfl, rfl, Nat.zero_le _, Rd.nil _ _ _, fun _ h => by cases h⟩
  · simp [Value.cells] at hcs
    obtain ⟨rfl, rfl, rfl⟩ := hcs
    simp only [if_true] at hz
    refine ⟨some a, len, cap, zs.take len, rfl, by rw [List.length_take]; omega, by omega, ?_, fun z hz => hwz z (List.mem_of_mem_take hz)⟩
    by_cases h0 : len = 0
    · subst h0; exact Or.inl rfl
    · obtain ⟨b, o, spot⟩ := a
      have hspot : spot = none := by simpa [Addr.add] using World.cell?_spot (hcell 0 (by omega))
      subst hspot
      have hb := World.block_lt_of_cell? W _ (hcell 0 (by omega))
      refine Or.inr ⟨b, o, rfl, by simpa [Addr.add] using hb, fun j v hv => ?_⟩
      have hj : j < (zs.take len).length := by have := (List.getElem?_eq_some_iff.1 hv).1; rwa [ints_len] at this
      rw [ints_get hj] at hv
      injection hv with hv
      subst hv
      have hj2 : j < zs.length := by rw [List.length_take] at hj; omega
      rw [← add_plain, hcell j hj2, List.getElem_take]
      simp [List.getD_eq_getElem?_getD, List.getElem?_eq_getElem hj2]

/-- A slice of strings that came in. -/
theorem take_strs {W : World} {r : Reach} {b0 : Nat} {t e : TypeId} {v : Value} {d : DataW H} {ps : List MemPlace} (ht : P.underlying t = some (.slice e)) (he : P.underlying e = some .string) (hc : P.cellsOf e = 1)
    (hval : Value.okWide P W r b0 t v) (h : DataW.Trod enc P W 0 (fun _ => true) true t v d ps) :
    ∃ (A : Option Addr) (n c : Nat) (ss : List ByteArray), v = .slice A n c ∧ ss.length = n ∧ n ≤ maxLen ∧ Rd W W.heap.size A (ss.map Value.string) ∧ ∀ s ∈ ss, s.size ≤ maxLen := by
  obtain ⟨a0, len, cap, rfl⟩ := okWide_slice ht hval
  obtain ⟨fuel, hf⟩ := h
  rcases open_strings ht he hc hf with ⟨hcs, _⟩ | ⟨a, len', cap', zs, hcs, _, hl, hm, hz, _, hcell, hwz⟩
  · simp [Value.cells] at hcs
    obtain ⟨rfl, rfl, rfl⟩ := hcs
    exact ⟨none, 0, 0, [], rfl, rfl, Nat.zero_le _, Rd.nil _ _ _, fun _ h => by cases h⟩
  · simp [Value.cells] at hcs
    obtain ⟨rfl, rfl, rfl⟩ := hcs
    simp only [if_true] at hz
    refine ⟨some a, len, cap, zs.take len, rfl, by rw [List.length_take]; omega, by omega, ?_, fun z hz => hwz z (List.mem_of_mem_take hz)⟩
    by_cases h0 : len = 0
    · subst h0; exact Or.inl rfl
    · obtain ⟨b, o, spot⟩ := a
      have hspot : spot = none := by simpa [Addr.add] using World.cell?_spot (hcell 0 (by omega))
      subst hspot
      have hb := World.block_lt_of_cell? W _ (hcell 0 (by omega))
      refine Or.inr ⟨b, o, rfl, by simpa [Addr.add] using hb, fun j v hv => ?_⟩
      have hj : j < (zs.take len).length := by have := (List.getElem?_eq_some_iff.1 hv).1; rwa [mapStr_len] at this
      rw [mapStr_get hj] at hv
      injection hv with hv
      subst hv
      have hj2 : j < zs.length := by rw [List.length_take] at hj; omega
      rw [← add_plain, hcell j hj2, List.getElem_take]
      simp [List.getD_eq_getElem?_getD, List.getElem?_eq_getElem hj2]
end

end Go.Proofs.Ytokncfhpmjohdae.Mem
namespace Go.Proofs.Ytokncfhpmjohdae.Rw
open Go.RowKit Go.ChangeShapes Go.WideShapes Go.WideElems Go.Deep Go.Proofs.Ytokncfhpmjohdae.Mem
set_option linter.unusedVariables false

section
variable {G : Type} {cells : G → List Value} {K : Nat}
theorem flat_len (hl : ∀ g, (cells g).length = K) : ∀ zs : List G, (zs.flatMap cells).length = zs.length * K
  | [] => by simp
  | z :: zs => by rw [List.flatMap_cons, List.length_append, hl, flat_len hl zs, List.length_cons, Nat.add_mul]; omega
theorem flat_get (hl : ∀ g, (cells g).length = K) : ∀ {zs : List G} {k : Nat} {z : G}, zs[k]? = some z → ∀ j, j < K → (zs.flatMap cells)[k * K + j]? = (cells z)[j]?
  | [], _, _, h, _, _ => by simp at h
  | q :: zs, 0, z, h, j, hj => by
    simp at h; subst h
    rw [List.flatMap_cons, Nat.zero_mul, Nat.zero_add, List.getElem?_append_left (by rw [hl]; exact hj)]
  | q :: zs, k + 1, z, h, j, hj => by
    have := flat_get hl (zs := zs) (k := k) (z := z) (by simpa using h) j hj
    rw [List.flatMap_cons, List.getElem?_append_right (by rw [hl, Nat.add_mul]; omega), hl, show (k + 1) * K + j - K = k * K + j by rw [Nat.add_mul]; omega]
    exact this
theorem flat_snoc (zs : List G) (z : G) : (zs ++ [z]).flatMap cells = zs.flatMap cells ++ cells z := by simp

variable {H : Type} {enc : TypeId × Value → H} {P : Program}
/-- A slice of records that came in. -/
theorem take_rows {W : World} {r : Reach} {b0 : Nat} {t e : TypeId} {v : Value} {d : DataW H} {ps : List MemPlace} [Inhabited G] (good : G → Prop) (hl : ∀ g, (cells g).length = K) (hK : 0 < K)
    (ht : P.underlying t = some (.slice e)) (ce : P.cellsOf e = K)
    (hel : ∀ fuel cs x, DataW.trod enc P W 0 (fun _ => true) true fuel e cs = some x → cs.length = K → ∃ g, cs = cells g ∧ good g)
    (hval : Value.okWide P W r b0 t v) (h : DataW.Trod enc P W 0 (fun _ => true) true t v d ps) :
    ∃ (A : Option Addr) (n c : Nat) (zs : List G), v = .slice A n c ∧ zs.length = n ∧ n ≤ maxLen ∧ Rd W W.heap.size A (zs.flatMap cells) ∧ ∀ z ∈ zs, good z := by
  obtain ⟨a0, len, cap, rfl⟩ := okWide_slice ht hval
  obtain ⟨fuel, hf⟩ := h
  rcases open_slice ht hf with ⟨hcs, _⟩ | ⟨a, len', cap', m, n, D, Pl, hcs, _, hlc, hm, hmm, _, hx⟩
  · simp [Value.cells] at hcs
    obtain ⟨rfl, rfl, rfl⟩ := hcs
    exact ⟨none, 0, 0, [], rfl, rfl, Nat.zero_le _, Rd.nil _ _ _, fun _ h => by cases h⟩
  · simp [Value.cells] at hcs
    obtain ⟨rfl, rfl, rfl⟩ := hcs
    simp only [if_true] at hmm
    subst hmm
    have each : ∀ i, i < len → ∃ g : G, (∀ j, j < K → W.cell? (a.add (i * K + j)) = (cells g)[j]?) ∧ good g := by
      intro i hi
      obtain ⟨cs', h1, h2⟩ := hx i (by omega)
      rw [ce] at h1
      obtain ⟨_, hlen, hcell⟩ := World.cells?_some h1
      obtain ⟨g, rfl, hg⟩ := hel _ _ _ h2 hlen
      refine ⟨g, fun j hj => ?_, hg⟩
      rw [← add_add]; exact hcell j hj
    obtain ⟨q, hq⟩ := choose_lt each
    refine ⟨some a, len, _, (List.range len).map q, rfl, by simp, by omega, ?_, ?_⟩
    · by_cases hz : len = 0
      · subst hz; exact Or.inl rfl
      · obtain ⟨b, o, spot⟩ := a
        have hk0 : (cells (q 0))[0]? = some ((cells (q 0))[0]'(by rw [hl]; exact hK)) := List.getElem?_eq_getElem _
        have c00 := ((hq 0 (by omega)).1 0 hK).trans hk0
        have hspot : spot = none := by simpa [Addr.add] using World.cell?_spot c00
        subst hspot
        have hb := World.block_lt_of_cell? W _ c00
        refine Or.inr ⟨b, o, rfl, by simpa [Addr.add] using hb, fun j v hv => ?_⟩
        have hj : j < (((List.range len).map q).flatMap cells).length := (List.getElem?_eq_some_iff.1 hv).1
        rw [flat_len hl] at hj
        simp only [List.length_map, List.length_range] at hj
        have hi : j / K < len := Nat.div_lt_of_lt_mul (by rw [Nat.mul_comm]; exact hj)
        have hr : j % K < K := Nat.mod_lt _ hK
        have hg := flat_get hl (zs := (List.range len).map q) (k := j / K) (z := q (j / K)) (by simp [hi]) (j % K) hr
        have k0 := (hq (j / K) hi).1 (j % K) hr
        have ej : j / K * K + j % K = j := by rw [Nat.mul_comm]; exact Nat.div_add_mod j K
        rw [ej] at hg k0
        rw [hv] at hg
        rw [← hg] at k0
        rw [← add_plain]; exact k0
    · intro z hz
      obtain ⟨i, hi, rfl⟩ := List.mem_map.1 hz
      exact (hq i (List.mem_range.1 hi)).2
end

theorem info_of {P : Program} {e : TypeId} {z : Value} {n b : Nat} (h : (P.info? e).map (fun i => (i.zero, i.size, i.bytes)) = some (some z, n, b)) : ∃ i, P.info? e = some i ∧ i.zero = some z ∧ i.size = n ∧ i.bytes = b := by
  match hi : P.info? e, h with
  | some i, h => simp at h; exact ⟨i, rfl, h.1, h.2.1, h.2.2⟩
  | none, h => simp at h

theorem made_ints (z : Value) (K : Nat) (hz : ∀ j, j < K → z.cells[j]? = some (.int .i64 0)) (hs : z.cells.size = K) (hK : 0 < K) (n : Nat) : (madeCells z.cells (n * K)).toList = List.replicate (n * K) (.int .i64 0) := by
  apply List.ext_getElem?
  intro j
  rw [Array.getElem?_toList, List.getElem?_replicate]
  simp only [madeCells]
  by_cases h : j < n * K
  · have hm : j % K < K := Nat.mod_lt _ hK
    have := hz _ hm
    simp [h, hs]
    rw [getElem!_def, this]
  · simp [h]

theorem owns_below {w w' : World} {base : Nat} {e : TypeId} {size : Nat} {v : Value} {n : Nat} {xs : List Value} (h : w.ownsRow base e size v n xs) (hb : Below w.heap.size w w') : w'.ownsRow base e size v n xs := by
  refine ⟨h.1, h.2.imp id fun ⟨g, cap, cur, e1, e2, e3, e4⟩ => ⟨g, cap, cur, e1, e2, (hb.block g ?_).trans e3, e4⟩⟩
  exact (Array.getElem?_eq_some_iff.1 e3).1

/-- m numbers from k on. -/
def mk (k m : Nat) : List Value := (List.range m).map fun j : Nat => .int .i64 ((k : Int) + (j : Int))
theorem mk_len (k m : Nat) : (mk k m).length = m := by simp [mk]
theorem mk_get {k m j : Nat} (h : j < m) : (mk k m)[j]? = some (.int .i64 ((k : Int) + (j : Int))) := by
  unfold mk; rw [List.getElem?_map, List.getElem?_range h]; rfl
/-- Cells of which the first m are numbers from k on, the others as they were. -/
def marked (k m : Nat) (xs : List Value) : List Value := mk k m ++ xs.drop m
theorem marked_zero (k : Nat) (xs : List Value) : marked k 0 xs = xs := by simp [marked, mk]
theorem marked_all {k m : Nat} {xs : List Value} (h : xs.length ≤ m) : marked k m xs = mk k m := by simp [marked, List.drop_eq_nil_of_le h]
theorem marked_get {k m : Nat} {xs : List Value} {v : Value} (h : xs[m]? = some v) : (marked k m xs)[m]? = some v := by
  unfold marked; rw [List.getElem?_append_right (by rw [mk_len]; exact Nat.le_refl _), mk_len, Nat.sub_self, List.getElem?_drop, Nat.add_zero]; exact h
theorem marked_set {k m : Nat} {xs : List Value} (h : m < xs.length) : (marked k m xs).set m (.int .i64 ((k : Int) + (m : Int))) = marked k (m + 1) xs := by
  unfold marked
  rw [List.set_append_right _ _ (by rw [mk_len]; exact Nat.le_refl _), mk_len, Nat.sub_self, List.drop_eq_getElem_cons h, List.set_cons_zero]
  unfold mk
  rw [List.range_succ, List.map_append, List.append_assoc]
  rfl

theorem owns_grown {w w' : World} {base : Nat} {e : TypeId} {size : Nat} {v : Value} {n : Nat} {xs : List Value} {r : Option Nat} (h : w.ownsRow base e size v n xs) (hg : w.grownBy w' r) (hr : ∀ k, v.ownBlock = some k → r ≠ some k) : w'.ownsRow base e size v n xs := by
  refine ⟨h.1, h.2.imp id fun ⟨g, cap, cur, e1, e2, e3, e4⟩ => ⟨g, cap, cur, e1, e2, ?_, e4⟩⟩
  rw [hg.block g (Array.getElem?_eq_some_iff.1 e3).1 (fun k => hr g (by rw [e1]; rfl) k.symm)]
  exact e3
theorem owns_base {w : World} {base base' : Nat} {e : TypeId} {size g n c : Nat} {xs : List Value} (h : w.ownsRow base e size (.slice (some ⟨g, 0, none⟩) n c) n xs) (hg : base' ≤ g) : w.ownsRow base' e size (.slice (some ⟨g, 0, none⟩) n c) n xs := by
  refine ⟨h.1, h.2.imp id fun ⟨g', cap, cur, e1, e2, e3, e4⟩ => ⟨g', cap, cur, e1, ?_, e3, e4⟩⟩
  injection e1 with e1; injection e1 with e1; injection e1 with e1
  omega
theorem rd_grown {w w' : World} {B : Nat} {A : Option Addr} {xs : List Value} {r : Option Nat} (h : Rd w B A xs) (hg : w.grownBy w' r) (hB : B ≤ w.heap.size) (hr : ∀ k, r = some k → B ≤ k) : Rd w' B A xs :=
  h.below ((Below.refl _ _).grown hg hB hr)
theorem grown_trans {a b c : World} {row : Option Nat} (h : a.grownBy b row) (k : b.grownBy c row) : a.grownBy c row :=
  ⟨k.os.trans h.os, k.tape.trans h.tape, k.output.trans h.output, Nat.le_trans h.size k.size, fun j hj hr => (k.block j (Nat.lt_of_lt_of_le hj h.size) hr).trans (h.block j hj hr)⟩
theorem grown_refl (w : World) (r : Option Nat) : w.grownBy w r := ⟨rfl, rfl, rfl, Nat.le_refl _, fun _ _ _ => rfl⟩

end Go.Proofs.Ytokncfhpmjohdae.Rw
namespace Go.Proofs.Ytokncfhpmjohdae.Str
open Go.RowKit Go.ChangeShapes Go.WideShapes Go.WideElems Go.Joins Go.Deep

/-- A place's value. -/
def pv (x y : Int) : Value := .agg #[.int .i64 x, .int .i64 y]
/-- A box's value. -/
def bv (x y z u : Int) : Value := .agg #[.int .i64 x, .int .i64 y, .int .i64 z, .int .i64 u]

section
variable {H : Type} {enc : TypeId × Value → H} {P : Program}

theorem take_place {W : World} {r : Reach} {b0 : Nat} {t : TypeId} {f0 f1 : Field} {v : Value} {d : DataW H} {ps : List MemPlace} (hs : P.underlying t = some (.struct #[f0, f1])) (hone : oneCellFields P #[f0, f1] = true) (hC : P.cellsOf t = 2)
    (h0 : P.underlying f0.type = some (.int .i64)) (h1 : P.underlying f1.type = some (.int .i64))
    (hval : Value.okWide P W r b0 t v) (h : DataW.Trod enc P W 0 (fun _ => true) true t v d ps) :
    ∃ x y, v = pv x y ∧ (Lit.int .i64 x).wf = true ∧ (Lit.int .i64 y).wf = true := by
  obtain ⟨v0, v1, y0, y1, n, rfl, _, _, g0, g1⟩ := open_agg2 hs hone hC hval h
  obtain ⟨x, e0, _, w0⟩ := DataW.trod_int h0 g0
  obtain ⟨y, e1, _, w1⟩ := DataW.trod_int h1 g1
  injection e0 with e0
  injection e1 with e1
  subst e0 e1
  exact ⟨x, y, rfl, w0, w1⟩

theorem take_box {W : World} {r : Reach} {b0 : Nat} {t e : TypeId} {g0 g1 f0 f1 : Field} {v : Value} {d : DataW H} {ps : List MemPlace} (ht : P.underlying t = some (.struct #[g0, g1])) (hC : P.cellsOf t = 4)
    (hg0 : g0.type = e) (hg1 : g1.type = e) (o0 : g0.offset = 0) (o1 : g1.offset = 2)
    (hs : P.underlying e = some (.struct #[f0, f1])) (hone : oneCellFields P #[f0, f1] = true) (hE : P.cellsOf e = 2)
    (h0 : P.underlying f0.type = some (.int .i64)) (h1 : P.underlying f1.type = some (.int .i64))
    (hval : Value.okWide P W r b0 t v) (h : DataW.Trod enc P W 0 (fun _ => true) true t v d ps) :
    ∃ x y z u, v = bv x y z u ∧ (Lit.int .i64 x).wf = true ∧ (Lit.int .i64 y).wf = true ∧ (Lit.int .i64 z).wf = true ∧ (Lit.int .i64 u).wf = true := by
  obtain ⟨cs, rfl, hsz⟩ := okWide_struct ht hval
  obtain ⟨c0, c1, c2, c3, rfl⟩ := array4 (hsz.trans hC)
  obtain ⟨fuel, hf⟩ := h
  obtain ⟨y0, y1, n, _, _, k0, k1⟩ := trod_struct2 ht hf
  rw [hg0, o0, hE] at k0
  rw [hg1, o1, hE] at k1
  simp [Value.cells] at k0 k1
  obtain ⟨p0, k⟩ := hone_of hone 0 f0 rfl
  obtain ⟨p1, k'⟩ := hone_of hone 1 f1 rfl
  obtain ⟨a0, a1, m, _, _, l0, l1⟩ := trod_struct2 hs k0
  obtain ⟨b0, b1, m', _, _, l2, l3⟩ := trod_struct2 hs k1
  rw [p0, k] at l0 l2
  rw [p1, k'] at l1 l3
  simp at l0 l1 l2 l3
  obtain ⟨x, e0, _, w0⟩ := DataW.trod_int h0 l0
  obtain ⟨y, e1, _, w1⟩ := DataW.trod_int h1 l1
  obtain ⟨z, e2, _, w2⟩ := DataW.trod_int h0 l2
  obtain ⟨u, e3, _, w3⟩ := DataW.trod_int h1 l3
  injection e0 with e0
  injection e1 with e1
  injection e2 with e2
  injection e3 with e3
  subst e0 e1 e2 e3
  exact ⟨x, y, z, u, rfl, w0, w1, w2, w3⟩
end
end Go.Proofs.Ytokncfhpmjohdae.Str
namespace Go.Proofs.Ytokncfhpmjohdae.Dd
open Go.RowKit Go.ChangeShapes Go.WideShapes Go.WideElems Go.Joins Go.Deep Go.Proofs.Ytokncfhpmjohdae.Mem Go.Proofs.Ytokncfhpmjohdae.Rw
set_option linter.unusedVariables false
set_option linter.unusedSimpArgs false

/-- A device. -/
structure D where
  nm : ByteArray
  kd : Int
  ln : ByteArray
  x : Int
  y : Int
  hd : Int
  tl : Int
  ms : Int
instance : Inhabited D := ⟨⟨ByteArray.empty, 0, ByteArray.empty, 0, 0, 0, 0, 0⟩⟩
/-- The cells of a device. -/
abbrev cl (n : ByteArray) (k : Int) (l : ByteArray) (x y h t m : Int) : List Value := [.string n, .int .i64 k, .string l, .int .i64 x, .int .i64 y, .int .i64 h, .int .i64 t, .int .i64 m]
abbrev ca (n : ByteArray) (k : Int) (l : ByteArray) (x y h t m : Int) : Array Value := #[.string n, .int .i64 k, .string l, .int .i64 x, .int .i64 y, .int .i64 h, .int .i64 t, .int .i64 m]
/-- A device's value. -/
abbrev va (n : ByteArray) (k : Int) (l : ByteArray) (x y h t m : Int) : Value := .agg #[.string n, .int .i64 k, .string l, .int .i64 x, .int .i64 y, .int .i64 h, .int .i64 t, .int .i64 m]
def dc (d : D) : List Value := cl d.nm d.kd d.ln d.x d.y d.hd d.tl d.ms
theorem dc_len (d : D) : (dc d).length = 8 := rfl
def dls (zs : List D) : List Value := zs.flatMap dc
theorem dls_len (zs : List D) : (dls zs).length = zs.length * 8 := flat_len dc_len zs
theorem dls_get {zs : List D} {k : Nat} {n : ByteArray} {q : Int} {l : ByteArray} {x y h t m : Int} (hz : zs[k]? = some ⟨n, q, l, x, y, h, t, m⟩) :
    (dls zs)[k * 8]? = some (.string n) ∧ (dls zs)[k * 8 + 1]? = some (.int .i64 q) ∧ (dls zs)[k * 8 + 2]? = some (.string l) ∧ (dls zs)[k * 8 + 3]? = some (.int .i64 x) ∧ (dls zs)[k * 8 + 4]? = some (.int .i64 y) ∧ (dls zs)[k * 8 + 5]? = some (.int .i64 h) ∧ (dls zs)[k * 8 + 6]? = some (.int .i64 t) ∧ (dls zs)[k * 8 + 7]? = some (.int .i64 m) :=
  ⟨(flat_get dc_len hz 0 (by omega)).trans rfl, (flat_get dc_len hz 1 (by omega)).trans rfl, (flat_get dc_len hz 2 (by omega)).trans rfl, (flat_get dc_len hz 3 (by omega)).trans rfl, (flat_get dc_len hz 4 (by omega)).trans rfl, (flat_get dc_len hz 5 (by omega)).trans rfl, (flat_get dc_len hz 6 (by omega)).trans rfl, (flat_get dc_len hz 7 (by omega)).trans rfl⟩
theorem dls_snoc (zs : List D) (z : D) : dls zs ++ dc z = dls (zs ++ [z]) := (flat_snoc zs z).symm

/-- What a device that came in is within. -/
def Dok (d : D) : Prop := d.nm.size ≤ maxLen ∧ d.ln.size ≤ maxLen ∧ (Lit.int .i64 d.kd).wf = true ∧ (Lit.int .i64 d.x).wf = true ∧ (Lit.int .i64 d.y).wf = true ∧ (Lit.int .i64 d.hd).wf = true ∧ (Lit.int .i64 d.tl).wf = true ∧ (Lit.int .i64 d.ms).wf = true

theorem array8 {cs : List Value} (h : cs.length = 8) : ∃ a b c d e f g i, cs = [a, b, c, d, e, f, g, i] := by
  match cs, h with
  | [a, b, c, d, e, f, g, i], _ => exact ⟨a, b, c, d, e, f, g, i, rfl⟩

section
variable {H : Type} {enc : TypeId × Value → H} {P : Program}
theorem read_device {W : World} {t p : TypeId} {f0 f1 f2 f3 f4 f5 f6 g0 g1 : Field} (ht : P.underlying t = some (.struct #[f0, f1, f2, f3, f4, f5, f6]))
    (o0 : f0.offset = 0) (o1 : f1.offset = 1) (o2 : f2.offset = 2) (o3 : f3.offset = 3) (o4 : f4.offset = 5) (o5 : f5.offset = 6) (o6 : f6.offset = 7)
    (c0 : P.cellsOf f0.type = 1) (c1 : P.cellsOf f1.type = 1) (c2 : P.cellsOf f2.type = 1) (c4 : P.cellsOf f4.type = 1) (c5 : P.cellsOf f5.type = 1) (c6 : P.cellsOf f6.type = 1)
    (i0 : P.underlying f0.type = some .string) (i1 : P.underlying f1.type = some (.int .i64)) (i2 : P.underlying f2.type = some .string) (i3 : f3.type = p) (i4 : P.underlying f4.type = some (.int .i64)) (i5 : P.underlying f5.type = some (.int .i64)) (i6 : P.underlying f6.type = some (.int .i64))
    (hp : P.underlying p = some (.struct #[g0, g1])) (cp : P.cellsOf p = 2) (q0 : g0.offset = 0) (q1 : g1.offset = 1) (d0 : P.cellsOf g0.type = 1) (d1 : P.cellsOf g1.type = 1)
    (e0 : P.underlying g0.type = some (.int .i64)) (e1 : P.underlying g1.type = some (.int .i64))
    {fuel : Nat} {cs : List Value} {x : DataW H × List MemPlace} (hx : DataW.trod enc P W 0 (fun _ => true) true fuel t cs = some x) (hl : cs.length = 8) : ∃ d, cs = dc d ∧ Dok d := by
  obtain ⟨a0, a1, a2, a3, a4, a5, a6, a7, rfl⟩ := array8 hl
  obtain ⟨ys, n, _, _, _, _, hf⟩ := DataW.trod_struct ht hx
  have k0 := hf 0 f0 rfl
  have k1 := hf 1 f1 rfl
  have k2 := hf 2 f2 rfl
  have k3 := hf 3 f3 rfl
  have k4 := hf 4 f4 rfl
  have k5 := hf 5 f5 rfl
  have k6 := hf 6 f6 rfl
  have hy : ys.length = 7 := by assumption
  obtain ⟨y0, h0⟩ : ∃ y, ys[0]? = some y := ⟨_, List.getElem?_eq_getElem (by omega)⟩
  obtain ⟨y1, h1⟩ : ∃ y, ys[1]? = some y := ⟨_, List.getElem?_eq_getElem (by omega)⟩
  obtain ⟨y2, h2⟩ : ∃ y, ys[2]? = some y := ⟨_, List.getElem?_eq_getElem (by omega)⟩
  obtain ⟨y3, h3⟩ : ∃ y, ys[3]? = some y := ⟨_, List.getElem?_eq_getElem (by omega)⟩
  obtain ⟨y4, h4⟩ : ∃ y, ys[4]? = some y := ⟨_, List.getElem?_eq_getElem (by omega)⟩
  obtain ⟨y5, h5⟩ : ∃ y, ys[5]? = some y := ⟨_, List.getElem?_eq_getElem (by omega)⟩
  obtain ⟨y6, h6⟩ : ∃ y, ys[6]? = some y := ⟨_, List.getElem?_eq_getElem (by omega)⟩
  rw [o0, c0, h0] at k0
  rw [o1, c1, h1] at k1
  rw [o2, c2, h2] at k2
  rw [o3, i3, cp, h3] at k3
  rw [o4, c4, h4] at k4
  rw [o5, c5, h5] at k5
  rw [o6, c6, h6] at k6
  simp at k0 k1 k2 k3 k4 k5 k6
  obtain ⟨z0, z1, m, _, _, l0, l1⟩ := trod_struct2 hp k3
  rw [q0, d0] at l0
  rw [q1, d1] at l1
  simp at l0 l1
  obtain ⟨s0, r0, _, w0⟩ := DataW.trod_string i0 k0
  obtain ⟨s1, r1, _, w1⟩ := DataW.trod_int i1 k1
  obtain ⟨s2, r2, _, w2⟩ := DataW.trod_string i2 k2
  obtain ⟨s3, r3, _, w3⟩ := DataW.trod_int e0 l0
  obtain ⟨s4, r4, _, w4⟩ := DataW.trod_int e1 l1
  obtain ⟨s5, r5, _, w5⟩ := DataW.trod_int i4 k4
  obtain ⟨s6, r6, _, w6⟩ := DataW.trod_int i5 k5
  obtain ⟨s7, r7, _, w7⟩ := DataW.trod_int i6 k6
  injection r0 with r0
  injection r1 with r1
  injection r2 with r2
  injection r3 with r3
  injection r4 with r4
  injection r5 with r5
  injection r6 with r6
  injection r7 with r7
  subst r0 r1 r2 r3 r4 r5 r6 r7
  exact ⟨⟨s0, s1, s2, s3, s4, s5, s6, s7⟩, rfl, w0, w2, w1, w3, w4, w5, w6, w7⟩
end

section
variable {H : Type} {enc : TypeId × Value → H} {P : Program}
/-- An argument that is a device. -/
theorem take_device {W : World} {r : Reach} {b0 : Nat} {t : TypeId} {fs : Array Field} {v : Value} {d : DataW H} {ps : List MemPlace} (ht : P.underlying t = some (.struct fs)) (hC : P.cellsOf t = 8)
    (hread : ∀ fuel cs x, DataW.trod enc P W 0 (fun _ => true) true fuel t cs = some x → cs.length = 8 → ∃ d, cs = dc d ∧ Dok d)
    (hval : Value.okWide P W r b0 t v) (h : DataW.Trod enc P W 0 (fun _ => true) true t v d ps) :
    ∃ d : D, v = va d.nm d.kd d.ln d.x d.y d.hd d.tl d.ms ∧ Dok d := by
  obtain ⟨cs, rfl, hsz⟩ := okWide_struct ht hval
  obtain ⟨fuel, hf⟩ := h
  obtain ⟨d, hd, hk⟩ := hread _ _ _ hf (by simpa [Value.cells] using hsz.trans hC)
  refine ⟨d, ?_, hk⟩
  obtain ⟨l⟩ := cs
  have : l = dc d := by simpa [Value.cells] using hd
  subst this
  rfl
/-- An argument that is a list of devices. -/
theorem take_devices {W : World} {r : Reach} {b0 : Nat} {t e : TypeId} {v : Value} {d : DataW H} {ps : List MemPlace} (ht : P.underlying t = some (.slice e)) (ce : P.cellsOf e = 8)
    (hread : ∀ fuel cs x, DataW.trod enc P W 0 (fun _ => true) true fuel e cs = some x → cs.length = 8 → ∃ d, cs = dc d ∧ Dok d)
    (hval : Value.okWide P W r b0 t v) (h : DataW.Trod enc P W 0 (fun _ => true) true t v d ps) :
    ∃ (A : Option Addr) (n c : Nat) (zs : List D), v = .slice A n c ∧ zs.length = n ∧ n ≤ maxLen ∧ Rd W W.heap.size A (dls zs) ∧ ∀ z ∈ zs, Dok z :=
  take_rows (K := 8) (cells := dc) Dok dc_len (by omega) ht ce hread hval h
end
end Go.Proofs.Ytokncfhpmjohdae.Dd
namespace Go.Proofs.Ytokncfhpmjohdae.Cd
open Go.RowKit Go.ChangeShapes Go.WideShapes Go.WideElems Go.Joins Go.Deep Go.Proofs.Ytokncfhpmjohdae.Mem Go.Proofs.Ytokncfhpmjohdae.Rw
set_option linter.unusedVariables false
set_option linter.unusedSimpArgs false

/-- A cue. -/
structure C where
  tk : Int
  nm : ByteArray
  lv : Int
  rp : Int
instance : Inhabited C := ⟨⟨0, ByteArray.empty, 0, 0⟩⟩
/-- The cells of a cue. -/
abbrev cl (t : Int) (n : ByteArray) (l r : Int) : List Value := [.int .i64 t, .string n, .int .i64 l, .int .i64 r]
abbrev ca (t : Int) (n : ByteArray) (l r : Int) : Array Value := #[.int .i64 t, .string n, .int .i64 l, .int .i64 r]
/-- A cue's value. -/
abbrev va (t : Int) (n : ByteArray) (l r : Int) : Value := .agg #[.int .i64 t, .string n, .int .i64 l, .int .i64 r]
def dc (d : C) : List Value := cl d.tk d.nm d.lv d.rp
theorem dc_len (d : C) : (dc d).length = 4 := rfl
def dls (zs : List C) : List Value := zs.flatMap dc
theorem dls_len (zs : List C) : (dls zs).length = zs.length * 4 := flat_len dc_len zs
theorem dls_get {zs : List C} {k : Nat} {t : Int} {n : ByteArray} {l r : Int} (hz : zs[k]? = some ⟨t, n, l, r⟩) :
    (dls zs)[k * 4]? = some (.int .i64 t) ∧ (dls zs)[k * 4 + 1]? = some (.string n) ∧ (dls zs)[k * 4 + 2]? = some (.int .i64 l) ∧ (dls zs)[k * 4 + 3]? = some (.int .i64 r) :=
  ⟨(flat_get dc_len hz 0 (by omega)).trans rfl, (flat_get dc_len hz 1 (by omega)).trans rfl, (flat_get dc_len hz 2 (by omega)).trans rfl, (flat_get dc_len hz 3 (by omega)).trans rfl⟩
theorem dls_snoc (zs : List C) (z : C) : dls zs ++ dc z = dls (zs ++ [z]) := (flat_snoc zs z).symm

/-- What a cue that came in is within. -/
def Dok (d : C) : Prop := d.nm.size ≤ maxLen ∧ (Lit.int .i64 d.tk).wf = true ∧ (Lit.int .i64 d.lv).wf = true ∧ (Lit.int .i64 d.rp).wf = true

theorem array4 {cs : List Value} (h : cs.length = 4) : ∃ a b c d, cs = [a, b, c, d] := by
  match cs, h with
  | [a, b, c, d], _ => exact ⟨a, b, c, d, rfl⟩

section
variable {H : Type} {enc : TypeId × Value → H} {P : Program}
theorem read_cue {W : World} {t : TypeId} {f0 f1 f2 f3 : Field} (ht : P.underlying t = some (.struct #[f0, f1, f2, f3]))
    (o0 : f0.offset = 0) (o1 : f1.offset = 1) (o2 : f2.offset = 2) (o3 : f3.offset = 3)
    (c0 : P.cellsOf f0.type = 1) (c1 : P.cellsOf f1.type = 1) (c2 : P.cellsOf f2.type = 1) (c3 : P.cellsOf f3.type = 1)
    (i0 : P.underlying f0.type = some (.int .i64)) (i1 : P.underlying f1.type = some .string) (i2 : P.underlying f2.type = some (.int .i64)) (i3 : P.underlying f3.type = some (.int .i64))
    {fuel : Nat} {cs : List Value} {x : DataW H × List MemPlace} (hx : DataW.trod enc P W 0 (fun _ => true) true fuel t cs = some x) (hl : cs.length = 4) : ∃ d, cs = dc d ∧ Dok d := by
  obtain ⟨a0, a1, a2, a3, rfl⟩ := array4 hl
  obtain ⟨ys, n, _, _, _, _, hf⟩ := DataW.trod_struct ht hx
  have k0 := hf 0 f0 rfl
  have k1 := hf 1 f1 rfl
  have k2 := hf 2 f2 rfl
  have k3 := hf 3 f3 rfl
  have hy : ys.length = 4 := by assumption
  obtain ⟨y0, h0⟩ : ∃ y, ys[0]? = some y := ⟨_, List.getElem?_eq_getElem (by omega)⟩
  obtain ⟨y1, h1⟩ : ∃ y, ys[1]? = some y := ⟨_, List.getElem?_eq_getElem (by omega)⟩
  obtain ⟨y2, h2⟩ : ∃ y, ys[2]? = some y := ⟨_, List.getElem?_eq_getElem (by omega)⟩
  obtain ⟨y3, h3⟩ : ∃ y, ys[3]? = some y := ⟨_, List.getElem?_eq_getElem (by omega)⟩
  rw [o0, c0, h0] at k0
  rw [o1, c1, h1] at k1
  rw [o2, c2, h2] at k2
  rw [o3, c3, h3] at k3
  simp at k0 k1 k2 k3
  obtain ⟨s0, r0, _, w0⟩ := DataW.trod_int i0 k0
  obtain ⟨s1, r1, _, w1⟩ := DataW.trod_string i1 k1
  obtain ⟨s2, r2, _, w2⟩ := DataW.trod_int i2 k2
  obtain ⟨s3, r3, _, w3⟩ := DataW.trod_int i3 k3
  injection r0 with r0
  injection r1 with r1
  injection r2 with r2
  injection r3 with r3
  subst r0 r1 r2 r3
  exact ⟨⟨s0, s1, s2, s3⟩, rfl, w1, w0, w2, w3⟩
/-- An argument that is a cue. -/
theorem take_cue {W : World} {r : Reach} {b0 : Nat} {t : TypeId} {fs : Array Field} {v : Value} {d : DataW H} {ps : List MemPlace} (ht : P.underlying t = some (.struct fs)) (hC : P.cellsOf t = 4)
    (hread : ∀ fuel cs x, DataW.trod enc P W 0 (fun _ => true) true fuel t cs = some x → cs.length = 4 → ∃ d, cs = dc d ∧ Dok d)
    (hval : Value.okWide P W r b0 t v) (h : DataW.Trod enc P W 0 (fun _ => true) true t v d ps) :
    ∃ d : C, v = va d.tk d.nm d.lv d.rp ∧ Dok d := by
  obtain ⟨cs, rfl, hsz⟩ := okWide_struct ht hval
  obtain ⟨fuel, hf⟩ := h
  obtain ⟨d, hd, hk⟩ := hread _ _ _ hf (by simpa [Value.cells] using hsz.trans hC)
  refine ⟨d, ?_, hk⟩
  obtain ⟨l⟩ := cs
  have : l = dc d := by simpa [Value.cells] using hd
  subst this
  rfl
/-- An argument that is a list of cues. -/
theorem take_cues {W : World} {r : Reach} {b0 : Nat} {t e : TypeId} {v : Value} {d : DataW H} {ps : List MemPlace} (ht : P.underlying t = some (.slice e)) (ce : P.cellsOf e = 4)
    (hread : ∀ fuel cs x, DataW.trod enc P W 0 (fun _ => true) true fuel e cs = some x → cs.length = 4 → ∃ d, cs = dc d ∧ Dok d)
    (hval : Value.okWide P W r b0 t v) (h : DataW.Trod enc P W 0 (fun _ => true) true t v d ps) :
    ∃ (A : Option Addr) (n c : Nat) (zs : List C), v = .slice A n c ∧ zs.length = n ∧ n ≤ maxLen ∧ Rd W W.heap.size A (dls zs) ∧ ∀ z ∈ zs, Dok z :=
  take_rows (K := 4) (cells := dc) Dok dc_len (by omega) ht ce hread hval h
end
end Go.Proofs.Ytokncfhpmjohdae.Cd
