/- Lists of records: how their cells lie one behind the other, and a slice of records that came in. -/
import Derived.Test.YtejeikfgmiadhabMem
import Derived.Deep.Slices
import Derived.Deep.SlicePairs
set_option linter.unusedVariables false
set_option linter.unusedSimpArgs false
namespace Go.Proofs.Ytejeikfgmiadhab.Rw
open Go.RowKit Go.ChangeShapes Go.WideShapes Go.WideElems Go.Deep Go.Proofs.Ytejeikfgmiadhab.Mem
set_option linter.unusedVariables false

section
variable {G : Type} {cells : G → List Value} {K : Nat}
theorem flat_len (hl : ∀ g, (cells g).length = K) : ∀ zs : List G, (zs.flatMap cells).length = zs.length * K
  | [] => by simp
  | z :: zs => by rw [List.flatMap_cons, List.length_append, hl, flat_len hl zs, List.length_cons, Nat.add_mul]; omega
theorem flat_get (hl : ∀ g, (cells g).length = K) : ∀ {zs : List G} {k : Nat} {z : G}, zs[k]? = some z → ∀ j, j < K → (zs.flatMap cells)[k * K + j]? = (cells z)[j]?
  | [], _, _, h, _, _ => by simp at h
  | q :: zs, 0, z, h, j, hj => by
    simp at h; subst h
    rw [List.flatMap_cons, Nat.zero_mul, Nat.zero_add, List.getElem?_append_left (by rw [hl]; exact hj)]
  | q :: zs, k + 1, z, h, j, hj => by
    have := flat_get hl (zs := zs) (k := k) (z := z) (by simpa using h) j hj
    rw [List.flatMap_cons, List.getElem?_append_right (by rw [hl, Nat.add_mul]; omega), hl, show (k + 1) * K + j - K = k * K + j by rw [Nat.add_mul]; omega]
    exact this
theorem flat_snoc (zs : List G) (z : G) : (zs ++ [z]).flatMap cells = zs.flatMap cells ++ cells z := by simp

variable {H : Type} {enc : TypeId × Value → H} {P : Program}
/-- A slice of records that came in. -/
theorem take_rows {W : World} {r : Reach} {b0 : Nat} {t e : TypeId} {v : Value} {d : DataW H} {ps : List MemPlace} [Inhabited G] (good : G → Prop) (hl : ∀ g, (cells g).length = K) (hK : 0 < K)
    (ht : P.underlying t = some (.slice e)) (ce : P.cellsOf e = K)
    (hel : ∀ fuel cs x, DataW.trod enc P W 0 (fun _ => true) true fuel e cs = some x → cs.length = K → ∃ g, cs = cells g ∧ good g)
    (hval : Value.okWide P W r b0 t v) (h : DataW.Trod enc P W 0 (fun _ => true) true t v d ps) :
    ∃ (A : Option Addr) (n c : Nat) (zs : List G), v = .slice A n c ∧ zs.length = n ∧ n ≤ maxLen ∧ Rd W W.heap.size A (zs.flatMap cells) ∧ ∀ z ∈ zs, good z := by
  obtain ⟨a0, len, cap, rfl⟩ := okWide_slice ht hval
  obtain ⟨fuel, hf⟩ := h
  rcases open_slice ht hf with ⟨hcs, _⟩ | ⟨a, len', cap', m, n, D, Pl, hcs, _, hlc, hm, hmm, _, hx⟩
  · simp [Value.cells] at hcs
    obtain ⟨rfl, rfl, rfl⟩ := hcs
    exact ⟨none, 0, 0, [], rfl, rfl, Nat.zero_le _, Rd.nil _ _ _, fun _ h => by cases h⟩
  · simp [Value.cells] at hcs
    obtain ⟨rfl, rfl, rfl⟩ := hcs
    simp only [if_true] at hmm
    subst hmm
    have each : ∀ i, i < len → ∃ g : G, (∀ j, j < K → W.cell? (a.add (i * K + j)) = (cells g)[j]?) ∧ good g := by
      intro i hi
      obtain ⟨cs', h1, h2⟩ := hx i (by omega)
      rw [ce] at h1
      obtain ⟨_, hlen, hcell⟩ := World.cells?_some h1
      obtain ⟨g, rfl, hg⟩ := hel _ _ _ h2 hlen
      refine ⟨g, fun j hj => ?_, hg⟩
      rw [← add_add]; exact hcell j hj
    obtain ⟨q, hq⟩ := choose_lt each
    refine ⟨some a, len, _, (List.range len).map q, rfl, by simp, by omega, ?_, ?_⟩
    · by_cases hz : len = 0
      · subst hz; exact Or.inl rfl
      · obtain ⟨b, o, spot⟩ := a
        have hk0 : (cells (q 0))[0]? = some ((cells (q 0))[0]'(by rw [hl]; exact hK)) := List.getElem?_eq_getElem _
        have c00 := ((hq 0 (by omega)).1 0 hK).trans hk0
        have hspot : spot = none := by simpa [Addr.add] using World.cell?_spot c00
        subst hspot
        have hb := World.block_lt_of_cell? W _ c00
        refine Or.inr ⟨b, o, rfl, by simpa [Addr.add] using hb, fun j v hv => ?_⟩
        have hj : j < (((List.range len).map q).flatMap cells).length := (List.getElem?_eq_some_iff.1 hv).1
        rw [flat_len hl] at hj
        simp only [List.length_map, List.length_range] at hj
        have hi : j / K < len := Nat.div_lt_of_lt_mul (by rw [Nat.mul_comm]; exact hj)
        have hr : j % K < K := Nat.mod_lt _ hK
        have hg := flat_get hl (zs := (List.range len).map q) (k := j / K) (z := q (j / K)) (by simp [hi]) (j % K) hr
        have k0 := (hq (j / K) hi).1 (j % K) hr
        have ej : j / K * K + j % K = j := by rw [Nat.mul_comm]; exact Nat.div_add_mod j K
        rw [ej] at hg k0
        rw [hv] at hg
        rw [← hg] at k0
        rw [← add_plain]; exact k0
    · intro z hz
      obtain ⟨i, hi, rfl⟩ := List.mem_map.1 hz
      exact (hq i (List.mem_range.1 hi)).2
end

theorem info_of {P : Program} {e : TypeId} {z : Value} {n b : Nat} (h : (P.info? e).map (fun i => (i.zero, i.size, i.bytes)) = some (some z, n, b)) : ∃ i, P.info? e = some i ∧ i.zero = some z ∧ i.size = n ∧ i.bytes = b := by
  match hi : P.info? e, h with
  | some i, h => simp at h; exact ⟨i, rfl, h.1, h.2.1, h.2.2⟩
  | none, h => simp at h

theorem made_ints (z : Value) (K : Nat) (hz : ∀ j, j < K → z.cells[j]? = some (.int .i64 0)) (hs : z.cells.size = K) (hK : 0 < K) (n : Nat) : (madeCells z.cells (n * K)).toList = List.replicate (n * K) (.int .i64 0) := by
  apply List.ext_getElem?
  intro j
  rw [Array.getElem?_toList, List.getElem?_replicate]
  simp only [madeCells]
  by_cases h : j < n * K
  · have hm : j % K < K := Nat.mod_lt _ hK
    have := hz _ hm
    simp [h, hs]
    rw [getElem!_def, this]
  · simp [h]

theorem owns_below {w w' : World} {base : Nat} {e : TypeId} {size : Nat} {v : Value} {n : Nat} {xs : List Value} (h : w.ownsRow base e size v n xs) (hb : Below w.heap.size w w') : w'.ownsRow base e size v n xs := by
  refine ⟨h.1, h.2.imp id fun ⟨g, cap, cur, e1, e2, e3, e4⟩ => ⟨g, cap, cur, e1, e2, (hb.block g ?_).trans e3, e4⟩⟩
  exact (Array.getElem?_eq_some_iff.1 e3).1

/-- m numbers from k on. -/
def mk (k m : Nat) : List Value := (List.range m).map fun j : Nat => .int .i64 ((k : Int) + (j : Int))
theorem mk_len (k m : Nat) : (mk k m).length = m := by simp [mk]
theorem mk_get {k m j : Nat} (h : j < m) : (mk k m)[j]? = some (.int .i64 ((k : Int) + (j : Int))) := by
  unfold mk; rw [List.getElem?_map, List.getElem?_range h]; rfl
/-- Cells of which the first m are numbers from k on, the others as they were. -/
def marked (k m : Nat) (xs : List Value) : List Value := mk k m ++ xs.drop m
theorem marked_zero (k : Nat) (xs : List Value) : marked k 0 xs = xs := by simp [marked, mk]
theorem marked_all {k m : Nat} {xs : List Value} (h : xs.length ≤ m) : marked k m xs = mk k m := by simp [marked, List.drop_eq_nil_of_le h]
theorem marked_get {k m : Nat} {xs : List Value} {v : Value} (h : xs[m]? = some v) : (marked k m xs)[m]? = some v := by
  unfold marked; rw [List.getElem?_append_right (by rw [mk_len]; exact Nat.le_refl _), mk_len, Nat.sub_self, List.getElem?_drop, Nat.add_zero]; exact h
theorem marked_set {k m : Nat} {xs : List Value} (h : m < xs.length) : (marked k m xs).set m (.int .i64 ((k : Int) + (m : Int))) = marked k (m + 1) xs := by
  unfold marked
  rw [List.set_append_right _ _ (by rw [mk_len]; exact Nat.le_refl _), mk_len, Nat.sub_self, List.drop_eq_getElem_cons h, List.set_cons_zero]
  unfold mk
  rw [List.range_succ, List.map_append, List.append_assoc]
  rfl

theorem owns_grown {w w' : World} {base : Nat} {e : TypeId} {size : Nat} {v : Value} {n : Nat} {xs : List Value} {r : Option Nat} (h : w.ownsRow base e size v n xs) (hg : w.grownBy w' r) (hr : ∀ k, v.ownBlock = some k → r ≠ some k) : w'.ownsRow base e size v n xs := by
  refine ⟨h.1, h.2.imp id fun ⟨g, cap, cur, e1, e2, e3, e4⟩ => ⟨g, cap, cur, e1, e2, ?_, e4⟩⟩
  rw [hg.block g (Array.getElem?_eq_some_iff.1 e3).1 (fun k => hr g (by rw [e1]; rfl) k.symm)]
  exact e3
theorem owns_base {w : World} {base base' : Nat} {e : TypeId} {size g n c : Nat} {xs : List Value} (h : w.ownsRow base e size (.slice (some ⟨g, 0, none⟩) n c) n xs) (hg : base' ≤ g) : w.ownsRow base' e size (.slice (some ⟨g, 0, none⟩) n c) n xs := by
  refine ⟨h.1, h.2.imp id fun ⟨g', cap, cur, e1, e2, e3, e4⟩ => ⟨g', cap, cur, e1, ?_, e3, e4⟩⟩
  injection e1 with e1; injection e1 with e1; injection e1 with e1
  omega
theorem rd_grown {w w' : World} {B : Nat} {A : Option Addr} {xs : List Value} {r : Option Nat} (h : Rd w B A xs) (hg : w.grownBy w' r) (hB : B ≤ w.heap.size) (hr : ∀ k, r = some k → B ≤ k) : Rd w' B A xs :=
  h.below ((Below.refl _ _).grown hg hB hr)
theorem grown_trans {a b c : World} {row : Option Nat} (h : a.grownBy b row) (k : b.grownBy c row) : a.grownBy c row :=
  ⟨k.os.trans h.os, k.tape.trans h.tape, k.output.trans h.output, Nat.le_trans h.size k.size, fun j hj hr => (k.block j (Nat.lt_of_lt_of_le hj h.size) hr).trans (h.block j hj hr)⟩
theorem grown_refl (w : World) (r : Option Nat) : w.grownBy w r := ⟨rfl, rfl, rfl, Nat.le_refl _, fun _ _ _ => rfl⟩

end Go.Proofs.Ytejeikfgmiadhab.Rw
