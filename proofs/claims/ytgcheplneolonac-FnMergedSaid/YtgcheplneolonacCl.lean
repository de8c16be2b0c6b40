/- Lists of cues: how much of what is left one takes, the laws' copy of one, and their comparison. -/
import Derived.Test.YtgcheplneolonacCv
import Derived.Deep.RegionHeld3
namespace Go.Proofs.Ytgcheplneolonac.Cl
open Go.RowKit Go.ChangeShapes Go.WideShapes Go.WideElems Go.Deep Go.Proofs.Ytgcheplneolonac.Mem Go.Proofs.Ytgcheplneolonac.Rw Go.Proofs.Ytgcheplneolonac.P2 Go.Proofs.Ytgcheplneolonac.Cd Go.Proofs.Ytgcheplneolonac.Cv
set_option linter.unusedVariables false
set_option linter.unusedSimpArgs false

/-- How long the texts of these cues are. -/
def bulk : List C → Nat
  | [] => 0
  | d :: r => d.nm.size + bulk r
theorem bulk_app : ∀ (a b : List C), bulk (a ++ b) = bulk a + bulk b
  | [], b => by simp [bulk]
  | d :: r, b => by simp only [List.cons_append, bulk, bulk_app r b]; omega
theorem bulk_take {zs : List C} {k : Nat} {d : C} (h : zs[k]? = some d) : bulk (zs.take (k + 1)) = bulk (zs.take k) + d.nm.size := by
  obtain ⟨hk, rfl⟩ := List.getElem?_eq_some_iff.1 h
  rw [List.take_succ_eq_append_getElem hk, bulk_app]; simp [bulk]
theorem bulk_le (zs : List C) (k : Nat) : bulk (zs.take k) ≤ bulk zs := by
  have := bulk_app (zs.take k) (zs.drop k)
  rw [List.take_append_drop] at this
  omega
theorem mem_at {α : Type} {zs : List α} {k : Nat} {d : α} (h : zs[k]? = some d) : d ∈ zs := List.mem_of_getElem? h
/-- How much is left behind these, of so much. -/
def szW (L : Int) (n : Nat) (zs : List C) : Int := if L - n - bulk zs < 0 then -1 else L - n - bulk zs
/-- How much is left behind these. -/
def szV (n : Nat) (zs : List C) : Int := szW 1048576 n zs

/-- The first k of one list, then the other one's. -/
def mixed (xs ys : List Value) (k : Nat) : List Value := xs.take k ++ ys.drop k
theorem mixed_zero (xs ys : List Value) : mixed xs ys 0 = ys := by simp [mixed]
theorem mixed_all {xs ys : List Value} (h : ys.length = xs.length) : mixed xs ys xs.length = xs := by
  unfold mixed; rw [List.take_of_length_le (Nat.le_refl _), List.drop_of_length_le (by omega), List.append_nil]
theorem mixed_at {xs ys : List Value} {k j : Nat} {v : Value} (h : ys.length = xs.length) (hk : k ≤ j) (hv : ys[j]? = some v) : (mixed xs ys k)[j]? = some v := by
  have hj := (List.getElem?_eq_some_iff.1 hv).1
  unfold mixed
  rw [List.getElem?_append_right (by rw [List.length_take]; omega), List.length_take, Nat.min_eq_left (by omega), List.getElem?_drop, show k + (j - k) = j by omega]
  exact hv
theorem mixed_put {xs ys : List Value} {k : Nat} {v : Value} (h : ys.length = xs.length) (hv : xs[k]? = some v) : (mixed xs ys k).set k v = mixed xs ys (k + 1) := by
  obtain ⟨hk, rfl⟩ := List.getElem?_eq_some_iff.1 hv
  unfold mixed
  rw [List.set_append_right _ _ (by rw [List.length_take]; omega), List.length_take, Nat.min_eq_left (by omega), Nat.sub_self, List.drop_eq_getElem_cons (by omega), List.set_cons_zero, List.take_succ_eq_append_getElem hk, List.append_assoc]
  rfl
/-- A cue of nothing. -/
def d0 : C := ⟨0, ⟨#[]⟩, 0, 0⟩
theorem dls_made (n : Nat) : (madeCells #[.int .i64 0, .string ⟨#[]⟩, .int .i64 0, .int .i64 0] (n * 4)).toList = dls (List.replicate n d0) := by
  apply List.ext_getElem?
  intro j
  by_cases h : j < n * 4
  · have hm : j % 4 < 4 := Nat.mod_lt _ (by omega)
    have hd : j / 4 < n := by omega
    have hg := flat_get dc_len (zs := List.replicate n d0) (k := j / 4) (z := d0) (by rw [List.getElem?_replicate, if_pos hd]) (j % 4) hm
    rw [show j / 4 * 4 + j % 4 = j by omega] at hg
    unfold dls
    rw [hg, Array.getElem?_toList]
    simp only [madeCells]
    simp [h]
    generalize j % 4 = r at hm
    match r, hm with
    | 0, _ => rfl
    | 1, _ => rfl
    | 2, _ => rfl
    | 3, _ => rfl
  · rw [List.getElem?_eq_none (l := dls _) (by rw [dls_len, List.length_replicate]; omega), Array.getElem?_toList]
    simp [madeCells, h]

theorem infoD : (Try.prog.info? 26).map (fun i => (i.zero, i.size, i.bytes)) = some (some (.agg #[.int .i64 0, .string ⟨#[]⟩, .int .i64 0, .int .i64 0]), 4, 40) := by kernel_rfl

/-- What the copy leaves: a row of its own with these cues; what was there is as it was. -/
def Copied (w : World) (n : Nat) (zs : List C) (e : Ending) (w' : World) : Prop :=
  ∃ g, e = .returned (.slice (some ⟨g, 0, none⟩) n n) ∧ w.heap.size ≤ g ∧ w'.ownsRow w.heap.size 26 4 (.slice (some ⟨g, 0, none⟩) n n) n (dls zs) ∧ Below w.heap.size w w'

end Go.Proofs.Ytgcheplneolonac.Cl
