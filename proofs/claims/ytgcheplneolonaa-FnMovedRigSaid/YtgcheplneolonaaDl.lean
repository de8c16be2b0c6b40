/- Lists of devices: how much of what is left one takes, the laws' copy of one, and their comparison. -/
import Derived.Test.YtgcheplneolonaaDv
import Derived.Deep.RegionHeld3
namespace Go.Proofs.Ytgcheplneolonaa.Dl
open Go.RowKit Go.ChangeShapes Go.WideShapes Go.WideElems Go.Deep Go.Proofs.Ytgcheplneolonaa.Mem Go.Proofs.Ytgcheplneolonaa.Rw Go.Proofs.Ytgcheplneolonaa.Pw Go.Proofs.Ytgcheplneolonaa.P2 Go.Proofs.Ytgcheplneolonaa.Dd Go.Proofs.Ytgcheplneolonaa.Dv
set_option linter.unusedVariables false
set_option linter.unusedSimpArgs false

/-- How long the texts of these devices are. -/
def bulk : List D → Nat
  | [] => 0
  | d :: r => d.nm.size + d.ln.size + bulk r
theorem bulk_app : ∀ (a b : List D), bulk (a ++ b) = bulk a + bulk b
  | [], b => by simp [bulk]
  | d :: r, b => by simp only [List.cons_append, bulk, bulk_app r b]; omega
theorem bulk_take {zs : List D} {k : Nat} {d : D} (h : zs[k]? = some d) : bulk (zs.take (k + 1)) = bulk (zs.take k) + (d.nm.size + d.ln.size) := by
  obtain ⟨hk, rfl⟩ := List.getElem?_eq_some_iff.1 h
  rw [List.take_succ_eq_append_getElem hk, bulk_app]; simp [bulk]
theorem bulk_le (zs : List D) (k : Nat) : bulk (zs.take k) ≤ bulk zs := by
  have := bulk_app (zs.take k) (zs.drop k)
  rw [List.take_append_drop] at this
  omega
theorem mem_at {α : Type} {zs : List α} {k : Nat} {d : α} (h : zs[k]? = some d) : d ∈ zs := List.mem_of_getElem? h
/-- How much is left behind these. -/
def szV (n : Nat) (zs : List D) : Int := if (1048576 : Int) - n - bulk zs < 0 then -1 else 1048576 - n - bulk zs

/-- The first k of one list, then the other one's. -/
def mixed (xs ys : List Value) (k : Nat) : List Value := xs.take k ++ ys.drop k
theorem mixed_zero (xs ys : List Value) : mixed xs ys 0 = ys := by simp [mixed]
theorem mixed_all {xs ys : List Value} (h : ys.length = xs.length) : mixed xs ys xs.length = xs := by
  unfold mixed; rw [List.take_of_length_le (Nat.le_refl _), List.drop_of_length_le (by omega), List.append_nil]
theorem mixed_at {xs ys : List Value} {k j : Nat} {v : Value} (h : ys.length = xs.length) (hk : k ≤ j) (hv : ys[j]? = some v) : (mixed xs ys k)[j]? = some v := by
  have hj := (List.getElem?_eq_some_iff.1 hv).1
  unfold mixed
  rw [List.getElem?_append_right (by rw [List.length_take]; omega), List.length_take, Nat.min_eq_left (by omega), List.getElem?_drop, show k + (j - k) = j by omega]
  exact hv
theorem mixed_put {xs ys : List Value} {k : Nat} {v : Value} (h : ys.length = xs.length) (hv : xs[k]? = some v) : (mixed xs ys k).set k v = mixed xs ys (k + 1) := by
  obtain ⟨hk, rfl⟩ := List.getElem?_eq_some_iff.1 hv
  unfold mixed
  rw [List.set_append_right _ _ (by rw [List.length_take]; omega), List.length_take, Nat.min_eq_left (by omega), Nat.sub_self, List.drop_eq_getElem_cons (by omega), List.set_cons_zero, List.take_succ_eq_append_getElem hk, List.append_assoc]
  rfl
/-- A device of nothing. -/
def d0 : D := ⟨⟨#[]⟩, 0, ⟨#[]⟩, 0, 0, 0, 0, 0⟩
theorem dls_made (n : Nat) : (madeCells #[.string ⟨#[]⟩, .int .i64 0, .string ⟨#[]⟩, .int .i64 0, .int .i64 0, .int .i64 0, .int .i64 0, .int .i64 0] (n * 8)).toList = dls (List.replicate n d0) := by
  apply List.ext_getElem?
  intro j
  by_cases h : j < n * 8
  · have hm : j % 8 < 8 := Nat.mod_lt _ (by omega)
    have hd : j / 8 < n := by omega
    have hg := flat_get dc_len (zs := List.replicate n d0) (k := j / 8) (z := d0) (by rw [List.getElem?_replicate, if_pos hd]) (j % 8) hm
    rw [show j / 8 * 8 + j % 8 = j by omega] at hg
    unfold dls
    rw [hg, Array.getElem?_toList]
    simp only [madeCells]
    simp [h]
    generalize j % 8 = r at hm
    match r, hm with
    | 0, _ => rfl
    | 1, _ => rfl
    | 2, _ => rfl
    | 3, _ => rfl
    | 4, _ => rfl
    | 5, _ => rfl
    | 6, _ => rfl
    | 7, _ => rfl
  · rw [List.getElem?_eq_none (l := dls _) (by rw [dls_len, List.length_replicate]; omega), Array.getElem?_toList]
    simp [madeCells, h]

theorem infoD : (Try.prog.info? 31).map (fun i => (i.zero, i.size, i.bytes)) = some (some (.agg #[.string ⟨#[]⟩, .int .i64 0, .string ⟨#[]⟩, .int .i64 0, .int .i64 0, .int .i64 0, .int .i64 0, .int .i64 0]), 8, 80) := by kernel_rfl

/-- What the copy leaves: a row of its own with these devices; what was there is as it was. -/
def Copied (w : World) (n : Nat) (zs : List D) (e : Ending) (w' : World) : Prop :=
  ∃ g, e = .returned (.slice (some ⟨g, 0, none⟩) n n) ∧ w.heap.size ≤ g ∧ w'.ownsRow w.heap.size 31 8 (.slice (some ⟨g, 0, none⟩) n n) n (dls zs) ∧ Below w.heap.size w w'

end Go.Proofs.Ytgcheplneolonaa.Dl
