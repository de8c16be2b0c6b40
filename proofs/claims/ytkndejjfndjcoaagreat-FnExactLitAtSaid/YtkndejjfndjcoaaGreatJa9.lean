/- The jet of a nozzle at a tick, in numbers. -/
import Derived.Test.YtkndejjfndjcoaaGreatLa9
import Derived.Test.YtkndejjfndjcoaaGreatM12
namespace Go.Proofs.YtkndejjfndjcoaaGreat.Ja9
open Go.RowKit Go.ChangeShapes Go.WideShapes Go.WideElems Go.Deep Go.Proofs.YtkndejjfndjcoaaGreat.Mem Go.Proofs.YtkndejjfndjcoaaGreat.Rw Go.Proofs.YtkndejjfndjcoaaGreat.P2 Go.Proofs.YtkndejjfndjcoaaGreat.Bk Go.Proofs.YtkndejjfndjcoaaGreat.Sp Go.Proofs.YtkndejjfndjcoaaGreat.Sq Go.Proofs.YtkndejjfndjcoaaGreat.Jt
open Go.Proofs.YtkndejjfndjcoaaGreat.Sv hiding D C G
open Go.Proofs.YtkndejjfndjcoaaGreat.Ds (sb)
open Go.Proofs.YtkndejjfndjcoaaGreat.Ig (rig)
open Go.Proofs.YtkndejjfndjcoaaGreat.Fd (fd fdN fd_cases)
open Go.Proofs.YtkndejjfndjcoaaGreat.Wp (RowI rd_cell)
set_option linter.unusedVariables false
set_option linter.unusedSimpArgs false
open Go.Proofs.YtkndejjfndjcoaaGreat.La9
/-- The first device of this name with a lift. -/
def jaN (s : ByteArray) : List D → List Int → Option (D × Int)
  | d :: r, x :: xs => if sb d.nm s = true ∧ x ≠ 0 then some (d, x) else jaN s r xs
  | _, _ => none
noncomputable def jaV (ds : List D) (cs : List C) (gs : List G) (T : Int) (s : ByteArray) (t : Int) : Option (D × Int) := jaN s ds (laV ds cs gs T t)
theorem jaN_nil (s : ByteArray) (ds : List D) : jaN s ds [] = none := by cases ds <;> rfl
theorem jaN_drop {s : ByteArray} {ds : List D} {L : List Int} {k : Nat} {d : D} {x : Int} (hd : ds[k]? = some d) (hx : L[k]? = some x) : jaN s (ds.drop k) (L.drop k) = if sb d.nm s = true ∧ x ≠ 0 then some (d, x) else jaN s (ds.drop (k + 1)) (L.drop (k + 1)) := by
  obtain ⟨h1, rfl⟩ := List.getElem?_eq_some_iff.1 hd
  obtain ⟨h2, rfl⟩ := List.getElem?_eq_some_iff.1 hx
  rw [List.drop_eq_getElem_cons h1, List.drop_eq_getElem_cons h2, jaN]
theorem jaN_end {s : ByteArray} {ds : List D} {L : List Int} {k : Nat} (h : L.length ≤ k) : jaN s (ds.drop k) (L.drop k) = none := by rw [List.drop_of_length_le h]; exact jaN_nil _ _
theorem jaN_no (s : ByteArray) : ∀ (ds : List D) (L : List Int), (∀ d ∈ ds, sb d.nm s = false) → jaN s ds L = none
  | [], L, _ => by cases L <;> rfl
  | d :: r, [], _ => rfl
  | d :: r, x :: xs, h => by
    rw [jaN, if_neg (fun c => by rw [h d (List.mem_cons_self ..)] at c; exact absurd c.1 (by decide))]
    exact jaN_no s r xs fun e he => h e (List.mem_cons_of_mem _ he)
theorem jaN_at (s : ByteArray) : ∀ (ds : List D) (L : List Int) (j : Nat) (d : D) (x : Int), Rz.Ord ds → ds[j]? = some d → sb d.nm s = true → L[j]? = some x → jaN s ds L = if x = 0 then none else some (d, x)
  | [], _, _, _, _, _, h, _, _ => by simp at h
  | e :: r, [], j, d, x, _, _, _, h => by simp at h
  | e :: r, y :: ys, 0, d, x, ho, h1, h2, h3 => by
    simp at h1 h3
    subst h1 h3
    by_cases c : y = 0
    · rw [jaN, if_neg (fun q => q.2 c), if_pos c]
      refine jaN_no s r ys fun q hq => ?_
      rw [← Bool.not_eq_true]
      intro hs
      exact absurd ((sb_iff.1 h2).trans (sb_iff.1 hs).symm) (Rz.lt_ne ((List.pairwise_cons.1 ho).1 q hq))
    · rw [jaN, if_pos ⟨h2, c⟩, if_neg c]
  | e :: r, y :: ys, j + 1, d, x, ho, h1, h2, h3 => by
    simp at h1 h3
    have hne : ¬ (sb e.nm s = true ∧ y ≠ 0) := fun q => absurd ((sb_iff.1 q.1).trans (sb_iff.1 h2).symm) (Rz.lt_ne ((List.pairwise_cons.1 ho).1 d (List.mem_of_getElem? h1)))
    rw [jaN, if_neg hne]
    exact jaN_at s r ys j d x (List.pairwise_cons.1 ho).2 h1 h2 h3
theorem fdN_ge : ∀ (ds : List D) (s : ByteArray) (i : Nat), (∀ d ∈ ds, sb d.nm s = false) ∨ 0 ≤ fdN ds s i
  | [], _, _ => Or.inl fun _ h => by cases h
  | d :: r, s, i => by
    cases c : sb d.nm s
    · rcases fdN_ge r s (i + 1) with h | h
      · exact Or.inl fun e he => by rcases List.mem_cons.1 he with rfl | he; exact c; exact h e he
      · refine Or.inr ?_
        rw [fdN, if_neg (by rw [c]; decide)]; exact h
    · refine Or.inr ?_
      rw [fdN, if_pos c]; omega
/-- What the model finds. -/
theorem ja_none {ds : List D} {L : List Int} {s : ByteArray} (h : fd ds s < 0) : jaN s ds L = none := jaN_no s ds L (Rz.fd_none.1 h)
theorem ja_some {ds : List D} {L : List Int} {s : ByteArray} (hr : rig ds = true) {j : Nat} {d : D} {x : Int} (h : fd ds s = (j : Int)) (hd : ds[j]? = some d) (hx : L[j]? = some x) : jaN s ds L = if x = 0 then none else some (d, x) := by
  rcases fd_cases ds s with e | ⟨i, e, hi, d', h1, h2⟩
  · rw [e] at h; omega
  · rw [e] at h
    have : i = j := by omega
    subst this
    rw [hd] at h1; injection h1 with h1; subst h1
    exact jaN_at s ds L i d x (Rz.rig_set.1 (Ig.rig_of hr)).2.1 hd h2 hx
/-- What comes back. -/
def jvO : Option (D × Int) → Value
  | some (d, x) => .tuple #[.agg #[.int .i64 d.x, .int .i64 d.y, .int .i64 d.hd, .int .i64 d.tl, .int .i64 x], .bool true]
  | none => .tuple #[.agg #[.int .i64 0, .int .i64 0, .int .i64 0, .int .i64 0, .int .i64 0], .bool false]
abbrev zj : Array Value := #[.int .i64 0, .int .i64 0, .int .i64 0, .int .i64 0, .int .i64 0]

set_option maxHeartbeats 1000000 in
theorem jetOf (d : D) (l : Int) (w : World) : Calls Tryz.prog 62 #[Dd.va d.nm d.kd d.ln d.x d.y d.hd d.tl d.ms, .int .i64 l] w fun e w' => e = .returned (.agg #[.int .i64 d.x, .int .i64 d.y, .int .i64 d.hd, .int .i64 d.tl, .int .i64 l]) ∧ Below w.heap.size w w' := by
  obtain ⟨dn, dk, dl, dx, dy, dh, dt, dm⟩ := d
  go_enter Tryz.func62, Tryz.ntmps62
  go_wp2
  go_returns
  exact ⟨rfl, by go_grown⟩

set_option maxHeartbeats 1000000 in
theorem l9Jet (d : D) (l : Int) (w : World) : Calls Tryz.prog 61 #[Dd.va d.nm d.kd d.ln d.x d.y d.hd d.tl d.ms, .int .i64 l] w fun e w' => e = .returned (.agg #[.int .i64 d.x, .int .i64 d.y, .int .i64 d.hd, .int .i64 d.tl, .int .i64 l]) ∧ Below w.heap.size w w' := by
  obtain ⟨dn, dk, dl, dx, dy, dh, dt, dm⟩ := d
  go_enter Tryz.func61, Tryz.ntmps61
  go_wp2
  go_returns
  exact ⟨rfl, by go_grown⟩
end Go.Proofs.YtkndejjfndjcoaaGreat.Ja9
