/- Drifts at a tick and lists of them, of the model. -/
import Derived.Test.YtejeikfgmiadhabWi
import Derived.Test.YtejeikfgmiadhabBk
import Derived.Laws.AppendOwn
set_option linter.unusedVariables false
set_option linter.unusedSimpArgs false
namespace Go.Proofs.Ytejeikfgmiadhab.Wa
open Go.RowKit Go.Proofs.Ytejeikfgmiadhab.Mem Go.Proofs.Ytejeikfgmiadhab.Rw Go.Proofs.Ytejeikfgmiadhab.Bk Go.Proofs.Ytejeikfgmiadhab.Jt Go.Proofs.Ytejeikfgmiadhab.Pw Go.Proofs.Ytejeikfgmiadhab.P2 Go.Proofs.Ytejeikfgmiadhab.Gs Go.Proofs.Ytejeikfgmiadhab.Wm Go.Proofs.Ytejeikfgmiadhab.Wi
set_option linter.unusedVariables false
set_option linter.unusedSimpArgs false

abbrev pq (p : Int × Int) : Value := .agg #[.int .i64 p.1, .int .i64 p.2]
abbrev pc (x y : Int) : Array Value := #[.int .i64 x, .int .i64 y]

theorem infoPlace : (Try.prog.info? 32).map (fun i => (i.zero, i.size, i.bytes)) = some (some (.agg #[.int .i64 0, .int .i64 0]), 2, 16) := by kernel_rfl
/-- The cells of a list of places. -/
def pcs (ps : List (Int × Int)) : List Value := ps.flatMap fun p => [.int .i64 p.1, .int .i64 p.2]
theorem pcs_len (ps : List (Int × Int)) : (pcs ps).length = ps.length * 2 := flat_len (cells := fun p : Int × Int => [Value.int .i64 p.1, .int .i64 p.2]) (fun _ => rfl) ps
theorem pcs_snoc (ps : List (Int × Int)) (p : Int × Int) : pcs ps ++ [.int .i64 p.1, .int .i64 p.2] = pcs (ps ++ [p]) := by unfold pcs; simp
theorem pcs_get {ps : List (Int × Int)} {k : Nat} {p : Int × Int} (h : ps[k]? = some p) : (pcs ps)[k * 2]? = some (.int .i64 p.1) ∧ (pcs ps)[k * 2 + 1]? = some (.int .i64 p.2) :=
  ⟨(flat_get (K := 2) (cells := fun p : Int × Int => [Value.int .i64 p.1, .int .i64 p.2]) (fun _ => rfl) h 0 (by omega)).trans rfl, (flat_get (K := 2) (cells := fun p : Int × Int => [Value.int .i64 p.1, .int .i64 p.2]) (fun _ => rfl) h 1 (by omega)).trans rfl⟩

/-- A row of one's own with these places; what was there is as it was. -/
def Row2 (w : World) (ps : List (Int × Int)) (e : Ending) (w' : World) : Prop :=
  ∃ g c, e = .returned (.slice (some ⟨g, 0, none⟩) ps.length c) ∧ w'.ownsRow w.heap.size 32 2 (.slice (some ⟨g, 0, none⟩) ps.length c) ps.length (pcs ps) ∧ Below w.heap.size w w'
theorem own_base {w : World} {base n : Nat} {e : TypeId} {s : Nat} {v : Value} {xs : List Value} (h : w.ownsRow base e s v n xs) : ∀ k, v.ownBlock = some k → base ≤ k := fun k e => (h.lt k e).1

end Go.Proofs.Ytejeikfgmiadhab.Wa
