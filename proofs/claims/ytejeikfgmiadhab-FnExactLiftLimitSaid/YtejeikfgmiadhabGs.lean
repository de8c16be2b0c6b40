/- Lists of gusts: how they lie in memory, a list of gusts that came in, the laws' copy of one, their comparison, and the marks that the laws lay into one. -/
import Derived.Test.YtejeikfgmiadhabRw
import Derived.Test.YtejeikfgmiadhabPb
import Derived.Deep.RegionHeld3
set_option linter.unusedVariables false
set_option linter.unusedSimpArgs false
namespace Go.Proofs.Ytejeikfgmiadhab.Gs
open Go.RowKit Go.ChangeShapes Go.WideShapes Go.WideElems Go.Deep Go.Proofs.Ytejeikfgmiadhab.Mem Go.Proofs.Ytejeikfgmiadhab.Rw Go.Proofs.Ytejeikfgmiadhab.Pw Go.Proofs.Ytejeikfgmiadhab.P2
set_option linter.unusedVariables false
set_option linter.unusedSimpArgs false

/-- The cells of a gust: when it begins, and its drift. -/
def gc (g : Int × Int × Int) : List Value := [.int .i64 g.1, .int .i64 g.2.1, .int .i64 g.2.2]
theorem gc_len (g : Int × Int × Int) : (gc g).length = 3 := rfl
/-- The cells of a list of gusts. -/
def gls (zs : List (Int × Int × Int)) : List Value := zs.flatMap gc
theorem gls_len (zs : List (Int × Int × Int)) : (gls zs).length = zs.length * 3 := flat_len gc_len zs
theorem gls_get {zs : List (Int × Int × Int)} {k : Nat} {z : Int × Int × Int} (h : zs[k]? = some z) :
    (gls zs)[k * 3]? = some (.int .i64 z.1) ∧ (gls zs)[k * 3 + 1]? = some (.int .i64 z.2.1) ∧ (gls zs)[k * 3 + 2]? = some (.int .i64 z.2.2) :=
  ⟨(flat_get gc_len h 0 (by omega)).trans rfl, (flat_get gc_len h 1 (by omega)).trans rfl, (flat_get gc_len h 2 (by omega)).trans rfl⟩
theorem gls_snoc (zs : List (Int × Int × Int)) (z : Int × Int × Int) : gls zs ++ [.int .i64 z.1, .int .i64 z.2.1, .int .i64 z.2.2] = gls (zs ++ [z]) := (flat_snoc zs z).symm

abbrev gv (f x y : Int) : Value := .agg #[.int .i64 f, .int .i64 x, .int .i64 y]
abbrev Gok (z : Int × Int × Int) : Prop := (Lit.int .i64 z.1).wf = true ∧ (Lit.int .i64 z.2.1).wf = true ∧ (Lit.int .i64 z.2.2).wf = true

section
variable {H : Type} {enc : TypeId × Value → H} {P : Program}
theorem take_gusts {W : World} {r : Reach} {b0 : Nat} {t e p : TypeId} {f0 f1 g0 g1 : Field} {v : Value} {d : DataW H} {ps : List MemPlace} (ht : P.underlying t = some (.slice e)) (he : P.underlying e = some (.struct #[f0, f1])) (ce : P.cellsOf e = 3)
    (o0 : f0.offset = 0) (o1 : f1.offset = 1) (c0 : P.cellsOf f0.type = 1) (h0 : P.underlying f0.type = some (.int .i64)) (h1 : f1.type = p)
    (hp : P.underlying p = some (.struct #[g0, g1])) (cp : P.cellsOf p = 2) (q0 : g0.offset = 0) (q1 : g1.offset = 1) (d0 : P.cellsOf g0.type = 1) (d1 : P.cellsOf g1.type = 1)
    (i0 : P.underlying g0.type = some (.int .i64)) (i1 : P.underlying g1.type = some (.int .i64))
    (hval : Value.okWide P W r b0 t v) (h : DataW.Trod enc P W 0 (fun _ => true) true t v d ps) :
    ∃ (A : Option Addr) (n c : Nat) (zs : List (Int × Int × Int)), v = .slice A n c ∧ zs.length = n ∧ n ≤ maxLen ∧ Rd W W.heap.size A (gls zs) ∧ ∀ z ∈ zs, Gok z := by
  refine take_rows (K := 3) (cells := gc) Gok gc_len (by omega) ht ce ?_ hval h
  intro fuel cs x hx hl
  match cs, hl with
  | [a, b, c], _ =>
    obtain ⟨y0, y1, n, _, _, k0, k1⟩ := trod_struct2 he hx
    rw [o0, c0] at k0
    rw [o1, h1, cp] at k1
    simp at k0 k1
    obtain ⟨z0, z1, m, _, _, l0, l1⟩ := trod_struct2 hp k1
    rw [q0, d0] at l0
    rw [q1, d1] at l1
    simp at l0 l1
    obtain ⟨f, e0, _, w0⟩ := DataW.trod_int h0 k0
    obtain ⟨x, e1, _, w1⟩ := DataW.trod_int i0 l0
    obtain ⟨y, e2, _, w2⟩ := DataW.trod_int i1 l1
    injection e0 with e0
    injection e1 with e1
    injection e2 with e2
    subst e0 e1 e2
    exact ⟨(f, x, y), rfl, w0, w1, w2⟩
end

theorem filled_at {xs : List Value} {z : Value} {k j : Nat} (hk : k ≤ j) (hj : j < xs.length) : (filled xs z k)[j]? = some z := by
  unfold filled
  rw [List.getElem?_append_right (by rw [List.length_take]; omega), List.length_take, Nat.min_eq_left (by omega), List.getElem?_replicate, if_pos (by omega)]

end Go.Proofs.Ytejeikfgmiadhab.Gs
