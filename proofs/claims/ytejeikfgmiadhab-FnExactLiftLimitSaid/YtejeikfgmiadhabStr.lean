/- Arguments that are structs of integers, opened: a place (two), a box (two places). -/
import Derived.Test.YtejeikfgmiadhabMem
import Derived.Lib.SmallJoins
import Derived.ChangeArms
set_option linter.unusedVariables false
set_option linter.unusedSimpArgs false
namespace Go.Proofs.Ytejeikfgmiadhab.Str
open Go.RowKit Go.ChangeShapes Go.WideShapes Go.WideElems Go.Joins Go.Deep

/-- A place's value. -/
def pv (x y : Int) : Value := .agg #[.int .i64 x, .int .i64 y]
/-- A box's value. -/
def bv (x y z u : Int) : Value := .agg #[.int .i64 x, .int .i64 y, .int .i64 z, .int .i64 u]

section
variable {H : Type} {enc : TypeId × Value → H} {P : Program}

theorem take_place {W : World} {r : Reach} {b0 : Nat} {t : TypeId} {f0 f1 : Field} {v : Value} {d : DataW H} {ps : List MemPlace} (hs : P.underlying t = some (.struct #[f0, f1])) (hone : oneCellFields P #[f0, f1] = true) (hC : P.cellsOf t = 2)
    (h0 : P.underlying f0.type = some (.int .i64)) (h1 : P.underlying f1.type = some (.int .i64))
    (hval : Value.okWide P W r b0 t v) (h : DataW.Trod enc P W 0 (fun _ => true) true t v d ps) :
    ∃ x y, v = pv x y ∧ (Lit.int .i64 x).wf = true ∧ (Lit.int .i64 y).wf = true := by
  obtain ⟨v0, v1, y0, y1, n, rfl, _, _, g0, g1⟩ := open_agg2 hs hone hC hval h
  obtain ⟨x, e0, _, w0⟩ := DataW.trod_int h0 g0
  obtain ⟨y, e1, _, w1⟩ := DataW.trod_int h1 g1
  injection e0 with e0
  injection e1 with e1
  subst e0 e1
  exact ⟨x, y, rfl, w0, w1⟩

theorem take_box {W : World} {r : Reach} {b0 : Nat} {t e : TypeId} {g0 g1 f0 f1 : Field} {v : Value} {d : DataW H} {ps : List MemPlace} (ht : P.underlying t = some (.struct #[g0, g1])) (hC : P.cellsOf t = 4)
    (hg0 : g0.type = e) (hg1 : g1.type = e) (o0 : g0.offset = 0) (o1 : g1.offset = 2)
    (hs : P.underlying e = some (.struct #[f0, f1])) (hone : oneCellFields P #[f0, f1] = true) (hE : P.cellsOf e = 2)
    (h0 : P.underlying f0.type = some (.int .i64)) (h1 : P.underlying f1.type = some (.int .i64))
    (hval : Value.okWide P W r b0 t v) (h : DataW.Trod enc P W 0 (fun _ => true) true t v d ps) :
    ∃ x y z u, v = bv x y z u ∧ (Lit.int .i64 x).wf = true ∧ (Lit.int .i64 y).wf = true ∧ (Lit.int .i64 z).wf = true ∧ (Lit.int .i64 u).wf = true := by
  obtain ⟨cs, rfl, hsz⟩ := okWide_struct ht hval
  obtain ⟨c0, c1, c2, c3, rfl⟩ := array4 (hsz.trans hC)
  obtain ⟨fuel, hf⟩ := h
  obtain ⟨y0, y1, n, _, _, k0, k1⟩ := trod_struct2 ht hf
  rw [hg0, o0, hE] at k0
  rw [hg1, o1, hE] at k1
  simp [Value.cells] at k0 k1
  obtain ⟨p0, k⟩ := hone_of hone 0 f0 rfl
  obtain ⟨p1, k'⟩ := hone_of hone 1 f1 rfl
  obtain ⟨a0, a1, m, _, _, l0, l1⟩ := trod_struct2 hs k0
  obtain ⟨b0, b1, m', _, _, l2, l3⟩ := trod_struct2 hs k1
  rw [p0, k] at l0 l2
  rw [p1, k'] at l1 l3
  simp at l0 l1 l2 l3
  obtain ⟨x, e0, _, w0⟩ := DataW.trod_int h0 l0
  obtain ⟨y, e1, _, w1⟩ := DataW.trod_int h1 l1
  obtain ⟨z, e2, _, w2⟩ := DataW.trod_int h0 l2
  obtain ⟨u, e3, _, w3⟩ := DataW.trod_int h1 l3
  injection e0 with e0
  injection e1 with e1
  injection e2 with e2
  injection e3 with e3
  subst e0 e1 e2 e3
  exact ⟨x, y, z, u, rfl, w0, w1, w2, w3⟩
end
end Go.Proofs.Ytejeikfgmiadhab.Str
