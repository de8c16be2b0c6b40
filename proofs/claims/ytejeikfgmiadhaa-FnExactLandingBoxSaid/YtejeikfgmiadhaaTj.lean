/- An argument that is a jet, opened. -/
import Derived.Test.YtejeikfgmiadhaaStr
set_option linter.unusedVariables false
set_option linter.unusedSimpArgs false
namespace Go.Proofs.Ytejeikfgmiadhaa.Str
open Go.RowKit Go.ChangeShapes Go.WideShapes Go.WideElems Go.Joins Go.Deep

theorem array5 {cs : Array Value} (h : cs.size = 5) : ∃ a b c d e, cs = #[a, b, c, d, e] := by
  obtain ⟨l⟩ := cs
  match l, h with
  | [a, b, c, d, e], _ => exact ⟨a, b, c, d, e, rfl⟩

/-- A jet's value. -/
abbrev jv' (x y h t l : Int) : Value := .agg #[.int .i64 x, .int .i64 y, .int .i64 h, .int .i64 t, .int .i64 l]

section
variable {H : Type} {enc : TypeId × Value → H} {P : Program}
theorem take_jet {W : World} {r : Reach} {b0 : Nat} {t e : TypeId} {g0 g1 g2 g3 f0 f1 : Field} {v : Value} {d : DataW H} {ps : List MemPlace} (ht : P.underlying t = some (.struct #[g0, g1, g2, g3])) (hC : P.cellsOf t = 5)
    (hg0 : g0.type = e) (o0 : g0.offset = 0) (o1 : g1.offset = 2) (o2 : g2.offset = 3) (o3 : g3.offset = 4)
    (c1 : P.cellsOf g1.type = 1) (c2 : P.cellsOf g2.type = 1) (c3 : P.cellsOf g3.type = 1)
    (i1 : P.underlying g1.type = some (.int .i64)) (i2 : P.underlying g2.type = some (.int .i64)) (i3 : P.underlying g3.type = some (.int .i64))
    (hs : P.underlying e = some (.struct #[f0, f1])) (hone : oneCellFields P #[f0, f1] = true) (hE : P.cellsOf e = 2)
    (h0 : P.underlying f0.type = some (.int .i64)) (h1 : P.underlying f1.type = some (.int .i64))
    (hval : Value.okWide P W r b0 t v) (h : DataW.Trod enc P W 0 (fun _ => true) true t v d ps) :
    ∃ x y z u s, v = jv' x y z u s ∧ (Lit.int .i64 x).wf = true ∧ (Lit.int .i64 y).wf = true ∧ (Lit.int .i64 z).wf = true ∧ (Lit.int .i64 u).wf = true ∧ (Lit.int .i64 s).wf = true := by
  obtain ⟨cs, rfl, hsz⟩ := okWide_struct ht hval
  obtain ⟨k0, k1, k2, k3, k4, rfl⟩ := array5 (hsz.trans hC)
  obtain ⟨fuel, hf⟩ := h
  obtain ⟨y0, y1, y2, y3, n, _, _, q0, q1, q2, q3⟩ := trod_struct4 ht hf
  rw [hg0, o0, hE] at q0
  rw [o1, c1] at q1
  rw [o2, c2] at q2
  rw [o3, c3] at q3
  simp [Value.cells] at q0 q1 q2 q3
  obtain ⟨p0, k⟩ := hone_of hone 0 f0 rfl
  obtain ⟨p1, k'⟩ := hone_of hone 1 f1 rfl
  obtain ⟨a0, a1, m, _, _, l0, l1⟩ := trod_struct2 hs q0
  rw [p0, k] at l0
  rw [p1, k'] at l1
  simp at l0 l1
  obtain ⟨x, e0, _, w0⟩ := DataW.trod_int h0 l0
  obtain ⟨y, e1, _, w1⟩ := DataW.trod_int h1 l1
  obtain ⟨z, e2, _, w2⟩ := DataW.trod_int i1 q1
  obtain ⟨u, e3, _, w3⟩ := DataW.trod_int i2 q2
  obtain ⟨s, e4, _, w4⟩ := DataW.trod_int i3 q3
  injection e0 with e0
  injection e1 with e1
  injection e2 with e2
  injection e3 with e3
  injection e4 with e4
  subst e0 e1 e2 e3 e4
  exact ⟨x, y, z, u, s, rfl, w0, w1, w2, w3, w4⟩
end
end Go.Proofs.Ytejeikfgmiadhaa.Str
