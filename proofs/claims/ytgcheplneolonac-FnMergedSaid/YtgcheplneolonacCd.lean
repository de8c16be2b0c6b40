/- A cue: its cells in memory, and an argument that is a cue, or a list of cues, opened. -/
import Derived.Test.YtgcheplneolonacRw
import Derived.Test.YtgcheplneolonacStr
namespace Go.Proofs.Ytgcheplneolonac.Cd
open Go.RowKit Go.ChangeShapes Go.WideShapes Go.WideElems Go.Joins Go.Deep Go.Proofs.Ytgcheplneolonac.Mem Go.Proofs.Ytgcheplneolonac.Rw
set_option linter.unusedVariables false
set_option linter.unusedSimpArgs false

/-- A cue. -/
structure C where
  tk : Int
  nm : ByteArray
  lv : Int
  rp : Int
instance : Inhabited C := ⟨⟨0, ByteArray.empty, 0, 0⟩⟩
/-- The cells of a cue. -/
abbrev cl (t : Int) (n : ByteArray) (l r : Int) : List Value := [.int .i64 t, .string n, .int .i64 l, .int .i64 r]
abbrev ca (t : Int) (n : ByteArray) (l r : Int) : Array Value := #[.int .i64 t, .string n, .int .i64 l, .int .i64 r]
/-- A cue's value. -/
abbrev va (t : Int) (n : ByteArray) (l r : Int) : Value := .agg #[.int .i64 t, .string n, .int .i64 l, .int .i64 r]
def dc (d : C) : List Value := cl d.tk d.nm d.lv d.rp
theorem dc_len (d : C) : (dc d).length = 4 := rfl
def dls (zs : List C) : List Value := zs.flatMap dc
theorem dls_len (zs : List C) : (dls zs).length = zs.length * 4 := flat_len dc_len zs
theorem dls_get {zs : List C} {k : Nat} {t : Int} {n : ByteArray} {l r : Int} (hz : zs[k]? = some ⟨t, n, l, r⟩) :
    (dls zs)[k * 4]? = some (.int .i64 t) ∧ (dls zs)[k * 4 + 1]? = some (.string n) ∧ (dls zs)[k * 4 + 2]? = some (.int .i64 l) ∧ (dls zs)[k * 4 + 3]? = some (.int .i64 r) :=
  ⟨(flat_get dc_len hz 0 (by omega)).trans rfl, (flat_get dc_len hz 1 (by omega)).trans rfl, (flat_get dc_len hz 2 (by omega)).trans rfl, (flat_get dc_len hz 3 (by omega)).trans rfl⟩
theorem dls_snoc (zs : List C) (z : C) : dls zs ++ dc z = dls (zs ++ [z]) := (flat_snoc zs z).symm

/-- What a cue that came in is within. -/
def Dok (d : C) : Prop := d.nm.size ≤ maxLen ∧ (Lit.int .i64 d.tk).wf = true ∧ (Lit.int .i64 d.lv).wf = true ∧ (Lit.int .i64 d.rp).wf = true

theorem array4 {cs : List Value} (h : cs.length = 4) : ∃ a b c d, cs = [a, b, c, d] := by
  match cs, h with
  | [a, b, c, d], _ => exact ⟨a, b, c, d, rfl⟩

section
variable {H : Type} {enc : TypeId × Value → H} {P : Program}
theorem read_cue {W : World} {t : TypeId} {f0 f1 f2 f3 : Field} (ht : P.underlying t = some (.struct #[f0, f1, f2, f3]))
    (o0 : f0.offset = 0) (o1 : f1.offset = 1) (o2 : f2.offset = 2) (o3 : f3.offset = 3)
    (c0 : P.cellsOf f0.type = 1) (c1 : P.cellsOf f1.type = 1) (c2 : P.cellsOf f2.type = 1) (c3 : P.cellsOf f3.type = 1)
    (i0 : P.underlying f0.type = some (.int .i64)) (i1 : P.underlying f1.type = some .string) (i2 : P.underlying f2.type = some (.int .i64)) (i3 : P.underlying f3.type = some (.int .i64))
    {fuel : Nat} {cs : List Value} {x : DataW H × List MemPlace} (hx : DataW.trod enc P W 0 (fun _ => true) true fuel t cs = some x) (hl : cs.length = 4) : ∃ d, cs = dc d ∧ Dok d := by
  obtain ⟨a0, a1, a2, a3, rfl⟩ := array4 hl
  obtain ⟨ys, n, _, _, _, _, hf⟩ := DataW.trod_struct ht hx
  have k0 := hf 0 f0 rfl
  have k1 := hf 1 f1 rfl
  have k2 := hf 2 f2 rfl
  have k3 := hf 3 f3 rfl
  have hy : ys.length = 4 := by assumption
  obtain ⟨y0, h0⟩ : ∃ y, ys[0]? = some y := ⟨_, List.getElem?_eq_getElem (by omega)⟩
  obtain ⟨y1, h1⟩ : ∃ y, ys[1]? = some y := ⟨_, List.getElem?_eq_getElem (by omega)⟩
  obtain ⟨y2, h2⟩ : ∃ y, ys[2]? = some y := ⟨_, List.getElem?_eq_getElem (by omega)⟩
  obtain ⟨y3, h3⟩ : ∃ y, ys[3]? = some y := ⟨_, List.getElem?_eq_getElem (by omega)⟩
  rw [o0, c0, h0] at k0
  rw [o1, c1, h1] at k1
  rw [o2, c2, h2] at k2
  rw [o3, c3, h3] at k3
  simp at k0 k1 k2 k3
  obtain ⟨s0, r0, _, w0⟩ := DataW.trod_int i0 k0
  obtain ⟨s1, r1, _, w1⟩ := DataW.trod_string i1 k1
  obtain ⟨s2, r2, _, w2⟩ := DataW.trod_int i2 k2
  obtain ⟨s3, r3, _, w3⟩ := DataW.trod_int i3 k3
  injection r0 with r0
  injection r1 with r1
  injection r2 with r2
  injection r3 with r3
  subst r0 r1 r2 r3
  exact ⟨⟨s0, s1, s2, s3⟩, rfl, w1, w0, w2, w3⟩
/-- An argument that is a cue. -/
theorem take_cue {W : World} {r : Reach} {b0 : Nat} {t : TypeId} {fs : Array Field} {v : Value} {d : DataW H} {ps : List MemPlace} (ht : P.underlying t = some (.struct fs)) (hC : P.cellsOf t = 4)
    (hread : ∀ fuel cs x, DataW.trod enc P W 0 (fun _ => true) true fuel t cs = some x → cs.length = 4 → ∃ d, cs = dc d ∧ Dok d)
    (hval : Value.okWide P W r b0 t v) (h : DataW.Trod enc P W 0 (fun _ => true) true t v d ps) :
    ∃ d : C, v = va d.tk d.nm d.lv d.rp ∧ Dok d := by
  obtain ⟨cs, rfl, hsz⟩ := okWide_struct ht hval
  obtain ⟨fuel, hf⟩ := h
  obtain ⟨d, hd, hk⟩ := hread _ _ _ hf (by simpa [Value.cells] using hsz.trans hC)
  refine ⟨d, ?_, hk⟩
  obtain ⟨l⟩ := cs
  have : l = dc d := by simpa [Value.cells] using hd
  subst this
  rfl
/-- An argument that is a list of cues. -/
theorem take_cues {W : World} {r : Reach} {b0 : Nat} {t e : TypeId} {v : Value} {d : DataW H} {ps : List MemPlace} (ht : P.underlying t = some (.slice e)) (ce : P.cellsOf e = 4)
    (hread : ∀ fuel cs x, DataW.trod enc P W 0 (fun _ => true) true fuel e cs = some x → cs.length = 4 → ∃ d, cs = dc d ∧ Dok d)
    (hval : Value.okWide P W r b0 t v) (h : DataW.Trod enc P W 0 (fun _ => true) true t v d ps) :
    ∃ (A : Option Addr) (n c : Nat) (zs : List C), v = .slice A n c ∧ zs.length = n ∧ n ≤ maxLen ∧ Rd W W.heap.size A (dls zs) ∧ ∀ z ∈ zs, Dok z :=
  take_rows (K := 4) (cells := dc) Dok dc_len (by omega) ht ce hread hval h
end
end Go.Proofs.Ytgcheplneolonac.Cd
