/- A device: its cells in memory, and an argument that is a device, or a list of devices, opened. -/
import Derived.Test.YtejeikfgmiadhabRw
import Derived.Test.YtejeikfgmiadhabStr
set_option linter.unusedVariables false
set_option linter.unusedSimpArgs false
namespace Go.Proofs.Ytejeikfgmiadhab.Dd
open Go.RowKit Go.ChangeShapes Go.WideShapes Go.WideElems Go.Joins Go.Deep Go.Proofs.Ytejeikfgmiadhab.Mem Go.Proofs.Ytejeikfgmiadhab.Rw
set_option linter.unusedVariables false
set_option linter.unusedSimpArgs false

/-- A device. -/
structure D where
  nm : ByteArray
  kd : Int
  ln : ByteArray
  x : Int
  y : Int
  hd : Int
  tl : Int
  ms : Int
instance : Inhabited D := ⟨⟨ByteArray.empty, 0, ByteArray.empty, 0, 0, 0, 0, 0⟩⟩
/-- The cells of a device. -/
abbrev cl (n : ByteArray) (k : Int) (l : ByteArray) (x y h t m : Int) : List Value := [.string n, .int .i64 k, .string l, .int .i64 x, .int .i64 y, .int .i64 h, .int .i64 t, .int .i64 m]
abbrev ca (n : ByteArray) (k : Int) (l : ByteArray) (x y h t m : Int) : Array Value := #[.string n, .int .i64 k, .string l, .int .i64 x, .int .i64 y, .int .i64 h, .int .i64 t, .int .i64 m]
/-- A device's value. -/
abbrev va (n : ByteArray) (k : Int) (l : ByteArray) (x y h t m : Int) : Value := .agg #[.string n, .int .i64 k, .string l, .int .i64 x, .int .i64 y, .int .i64 h, .int .i64 t, .int .i64 m]
def dc (d : D) : List Value := cl d.nm d.kd d.ln d.x d.y d.hd d.tl d.ms
theorem dc_len (d : D) : (dc d).length = 8 := rfl
def dls (zs : List D) : List Value := zs.flatMap dc
theorem dls_len (zs : List D) : (dls zs).length = zs.length * 8 := flat_len dc_len zs
theorem dls_get {zs : List D} {k : Nat} {n : ByteArray} {q : Int} {l : ByteArray} {x y h t m : Int} (hz : zs[k]? = some ⟨n, q, l, x, y, h, t, m⟩) :
    (dls zs)[k * 8]? = some (.string n) ∧ (dls zs)[k * 8 + 1]? = some (.int .i64 q) ∧ (dls zs)[k * 8 + 2]? = some (.string l) ∧ (dls zs)[k * 8 + 3]? = some (.int .i64 x) ∧ (dls zs)[k * 8 + 4]? = some (.int .i64 y) ∧ (dls zs)[k * 8 + 5]? = some (.int .i64 h) ∧ (dls zs)[k * 8 + 6]? = some (.int .i64 t) ∧ (dls zs)[k * 8 + 7]? = some (.int .i64 m) :=
  ⟨(flat_get dc_len hz 0 (by omega)).trans rfl, (flat_get dc_len hz 1 (by omega)).trans rfl, (flat_get dc_len hz 2 (by omega)).trans rfl, (flat_get dc_len hz 3 (by omega)).trans rfl, (flat_get dc_len hz 4 (by omega)).trans rfl, (flat_get dc_len hz 5 (by omega)).trans rfl, (flat_get dc_len hz 6 (by omega)).trans rfl, (flat_get dc_len hz 7 (by omega)).trans rfl⟩
theorem dls_snoc (zs : List D) (z : D) : dls zs ++ dc z = dls (zs ++ [z]) := (flat_snoc zs z).symm

/-- What a device that came in is within. -/
def Dok (d : D) : Prop := d.nm.size ≤ maxLen ∧ d.ln.size ≤ maxLen ∧ (Lit.int .i64 d.kd).wf = true ∧ (Lit.int .i64 d.x).wf = true ∧ (Lit.int .i64 d.y).wf = true ∧ (Lit.int .i64 d.hd).wf = true ∧ (Lit.int .i64 d.tl).wf = true ∧ (Lit.int .i64 d.ms).wf = true

theorem array8 {cs : List Value} (h : cs.length = 8) : ∃ a b c d e f g i, cs = [a, b, c, d, e, f, g, i] := by
  match cs, h with
  | [a, b, c, d, e, f, g, i], _ => exact ⟨a, b, c, d, e, f, g, i, rfl⟩

section
variable {H : Type} {enc : TypeId × Value → H} {P : Program}
theorem read_device {W : World} {t p : TypeId} {f0 f1 f2 f3 f4 f5 f6 g0 g1 : Field} (ht : P.underlying t = some (.struct #[f0, f1, f2, f3, f4, f5, f6]))
    (o0 : f0.offset = 0) (o1 : f1.offset = 1) (o2 : f2.offset = 2) (o3 : f3.offset = 3) (o4 : f4.offset = 5) (o5 : f5.offset = 6) (o6 : f6.offset = 7)
    (c0 : P.cellsOf f0.type = 1) (c1 : P.cellsOf f1.type = 1) (c2 : P.cellsOf f2.type = 1) (c4 : P.cellsOf f4.type = 1) (c5 : P.cellsOf f5.type = 1) (c6 : P.cellsOf f6.type = 1)
    (i0 : P.underlying f0.type = some .string) (i1 : P.underlying f1.type = some (.int .i64)) (i2 : P.underlying f2.type = some .string) (i3 : f3.type = p) (i4 : P.underlying f4.type = some (.int .i64)) (i5 : P.underlying f5.type = some (.int .i64)) (i6 : P.underlying f6.type = some (.int .i64))
    (hp : P.underlying p = some (.struct #[g0, g1])) (cp : P.cellsOf p = 2) (q0 : g0.offset = 0) (q1 : g1.offset = 1) (d0 : P.cellsOf g0.type = 1) (d1 : P.cellsOf g1.type = 1)
    (e0 : P.underlying g0.type = some (.int .i64)) (e1 : P.underlying g1.type = some (.int .i64))
    {fuel : Nat} {cs : List Value} {x : DataW H × List MemPlace} (hx : DataW.trod enc P W 0 (fun _ => true) true fuel t cs = some x) (hl : cs.length = 8) : ∃ d, cs = dc d ∧ Dok d := by
  obtain ⟨a0, a1, a2, a3, a4, a5, a6, a7, rfl⟩ := array8 hl
  obtain ⟨ys, n, _, _, _, _, hf⟩ := DataW.trod_struct ht hx
  have k0 := hf 0 f0 rfl
  have k1 := hf 1 f1 rfl
  have k2 := hf 2 f2 rfl
  have k3 := hf 3 f3 rfl
  have k4 := hf 4 f4 rfl
  have k5 := hf 5 f5 rfl
  have k6 := hf 6 f6 rfl
  have hy : ys.length = 7 := by assumption
  obtain ⟨y0, h0⟩ : ∃ y, ys[0]? = some y := ⟨_, List.getElem?_eq_getElem (by omega)⟩
  obtain ⟨y1, h1⟩ : ∃ y, ys[1]? = some y := ⟨_, List.getElem?_eq_getElem (by omega)⟩
  obtain ⟨y2, h2⟩ : ∃ y, ys[2]? = some y := ⟨_, List.getElem?_eq_getElem (by omega)⟩
  obtain ⟨y3, h3⟩ : ∃ y, ys[3]? = some y := ⟨_, List.getElem?_eq_getElem (by omega)⟩
  obtain ⟨y4, h4⟩ : ∃ y, ys[4]? = some y := ⟨_, List.getElem?_eq_getElem (by omega)⟩
  obtain ⟨y5, h5⟩ : ∃ y, ys[5]? = some y := ⟨_, List.getElem?_eq_getElem (by omega)⟩
  obtain ⟨y6, h6⟩ : ∃ y, ys[6]? = some y := ⟨_, List.getElem?_eq_getElem (by omega)⟩
  rw [o0, c0, h0] at k0
  rw [o1, c1, h1] at k1
  rw [o2, c2, h2] at k2
  rw [o3, i3, cp, h3] at k3
  rw [o4, c4, h4] at k4
  rw [o5, c5, h5] at k5
  rw [o6, c6, h6] at k6
  simp at k0 k1 k2 k3 k4 k5 k6
  obtain ⟨z0, z1, m, _, _, l0, l1⟩ := trod_struct2 hp k3
  rw [q0, d0] at l0
  rw [q1, d1] at l1
  simp at l0 l1
  obtain ⟨s0, r0, _, w0⟩ := DataW.trod_string i0 k0
  obtain ⟨s1, r1, _, w1⟩ := DataW.trod_int i1 k1
  obtain ⟨s2, r2, _, w2⟩ := DataW.trod_string i2 k2
  obtain ⟨s3, r3, _, w3⟩ := DataW.trod_int e0 l0
  obtain ⟨s4, r4, _, w4⟩ := DataW.trod_int e1 l1
  obtain ⟨s5, r5, _, w5⟩ := DataW.trod_int i4 k4
  obtain ⟨s6, r6, _, w6⟩ := DataW.trod_int i5 k5
  obtain ⟨s7, r7, _, w7⟩ := DataW.trod_int i6 k6
  injection r0 with r0
  injection r1 with r1
  injection r2 with r2
  injection r3 with r3
  injection r4 with r4
  injection r5 with r5
  injection r6 with r6
  injection r7 with r7
  subst r0 r1 r2 r3 r4 r5 r6 r7
  exact ⟨⟨s0, s1, s2, s3, s4, s5, s6, s7⟩, rfl, w0, w2, w1, w3, w4, w5, w6, w7⟩
end

section
variable {H : Type} {enc : TypeId × Value → H} {P : Program}
/-- An argument that is a device. -/
theorem take_device {W : World} {r : Reach} {b0 : Nat} {t : TypeId} {fs : Array Field} {v : Value} {d : DataW H} {ps : List MemPlace} (ht : P.underlying t = some (.struct fs)) (hC : P.cellsOf t = 8)
    (hread : ∀ fuel cs x, DataW.trod enc P W 0 (fun _ => true) true fuel t cs = some x → cs.length = 8 → ∃ d, cs = dc d ∧ Dok d)
    (hval : Value.okWide P W r b0 t v) (h : DataW.Trod enc P W 0 (fun _ => true) true t v d ps) :
    ∃ d : D, v = va d.nm d.kd d.ln d.x d.y d.hd d.tl d.ms ∧ Dok d := by
  obtain ⟨cs, rfl, hsz⟩ := okWide_struct ht hval
  obtain ⟨fuel, hf⟩ := h
  obtain ⟨d, hd, hk⟩ := hread _ _ _ hf (by simpa [Value.cells] using hsz.trans hC)
  refine ⟨d, ?_, hk⟩
  obtain ⟨l⟩ := cs
  have : l = dc d := by simpa [Value.cells] using hd
  subst this
  rfl
/-- An argument that is a list of devices. -/
theorem take_devices {W : World} {r : Reach} {b0 : Nat} {t e : TypeId} {v : Value} {d : DataW H} {ps : List MemPlace} (ht : P.underlying t = some (.slice e)) (ce : P.cellsOf e = 8)
    (hread : ∀ fuel cs x, DataW.trod enc P W 0 (fun _ => true) true fuel e cs = some x → cs.length = 8 → ∃ d, cs = dc d ∧ Dok d)
    (hval : Value.okWide P W r b0 t v) (h : DataW.Trod enc P W 0 (fun _ => true) true t v d ps) :
    ∃ (A : Option Addr) (n c : Nat) (zs : List D), v = .slice A n c ∧ zs.length = n ∧ n ≤ maxLen ∧ Rd W W.heap.size A (dls zs) ∧ ∀ z ∈ zs, Dok z :=
  take_rows (K := 8) (cells := dc) Dok dc_len (by omega) ht ce hread hval h
theorem read_this {W : World} (fuel : Nat) (cs : List Value) (x : DataW H × List MemPlace) (hx : DataW.trod enc Try.prog W 0 (fun _ => true) true fuel 25 cs = some x) (hl : cs.length = 8) : ∃ d, cs = dc d ∧ Dok d :=
  read_device Try.underlying25 rfl rfl rfl rfl rfl rfl rfl (by kernel_rfl) (by kernel_rfl) (by kernel_rfl) (by kernel_rfl) (by kernel_rfl) (by kernel_rfl) Try.underlying9 Try.underlying3 Try.underlying9 rfl Try.underlying3 Try.underlying3 Try.underlying3 Try.underlying23 (by kernel_rfl) rfl rfl (by kernel_rfl) (by kernel_rfl) Try.underlying3 Try.underlying3 hx hl
end
end Go.Proofs.Ytejeikfgmiadhab.Dd
