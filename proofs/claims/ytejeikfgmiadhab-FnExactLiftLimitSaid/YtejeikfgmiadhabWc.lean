/- A wind that is spread out in a slice of complex numbers, a window of it, its sum and its changes: the program's own functions. -/
import Derived.Test.YtejeikfgmiadhabWa
import Derived.ArgAppend
set_option linter.unusedVariables false
set_option linter.unusedSimpArgs false
namespace Go.Proofs.Ytejeikfgmiadhab.Wc
open Go.RowKit Go.Proofs.Ytejeikfgmiadhab.Mem Go.Proofs.Ytejeikfgmiadhab.Rw Go.Proofs.Ytejeikfgmiadhab.Bk Go.Proofs.Ytejeikfgmiadhab.Cx Go.Proofs.Ytejeikfgmiadhab.Cm Go.Proofs.Ytejeikfgmiadhab.Jt Go.Proofs.Ytejeikfgmiadhab.Pl Go.Proofs.Ytejeikfgmiadhab.Str Go.Proofs.Ytejeikfgmiadhab.Pw Go.Proofs.Ytejeikfgmiadhab.P2 Go.Proofs.Ytejeikfgmiadhab.Gs Go.Proofs.Ytejeikfgmiadhab.Wm Go.Proofs.Ytejeikfgmiadhab.Wi Go.Proofs.Ytejeikfgmiadhab.Wa
set_option linter.unusedVariables false
set_option linter.unusedSimpArgs false

abbrev zv (p : Int × Int) : Value := .complex .f32 (Meas.f32 p.1) (Meas.f32 p.2)
/-- The places as words. -/
def zs2 (l : List (Int × Int)) : List Value := l.map zv
theorem zs2_len (l : List (Int × Int)) : (zs2 l).length = l.length := List.length_map ..
theorem zs2_get {l : List (Int × Int)} {k : Nat} {p : Int × Int} (h : l[k]? = some p) : (zs2 l)[k]? = some (zv p) := by
  unfold zs2; rw [List.getElem?_map, h]; rfl
theorem f32_0 : Meas.f32 0 = 0 := by decide
theorem infoC : (Try.prog.info? 75).map (fun i => (i.zero, i.size, i.bytes)) = some (some (.complex .f32 0 0), 1, 8) := by kernel_rfl
theorem made_c (n : Nat) : (madeCells (Value.complex .f32 0 0).cells (n * 1)).toList = List.replicate n (.complex .f32 0 0) := by
  apply List.ext_getElem?
  intro j
  rw [Nat.mul_one, Array.getElem?_toList, List.getElem?_replicate]
  simp only [madeCells, Value.cells]
  by_cases h : j < n <;> simp [h, Nat.mod_one]
@[go_sem] theorem run_store_complex (P : Program) (w : World) (a : Addr) (m : Mode) (k : FloatKind) (b c : Nat) : (store a (.complex k b c) m).run P w = stored P w a (.complex k b c) m := run_store P w a _ m rfl

/-- The drifts at the first 128 ticks, the ticks below t by k + 1 gusts, the others by k. -/
def mixed (zs : List G) (k t : Nat) : List (Int × Int) := (List.range 128).map fun j => if j < t then dr (zs.take (k + 1)) (j : Int) else dr (zs.take k) (j : Int)
theorem mixed_len (zs : List G) (k t : Nat) : (mixed zs k t).length = 128 := by simp [mixed]
theorem mixed_get {zs : List G} {k t j : Nat} (h : j < 128) : (mixed zs k t)[j]? = some (if j < t then dr (zs.take (k + 1)) (j : Int) else dr (zs.take k) (j : Int)) := by
  unfold mixed; rw [List.getElem?_map, List.getElem?_range h]; rfl
theorem mixed_from {zs : List G} {k : Nat} {z : G} (hz : zs[k]? = some z) {t : Nat} (ht : (t : Int) ≤ z.1) : mixed zs k t = mixed zs k 0 := by
  unfold mixed
  apply List.map_congr_left
  intro j hj
  by_cases h : j < t
  · rw [if_pos h, if_neg (by omega), dr_take hz, if_neg (by omega)]
  · rw [if_neg h, if_neg (by omega)]
theorem mixed_end {zs : List G} {k : Nat} : mixed zs k 128 = mixed zs (k + 1) 0 := by
  unfold mixed
  apply List.map_congr_left
  intro j hj
  have := List.mem_range.1 hj
  rw [if_pos this, if_neg (by omega)]
theorem mixed_set {zs : List G} {k t : Nat} {z : G} (hz : zs[k]? = some z) (ht : z.1 ≤ (t : Int)) (h8 : t < 128) : (zs2 (mixed zs k t)).set t (zv z.2) = zs2 (mixed zs k (t + 1)) := by
  unfold zs2
  rw [← List.map_set]
  congr 1
  apply List.ext_getElem?
  intro j
  rw [List.getElem?_set]
  by_cases h : t = j
  · subst h
    rw [if_pos rfl, if_pos (by rw [mixed_len]; exact h8), mixed_get h8, if_pos (by omega), dr_take hz, if_pos ht]
  · rw [if_neg h]
    by_cases hj : j < 128
    · rw [mixed_get hj, mixed_get hj]
      by_cases h2 : j < t
      · rw [if_pos h2, if_pos (by omega)]
      · rw [if_neg h2, if_neg (by omega)]
    · rw [List.getElem?_eq_none (by rw [mixed_len]; omega), List.getElem?_eq_none (by rw [mixed_len]; omega)]
theorem mixed_zero (zs : List G) : zs2 (mixed zs 0 0) = List.replicate 128 (.complex .f32 0 0) := by
  apply List.ext_getElem?
  intro j
  rw [List.getElem?_replicate]
  by_cases h : j < 128
  · rw [zs2_get (mixed_get h), if_pos h, if_neg (by omega)]
    show some (Value.complex .f32 (Meas.f32 0) (Meas.f32 0)) = _
    rw [f32_0]
  · rw [if_neg h, List.getElem?_eq_none (by rw [zs2_len, mixed_len]; omega)]
theorem mixed_all (zs : List G) {n : Nat} (hn : zs.length = n) : mixed zs n 0 = drs zs 0 128 := by
  unfold mixed drs
  apply List.map_congr_left
  intro j hj
  rw [if_neg (by omega), ← hn, List.take_length, Nat.zero_add]

/-- A row of one's own with these words; what was there is as it was. -/
def RowC (w : World) (l : List (Int × Int)) (e : Ending) (w' : World) : Prop :=
  ∃ g, e = .returned (.slice (some ⟨g, 0, none⟩) l.length l.length) ∧ w'.ownsRow w.heap.size 75 1 (.slice (some ⟨g, 0, none⟩) l.length l.length) l.length (zs2 l) ∧ Below w.heap.size w w'

end Go.Proofs.Ytejeikfgmiadhab.Wc
