/- A wind that is spread out in a slice of complex numbers, a window of it, its sum and its changes: the program's own functions. -/
import Derived.Test.YtejeikfgmiadhabGreatM26
import Derived.ArgAppend
import Derived.Deep.DeepCutAuto
import Derived.Handy
set_option linter.unusedVariables false
set_option linter.unusedSimpArgs false
namespace Go.Proofs.YtejeikfgmiadhabGreat.Wc
open Go.RowKit Go.Proofs.YtejeikfgmiadhabGreat.Mem Go.Proofs.YtejeikfgmiadhabGreat.Rw Go.Proofs.YtejeikfgmiadhabGreat.Bk Go.Proofs.YtejeikfgmiadhabGreat.Cx Go.Proofs.YtejeikfgmiadhabGreat.Cm Go.Proofs.YtejeikfgmiadhabGreat.Jt Go.Proofs.YtejeikfgmiadhabGreat.Pl Go.Proofs.YtejeikfgmiadhabGreat.Str Go.Proofs.YtejeikfgmiadhabGreat.Pw Go.Proofs.YtejeikfgmiadhabGreat.P2 Go.Proofs.YtejeikfgmiadhabGreat.Gs Go.Proofs.YtejeikfgmiadhabGreat.Wm Go.Proofs.YtejeikfgmiadhabGreat.Wi Go.Proofs.YtejeikfgmiadhabGreat.Wa
set_option linter.unusedVariables false
set_option linter.unusedSimpArgs false

abbrev zv (p : Int × Int) : Value := .complex .f32 (Meas.f32 p.1) (Meas.f32 p.2)
/-- The places as words. -/
def zs2 (l : List (Int × Int)) : List Value := l.map zv
theorem zs2_len (l : List (Int × Int)) : (zs2 l).length = l.length := List.length_map ..
theorem zs2_get {l : List (Int × Int)} {k : Nat} {p : Int × Int} (h : l[k]? = some p) : (zs2 l)[k]? = some (zv p) := by
  unfold zs2; rw [List.getElem?_map, h]; rfl
theorem f32_0 : Meas.f32 0 = 0 := by decide
theorem infoC : (Tryz.prog.info? 81).map (fun i => (i.zero, i.size, i.bytes)) = some (some (.complex .f32 0 0), 1, 8) := by kernel_rfl
theorem made_c (n : Nat) : (madeCells (Value.complex .f32 0 0).cells (n * 1)).toList = List.replicate n (.complex .f32 0 0) := by
  apply List.ext_getElem?
  intro j
  rw [Nat.mul_one, Array.getElem?_toList, List.getElem?_replicate]
  simp only [madeCells, Value.cells]
  by_cases h : j < n <;> simp [h, Nat.mod_one]
@[go_sem] theorem run_store_complex (P : Program) (w : World) (a : Addr) (m : Mode) (k : FloatKind) (b c : Nat) : (store a (.complex k b c) m).run P w = stored P w a (.complex k b c) m := run_store P w a _ m rfl

/-- The drifts at the first 128 ticks, the ticks below t by k + 1 gusts, the others by k. -/
def mixed (zs : List G) (k t : Nat) : List (Int × Int) := (List.range 128).map fun j => if j < t then dr (zs.take (k + 1)) (j : Int) else dr (zs.take k) (j : Int)
theorem mixed_len (zs : List G) (k t : Nat) : (mixed zs k t).length = 128 := by simp [mixed]
theorem mixed_get {zs : List G} {k t j : Nat} (h : j < 128) : (mixed zs k t)[j]? = some (if j < t then dr (zs.take (k + 1)) (j : Int) else dr (zs.take k) (j : Int)) := by
  unfold mixed; rw [List.getElem?_map, List.getElem?_range h]; rfl
theorem mixed_zero (zs : List G) : zs2 (mixed zs 0 0) = List.replicate 128 (.complex .f32 0 0) := by
  apply List.ext_getElem?
  intro j
  rw [List.getElem?_replicate]
  by_cases h : j < 128
  · rw [zs2_get (mixed_get h), if_pos h, if_neg (by omega)]
    show some (Value.complex .f32 (Meas.f32 0) (Meas.f32 0)) = _
    rw [f32_0]
  · rw [if_neg h, List.getElem?_eq_none (by rw [zs2_len, mixed_len]; omega)]
theorem mixed_all (zs : List G) {n : Nat} (hn : zs.length = n) : mixed zs n 0 = drs zs 0 128 := by
  unfold mixed drs
  apply List.map_congr_left
  intro j hj
  rw [if_neg (by omega), ← hn, List.take_length, Nat.zero_add]

/-- A row of one's own with these words; what was there is as it was. -/
def RowC (w : World) (l : List (Int × Int)) (e : Ending) (w' : World) : Prop :=
  ∃ g, e = .returned (.slice (some ⟨g, 0, none⟩) l.length l.length) ∧ w'.ownsRow w.heap.size 81 1 (.slice (some ⟨g, 0, none⟩) l.length l.length) l.length (zs2 l) ∧ Below w.heap.size w w'

end Go.Proofs.YtejeikfgmiadhabGreat.Wc
namespace Go.Proofs.YtejeikfgmiadhabGreat.Wb
open Go.RowKit Go.Proofs.YtejeikfgmiadhabGreat.Mem Go.Proofs.YtejeikfgmiadhabGreat.Rw Go.Proofs.YtejeikfgmiadhabGreat.Bk Go.Proofs.YtejeikfgmiadhabGreat.Jt Go.Proofs.YtejeikfgmiadhabGreat.Pw Go.Proofs.YtejeikfgmiadhabGreat.P2 Go.Proofs.YtejeikfgmiadhabGreat.Gs Go.Proofs.YtejeikfgmiadhabGreat.Wm Go.Proofs.YtejeikfgmiadhabGreat.Wi Go.Proofs.YtejeikfgmiadhabGreat.Wa
set_option linter.unusedVariables false
set_option linter.unusedSimpArgs false

end Go.Proofs.YtejeikfgmiadhabGreat.Wb
namespace Go.Proofs.YtejeikfgmiadhabGreat.Wc
open Go.RowKit Go.Proofs.YtejeikfgmiadhabGreat.Mem Go.Proofs.YtejeikfgmiadhabGreat.Rw Go.Proofs.YtejeikfgmiadhabGreat.Bk Go.Proofs.YtejeikfgmiadhabGreat.Cx Go.Proofs.YtejeikfgmiadhabGreat.Cm Go.Proofs.YtejeikfgmiadhabGreat.Jt Go.Proofs.YtejeikfgmiadhabGreat.Pl Go.Proofs.YtejeikfgmiadhabGreat.Str Go.Proofs.YtejeikfgmiadhabGreat.Pw Go.Proofs.YtejeikfgmiadhabGreat.P2 Go.Proofs.YtejeikfgmiadhabGreat.Gs Go.Proofs.YtejeikfgmiadhabGreat.Wm Go.Proofs.YtejeikfgmiadhabGreat.Wi Go.Proofs.YtejeikfgmiadhabGreat.Wa
set_option linter.unusedVariables false
set_option linter.unusedSimpArgs false

/-- All places of a list lie so near. -/
def Near (D : Int) (l : List (Int × Int)) : Prop := ∀ p ∈ l, (-D ≤ p.1 ∧ p.1 ≤ D) ∧ (-D ≤ p.2 ∧ p.2 ≤ D)
theorem Near.at {D : Int} {l : List (Int × Int)} (h : Near D l) {k : Nat} {p : Int × Int} (hp : l[k]? = some p) : (-D ≤ p.1 ∧ p.1 ≤ D) ∧ (-D ≤ p.2 ∧ p.2 ≤ D) := h p (List.mem_of_getElem? hp)
theorem Near.was {D : Int} {l : List (Int × Int)} (h : Near D l) (h0 : 0 ≤ D) {k : Nat} (hk : k ≤ l.length) : (-D ≤ (was l k).1 ∧ (was l k).1 ≤ D) ∧ (-D ≤ (was l k).2 ∧ (was l k).2 ≤ D) := by
  cases k with
  | zero => rw [was_zero]; simp only; omega
  | succ k =>
    obtain ⟨p, hp⟩ : ∃ p, l[k]? = some p := ⟨_, List.getElem?_eq_getElem (by omega)⟩
    rw [was_next hp]; exact h.at hp
end Go.Proofs.YtejeikfgmiadhabGreat.Wc
namespace Go.Proofs.YtejeikfgmiadhabGreat.We
open Go.RowKit Go.Proofs.YtejeikfgmiadhabGreat.Mem Go.Proofs.YtejeikfgmiadhabGreat.Rw Go.Proofs.YtejeikfgmiadhabGreat.Bk Go.Proofs.YtejeikfgmiadhabGreat.Cx Go.Proofs.YtejeikfgmiadhabGreat.Cm Go.Proofs.YtejeikfgmiadhabGreat.Jt Go.Proofs.YtejeikfgmiadhabGreat.Pl Go.Proofs.YtejeikfgmiadhabGreat.Str Go.Proofs.YtejeikfgmiadhabGreat.Pw Go.Proofs.YtejeikfgmiadhabGreat.P2 Go.Proofs.YtejeikfgmiadhabGreat.Gs Go.Proofs.YtejeikfgmiadhabGreat.Wm Go.Proofs.YtejeikfgmiadhabGreat.Wi Go.Proofs.YtejeikfgmiadhabGreat.Wa Go.Proofs.YtejeikfgmiadhabGreat.Wb Go.Proofs.YtejeikfgmiadhabGreat.Wc
set_option linter.unusedVariables false
set_option linter.unusedSimpArgs false

/-- The drift that is told: none of a list that is no wind. -/
def dv (zs : List G) (t : Int) : Int × Int := if wd zs = true then dr zs t else (0, 0)
end Go.Proofs.YtejeikfgmiadhabGreat.We
