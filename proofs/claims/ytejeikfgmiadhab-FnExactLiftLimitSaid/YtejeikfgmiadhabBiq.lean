/- What the program answers for the least box of a list of places. -/
import Derived.Test.YtejeikfgmiadhabBoq
set_option linter.unusedVariables false
set_option linter.unusedSimpArgs false
namespace Go.Proofs.Ytejeikfgmiadhab.Bi
open Go.RowKit Go.Proofs.Ytejeikfgmiadhab.Mem Go.Proofs.Ytejeikfgmiadhab.Cx Go.Proofs.Ytejeikfgmiadhab.Cm Go.Proofs.Ytejeikfgmiadhab.Pl Go.Proofs.Ytejeikfgmiadhab.Str Go.Proofs.Ytejeikfgmiadhab.Pw Go.Proofs.Ytejeikfgmiadhab.P2 Go.Proofs.Ytejeikfgmiadhab.Bx Go.Proofs.Ytejeikfgmiadhab.Tb Go.Proofs.Ytejeikfgmiadhab.Pls Go.Proofs.Ytejeikfgmiadhab.Bo
set_option linter.unusedVariables false

/-- The places as words. -/
def cx (zs : List (Int × Int)) : List Value := zs.map fun p => .complex .f32 (Meas.f32 p.1) (Meas.f32 p.2)
theorem cx_len (zs : List (Int × Int)) : (cx zs).length = zs.length := List.length_map ..
theorem cx_get {zs : List (Int × Int)} {k : Nat} {p : Int × Int} (h : zs[k]? = some p) : (cx zs)[k]? = some (.complex .f32 (Meas.f32 p.1) (Meas.f32 p.2)) := by
  unfold cx; rw [List.getElem?_map, h]; rfl

theorem infoC : (Try.prog.info? 75).map (fun i => (i.zero, i.size, i.bytes)) = some (some (.complex .f32 0 0), 1, 8) := by kernel_rfl
theorem made_cx (n : Nat) : (madeCells (Value.complex .f32 0 0).cells (n * 1)).toList = List.replicate n (.complex .f32 0 0) := by
  apply List.ext_getElem?
  intro j
  rw [Nat.mul_one, Array.getElem?_toList, List.getElem?_replicate]
  simp only [madeCells, Value.cells]
  by_cases h : j < n <;> simp [h, Nat.mod_one]

@[go_sem] theorem run_store_complex (P : Program) (w : World) (a : Addr) (m : Mode) (k : FloatKind) (b c : Nat) : (store a (.complex k b c) m).run P w = stored P w a (.complex k b c) m := run_store P w a _ m rfl

/-- What the words of a list of places are: none, where one of them is no place. -/
def Told (w : World) (n : Nat) (zs : List (Int × Int)) (e : Ending) (w' : World) : Prop :=
  Below w.heap.size w w' ∧ ((good zs = false ∧ e = .returned (.tuple #[.slice none 0 0, .bool false])) ∨
    (good zs = true ∧ ∃ g, e = .returned (.tuple #[.slice (some ⟨g, 0, none⟩) n n, .bool true]) ∧ w'.ownsRow w.heap.size 75 1 (.slice (some ⟨g, 0, none⟩) n n) n (cx zs)))

theorem ms_le {x y : Int} (h : (ms x && ms y) = true) : V x ∧ V y := pl_yes h
theorem V.min {a b : Int} (h : V a) (k : V b) : V (min a b) := by unfold V at *; omega
theorem V.max {a b : Int} (h : V a) (k : V b) : V (max a b) := by unfold V at *; omega

/-- The box so far, where the first place is p. -/
def sofar (zs : List (Int × Int)) (p : Int × Int) (k : Nat) : Q4 := if k = 0 then one p else boxA (zs.take k)
theorem sofar_next {zs : List (Int × Int)} {p z : Int × Int} {k : Nat} (h0 : zs[0]? = some p) (h : zs[k]? = some z) : sofar zs p (k + 1) = Bo.step (sofar zs p k) z := by
  have := boxA_take h
  unfold sofar
  rw [if_neg (by omega), this]
  by_cases e : k = 0
  · subst e
    rw [h0] at h
    injection h with h
    subst h
    rfl
  · rw [if_neg e, if_neg e]

theorem val_nil {zs : List (Int × Int)} (h : zs.length = 0) : Value.tuple #[box4 0 0 0 0, .bool false] = .tuple #[bq (val zs), .bool (okB zs)] := by
  match zs, h with
  | [], _ => rfl

end Go.Proofs.Ytejeikfgmiadhab.Bi
