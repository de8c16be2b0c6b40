/- A window of the drifts, its sum and its changes: the program's own functions. -/
import Derived.Test.YtejeikfgmiadhabWc
import Derived.Test.YtejeikfgmiadhabWb
set_option linter.unusedVariables false
set_option linter.unusedSimpArgs false
namespace Go.Proofs.Ytejeikfgmiadhab.Wc
open Go.RowKit Go.Proofs.Ytejeikfgmiadhab.Mem Go.Proofs.Ytejeikfgmiadhab.Rw Go.Proofs.Ytejeikfgmiadhab.Bk Go.Proofs.Ytejeikfgmiadhab.Cx Go.Proofs.Ytejeikfgmiadhab.Cm Go.Proofs.Ytejeikfgmiadhab.Jt Go.Proofs.Ytejeikfgmiadhab.Pl Go.Proofs.Ytejeikfgmiadhab.Str Go.Proofs.Ytejeikfgmiadhab.Pw Go.Proofs.Ytejeikfgmiadhab.P2 Go.Proofs.Ytejeikfgmiadhab.Gs Go.Proofs.Ytejeikfgmiadhab.Wm Go.Proofs.Ytejeikfgmiadhab.Wi Go.Proofs.Ytejeikfgmiadhab.Wa
set_option linter.unusedVariables false
set_option linter.unusedSimpArgs false

/-- Words that tell these places, to be read. -/
def Win (w : World) (l : List (Int × Int)) (e : Ending) (w' : World) : Prop :=
  ∃ g o, e = .returned (.slice (some ⟨g, o, none⟩) l.length l.length) ∧ Rd w' w'.heap.size (some ⟨g, o, none⟩) (zs2 l) ∧ Below w.heap.size w w'

theorem rd_part {w : World} {B g : Nat} {xs : List Value} (h : Rd w B (some ⟨g, 0, none⟩) xs) (a m : Nat) : Rd w B (some ⟨g, a, none⟩) ((xs.drop a).take m) := by
  rcases h with rfl | ⟨b, o, e, hb, hx⟩
  · exact Or.inl (by simp)
  · injection e with e
    injection e with e1 e2
    subst e1 e2
    refine Or.inr ⟨g, a, rfl, hb, fun j v hv => ?_⟩
    rw [List.getElem?_take] at hv
    split at hv
    · rw [List.getElem?_drop] at hv
      have := hx _ _ hv
      rwa [Nat.zero_add] at this
    · cases hv
theorem rd_any {w : World} {B g o o' : Nat} : Rd w B (some ⟨g, o, none⟩) (zs2 []) := Or.inl rfl
theorem zs2_part (zs : List G) (a m : Nat) (h : a + m ≤ 128) : ((zs2 (drs zs 0 128)).drop a).take m = zs2 (drs zs a m) := by
  unfold zs2
  rw [← List.map_drop, ← List.map_take, drs_drop, drs_take (by omega)]

theorem i32_zero : I32 0 0 := ⟨false, by decide, by decide⟩
theorem cneq {P : Program} {a b c d : Int} {x y u v : Nat} (ha : a.natAbs < 16777216) (hb : b.natAbs < 16777216) (hc : c.natAbs < 16777216) (hd : d.natAbs < 16777216) (hx : I32 a x) (hy : I32 b y) (hu : I32 c u) (hv : I32 d v) (r : Bool) (hr : r = (!(decide (a = c) && decide (b = d)))) (t : TypeId) (w : World) :
    (binOp .neq t (.complex .f32 x y) (.complex .f32 u v)).run P w = .ok (.bool r) w := by
  have key : ∀ {a b : Int}, (some (compare a b) == some Ordering.eq) = decide (a = b) := by
    intro a b
    by_cases h : a = b
    · subst h; simp [compare, compareOfLessAndEq]
    · simp [compare, compareOfLessAndEq, h]
      split <;> simp
  rw [run_neq_complex]
  have e1 : FloatKind.f32.format.order x u = some (compare a c) := order_is (s32 a ha) (s32 c hc) hx hu
  have e2 : FloatKind.f32.format.order y v = some (compare b d) := order_is (s32 b hb) (s32 d hd) hy hv
  rw [e1, e2, key, key, hr]

/-- All places of a list lie so near. -/
def Near (D : Int) (l : List (Int × Int)) : Prop := ∀ p ∈ l, (-D ≤ p.1 ∧ p.1 ≤ D) ∧ (-D ≤ p.2 ∧ p.2 ≤ D)
theorem Near.at {D : Int} {l : List (Int × Int)} (h : Near D l) {k : Nat} {p : Int × Int} (hp : l[k]? = some p) : (-D ≤ p.1 ∧ p.1 ≤ D) ∧ (-D ≤ p.2 ∧ p.2 ≤ D) := h p (List.mem_of_getElem? hp)
theorem Near.was {D : Int} {l : List (Int × Int)} (h : Near D l) (h0 : 0 ≤ D) {k : Nat} (hk : k ≤ l.length) : (-D ≤ (was l k).1 ∧ (was l k).1 ≤ D) ∧ (-D ≤ (was l k).2 ∧ (was l k).2 ≤ D) := by
  cases k with
  | zero => rw [was_zero]; simp only; omega
  | succ k =>
    obtain ⟨p, hp⟩ : ∃ p, l[k]? = some p := ⟨_, List.getElem?_eq_getElem (by omega)⟩
    rw [was_next hp]; exact h.at hp
theorem near_drs {zs : List G} (h : wd zs = true) (a m : Nat) : Near 8 (drs zs a m) := by
  intro p hp
  unfold drs at hp
  obtain ⟨j, _, rfl⟩ := List.mem_map.1 hp
  exact dr_bound h _

end Go.Proofs.Ytejeikfgmiadhab.Wc
