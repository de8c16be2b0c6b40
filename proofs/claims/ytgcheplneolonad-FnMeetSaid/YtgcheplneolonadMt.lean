/- Whether two drops meet, of the program. -/
import Derived.Test.YtgcheplneolonadFf
import Derived.Test.YtgcheplneolonadFmh
import Derived.Test.YtgcheplneolonadFp
import Derived.Deep.QuietTactic
import Derived.BigQuiet
namespace Go.Proofs.Ytgcheplneolonad.Dp
open Go.RowKit Go.Proofs.Ytgcheplneolonad.Cx Go.Proofs.Ytgcheplneolonad.Cm Go.Proofs.Ytgcheplneolonad.Pl Go.Proofs.Ytgcheplneolonad.Str Go.Proofs.Ytgcheplneolonad.Pw Go.Proofs.Ytgcheplneolonad.P2 Go.Proofs.Ytgcheplneolonad.Hd Go.Proofs.Ytgcheplneolonad.Jt
set_option linter.unusedVariables false
set_option linter.unusedSimpArgs false

theorem ordEq {a b : Int} : (some (compare a b) == some Ordering.eq) = decide (a = b) := by
  by_cases h : a = b
  · subst h; simp [compare, compareOfLessAndEq]
  · simp [compare, compareOfLessAndEq, h]
    split <;> simp
theorem ceql {P : Program} {a b c d : Int} {x y u v : Nat} (ha : a.natAbs < 16777216) (hb : b.natAbs < 16777216) (hc : c.natAbs < 16777216) (hd : d.natAbs < 16777216) (hx : I32 a x) (hy : I32 b y) (hu : I32 c u) (hv : I32 d v) (r : Bool) (hr : r = (decide (a = c) && decide (b = d))) (t : TypeId) (w : World) :
    (binOp .eql t (.complex .f32 x y) (.complex .f32 u v)).run P w = .ok (.bool r) w := by
  rw [run_eql_complex]
  have e1 : FloatKind.f32.format.order x u = some (compare a c) := order_is (s32 a ha) (s32 c hc) hx hu
  have e2 : FloatKind.f32.format.order y v = some (compare b d) := order_is (s32 b hb) (s32 d hd) hy hv
  rw [e1, e2, ordEq, ordEq, hr]
theorem feql {a c : Int} {x u : Nat} (ha : a.natAbs < 16777216) (hc : c.natAbs < 16777216) (hx : I32 a x) (hu : I32 c u) : (FloatKind.f32.format.order x u == some .eq) = decide (a = c) := by
  rw [show FloatKind.f32.format.order x u = some (compare a c) from order_is (s32 a ha) (s32 c hc) hx hu, ordEq]

/-- Whether two drops are at one place and height. -/
def mq (X Y H X' Y' H' : Int) : Bool := decide (X = X') && decide (Y = Y') && decide (H = H')
def Told (b : Bool) (w : World) (e : Ending) (w' : World) : Prop := e = .returned (.bool b) ∧ ∃ m, w' = w.drewN m

set_option maxHeartbeats 2000000 in
theorem meets {w : World} {b c : Nat} {X Y P Q H S X' Y' P' Q' H' S' : Int} (k : Fly w b X Y P Q H S) (k' : Fly w c X' Y' P' Q' H' S')
    (hX : X.natAbs < 16777216) (hY : Y.natAbs < 16777216) (hH : H.natAbs < 16777216) (hX' : X'.natAbs < 16777216) (hY' : Y'.natAbs < 16777216) (hH' : H'.natAbs < 16777216) :
    Calls Try.prog 32 #[.pointer (some ⟨b, 0, none⟩), .pointer (some ⟨c, 0, none⟩)] w (Told (mq X Y H X' Y' H') w) := by
  obtain ⟨x, y, p, q, h, s, hD, i1, i2, _, _, i5, _⟩ := k
  obtain ⟨x', y', p', q', h', s', hD', j1, j2, _, _, j5, _⟩ := k'
  obtain ⟨r, hr⟩ : ∃ r, (decide (X = X') && decide (Y = Y')) = r := ⟨_, rfl⟩
  have CE := fun (t : TypeId) (W : World) => ceql (P := Try.prog) hX hY hX' hY' i1 i2 j1 j2 r hr.symm t W
  have FE := feql hH hH' i5 j5
  have c0 := hD.c0
  have c1 := hD'.c0
  have c2 := hD.c2
  have c3 := hD'.c2
  have F := Lib.hid (show mq X Y H X' Y' H' = (r && decide (H = H')) by unfold mq; rw [hr])
  generalize mq X Y H X' Y' H' = M at *
  generalize decide (H = H') = d at *
  have hu : undef = Value.tuple #[] := rfl
  clear hD hD' i1 i2 i5 j1 j2 j5 hr hX hY hH hX' hY' hH'
  cases r
  · go_enter Try.func32, Try.ntmps32
    go_wp2_with fail
    go_quiet (fail)
    go_wp2_with fail
    go_ret
    exact ⟨by rw [F.out]; rfl, _, rfl⟩
  · cases d
    all_goals
      go_enter Try.func32, Try.ntmps32
      go_wp2_with fail
      go_quiet (fail)
      go_wp2_with fail
      go_ret
      exact ⟨by rw [F.out]; rfl, _, rfl⟩

/-- What the ticks up to n are at which they meet. -/
def mb (x y p q l x' y' p' q' l' : Int) (k : Nat) : Bool := mq (wy x p k) (wy y q k) (hg l k) (wy x' p' k) (wy y' q' k) (hg l' k)
def mts (f : Nat → Bool) (n : Nat) : List Int := ((List.range n).filter f).map fun k : Nat => (k : Int)
theorem mts_yes {f : Nat → Bool} {n : Nat} (h : f n = true) : mts f (n + 1) = mts f n ++ [(n : Int)] := by unfold mts; rw [List.range_succ, List.filter_append]; simp [h]
theorem mts_no {f : Nat → Bool} {n : Nat} (h : f n = false) : mts f (n + 1) = mts f n := by unfold mts; rw [List.range_succ, List.filter_append]; simp [h]
theorem mts_len (f : Nat → Bool) (n : Nat) : (mts f n).length ≤ n := by
  unfold mts; rw [List.length_map]; have := List.length_filter_le f (List.range n); rwa [List.length_range] at this

end Go.Proofs.Ytgcheplneolonad.Dp
