/- Lists of blocks: a list of blocks that came in, the laws' copy of one, their comparison, and marks; their levels one behind the other. -/
import Derived.Test.YtmbiomekbinplaaRw
import Derived.Deep.SlicePairs
import Derived.Deep.RegionHeld3
import Derived.Handy
import Derived.StillTailTactics
namespace Go.Proofs.Ytmbiomekbinplaa.Bl8
open Go.RowKit Go.ChangeShapes Go.WideShapes Go.WideElems Go.Deep Go.Proofs.Ytmbiomekbinplaa.Mem Go.Proofs.Ytmbiomekbinplaa.Rw
set_option linter.unusedVariables false
set_option linter.unusedSimpArgs false

/-- Eight levels. -/
structure Q8 where
  x0 : Int
  x1 : Int
  x2 : Int
  x3 : Int
  x4 : Int
  x5 : Int
  x6 : Int
  x7 : Int
instance : Inhabited Q8 := ⟨⟨0, 0, 0, 0, 0, 0, 0, 0⟩⟩
def ql (q : Q8) : List Int := [q.x0, q.x1, q.x2, q.x3, q.x4, q.x5, q.x6, q.x7]
def qc (q : Q8) : List Value := ints (ql q)
theorem qc_len (q : Q8) : (qc q).length = 8 := rfl
def fl (qs : List Q8) : List Int := qs.flatMap ql
theorem fl_len (qs : List Q8) : (fl qs).length = qs.length * 8 := by
  unfold fl
  induction qs with
  | nil => rfl
  | cons q qs ih => simp only [List.flatMap_cons, List.length_append, List.length_cons, ih, ql, List.length_nil]; omega
theorem fl_cells (qs : List Q8) : qs.flatMap qc = ints (fl qs) := by
  unfold fl qc ints
  induction qs with
  | nil => rfl
  | cons q qs ih => rw [List.flatMap_cons, List.flatMap_cons, List.map_append, ih]
section
variable {H : Type} {enc : TypeId × Value → H} {P : Program}
theorem take_blocks {W : World} {r : Reach} {b0 : Nat} {t e i : TypeId} {v : Value} {d : DataW H} {ps : List MemPlace} (ht : P.underlying t = some (.slice e)) (he : P.underlying e = some (.array 8 i)) (hi : P.underlying i = some (.int .i64)) (ce : P.cellsOf e = 8) (ci : P.cellsOf i = 1)
    (hval : Value.okWide P W r b0 t v) (h : DataW.Trod enc P W 0 (fun _ => true) true t v d ps) :
    ∃ (A : Option Addr) (n c : Nat) (zs : List Int), v = .slice A n c ∧ zs.length = n * 8 ∧ n ≤ maxLen ∧ Rd W W.heap.size A (ints zs) ∧ ∀ z ∈ zs, (Lit.int .i64 z).wf = true := by
  obtain ⟨A, n, c, qs, e1, e2, e3, e4, e5⟩ := take_rows (K := 8) (cells := qc) (fun q => ∀ z ∈ ql q, (Lit.int .i64 z).wf = true) qc_len (by omega) ht ce (by
    intro fuel cs x hx hl
    obtain ⟨xs, m, _, _, _, hxl, hf⟩ := DataW.trod_array he hx
    match cs, hl with
    | [a0, a1, a2, a3, a4, a5, a6, a7], _ =>
      have k0 := hf 0 (by omega)
      obtain ⟨y0, h0⟩ : ∃ y, xs[0]? = some y := ⟨_, List.getElem?_eq_getElem (by omega)⟩
      rw [ci, h0] at k0
      simp at k0
      obtain ⟨z0, e0, _, w0⟩ := DataW.trod_int hi k0
      injection e0 with e0
      subst e0
      have k1 := hf 1 (by omega)
      obtain ⟨y1, h1⟩ : ∃ y, xs[1]? = some y := ⟨_, List.getElem?_eq_getElem (by omega)⟩
      rw [ci, h1] at k1
      simp at k1
      obtain ⟨z1, e1, _, w1⟩ := DataW.trod_int hi k1
      injection e1 with e1
      subst e1
      have k2 := hf 2 (by omega)
      obtain ⟨y2, h2⟩ : ∃ y, xs[2]? = some y := ⟨_, List.getElem?_eq_getElem (by omega)⟩
      rw [ci, h2] at k2
      simp at k2
      obtain ⟨z2, e2, _, w2⟩ := DataW.trod_int hi k2
      injection e2 with e2
      subst e2
      have k3 := hf 3 (by omega)
      obtain ⟨y3, h3⟩ : ∃ y, xs[3]? = some y := ⟨_, List.getElem?_eq_getElem (by omega)⟩
      rw [ci, h3] at k3
      simp at k3
      obtain ⟨z3, e3, _, w3⟩ := DataW.trod_int hi k3
      injection e3 with e3
      subst e3
      have k4 := hf 4 (by omega)
      obtain ⟨y4, h4⟩ : ∃ y, xs[4]? = some y := ⟨_, List.getElem?_eq_getElem (by omega)⟩
      rw [ci, h4] at k4
      simp at k4
      obtain ⟨z4, e4, _, w4⟩ := DataW.trod_int hi k4
      injection e4 with e4
      subst e4
      have k5 := hf 5 (by omega)
      obtain ⟨y5, h5⟩ : ∃ y, xs[5]? = some y := ⟨_, List.getElem?_eq_getElem (by omega)⟩
      rw [ci, h5] at k5
      simp at k5
      obtain ⟨z5, e5, _, w5⟩ := DataW.trod_int hi k5
      injection e5 with e5
      subst e5
      have k6 := hf 6 (by omega)
      obtain ⟨y6, h6⟩ : ∃ y, xs[6]? = some y := ⟨_, List.getElem?_eq_getElem (by omega)⟩
      rw [ci, h6] at k6
      simp at k6
      obtain ⟨z6, e6, _, w6⟩ := DataW.trod_int hi k6
      injection e6 with e6
      subst e6
      have k7 := hf 7 (by omega)
      obtain ⟨y7, h7⟩ : ∃ y, xs[7]? = some y := ⟨_, List.getElem?_eq_getElem (by omega)⟩
      rw [ci, h7] at k7
      simp at k7
      obtain ⟨z7, e7, _, w7⟩ := DataW.trod_int hi k7
      injection e7 with e7
      subst e7
      refine ⟨⟨z0, z1, z2, z3, z4, z5, z6, z7⟩, rfl, ?_⟩
      intro z hz
      simp only [ql, List.mem_cons, List.not_mem_nil, or_false] at hz
      rcases hz with rfl | rfl | rfl | rfl | rfl | rfl | rfl | rfl <;> assumption) hval h
  refine ⟨A, n, c, fl qs, e1, by rw [fl_len, e2], e3, by rw [← fl_cells]; exact e4, ?_⟩
  intro z hz
  obtain ⟨q, hq, hz⟩ := List.mem_flatMap.1 hz
  exact e5 q hq z hz
end
theorem cell_drewN (w : World) (m : Nat) (p : Addr) : (w.drewN m).cell? p = w.cell? p := rfl
theorem infoB : (Try.prog.info? 56).map (fun i => (i.zero, i.size, i.bytes)) = some (some (.agg #[.int .i64 0, .int .i64 0, .int .i64 0, .int .i64 0, .int .i64 0, .int .i64 0, .int .i64 0, .int .i64 0]), 8, 64) := by kernel_rfl
theorem ints_at {zs : List Int} {k : Nat} {z : Int} (h : zs[k]? = some z) : (ints zs)[k]? = some (.int .i64 z) := by unfold ints; rw [List.getElem?_map, h]; rfl
theorem filled_at {xs : List Value} {z : Value} {k j : Nat} (hk : k ≤ j) (hj : j < xs.length) : (filled xs z k)[j]? = some z := by
  unfold filled
  rw [List.getElem?_append_right (by rw [List.length_take]; omega), List.length_take, Nat.min_eq_left (by omega), List.getElem?_replicate, if_pos (by omega)]

/-- What the copy leaves: a row of its own with these levels; what was there is as it was. -/
def Copied (w : World) (n : Nat) (zs : List Int) (e : Ending) (w' : World) : Prop :=
  ∃ g, e = .returned (.slice (some ⟨g, 0, none⟩) n n) ∧ w.heap.size ≤ g ∧ w'.ownsRow w.heap.size 56 8 (.slice (some ⟨g, 0, none⟩) n n) n (ints zs) ∧ Below w.heap.size w w'

/-- The marks are laid; what lies in other blocks is as it was. -/
def Laid (w : World) (base g n c k : Nat) (e : Ending) (w' : World) : Prop :=
  e = .returned (.int .i64 ((k : Int) + ((n * 8 : Nat) : Int))) ∧ w'.ownsRow base 56 8 (.slice (some ⟨g, 0, none⟩) n c) n (mk k (n * 8)) ∧ w.grownBy w' (some g)

end Go.Proofs.Ytmbiomekbinplaa.Bl8
