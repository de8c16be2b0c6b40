/- Lists of places: how they lie in memory, a list of places that came in, the laws' copy of one, and their comparison. -/
import Derived.Test.YtokncfhpmjohdaeM1
import Derived.Test.YtokncfhpmjohdaeM3
import Derived.Deep.SlicePairs
import Derived.Deep.RegionHeld3
set_option linter.unusedVariables false
set_option linter.unusedSimpArgs false
namespace Go.Proofs.Ytokncfhpmjohdae.Pls
open Go.RowKit Go.ChangeShapes Go.WideShapes Go.WideElems Go.Deep Go.Proofs.Ytokncfhpmjohdae.Mem Go.Proofs.Ytokncfhpmjohdae.Pw Go.Proofs.Ytokncfhpmjohdae.P2
set_option linter.unusedVariables false

/-- The cells of a list of places. -/
def pls (ps : List (Int × Int)) : List Value := ps.flatMap fun p => [.int .i64 p.1, .int .i64 p.2]
theorem pls_cons (p : Int × Int) (ps : List (Int × Int)) : pls (p :: ps) = .int .i64 p.1 :: .int .i64 p.2 :: pls ps := rfl
theorem pls_len : ∀ ps : List (Int × Int), (pls ps).length = ps.length * 2
  | [] => rfl
  | p :: ps => by rw [pls_cons, List.length_cons, List.length_cons, List.length_cons, pls_len ps]; omega
theorem pls_get : ∀ {ps : List (Int × Int)} {k : Nat} {p : Int × Int}, ps[k]? = some p → (pls ps)[k * 2]? = some (.int .i64 p.1) ∧ (pls ps)[k * 2 + 1]? = some (.int .i64 p.2)
  | [], _, _, h => by simp at h
  | q :: ps, 0, p, h => by simp at h; subst h; exact ⟨rfl, rfl⟩
  | q :: ps, k + 1, p, h => by
    have := pls_get (ps := ps) (k := k) (p := p) (by simpa using h)
    rw [pls_cons, show (k + 1) * 2 = k * 2 + 1 + 1 by omega]
    simpa using this

section
variable {H : Type} {enc : TypeId × Value → H} {P : Program}
/-- A slice of places that came in. -/
theorem take_places {W : World} {r : Reach} {b0 : Nat} {t e : TypeId} {f0 f1 : Field} {v : Value} {d : DataW H} {ps : List MemPlace} (ht : P.underlying t = some (.slice e)) (he : P.underlying e = some (.struct #[f0, f1]))
    (ce : P.cellsOf e = 2) (o0 : f0.offset = 0) (o1 : f1.offset = 1) (c0 : P.cellsOf f0.type = 1) (c1 : P.cellsOf f1.type = 1)
    (h0 : P.underlying f0.type = some (.int .i64)) (h1 : P.underlying f1.type = some (.int .i64))
    (hval : Value.okWide P W r b0 t v) (h : DataW.Trod enc P W 0 (fun _ => true) true t v d ps) :
    ∃ (A : Option Addr) (n c : Nat) (zs : List (Int × Int)), v = .slice A n c ∧ zs.length = n ∧ n ≤ maxLen ∧ Rd W W.heap.size A (pls zs) ∧ ∀ z ∈ zs, (Lit.int .i64 z.1).wf = true ∧ (Lit.int .i64 z.2).wf = true := by
  obtain ⟨a0, len, cap, rfl⟩ := okWide_slice ht hval
  obtain ⟨fuel, hf⟩ := h
  rcases open_slice_pairs ht he ce o0 o1 c0 c1 hf with ⟨hcs, _⟩ | ⟨a, len', cap', m, n, V0, V1, D0, D1, P0, P1, hcs, _, hl, hm, hmm, _, hx⟩
  · simp [Value.cells] at hcs
    obtain ⟨rfl, rfl, rfl⟩ := hcs
    exact ⟨none, 0, 0, [], rfl, rfl, Nat.zero_le _, Rd.nil _ _ _, fun _ h => by cases h⟩
  · simp [Value.cells] at hcs
    obtain ⟨rfl, rfl, rfl⟩ := hcs
    simp only [if_true] at hmm
    subst hmm
    have each : ∀ i, i < len → ∃ q : Int × Int, V0 i = .int .i64 q.1 ∧ V1 i = .int .i64 q.2 ∧ (Lit.int .i64 q.1).wf = true ∧ (Lit.int .i64 q.2).wf = true := by
      intro i hi
      obtain ⟨_, _, g0, g1⟩ := hx i (by omega)
      obtain ⟨x, e0, _, w0⟩ := DataW.trod_int h0 g0
      obtain ⟨y, e1, _, w1⟩ := DataW.trod_int h1 g1
      simp only [List.cons.injEq, and_true] at e0 e1
      exact ⟨(x, y), e0, e1, w0, w1⟩
    obtain ⟨q, hq⟩ := choose_lt each
    refine ⟨some a, len, _, (List.range len).map q, rfl, by simp, by omega, ?_, ?_⟩
    · by_cases hz : len = 0
      · subst hz; exact Or.inl rfl
      · obtain ⟨b, o, spot⟩ := a
        have c00 := (hx 0 (by omega)).1
        have hspot : spot = none := by simpa [Addr.add] using World.cell?_spot c00
        subst hspot
        have hb := World.block_lt_of_cell? W _ c00
        refine Or.inr ⟨b, o, rfl, by simpa [Addr.add] using hb, fun j v hv => ?_⟩
        have hj : j < (pls ((List.range len).map q)).length := (List.getElem?_eq_some_iff.1 hv).1
        rw [pls_len] at hj
        simp only [List.length_map, List.length_range] at hj
        have hi : j / 2 < len := by omega
        have hg := pls_get (ps := (List.range len).map q) (k := j / 2) (p := q (j / 2)) (by simp [hi])
        obtain ⟨k0, k1, _, _⟩ := hx (j / 2) (by omega)
        rw [(hq _ hi).1] at k0
        rw [(hq _ hi).2.1] at k1
        rcases Nat.mod_two_eq_zero_or_one j with e | e
        · have ej : j / 2 * 2 = j := by omega
          rw [ej] at hg k0
          rw [hv] at hg
          have := hg.1
          injection this with this
          subst this
          rw [← add_plain]; exact k0
        · have ej : j / 2 * 2 + 1 = j := by omega
          rw [ej] at hg k1
          rw [hv] at hg
          have := hg.2
          injection this with this
          subst this
          rw [← add_plain]; exact k1
    · intro z hz
      obtain ⟨i, hi, rfl⟩ := List.mem_map.1 hz
      exact (hq i (List.mem_range.1 hi)).2.2
end

theorem infoPlace : (Try.prog.info? 25).map (fun i => (i.zero, i.size, i.bytes)) = some (some (.agg #[.int .i64 0, .int .i64 0]), 2, 16) := by kernel_rfl

theorem info_parts2 {P : Program} {e : TypeId} {z : Value} {n b : Nat} (h : (P.info? e).map (fun i => (i.zero, i.size, i.bytes)) = some (some z, n, b)) : ∃ i, P.info? e = some i ∧ i.zero = some z ∧ i.size = n ∧ i.bytes = b := by
  match hi : P.info? e, h with
  | some i, h => simp at h; exact ⟨i, rfl, h.1, h.2.1, h.2.2⟩
  | none, h => simp at h

theorem made_places (n : Nat) : (madeCells (Value.agg #[.int .i64 0, .int .i64 0]).cells (n * 2)).toList = List.replicate (n * 2) (.int .i64 0) := by
  apply List.ext_getElem?
  intro j
  rw [Array.getElem?_toList, List.getElem?_replicate]
  simp only [madeCells, Value.cells]
  by_cases h : j < n * 2
  · have : j % 2 = 0 ∨ j % 2 = 1 := by omega
    rcases this with e | e <;> simp [h, e]
  · simp [h]

theorem owns_below {w w' : World} {base : Nat} {e : TypeId} {size : Nat} {v : Value} {n : Nat} {xs : List Value} (h : w.ownsRow base e size v n xs) (hb : Below w.heap.size w w') : w'.ownsRow base e size v n xs := by
  refine ⟨h.1, h.2.imp id fun ⟨g, cap, cur, e1, e2, e3, e4⟩ => ⟨g, cap, cur, e1, e2, (hb.block g ?_).trans e3, e4⟩⟩
  exact (Array.getElem?_eq_some_iff.1 e3).1

/-- What the copy leaves: a row of its own with these places; what was there is as it was. -/
def Copied (w : World) (n : Nat) (zs : List (Int × Int)) (e : Ending) (w' : World) : Prop :=
  ∃ g, e = .returned (.slice (some ⟨g, 0, none⟩) n n) ∧ w.heap.size ≤ g ∧ w'.ownsRow w.heap.size 25 2 (.slice (some ⟨g, 0, none⟩) n n) n (pls zs) ∧ Below w.heap.size w w'

set_option maxHeartbeats 1000000 in
theorem eqPlaceS (A B : Option Addr) (n c d : Nat) (zs : List (Int × Int)) (H : Nat) (w : World) (hn : zs.length = n) (hb : n ≤ 1048576) (hH : H ≤ w.heap.size) (hr : Rd w H A (pls zs)) (hs : Rd w H B (pls zs)) :
    Calls Try.prog 42 #[.slice A n c, .slice B n d] w fun e w' => e = .returned (.bool true) ∧ Below w.heap.size w w' := by
  have HR := Lib.hid (hr.more hH)
  have HS := Lib.hid (hs.more hH)
  have HN := Lib.hid hn
  clear hr hs hn hH
  go_enter Try.func42, Try.ntmps42
  go_wp2
  go_loopw [5] (fun i wr => ∃ k : Nat, k ≤ n ∧ i = .int .i64 k ∧ Hid (Below w.heap.size w wr)) (fun i _ => n - (intOf i).toNat)
  case atStart => exact ⟨0, Nat.zero_le _, rfl, Lib.hid (Below.refl _ _)⟩
  case round =>
    obtain ⟨k, hk, rfl, BK⟩ := hrel
    by_cases hlt : k < n
    · have hkz : k < zs.length := by rw [HN.out]; exact hlt
      have hl : k * 2 < (pls zs).length := by rw [pls_len]; omega
      obtain ⟨z, hz⟩ : ∃ z, zs[k]? = some z := ⟨_, List.getElem?_eq_getElem hkz⟩
      obtain ⟨z0, z1⟩ := pls_get hz
      obtain ⟨x, y⟩ := z
      obtain ⟨b1, o1, eA, _, g1⟩ := (HR.out.below BK.out).get hl
      obtain ⟨b2, o2, eB, _, g2⟩ := (HS.out.below BK.out).get hl
      have c1 : wr.cell? ⟨b1, o1 + k * 2, none⟩ = some (.int .i64 x) := g1 _ _ z0
      have c2 : wr.cell? ⟨b1, o1 + k * 2 + 1, none⟩ = some (.int .i64 y) := g1 _ _ z1
      have c3 : wr.cell? ⟨b2, o2 + k * 2, none⟩ = some (.int .i64 x) := g2 _ _ z0
      have c4 : wr.cell? ⟨b2, o2 + k * 2 + 1, none⟩ = some (.int .i64 y) := g2 _ _ z1
      clear g1 g2 hz hl hkz z0 z1
      subst eA eB
      have hlt' : (k : Int) < (n : Int) := by omega
      have hk0 : (0 : Int) ≤ (k : Int) := by omega
      have p1 : b1 < wr.heap.size := World.block_lt_of_cell? wr _ c1
      have p2 : ∀ j, b1 < wr.heap.size + j := fun j => by omega
      have p3 : b2 < wr.heap.size := World.block_lt_of_cell? wr _ c3
      have p4 : ∀ j, b2 < wr.heap.size + j := fun j => by omega
      go_wp2_with fail
      go_region_held3 (fun w' => w'.cell? ⟨b1, o1 + k * 2, none⟩ = some (.int .i64 x) ∧ w'.cell? ⟨b1, o1 + k * 2 + 1, none⟩ = some (.int .i64 y) ∧ w'.cell? ⟨b2, o2 + k * 2, none⟩ = some (.int .i64 x) ∧ w'.cell? ⟨b2, o2 + k * 2 + 1, none⟩ = some (.int .i64 y)) (simp [go_sem, *])
        (first | (go_at_call 79; refine (eqPlace _ _ _).mono ?_; rintro e w' ⟨rfl, rfl⟩))
      all_goals go_wp2_with fail
      all_goals go_roundw
      case rel => exact ⟨k + 1, by omega, by go_num, Lib.hid (BK.out.trans (Below.mono (by go_grown) BK.out.size))⟩
      case measure => simp [intOf]; omega
    · obtain rfl : k = n := by omega
      go_wp2
      go_ret
      exact ⟨rfl, BK.out⟩

end Go.Proofs.Ytokncfhpmjohdae.Pls
namespace Go.Proofs.Ytokncfhpmjohdae.Mp11
open Go.RowKit Go.ChangeShapes Go.WideShapes Go.WideElems Go.Deep Go.Proofs.Ytokncfhpmjohdae.Mem Go.Proofs.Ytokncfhpmjohdae.Rw Go.Proofs.Ytokncfhpmjohdae.Pw Go.Proofs.Ytokncfhpmjohdae.P2
set_option linter.unusedVariables false
set_option linter.unusedSimpArgs false

/-- The marks are laid; what lies in other blocks is as it was. -/
def Laid (w : World) (base g n c k : Nat) (e : Ending) (w' : World) : Prop :=
  e = .returned (.int .i64 ((k : Int) + ((n * 2 : Nat) : Int))) ∧ w'.ownsRow base 25 2 (.slice (some ⟨g, 0, none⟩) n c) n (mk k (n * 2)) ∧ w.grownBy w' (some g)

set_option maxHeartbeats 2000000 in
theorem markPlaceS (base g n c k : Nat) (xs : List Value) (w : World) (hn : xs.length = n * 2) (hb : n ≤ 1048576) (hk : k ≤ 16777216) (hr : w.ownsRow base 25 2 (.slice (some ⟨g, 0, none⟩) n c) n xs) :
    Calls Try.prog 45 #[.slice (some ⟨g, 0, none⟩) n c, .int .i64 k] w (Laid w base g n c k) := by
  have HN := Lib.hid hn
  have R0 := Lib.hid (show w.ownsRow base 25 2 (.slice (some ⟨g, 0, none⟩) n c) n (marked k 0 xs) by rw [marked_zero]; exact hr)
  clear hn hr
  go_enter Try.func45, Try.ntmps45
  go_wp2_with fail
  go_loopw [1, 5] (fun q i wr => ∃ j : Nat, j ≤ n ∧ i = .int .i64 j ∧ q = .int .i64 ((k : Int) + ((j * 2 : Nat) : Int)) ∧ Hid (wr.ownsRow base 25 2 (.slice (some ⟨g, 0, none⟩) n c) n (marked k (j * 2) xs)) ∧ Hid (w.grownBy wr (some g))) (fun _ i _ => n - (intOf i).toNat)
  case atStart => exact ⟨0, Nat.zero_le _, rfl, by simp, R0, Lib.hid (grown_refl _ _)⟩
  case round =>
    obtain ⟨j, hj, rfl, rfl, RK, GK⟩ := hrel
    obtain ⟨q, hq⟩ : ∃ q : Nat, q = k + j * 2 := ⟨_, rfl⟩
    rw [show (k : Int) + ((j * 2 : Nat) : Int) = (q : Int) by omega]
    by_cases hlt : j < n
    · have HL := HN.out
      have R1 := RK.out
      obtain ⟨v0, z0⟩ : ∃ v, xs[j * 2]? = some v := ⟨_, List.getElem?_eq_getElem (by omega)⟩
      obtain ⟨v1, z1⟩ : ∃ v, xs[j * 2 + 1]? = some v := ⟨_, List.getElem?_eq_getElem (by omega)⟩
      obtain ⟨r1, g1⟩ := R1.stored (j * 2) (.int .i64 ((k : Int) + ((j * 2 : Nat) : Int)))
      rw [marked_set (by omega)] at r1
      obtain ⟨r2, g2⟩ := r1.stored (j * 2 + 1) (.int .i64 ((k : Int) + ((j * 2 + 1 : Nat) : Int)))
      rw [marked_set (by omega)] at r2
      have c1 := (R1.cellAt (j * 2) (by omega)).trans (marked_get z0)
      have c2 := (r1.cellAt (j * 2 + 1) (by omega)).trans (marked_get z1)
      have f1 := R1.frozenAt (j * 2)
      have f2 := r1.frozenAt (j * 2 + 1)
      have RR := Lib.hid r2
      have GG := Lib.hid (grown_trans (grown_trans GK.out g1) g2)
      rw [show (k : Int) + ((j * 2 : Nat) : Int) = (q : Int) by omega] at *
      rw [show (k : Int) + ((j * 2 + 1 : Nat) : Int) = (q : Int) + 1 by omega] at *
      have HQ := Lib.hid hq
      have hq8 : q ≤ 33554432 := by omega
      clear R0 R1 r1 r2 g1 g2 z0 z1 HL RK GK hq
      go_wp2_with fail
      go_roundw
      case rel => exact ⟨j + 1, by omega, by go_num, by (have := HQ.out; congr 1; omega), by rw [show (j + 1) * 2 = j * 2 + 1 + 1 by omega]; exact RR, GG⟩
      case measure => simp [intOf]; omega
    · obtain rfl : j = n := by omega
      have F := Lib.hid (show wr.ownsRow base 25 2 (.slice (some ⟨g, 0, none⟩) j c) j (mk k (j * 2)) by
        have := RK.out
        rw [marked_all (by rw [HN.out]; exact Nat.le_refl _)] at this; exact this)
      have HQ := Lib.hid hq
      clear hq R0
      go_wp2_with fail
      go_ret
      exact ⟨by rw [HQ.out]; congr 1, F.out, GK.out⟩


end Go.Proofs.Ytokncfhpmjohdae.Mp11
