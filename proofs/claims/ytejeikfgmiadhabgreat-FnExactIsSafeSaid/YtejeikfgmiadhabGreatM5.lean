/- Lists of gusts: how they lie in memory, a list of gusts that came in, the laws' copy of one, their comparison, and the marks that the laws lay into one. -/
import Derived.Test.YtejeikfgmiadhabGreatM1
import Derived.Test.YtejeikfgmiadhabGreatM4
import Derived.Deep.RegionHeld3
import Derived.Test.YtejeikfgmiadhabGreatM2
import Derived.Lib.SmallJoins
namespace Go.Proofs.YtejeikfgmiadhabGreat.Gs
open Go.RowKit Go.ChangeShapes Go.WideShapes Go.WideElems Go.Deep Go.Proofs.YtejeikfgmiadhabGreat.Mem Go.Proofs.YtejeikfgmiadhabGreat.Rw Go.Proofs.YtejeikfgmiadhabGreat.Pw Go.Proofs.YtejeikfgmiadhabGreat.P2
set_option linter.unusedVariables false
set_option linter.unusedSimpArgs false

/-- The cells of a gust: when it begins, and its drift. -/
def gc (g : Int × Int × Int) : List Value := [.int .i64 g.1, .int .i64 g.2.1, .int .i64 g.2.2]
theorem gc_len (g : Int × Int × Int) : (gc g).length = 3 := rfl
/-- The cells of a list of gusts. -/
def gls (zs : List (Int × Int × Int)) : List Value := zs.flatMap gc
theorem gls_len (zs : List (Int × Int × Int)) : (gls zs).length = zs.length * 3 := flat_len gc_len zs
theorem gls_get {zs : List (Int × Int × Int)} {k : Nat} {z : Int × Int × Int} (h : zs[k]? = some z) :
    (gls zs)[k * 3]? = some (.int .i64 z.1) ∧ (gls zs)[k * 3 + 1]? = some (.int .i64 z.2.1) ∧ (gls zs)[k * 3 + 2]? = some (.int .i64 z.2.2) :=
  ⟨(flat_get gc_len h 0 (by omega)).trans rfl, (flat_get gc_len h 1 (by omega)).trans rfl, (flat_get gc_len h 2 (by omega)).trans rfl⟩
theorem gls_snoc (zs : List (Int × Int × Int)) (z : Int × Int × Int) : gls zs ++ [.int .i64 z.1, .int .i64 z.2.1, .int .i64 z.2.2] = gls (zs ++ [z]) := (flat_snoc zs z).symm

abbrev gv (f x y : Int) : Value := .agg #[.int .i64 f, .int .i64 x, .int .i64 y]
abbrev Gok (z : Int × Int × Int) : Prop := (Lit.int .i64 z.1).wf = true ∧ (Lit.int .i64 z.2.1).wf = true ∧ (Lit.int .i64 z.2.2).wf = true

section
variable {H : Type} {enc : TypeId × Value → H} {P : Program}
theorem take_gusts {W : World} {r : Reach} {b0 : Nat} {t e p : TypeId} {f0 f1 g0 g1 : Field} {v : Value} {d : DataW H} {ps : List MemPlace} (ht : P.underlying t = some (.slice e)) (he : P.underlying e = some (.struct #[f0, f1])) (ce : P.cellsOf e = 3)
    (o0 : f0.offset = 0) (o1 : f1.offset = 1) (c0 : P.cellsOf f0.type = 1) (h0 : P.underlying f0.type = some (.int .i64)) (h1 : f1.type = p)
    (hp : P.underlying p = some (.struct #[g0, g1])) (cp : P.cellsOf p = 2) (q0 : g0.offset = 0) (q1 : g1.offset = 1) (d0 : P.cellsOf g0.type = 1) (d1 : P.cellsOf g1.type = 1)
    (i0 : P.underlying g0.type = some (.int .i64)) (i1 : P.underlying g1.type = some (.int .i64))
    (hval : Value.okWide P W r b0 t v) (h : DataW.Trod enc P W 0 (fun _ => true) true t v d ps) :
    ∃ (A : Option Addr) (n c : Nat) (zs : List (Int × Int × Int)), v = .slice A n c ∧ zs.length = n ∧ n ≤ maxLen ∧ Rd W W.heap.size A (gls zs) ∧ ∀ z ∈ zs, Gok z := by
  refine take_rows (K := 3) (cells := gc) Gok gc_len (by omega) ht ce ?_ hval h
  intro fuel cs x hx hl
  match cs, hl with
  | [a, b, c], _ =>
    obtain ⟨y0, y1, n, _, _, k0, k1⟩ := trod_struct2 he hx
    rw [o0, c0] at k0
    rw [o1, h1, cp] at k1
    simp at k0 k1
    obtain ⟨z0, z1, m, _, _, l0, l1⟩ := trod_struct2 hp k1
    rw [q0, d0] at l0
    rw [q1, d1] at l1
    simp at l0 l1
    obtain ⟨f, e0, _, w0⟩ := DataW.trod_int h0 k0
    obtain ⟨x, e1, _, w1⟩ := DataW.trod_int i0 l0
    obtain ⟨y, e2, _, w2⟩ := DataW.trod_int i1 l1
    injection e0 with e0
    injection e1 with e1
    injection e2 with e2
    subst e0 e1 e2
    exact ⟨(f, x, y), rfl, w0, w1, w2⟩
end

theorem infoGust : (Tryz.prog.info? 96).map (fun i => (i.zero, i.size, i.bytes)) = some (some (.agg #[.int .i64 0, .int .i64 0, .int .i64 0]), 3, 24) := by kernel_rfl

theorem toGust (f x y : Int) (w : World) : Calls Tryz.prog 85 #[gv f x y] w fun e w' => e = .returned (gv f x y) ∧ Below w.heap.size w w' := by
  go_enter Tryz.func85, Tryz.ntmps85
  go_wp2_with (go_at_call 40; refine (toPlace _ _ _).mono ?_; rintro e w' ⟨rfl, rfl⟩)
  go_returns
  exact ⟨rfl, by go_grown⟩

theorem eqGust (f x y : Int) (w : World) : Calls Tryz.prog 57 #[gv f x y, gv f x y] w fun e w' => e = .returned (.bool true) ∧ w' = (((w.alloc (.cells #[.int .i64 f, .int .i64 x, .int .i64 y] 96)).alloc (.cells #[.int .i64 f, .int .i64 x, .int .i64 y] 96)).alloc (.cells #[.int .i64 x, .int .i64 y] 31)).alloc (.cells #[.int .i64 x, .int .i64 y] 31) := by
  go_enter Tryz.func57, Tryz.ntmps57
  go_wp2_with (go_at_call 45; ((with_reducible refine (eqPlace _ _ _).mono ?_); rintro e w' ⟨rfl, rfl⟩))
  all_goals go_returns
  all_goals exact ⟨rfl, rfl⟩

theorem szGustS (A : Option Addr) (n c : Nat) (hb : n ≤ 1048576) (w : World) :
    Calls Tryz.prog 31 #[.slice A n c, .int .i64 1048576] w fun e w' => e = .returned (.int .i64 (1048576 - (n : Int))) ∧ w = w' := by
  go_enter Tryz.func31, Tryz.ntmps31
  go_wp2
  go_ret
  exact ⟨rfl, rfl⟩

/-- What the copy leaves: a row of its own with these gusts; what was there is as it was. -/
def Copied (w : World) (n : Nat) (zs : List (Int × Int × Int)) (e : Ending) (w' : World) : Prop :=
  ∃ g, e = .returned (.slice (some ⟨g, 0, none⟩) n n) ∧ w.heap.size ≤ g ∧ w'.ownsRow w.heap.size 96 3 (.slice (some ⟨g, 0, none⟩) n n) n (gls zs) ∧ Below w.heap.size w w'

theorem filled_at {xs : List Value} {z : Value} {k j : Nat} (hk : k ≤ j) (hj : j < xs.length) : (filled xs z k)[j]? = some z := by
  unfold filled
  rw [List.getElem?_append_right (by rw [List.length_take]; omega), List.length_take, Nat.min_eq_left (by omega), List.getElem?_replicate, if_pos (by omega)]

set_option maxHeartbeats 2000000 in
theorem toGustS (A : Option Addr) (n c : Nat) (zs : List (Int × Int × Int)) (w : World) (hn : zs.length = n) (hb : n ≤ 1048576) (hr : Rd w w.heap.size A (gls zs)) :
    Calls Tryz.prog 39 #[.slice A n c] w (Copied w n zs) := by
  obtain ⟨i0, hi, hz0, hz1, hz2⟩ := info_of infoGust
  have HR := Lib.hid hr
  have HN := Lib.hid hn
  clear hr hn
  go_enter Tryz.func39, Tryz.ntmps39
  go_wp2_with (at_make; refine wpList_make_full _ rfl _ _ 38 rfl w.heap.size 96 i0 (.agg #[.int .i64 0, .int .i64 0, .int .i64 0]) 3 Tryz.underlying38 hi hz0 hz1 .i64 .i64 n n n rfl rfl rfl rfl (by rw [hz2]; omega) (by unfold maxLen; omega) (Nat.le_refl _) ?_; intro w1 hown hgrow; clear hi hz0 hz1 hz2)
  have R0 := Lib.hid (show w1.ownsRow w.heap.size 96 3 (.slice (some ⟨w.heap.size, 0, none⟩) n n) n (filled (gls zs) (.int .i64 0) 0) by
    rw [filled_zero, gls_len, HN.out]; rw [made_ints _ 3 (by intro j hj; match j, hj with | 0, _ => rfl | 1, _ => rfl | 2, _ => rfl) rfl (by omega)] at hown; exact hown)
  have B0 := Lib.hid (show Below w.heap.size w w1 from (Below.refl _ _).grown hgrow (Nat.le_refl _) (fun k hk => by cases hk))
  clear hown hgrow
  go_loopw [4] (fun i wr => ∃ k : Nat, k ≤ n ∧ i = .int .i64 k ∧ Hid (wr.ownsRow w.heap.size 96 3 (.slice (some ⟨w.heap.size, 0, none⟩) n n) n (filled (gls zs) (.int .i64 0) (k * 3))) ∧ Hid (Below w.heap.size w wr)) (fun i _ => n - (intOf i).toNat)
  case atStart => exact ⟨0, Nat.zero_le _, rfl, R0, B0⟩
  case round =>
    obtain ⟨k, hk, rfl, RK, BK⟩ := hrel
    by_cases hlt : k < n
    · have hl : (gls zs).length = n * 3 := by rw [gls_len, HN.out]
      obtain ⟨b, o, eA, hbl, hcell⟩ := HR.out.get (k := k * 3) (by omega)
      have hkz : k < zs.length := by rw [HN.out]; exact hlt
      obtain ⟨z, hz⟩ : ∃ z, zs[k]? = some z := ⟨_, List.getElem?_eq_getElem hkz⟩
      obtain ⟨z0, z1, z2⟩ := gls_get hz
      obtain ⟨f, x, y⟩ := z
      have c1 : wr.cell? ⟨b, o + k * 3, none⟩ = some (.int .i64 f) := (BK.out.cell (p := ⟨b, o + k * 3, none⟩) hbl).trans (hcell _ _ z0)
      have c2 : wr.cell? ⟨b, o + k * 3 + 1, none⟩ = some (.int .i64 x) := by
        rw [Nat.add_assoc]; exact (BK.out.cell (p := ⟨b, o + (k * 3 + 1), none⟩) hbl).trans (hcell _ _ z1)
      have c3 : wr.cell? ⟨b, o + k * 3 + 2, none⟩ = some (.int .i64 y) := by
        rw [Nat.add_assoc]; exact (BK.out.cell (p := ⟨b, o + (k * 3 + 2), none⟩) hbl).trans (hcell _ _ z2)
      have Z0 := Lib.hid (filled_put (z := .int .i64 0) z0)
      have Z1 := Lib.hid (filled_put (z := .int .i64 0) z1)
      have Z2 := Lib.hid (filled_put (z := .int .i64 0) z2)
      have HL := Lib.hid hl
      clear hbl hcell hkz hz R0 B0 z0 z1 z2 hl
      subst eA
      go_wp2_with fail
      refine (toGust _ _ _ _).mono ?_
      rintro e u ⟨rfl, hb1⟩
      have R1 := owns_below RK.out hb1
      have B1 := BK.out.trans (hb1.mono BK.out.size)
      have e3 : u.cell? ⟨w.heap.size, k * 3, none⟩ = some (.int .i64 0) := (R1.cellAt (k * 3) (by omega)).trans (filled_at (Nat.le_refl _) (by have := HL.out; omega))
      have e4 : u.cell? ⟨w.heap.size, k * 3 + 1, none⟩ = some (.int .i64 0) := (R1.cellAt (k * 3 + 1) (by omega)).trans (filled_at (by omega) (by have := HL.out; omega))
      have e5 : u.cell? ⟨w.heap.size, k * 3 + 2, none⟩ = some (.int .i64 0) := (R1.cellAt (k * 3 + 2) (by omega)).trans (filled_at (by omega) (by have := HL.out; omega))
      have f3 := R1.frozenAt (k * 3)
      have f4 := R1.frozenAt (k * 3 + 1)
      have f5 := R1.frozenAt (k * 3 + 2)
      obtain ⟨r1, g1⟩ := R1.stored (k * 3) (.int .i64 f)
      rw [Z0.out] at r1
      obtain ⟨r2, g2⟩ := r1.stored (k * 3 + 1) (.int .i64 x)
      rw [Z1.out] at r2
      obtain ⟨r3, g3⟩ := r2.stored (k * 3 + 1 + 1) (.int .i64 y)
      rw [Z2.out] at r3
      have RR := Lib.hid r3
      have b1 := B1.grown g1 B1.size (fun g hg => by cases hg; exact Nat.le_refl _)
      have b2 := b1.grown g2 b1.size (fun g hg => by cases hg; exact Nat.le_refl _)
      have BB := Lib.hid (b2.grown g3 b2.size (fun g hg => by cases hg; exact Nat.le_refl _))
      clear r1 g1 r2 g2 r3 g3 b1 b2 hb1 c1 c2 c3 RK BK R1 B1
      go_wp2_with fail
      go_roundw
      case rel => exact ⟨k + 1, by omega, by go_num, by rw [show (k + 1) * 3 = k * 3 + 2 + 1 by omega]; exact RR, BB⟩
      case measure => simp [intOf]; omega
    · obtain rfl : k = n := by omega
      go_wp2
      go_ret
      refine ⟨w.heap.size, rfl, Nat.le_refl _, ?_, BK.out⟩
      have := RK.out
      rw [show k * 3 = (gls zs).length by rw [gls_len, HN.out], filled_all] at this
      exact this

set_option maxHeartbeats 2000000 in
theorem eqGustS (A B : Option Addr) (n c d : Nat) (zs : List (Int × Int × Int)) (H : Nat) (w : World) (hn : zs.length = n) (hb : n ≤ 1048576) (hH : H ≤ w.heap.size) (hr : Rd w H A (gls zs)) (hs : Rd w H B (gls zs)) :
    Calls Tryz.prog 21 #[.slice A n c, .slice B n d] w fun e w' => e = .returned (.bool true) ∧ Below w.heap.size w w' := by
  have HR := Lib.hid (hr.more hH)
  have HS := Lib.hid (hs.more hH)
  have HN := Lib.hid hn
  clear hr hs hn hH
  go_enter Tryz.func21, Tryz.ntmps21
  go_wp2
  go_loopw [5] (fun i wr => ∃ k : Nat, k ≤ n ∧ i = .int .i64 k ∧ Hid (Below w.heap.size w wr)) (fun i _ => n - (intOf i).toNat)
  case atStart => exact ⟨0, Nat.zero_le _, rfl, Lib.hid (Below.refl _ _)⟩
  case round =>
    obtain ⟨k, hk, rfl, BK⟩ := hrel
    by_cases hlt : k < n
    · have hkz : k < zs.length := by rw [HN.out]; exact hlt
      have hl : k * 3 < (gls zs).length := by rw [gls_len]; omega
      obtain ⟨z, hz⟩ : ∃ z, zs[k]? = some z := ⟨_, List.getElem?_eq_getElem hkz⟩
      obtain ⟨z0, z1, z2⟩ := gls_get hz
      obtain ⟨f, x, y⟩ := z
      obtain ⟨b1, o1, eA, _, g1⟩ := (HR.out.below BK.out).get hl
      obtain ⟨b2, o2, eB, _, g2⟩ := (HS.out.below BK.out).get hl
      have c1 : wr.cell? ⟨b1, o1 + k * 3, none⟩ = some (.int .i64 f) := g1 _ _ z0
      have c2 : wr.cell? ⟨b1, o1 + k * 3 + 1, none⟩ = some (.int .i64 x) := g1 _ _ z1
      have c3 : wr.cell? ⟨b1, o1 + k * 3 + 2, none⟩ = some (.int .i64 y) := g1 _ _ z2
      have c4 : wr.cell? ⟨b2, o2 + k * 3, none⟩ = some (.int .i64 f) := g2 _ _ z0
      have c5 : wr.cell? ⟨b2, o2 + k * 3 + 1, none⟩ = some (.int .i64 x) := g2 _ _ z1
      have c6 : wr.cell? ⟨b2, o2 + k * 3 + 2, none⟩ = some (.int .i64 y) := g2 _ _ z2
      clear g1 g2 hz hl hkz z0 z1 z2
      subst eA eB
      have hlt' : (k : Int) < (n : Int) := by omega
      have hk0 : (0 : Int) ≤ (k : Int) := by omega
      have p1 : b1 < wr.heap.size := World.block_lt_of_cell? wr _ c1
      have p2 : ∀ j, b1 < wr.heap.size + j := fun j => by omega
      have p3 : b2 < wr.heap.size := World.block_lt_of_cell? wr _ c4
      have p4 : ∀ j, b2 < wr.heap.size + j := fun j => by omega
      go_wp2_with fail
      go_region_held3 (fun w' => w'.cell? ⟨b1, o1 + k * 3, none⟩ = some (.int .i64 f) ∧ w'.cell? ⟨b1, o1 + k * 3 + 1, none⟩ = some (.int .i64 x) ∧ w'.cell? ⟨b1, o1 + k * 3 + 2, none⟩ = some (.int .i64 y) ∧ w'.cell? ⟨b2, o2 + k * 3, none⟩ = some (.int .i64 f) ∧ w'.cell? ⟨b2, o2 + k * 3 + 1, none⟩ = some (.int .i64 x) ∧ w'.cell? ⟨b2, o2 + k * 3 + 2, none⟩ = some (.int .i64 y)) (simp [go_sem, *])
        (first | (go_at_call 57; ((with_reducible refine (eqGust _ _ _ _).mono ?_); rintro e w' ⟨rfl, rfl⟩)))
      all_goals go_wp2_with fail
      all_goals go_roundw
      case rel => exact ⟨k + 1, by omega, by go_num, Lib.hid (BK.out.trans (Below.mono (by go_grown) BK.out.size))⟩
      case measure => simp [intOf]; omega
    · obtain rfl : k = n := by omega
      go_wp2
      go_ret
      exact ⟨rfl, BK.out⟩

/-- The marks are laid; what lies in other blocks is as it was. -/
def Laid (w : World) (base g n c k : Nat) (e : Ending) (w' : World) : Prop :=
  e = .returned (.int .i64 ((k : Int) + ((n * 3 : Nat) : Int))) ∧ w'.ownsRow base 96 3 (.slice (some ⟨g, 0, none⟩) n c) n (mk k (n * 3)) ∧ w.grownBy w' (some g)

set_option maxHeartbeats 2000000 in
theorem markGustS (base g n c k : Nat) (xs : List Value) (w : World) (hn : xs.length = n * 3) (hb : n ≤ 1048576) (hk : k ≤ 16777216) (hr : w.ownsRow base 96 3 (.slice (some ⟨g, 0, none⟩) n c) n xs) :
    Calls Tryz.prog 24 #[.slice (some ⟨g, 0, none⟩) n c, .int .i64 k] w (Laid w base g n c k) := by
  have HN := Lib.hid hn
  have R0 := Lib.hid (show w.ownsRow base 96 3 (.slice (some ⟨g, 0, none⟩) n c) n (marked k 0 xs) by rw [marked_zero]; exact hr)
  clear hn hr
  go_enter Tryz.func24, Tryz.ntmps24
  go_wp2_with fail
  go_loopw [1, 5] (fun q i wr => ∃ j : Nat, j ≤ n ∧ i = .int .i64 j ∧ q = .int .i64 ((k : Int) + ((j * 3 : Nat) : Int)) ∧ Hid (wr.ownsRow base 96 3 (.slice (some ⟨g, 0, none⟩) n c) n (marked k (j * 3) xs)) ∧ Hid (w.grownBy wr (some g))) (fun _ i _ => n - (intOf i).toNat)
  case atStart => exact ⟨0, Nat.zero_le _, rfl, by simp, R0, Lib.hid (grown_refl _ _)⟩
  case round =>
    obtain ⟨j, hj, rfl, rfl, RK, GK⟩ := hrel
    obtain ⟨q, hq⟩ : ∃ q : Nat, q = k + j * 3 := ⟨_, rfl⟩
    rw [show (k : Int) + ((j * 3 : Nat) : Int) = (q : Int) by omega]
    by_cases hlt : j < n
    · have HL := HN.out
      have R1 := RK.out
      obtain ⟨v0, z0⟩ : ∃ v, xs[j * 3]? = some v := ⟨_, List.getElem?_eq_getElem (by omega)⟩
      obtain ⟨v1, z1⟩ : ∃ v, xs[j * 3 + 1]? = some v := ⟨_, List.getElem?_eq_getElem (by omega)⟩
      obtain ⟨v2, z2⟩ : ∃ v, xs[j * 3 + 2]? = some v := ⟨_, List.getElem?_eq_getElem (by omega)⟩
      obtain ⟨r1, g1⟩ := R1.stored (j * 3) (.int .i64 ((k : Int) + ((j * 3 : Nat) : Int)))
      rw [marked_set (by omega)] at r1
      obtain ⟨r2, g2⟩ := r1.stored (j * 3 + 1) (.int .i64 ((k : Int) + ((j * 3 + 1 : Nat) : Int)))
      rw [marked_set (by omega)] at r2
      obtain ⟨r3, g3⟩ := r2.stored (j * 3 + 1 + 1) (.int .i64 ((k : Int) + ((j * 3 + 1 + 1 : Nat) : Int)))
      rw [marked_set (by omega)] at r3
      have c1 := (R1.cellAt (j * 3) (by omega)).trans (marked_get z0)
      have c2 := (r1.cellAt (j * 3 + 1) (by omega)).trans (marked_get z1)
      have c3 := (r2.cellAt (j * 3 + 2) (by omega)).trans (marked_get z2)
      have f1 := R1.frozenAt (j * 3)
      have f2 := r1.frozenAt (j * 3 + 1)
      have f3 := r2.frozenAt (j * 3 + 2)
      have RR := Lib.hid r3
      have GG := Lib.hid (grown_trans (grown_trans (grown_trans GK.out g1) g2) g3)
      rw [show (k : Int) + ((j * 3 : Nat) : Int) = (q : Int) by omega] at *
      rw [show (k : Int) + ((j * 3 + 1 : Nat) : Int) = (q : Int) + 1 by omega] at *
      rw [show (k : Int) + ((j * 3 + 1 + 1 : Nat) : Int) = (q : Int) + 1 + 1 by omega] at *
      have HQ := Lib.hid hq
      have hq8 : q ≤ 33554432 := by omega
      clear R0 R1 r1 r2 r3 g1 g2 g3 z0 z1 z2 HL RK GK hq
      go_wp2_with fail
      go_roundw
      case rel => exact ⟨j + 1, by omega, by go_num, by (have := HQ.out; congr 1; omega), by rw [show (j + 1) * 3 = j * 3 + 1 + 1 + 1 by omega]; exact RR, GG⟩
      case measure => simp [intOf]; omega
    · obtain rfl : j = n := by omega
      have F := Lib.hid (show wr.ownsRow base 96 3 (.slice (some ⟨g, 0, none⟩) j c) j (mk k (j * 3)) by
        have := RK.out
        rw [marked_all (by rw [HN.out]; exact Nat.le_refl _)] at this; exact this)
      have HQ := Lib.hid hq
      clear hq R0
      go_wp2_with fail
      go_ret
      exact ⟨by rw [HQ.out]; congr 1, F.out, GK.out⟩

set_option maxHeartbeats 2000000 in
theorem heldGustS (A : Option Addr) (n c k B : Nat) (w : World) (hb : n ≤ 1048576) (hk : k ≤ 16777216) (hr : Rd w B A (mk k (n * 3))) :
    Calls Tryz.prog 25 #[.slice A n c, .int .i64 k] w fun e w' => e = .returned (.int .i64 ((k : Int) + ((n * 3 : Nat) : Int))) ∧ w = w' := by
  have HR := Lib.hid hr
  clear hr
  go_enter Tryz.func25, Tryz.ntmps25
  go_wp2_with fail
  go_loop [1, 5] (fun q i => ∃ j : Nat, j ≤ n ∧ i = .int .i64 j ∧ q = .int .i64 ((k : Int) + ((j * 3 : Nat) : Int))) (fun _ i => n - (intOf i).toNat)
  case atStart => exact ⟨0, Nat.zero_le _, rfl, by simp⟩
  case round =>
    obtain ⟨j, hj, rfl, rfl⟩ := hrel
    obtain ⟨q, hq⟩ : ∃ q : Nat, q = k + j * 3 := ⟨_, rfl⟩
    rw [show (k : Int) + ((j * 3 : Nat) : Int) = (q : Int) by omega]
    by_cases hlt : j < n
    · obtain ⟨b, o, eA, hbl, hcell⟩ := HR.out.get (k := j * 3) (by rw [mk_len]; omega)
      have c1 := hcell (j * 3) _ (mk_get (by omega))
      have c2 := hcell (j * 3 + 1) _ (mk_get (by omega))
      have c3 := hcell (j * 3 + 2) _ (mk_get (by omega))
      rw [← Nat.add_assoc] at c2 c3
      rw [show (k : Int) + ((j * 3 : Nat) : Int) = (q : Int) by omega] at c1
      rw [show (k : Int) + ((j * 3 + 1 : Nat) : Int) = (q : Int) + 1 by omega] at c2
      rw [show (k : Int) + ((j * 3 + 2 : Nat) : Int) = (q : Int) + 1 + 1 by omega] at c3
      have HQ := Lib.hid hq
      have hq8 : q ≤ 33554432 := by omega
      clear hcell hbl hq
      subst eA
      go_wp2_with fail
      go_round
      case rel => exact ⟨j + 1, by omega, by go_num, by (have := HQ.out; congr 1; omega)⟩
      case measure => simp [intOf]; omega
    · obtain rfl : j = n := by omega
      have HQ := Lib.hid hq
      clear hq
      go_wp2_with fail
      go_ret
      exact ⟨by rw [HQ.out]; congr 1, rfl⟩

end Go.Proofs.YtejeikfgmiadhabGreat.Gs
namespace Go.Proofs.YtejeikfgmiadhabGreat.Sp
open Go.RowKit Go.ChangeShapes Go.WideShapes Go.WideElems Go.Joins Go.Deep Go.Proofs.YtejeikfgmiadhabGreat.Mem Go.Proofs.YtejeikfgmiadhabGreat.Rw
set_option linter.unusedVariables false
set_option linter.unusedSimpArgs false

/-- A show as a value. -/
abbrev sv (A0 : Option Addr) (n0 c0 : Nat) (A1 : Option Addr) (n1 c1 : Nat) (A2 : Option Addr) (n2 c2 : Nat) (T : Int) : Value := .agg #[.slice A0 n0 c0, .slice A1 n1 c1, .slice A2 n2 c2, .int .i64 T]
abbrev sc (A0 : Option Addr) (n0 c0 : Nat) (A1 : Option Addr) (n1 c1 : Nat) (A2 : Option Addr) (n2 c2 : Nat) (T : Int) : Array Value := #[.slice A0 n0 c0, .slice A1 n1 c1, .slice A2 n2 c2, .int .i64 T]

section
variable {H : Type} {enc : TypeId × Value → H} {P : Program} {G : Type} {cells : G → List Value} {K : Nat}
/-- A slice of records in a field. -/
theorem rows_in {W : World} {t e : TypeId} {v : Value} {fuel : Nat} {x : DataW H × List MemPlace} [Inhabited G] (good : G → Prop) (hl : ∀ g, (cells g).length = K) (hK : 0 < K)
    (ht : P.underlying t = some (.slice e)) (ce : P.cellsOf e = K)
    (hel : ∀ fuel cs x, DataW.trod enc P W 0 (fun _ => true) true fuel e cs = some x → cs.length = K → ∃ g, cs = cells g ∧ good g)
    (hf : DataW.trod enc P W 0 (fun _ => true) true fuel t [v] = some x) :
    ∃ (A : Option Addr) (n c : Nat) (zs : List G), v = .slice A n c ∧ zs.length = n ∧ n ≤ maxLen ∧ Rd W W.heap.size A (zs.flatMap cells) ∧ ∀ z ∈ zs, good z := by
  rcases open_slice ht hf with ⟨hcs, _⟩ | ⟨a, len, cap', m, n, D, Pl, hcs, _, hlc, hm, hmm, _, hx⟩
  · injection hcs with hcs
    subst hcs
    exact ⟨none, 0, 0, [], rfl, rfl, Nat.zero_le _, Rd.nil _ _ _, fun _ h => by cases h⟩
  · injection hcs with hcs
    subst hcs
    simp only [if_true] at hmm
    subst hmm
    have each : ∀ i, i < len → ∃ g : G, (∀ j, j < K → W.cell? (a.add (i * K + j)) = (cells g)[j]?) ∧ good g := by
      intro i hi
      obtain ⟨cs', h1, h2⟩ := hx i (by omega)
      rw [ce] at h1
      obtain ⟨_, hlen, hcell⟩ := World.cells?_some h1
      obtain ⟨g, rfl, hg⟩ := hel _ _ _ h2 hlen
      refine ⟨g, fun j hj => ?_, hg⟩
      rw [← add_add]; exact hcell j hj
    obtain ⟨q, hq⟩ := choose_lt each
    refine ⟨some a, len, _, (List.range len).map q, rfl, by simp, by omega, ?_, ?_⟩
    · by_cases hz : len = 0
      · subst hz; exact Or.inl rfl
      · obtain ⟨b, o, spot⟩ := a
        have hk0 : (cells (q 0))[0]? = some ((cells (q 0))[0]'(by rw [hl]; exact hK)) := List.getElem?_eq_getElem _
        have c00 := ((hq 0 (by omega)).1 0 hK).trans hk0
        have hspot : spot = none := by simpa [Addr.add] using World.cell?_spot c00
        subst hspot
        have hb := World.block_lt_of_cell? W _ c00
        refine Or.inr ⟨b, o, rfl, by simpa [Addr.add] using hb, fun j v hv => ?_⟩
        have hj : j < (((List.range len).map q).flatMap cells).length := (List.getElem?_eq_some_iff.1 hv).1
        rw [flat_len hl] at hj
        simp only [List.length_map, List.length_range] at hj
        have hi : j / K < len := Nat.div_lt_of_lt_mul (by rw [Nat.mul_comm]; exact hj)
        have hr : j % K < K := Nat.mod_lt _ hK
        have hg := flat_get hl (zs := (List.range len).map q) (k := j / K) (z := q (j / K)) (by simp [hi]) (j % K) hr
        have k0 := (hq (j / K) hi).1 (j % K) hr
        have ej : j / K * K + j % K = j := by rw [Nat.mul_comm]; exact Nat.div_add_mod j K
        rw [ej] at hg k0
        rw [hv] at hg
        rw [← hg] at k0
        rw [← add_plain]; exact k0
    · intro z hz
      obtain ⟨i, hi, rfl⟩ := List.mem_map.1 hz
      exact (hq i (List.mem_range.1 hi)).2
end

section
variable {H : Type} {enc : TypeId × Value → H}
set_option maxRecDepth 100000 in
theorem read_gust {W : World} (fuel : Nat) (cs : List Value) (x : DataW H × List MemPlace) (hx : DataW.trod enc Tryz.prog W 0 (fun _ => true) true fuel 131 cs = some x) (hl : cs.length = 3) : ∃ g, cs = Gs.gc g ∧ Gs.Gok g := by
  match cs, hl with
  | [a, b, c], _ =>
    obtain ⟨y0, y1, n, _, _, k0, k1⟩ := trod_struct2 Tryz.underlying131 hx
    simp at k0 k1
    have ch : Tryz.prog.cellsOf 3 = 1 := by kernel_rfl
    have cp : Tryz.prog.cellsOf 48 = 2 := by kernel_rfl
    rw [ch] at k0
    rw [cp] at k1
    simp at k0 k1
    obtain ⟨z0, z1, m, _, _, l0, l1⟩ := trod_struct2 Tryz.underlying48 k1
    simp at l0 l1
    rw [ch] at l0 l1
    simp at l0 l1
    obtain ⟨f, e0, _, w0⟩ := DataW.trod_int Tryz.underlying3 k0
    obtain ⟨x, e1, _, w1⟩ := DataW.trod_int Tryz.underlying3 l0
    obtain ⟨y, e2, _, w2⟩ := DataW.trod_int Tryz.underlying3 l1
    injection e0 with e0
    injection e1 with e1
    injection e2 with e2
    subst e0 e1 e2
    exact ⟨(f, x, y), rfl, w0, w1, w2⟩
set_option maxRecDepth 100000 in
/-- An argument that is a show. -/
theorem take_show {W : World} {r : Reach} {b0 : Nat} {v : Value} {d : DataW H} {ps : List MemPlace}
    (hval : Value.okWide Tryz.prog W r b0 26 v) (h : DataW.Trod enc Tryz.prog W 0 (fun _ => true) true 26 v d ps) :
    ∃ (A0 : Option Addr) (n0 c0 : Nat) (ds : List Dd.D) (A1 : Option Addr) (n1 c1 : Nat) (cs : List Cd.C) (A2 : Option Addr) (n2 c2 : Nat) (gs : List (Int × Int × Int)) (T : Int),
      v = sv A0 n0 c0 A1 n1 c1 A2 n2 c2 T ∧ (ds.length = n0 ∧ n0 ≤ maxLen) ∧ (cs.length = n1 ∧ n1 ≤ maxLen) ∧ (gs.length = n2 ∧ n2 ≤ maxLen) ∧ (Lit.int .i64 T).wf = true ∧
      (Rd W W.heap.size A0 (Dd.dls ds) ∧ ∀ z ∈ ds, Dd.Dok z) ∧ (Rd W W.heap.size A1 (Cd.dls cs) ∧ ∀ z ∈ cs, Cd.Dok z) ∧ Rd W W.heap.size A2 (Gs.gls gs) ∧ ∀ z ∈ gs, Gs.Gok z := by
  obtain ⟨v0, v1, v2, v3, y0, y1, y2, y3, n, rfl, _, _, h0, h1, h2, h3⟩ := open_agg4 Tryz.underlying26 (by kernel_rfl) (by kernel_rfl) hval h
  obtain ⟨A0, n0, c0, ds, rfl, l0, m0, r0, w0⟩ := rows_in (K := 8) (cells := Dd.dc) Dd.Dok Dd.dc_len (by omega) Tryz.underlying22 (by kernel_rfl) Dd.read_this h0
  obtain ⟨A1, n1, c1, cs, rfl, l1, m1, r1, w1⟩ := rows_in (K := 4) (cells := Cd.dc) Cd.Dok Cd.dc_len (by omega) Tryz.underlying23 (by kernel_rfl) Cd.read_this h1
  obtain ⟨A2, n2, c2, gs, rfl, l2, m2, r2, w2⟩ := rows_in (K := 3) (cells := Gs.gc) Gs.Gok Gs.gc_len (by omega) Tryz.underlying24 (by kernel_rfl) read_gust h2
  obtain ⟨T, e3, _, w3⟩ := DataW.trod_int Tryz.underlying3 h3
  injection e3 with e3
  subst e3
  exact ⟨A0, n0, c0, ds, A1, n1, c1, cs, A2, n2, c2, gs, T, rfl, ⟨l0, m0⟩, ⟨l1, m1⟩, ⟨l2, m2⟩, w3, ⟨r0, w0⟩, ⟨r1, w1⟩, r2, w2⟩
end
end Go.Proofs.YtejeikfgmiadhabGreat.Sp
namespace Go.Proofs.YtejeikfgmiadhabGreat.Dv
open Go.RowKit Go.Proofs.YtejeikfgmiadhabGreat.Dd Go.Proofs.YtejeikfgmiadhabGreat.Pw
set_option linter.unusedVariables false
set_option linter.unusedSimpArgs false

set_option maxHeartbeats 1000000 in
theorem toDevice (n : ByteArray) (k : Int) (l : ByteArray) (x y h t m : Int) (w : World) : Calls Tryz.prog 83 #[va n k l x y h t m] w fun e w' => e = .returned (va n k l x y h t m) ∧ Below w.heap.size w w' := by
  go_enter Tryz.func83, Tryz.ntmps83
  go_wp2_with (go_at_call 40; ((with_reducible refine (toPlace _ _ _).mono ?_); rintro e w' ⟨rfl, rfl⟩))
  go_returns
  exact ⟨rfl, by go_grown⟩

set_option maxHeartbeats 1000000 in
theorem eqDevice (n : ByteArray) (k : Int) (l : ByteArray) (x y h t m : Int) (w : World) : Calls Tryz.prog 96 #[va n k l x y h t m, va n k l x y h t m] w fun e w' => e = .returned (.bool true) ∧ w' = (((w.alloc (.cells (ca n k l x y h t m) 102)).alloc (.cells (ca n k l x y h t m) 102)).alloc (.cells #[.int .i64 x, .int .i64 y] 31)).alloc (.cells #[.int .i64 x, .int .i64 y] 31) := by
  have h1 : (n.toList == n.toList) = true := by simp
  have h2 : (l.toList == l.toList) = true := by simp
  go_enter Tryz.func96, Tryz.ntmps96
  go_wp2_with (go_at_call 45; ((with_reducible refine (eqPlace _ _ _).mono ?_); rintro e w' ⟨rfl, rfl⟩))
  all_goals go_returns
  all_goals exact ⟨rfl, rfl⟩

theorem szYes (n : ByteArray) (k : Int) (l : ByteArray) (x y h t m : Int) (L R : Int) (h1 : L ≤ 1048576) (hR : L - (n.size : Int) - (l.size : Int) = R) (hp : 0 ≤ R) (w : World) :
    Calls Tryz.prog 66 #[va n k l x y h t m, .int .i64 L] w fun e w' => e = .returned (.int .i64 R) ∧ w' = w.alloc (.cells (ca n k l x y h t m) 107) := by
  have HR := Lib.hid hR
  have a1 : (n.size : Int) ≤ L := by omega
  have a2 : (l.size : Int) ≤ L - (n.size : Int) := by omega
  have a3 : ¬ L - (n.size : Int) < 0 := by omega
  have a4 : ¬ L - (n.size : Int) - (l.size : Int) < 0 := by omega
  have a5 : 0 ≤ L := by omega
  clear hR hp
  go_enter Tryz.func66, Tryz.ntmps66
  go_wp2
  all_goals go_returns
  all_goals first | exact ⟨rfl, rfl⟩ | exact ⟨by show Ending.returned (.int .i64 _) = _; rw [HR.out], rfl⟩ | (exfalso; omega)

theorem szNo (n : ByteArray) (k : Int) (l : ByteArray) (x y h t m : Int) (L : Int) (h0 : 0 ≤ L) (h1 : L ≤ 1048576) (hn : n.size ≤ maxLen) (hl : l.size ≤ maxLen) (hR : L - (n.size : Int) - (l.size : Int) < 0) (w : World) :
    Calls Tryz.prog 66 #[va n k l x y h t m, .int .i64 L] w fun e w' => e = .returned (.int .i64 (-1)) ∧ w' = w.alloc (.cells (ca n k l x y h t m) 107) := by
  unfold maxLen at hn hl
  by_cases h2 : L < (n.size : Int)
  · have a3 : L - (n.size : Int) < 0 := by omega
    have a1 : ¬ (n.size : Int) ≤ L := by omega
    go_enter Tryz.func66, Tryz.ntmps66
    go_wp2
    all_goals go_returns
    all_goals first | exact ⟨rfl, rfl⟩ | (exfalso; omega)
  · have a3 : ¬ L - (n.size : Int) < 0 := by omega
    have a1 : (n.size : Int) ≤ L := by omega
    have a4 : ¬ (l.size : Int) ≤ L - (n.size : Int) := by omega
    go_enter Tryz.func66, Tryz.ntmps66
    go_wp2
    all_goals go_returns
    all_goals first | exact ⟨rfl, rfl⟩ | (exfalso; omega)

end Go.Proofs.YtejeikfgmiadhabGreat.Dv
