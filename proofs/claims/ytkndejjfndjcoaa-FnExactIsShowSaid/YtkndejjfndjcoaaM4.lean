/- Words for worlds behind calls, and sums of places. -/
import Derived.Test.YtkndejjfndjcoaaM3
import Derived.Test.YtkndejjfndjcoaaM1
import Derived.Deep.RegionHeld3
import Derived.Test.YtkndejjfndjcoaaM2
import Derived.Lib.SmallJoins
namespace Go.Proofs.Ytkndejjfndjcoaa.P2
open Go.RowKit Go.Proofs.Ytkndejjfndjcoaa.Cm Go.Proofs.Ytkndejjfndjcoaa.Pl Go.Proofs.Ytkndejjfndjcoaa.Str Go.Proofs.Ytkndejjfndjcoaa.Pw
set_option linter.unusedVariables false

theorem cell_below {W w' : World} {p : Addr} {v : Value} (hb : Below W.heap.size W w') (h : W.cell? p = some v) : w'.cell? p = some v := (hb.cell (World.block_lt_of_cell? W p h)).trans h

theorem cell_alloc {W : World} {p : Addr} {v : Value} {o : Obj} (h : W.cell? p = some v) : (W.alloc o).cell? p = some v := by
  rw [World.cell?_alloc_lt _ _ _ (World.block_lt_of_cell? W p h)]; exact h

theorem set2_0 {W : World} {b : Nat} {P Q : Value} (h0 : (W.cell? ⟨b, 0, none⟩).isSome = true) : ((W.setCell ⟨b, 0, none⟩ P).setCell ⟨b, 1, none⟩ Q).cell? ⟨b, 0, none⟩ = some P := by
  rw [World.cell?_setCell_other _ _ _ _ (by simp)]
  exact World.cell?_setCell_same' _ _ _ h0
theorem set2_1 {W : World} {b : Nat} {P Q : Value} (h1 : (W.cell? ⟨b, 1, none⟩).isSome = true) : ((W.setCell ⟨b, 0, none⟩ P).setCell ⟨b, 1, none⟩ Q).cell? ⟨b, 1, none⟩ = some Q := by
  refine World.cell?_setCell_same' _ _ _ ?_
  rw [World.cell?_setCell_other _ _ _ _ (by simp)]
  exact h1
theorem cell_here {W : World} {c : Array Value} {t : TypeId} {i : Nat} {v : Value} (h : c[i]? = some v) : (W.alloc (.cells c t)).cell? ⟨W.heap.size, i, none⟩ = some v := by
  rw [World.cell?_alloc_at _ _ _ _ rfl]; exact h

/-- A place and whether it is one. -/
abbrev told2 (b : Bool) (x y : Int) : Value := .tuple #[.agg #[.int .i64 (if b then x else 0), .int .i64 (if b then y else 0)], .bool b]

/-- A world behind a call of which only 'Below' is known, as rules. -/
theorem open_below {W w' : World} (hb : Below W.heap.size W w') : (∀ p : Addr, p.block < W.heap.size → w'.cell? p = W.cell? p) ∧ (∀ p : Addr, p.block < W.heap.size → w'.frozen? p = W.frozen? p) ∧
    (∀ b, b < W.heap.size → b < w'.heap.size) ∧ (∀ b j, b < W.heap.size → b < w'.heap.size + j) ∧ (∀ b, b < W.heap.size → (b = w'.heap.size) = False) ∧ (∀ b j, b < W.heap.size → (b = w'.heap.size + j) = False) ∧ (∀ b, b < W.heap.size → (w'.heap.size = b) = False) ∧ (∀ b j, b < W.heap.size → (w'.heap.size + j = b) = False) := by
  have hs := hb.size
  refine ⟨fun p h => hb.cell h, fun p h => hb.frozen h, ?_, ?_, ?_, ?_, ?_, ?_⟩
  · intros; omega
  · intros; omega
  all_goals intros
  all_goals apply eq_false
  all_goals omega

/-- A place lies in a block of its own, behind all of W's memory; W's memory is as it was. -/
structure Lay (W wx : World) (k : Nat) (X Y : Int) : Prop where
  below : Below W.heap.size W wx
  old : W.heap.size ≤ k
  new : k < wx.heap.size
  c0 : wx.cell? ⟨k, 0, none⟩ = some (.int .i64 X)
  c1 : wx.cell? ⟨k, 1, none⟩ = some (.int .i64 Y)


end Go.Proofs.Ytkndejjfndjcoaa.P2
namespace Go.Proofs.Ytkndejjfndjcoaa.Gs
open Go.RowKit Go.ChangeShapes Go.WideShapes Go.WideElems Go.Deep Go.Proofs.Ytkndejjfndjcoaa.Mem Go.Proofs.Ytkndejjfndjcoaa.Rw Go.Proofs.Ytkndejjfndjcoaa.Pw Go.Proofs.Ytkndejjfndjcoaa.P2
set_option linter.unusedVariables false
set_option linter.unusedSimpArgs false

/-- The cells of a gust: when it begins, and its drift. -/
def gc (g : Int × Int × Int) : List Value := [.int .i64 g.1, .int .i64 g.2.1, .int .i64 g.2.2]
theorem gc_len (g : Int × Int × Int) : (gc g).length = 3 := rfl
/-- The cells of a list of gusts. -/
def gls (zs : List (Int × Int × Int)) : List Value := zs.flatMap gc
theorem gls_len (zs : List (Int × Int × Int)) : (gls zs).length = zs.length * 3 := flat_len gc_len zs
theorem gls_get {zs : List (Int × Int × Int)} {k : Nat} {z : Int × Int × Int} (h : zs[k]? = some z) :
    (gls zs)[k * 3]? = some (.int .i64 z.1) ∧ (gls zs)[k * 3 + 1]? = some (.int .i64 z.2.1) ∧ (gls zs)[k * 3 + 2]? = some (.int .i64 z.2.2) :=
  ⟨(flat_get gc_len h 0 (by omega)).trans rfl, (flat_get gc_len h 1 (by omega)).trans rfl, (flat_get gc_len h 2 (by omega)).trans rfl⟩
theorem gls_snoc (zs : List (Int × Int × Int)) (z : Int × Int × Int) : gls zs ++ [.int .i64 z.1, .int .i64 z.2.1, .int .i64 z.2.2] = gls (zs ++ [z]) := (flat_snoc zs z).symm

abbrev gv (f x y : Int) : Value := .agg #[.int .i64 f, .int .i64 x, .int .i64 y]
abbrev Gok (z : Int × Int × Int) : Prop := (Lit.int .i64 z.1).wf = true ∧ (Lit.int .i64 z.2.1).wf = true ∧ (Lit.int .i64 z.2.2).wf = true

section
variable {H : Type} {enc : TypeId × Value → H} {P : Program}
theorem take_gusts {W : World} {r : Reach} {b0 : Nat} {t e p : TypeId} {f0 f1 g0 g1 : Field} {v : Value} {d : DataW H} {ps : List MemPlace} (ht : P.underlying t = some (.slice e)) (he : P.underlying e = some (.struct #[f0, f1])) (ce : P.cellsOf e = 3)
    (o0 : f0.offset = 0) (o1 : f1.offset = 1) (c0 : P.cellsOf f0.type = 1) (h0 : P.underlying f0.type = some (.int .i64)) (h1 : f1.type = p)
    (hp : P.underlying p = some (.struct #[g0, g1])) (cp : P.cellsOf p = 2) (q0 : g0.offset = 0) (q1 : g1.offset = 1) (d0 : P.cellsOf g0.type = 1) (d1 : P.cellsOf g1.type = 1)
    (i0 : P.underlying g0.type = some (.int .i64)) (i1 : P.underlying g1.type = some (.int .i64))
    (hval : Value.okWide P W r b0 t v) (h : DataW.Trod enc P W 0 (fun _ => true) true t v d ps) :
    ∃ (A : Option Addr) (n c : Nat) (zs : List (Int × Int × Int)), v = .slice A n c ∧ zs.length = n ∧ n ≤ maxLen ∧ Rd W W.heap.size A (gls zs) ∧ ∀ z ∈ zs, Gok z := by
  refine take_rows (K := 3) (cells := gc) Gok gc_len (by omega) ht ce ?_ hval h
  intro fuel cs x hx hl
  match cs, hl with
  | [a, b, c], _ =>
    obtain ⟨y0, y1, n, _, _, k0, k1⟩ := trod_struct2 he hx
    rw [o0, c0] at k0
    rw [o1, h1, cp] at k1
    simp at k0 k1
    obtain ⟨z0, z1, m, _, _, l0, l1⟩ := trod_struct2 hp k1
    rw [q0, d0] at l0
    rw [q1, d1] at l1
    simp at l0 l1
    obtain ⟨f, e0, _, w0⟩ := DataW.trod_int h0 k0
    obtain ⟨x, e1, _, w1⟩ := DataW.trod_int i0 l0
    obtain ⟨y, e2, _, w2⟩ := DataW.trod_int i1 l1
    injection e0 with e0
    injection e1 with e1
    injection e2 with e2
    subst e0 e1 e2
    exact ⟨(f, x, y), rfl, w0, w1, w2⟩
end

theorem infoGust : (Try.prog.info? 67).map (fun i => (i.zero, i.size, i.bytes)) = some (some (.agg #[.int .i64 0, .int .i64 0, .int .i64 0]), 3, 24) := by kernel_rfl

theorem toGust (f x y : Int) (w : World) : Calls Try.prog 35 #[gv f x y] w fun e w' => e = .returned (gv f x y) ∧ Below w.heap.size w w' := by
  go_enter Try.func35, Try.ntmps35
  go_wp2_with (go_at_call 50; refine (toPlace _ _ _).mono ?_; rintro e w' ⟨rfl, rfl⟩)
  go_returns
  exact ⟨rfl, by go_grown⟩

theorem eqGust (f x y : Int) (w : World) : Calls Try.prog 44 #[gv f x y, gv f x y] w fun e w' => e = .returned (.bool true) ∧ w' = (((w.alloc (.cells #[.int .i64 f, .int .i64 x, .int .i64 y] 67)).alloc (.cells #[.int .i64 f, .int .i64 x, .int .i64 y] 67)).alloc (.cells #[.int .i64 x, .int .i64 y] 58)).alloc (.cells #[.int .i64 x, .int .i64 y] 58) := by
  go_enter Try.func44, Try.ntmps44
  go_wp2_with (go_at_call 58; ((with_reducible refine (eqPlace _ _ _).mono ?_); rintro e w' ⟨rfl, rfl⟩))
  all_goals go_returns
  all_goals exact ⟨rfl, rfl⟩

theorem szGustS (A : Option Addr) (n c : Nat) (hb : n ≤ 1048576) (w : World) :
    Calls Try.prog 11 #[.slice A n c, .int .i64 1048576] w fun e w' => e = .returned (.int .i64 (1048576 - (n : Int))) ∧ w = w' := by
  go_enter Try.func11, Try.ntmps11
  go_wp2
  go_ret
  exact ⟨rfl, rfl⟩

/-- What the copy leaves: a row of its own with these gusts; what was there is as it was. -/
def Copied (w : World) (n : Nat) (zs : List (Int × Int × Int)) (e : Ending) (w' : World) : Prop :=
  ∃ g, e = .returned (.slice (some ⟨g, 0, none⟩) n n) ∧ w.heap.size ≤ g ∧ w'.ownsRow w.heap.size 67 3 (.slice (some ⟨g, 0, none⟩) n n) n (gls zs) ∧ Below w.heap.size w w'

theorem filled_at {xs : List Value} {z : Value} {k j : Nat} (hk : k ≤ j) (hj : j < xs.length) : (filled xs z k)[j]? = some z := by
  unfold filled
  rw [List.getElem?_append_right (by rw [List.length_take]; omega), List.length_take, Nat.min_eq_left (by omega), List.getElem?_replicate, if_pos (by omega)]

set_option maxHeartbeats 2000000 in
theorem toGustS (A : Option Addr) (n c : Nat) (zs : List (Int × Int × Int)) (w : World) (hn : zs.length = n) (hb : n ≤ 1048576) (hr : Rd w w.heap.size A (gls zs)) :
    Calls Try.prog 18 #[.slice A n c] w (Copied w n zs) := by
  obtain ⟨i0, hi, hz0, hz1, hz2⟩ := info_of infoGust
  have HR := Lib.hid hr
  have HN := Lib.hid hn
  clear hr hn
  go_enter Try.func18, Try.ntmps18
  go_wp2_with (at_make; refine wpList_make_full _ rfl _ _ 31 rfl w.heap.size 67 i0 (.agg #[.int .i64 0, .int .i64 0, .int .i64 0]) 3 Try.underlying31 hi hz0 hz1 .i64 .i64 n n n rfl rfl rfl rfl (by rw [hz2]; omega) (by unfold maxLen; omega) (Nat.le_refl _) ?_; intro w1 hown hgrow; clear hi hz0 hz1 hz2)
  have R0 := Lib.hid (show w1.ownsRow w.heap.size 67 3 (.slice (some ⟨w.heap.size, 0, none⟩) n n) n (filled (gls zs) (.int .i64 0) 0) by
    rw [filled_zero, gls_len, HN.out]; rw [made_ints _ 3 (by intro j hj; match j, hj with | 0, _ => rfl | 1, _ => rfl | 2, _ => rfl) rfl (by omega)] at hown; exact hown)
  have B0 := Lib.hid (show Below w.heap.size w w1 from (Below.refl _ _).grown hgrow (Nat.le_refl _) (fun k hk => by cases hk))
  clear hown hgrow
  go_loopw [4] (fun i wr => ∃ k : Nat, k ≤ n ∧ i = .int .i64 k ∧ Hid (wr.ownsRow w.heap.size 67 3 (.slice (some ⟨w.heap.size, 0, none⟩) n n) n (filled (gls zs) (.int .i64 0) (k * 3))) ∧ Hid (Below w.heap.size w wr)) (fun i _ => n - (intOf i).toNat)
  case atStart => exact ⟨0, Nat.zero_le _, rfl, R0, B0⟩
  case round =>
    obtain ⟨k, hk, rfl, RK, BK⟩ := hrel
    by_cases hlt : k < n
    · have hl : (gls zs).length = n * 3 := by rw [gls_len, HN.out]
      obtain ⟨b, o, eA, hbl, hcell⟩ := HR.out.get (k := k * 3) (by omega)
      have hkz : k < zs.length := by rw [HN.out]; exact hlt
      obtain ⟨z, hz⟩ : ∃ z, zs[k]? = some z := ⟨_, List.getElem?_eq_getElem hkz⟩
      obtain ⟨z0, z1, z2⟩ := gls_get hz
      obtain ⟨f, x, y⟩ := z
      have c1 : wr.cell? ⟨b, o + k * 3, none⟩ = some (.int .i64 f) := (BK.out.cell (p := ⟨b, o + k * 3, none⟩) hbl).trans (hcell _ _ z0)
      have c2 : wr.cell? ⟨b, o + k * 3 + 1, none⟩ = some (.int .i64 x) := by
        rw [Nat.add_assoc]; exact (BK.out.cell (p := ⟨b, o + (k * 3 + 1), none⟩) hbl).trans (hcell _ _ z1)
      have c3 : wr.cell? ⟨b, o + k * 3 + 2, none⟩ = some (.int .i64 y) := by
        rw [Nat.add_assoc]; exact (BK.out.cell (p := ⟨b, o + (k * 3 + 2), none⟩) hbl).trans (hcell _ _ z2)
      have Z0 := Lib.hid (filled_put (z := .int .i64 0) z0)
      have Z1 := Lib.hid (filled_put (z := .int .i64 0) z1)
      have Z2 := Lib.hid (filled_put (z := .int .i64 0) z2)
      have HL := Lib.hid hl
      clear hbl hcell hkz hz R0 B0 z0 z1 z2 hl
      subst eA
      go_wp2_with fail
      refine (toGust _ _ _ _).mono ?_
      rintro e u ⟨rfl, hb1⟩
      have R1 := owns_below RK.out hb1
      have B1 := BK.out.trans (hb1.mono BK.out.size)
      have e3 : u.cell? ⟨w.heap.size, k * 3, none⟩ = some (.int .i64 0) := (R1.cellAt (k * 3) (by omega)).trans (filled_at (Nat.le_refl _) (by have := HL.out; omega))
      have e4 : u.cell? ⟨w.heap.size, k * 3 + 1, none⟩ = some (.int .i64 0) := (R1.cellAt (k * 3 + 1) (by omega)).trans (filled_at (by omega) (by have := HL.out; omega))
      have e5 : u.cell? ⟨w.heap.size, k * 3 + 2, none⟩ = some (.int .i64 0) := (R1.cellAt (k * 3 + 2) (by omega)).trans (filled_at (by omega) (by have := HL.out; omega))
      have f3 := R1.frozenAt (k * 3)
      have f4 := R1.frozenAt (k * 3 + 1)
      have f5 := R1.frozenAt (k * 3 + 2)
      obtain ⟨r1, g1⟩ := R1.stored (k * 3) (.int .i64 f)
      rw [Z0.out] at r1
      obtain ⟨r2, g2⟩ := r1.stored (k * 3 + 1) (.int .i64 x)
      rw [Z1.out] at r2
      obtain ⟨r3, g3⟩ := r2.stored (k * 3 + 1 + 1) (.int .i64 y)
      rw [Z2.out] at r3
      have RR := Lib.hid r3
      have b1 := B1.grown g1 B1.size (fun g hg => by cases hg; exact Nat.le_refl _)
      have b2 := b1.grown g2 b1.size (fun g hg => by cases hg; exact Nat.le_refl _)
      have BB := Lib.hid (b2.grown g3 b2.size (fun g hg => by cases hg; exact Nat.le_refl _))
      clear r1 g1 r2 g2 r3 g3 b1 b2 hb1 c1 c2 c3 RK BK R1 B1
      go_wp2_with fail
      go_roundw
      case rel => exact ⟨k + 1, by omega, by go_num, by rw [show (k + 1) * 3 = k * 3 + 2 + 1 by omega]; exact RR, BB⟩
      case measure => simp [intOf]; omega
    · obtain rfl : k = n := by omega
      go_wp2
      go_ret
      refine ⟨w.heap.size, rfl, Nat.le_refl _, ?_, BK.out⟩
      have := RK.out
      rw [show k * 3 = (gls zs).length by rw [gls_len, HN.out], filled_all] at this
      exact this

set_option maxHeartbeats 2000000 in
theorem eqGustS (A B : Option Addr) (n c d : Nat) (zs : List (Int × Int × Int)) (H : Nat) (w : World) (hn : zs.length = n) (hb : n ≤ 1048576) (hH : H ≤ w.heap.size) (hr : Rd w H A (gls zs)) (hs : Rd w H B (gls zs)) :
    Calls Try.prog 25 #[.slice A n c, .slice B n d] w fun e w' => e = .returned (.bool true) ∧ Below w.heap.size w w' := by
  have HR := Lib.hid (hr.more hH)
  have HS := Lib.hid (hs.more hH)
  have HN := Lib.hid hn
  clear hr hs hn hH
  go_enter Try.func25, Try.ntmps25
  go_wp2
  go_loopw [5] (fun i wr => ∃ k : Nat, k ≤ n ∧ i = .int .i64 k ∧ Hid (Below w.heap.size w wr)) (fun i _ => n - (intOf i).toNat)
  case atStart => exact ⟨0, Nat.zero_le _, rfl, Lib.hid (Below.refl _ _)⟩
  case round =>
    obtain ⟨k, hk, rfl, BK⟩ := hrel
    by_cases hlt : k < n
    · have hkz : k < zs.length := by rw [HN.out]; exact hlt
      have hl : k * 3 < (gls zs).length := by rw [gls_len]; omega
      obtain ⟨z, hz⟩ : ∃ z, zs[k]? = some z := ⟨_, List.getElem?_eq_getElem hkz⟩
      obtain ⟨z0, z1, z2⟩ := gls_get hz
      obtain ⟨f, x, y⟩ := z
      obtain ⟨b1, o1, eA, _, g1⟩ := (HR.out.below BK.out).get hl
      obtain ⟨b2, o2, eB, _, g2⟩ := (HS.out.below BK.out).get hl
      have c1 : wr.cell? ⟨b1, o1 + k * 3, none⟩ = some (.int .i64 f) := g1 _ _ z0
      have c2 : wr.cell? ⟨b1, o1 + k * 3 + 1, none⟩ = some (.int .i64 x) := g1 _ _ z1
      have c3 : wr.cell? ⟨b1, o1 + k * 3 + 2, none⟩ = some (.int .i64 y) := g1 _ _ z2
      have c4 : wr.cell? ⟨b2, o2 + k * 3, none⟩ = some (.int .i64 f) := g2 _ _ z0
      have c5 : wr.cell? ⟨b2, o2 + k * 3 + 1, none⟩ = some (.int .i64 x) := g2 _ _ z1
      have c6 : wr.cell? ⟨b2, o2 + k * 3 + 2, none⟩ = some (.int .i64 y) := g2 _ _ z2
      clear g1 g2 hz hl hkz z0 z1 z2
      subst eA eB
      have hlt' : (k : Int) < (n : Int) := by omega
      have hk0 : (0 : Int) ≤ (k : Int) := by omega
      have p1 : b1 < wr.heap.size := World.block_lt_of_cell? wr _ c1
      have p2 : ∀ j, b1 < wr.heap.size + j := fun j => by omega
      have p3 : b2 < wr.heap.size := World.block_lt_of_cell? wr _ c4
      have p4 : ∀ j, b2 < wr.heap.size + j := fun j => by omega
      go_wp2_with fail
      go_region_held3 (fun w' => w'.cell? ⟨b1, o1 + k * 3, none⟩ = some (.int .i64 f) ∧ w'.cell? ⟨b1, o1 + k * 3 + 1, none⟩ = some (.int .i64 x) ∧ w'.cell? ⟨b1, o1 + k * 3 + 2, none⟩ = some (.int .i64 y) ∧ w'.cell? ⟨b2, o2 + k * 3, none⟩ = some (.int .i64 f) ∧ w'.cell? ⟨b2, o2 + k * 3 + 1, none⟩ = some (.int .i64 x) ∧ w'.cell? ⟨b2, o2 + k * 3 + 2, none⟩ = some (.int .i64 y)) (simp [go_sem, *])
        (first | (go_at_call 44; ((with_reducible refine (eqGust _ _ _ _).mono ?_); rintro e w' ⟨rfl, rfl⟩)))
      all_goals go_wp2_with fail
      all_goals go_roundw
      case rel => exact ⟨k + 1, by omega, by go_num, Lib.hid (BK.out.trans (Below.mono (by go_grown) BK.out.size))⟩
      case measure => simp [intOf]; omega
    · obtain rfl : k = n := by omega
      go_wp2
      go_ret
      exact ⟨rfl, BK.out⟩

/-- The marks are laid; what lies in other blocks is as it was. -/
def Laid (w : World) (base g n c k : Nat) (e : Ending) (w' : World) : Prop :=
  e = .returned (.int .i64 ((k : Int) + ((n * 3 : Nat) : Int))) ∧ w'.ownsRow base 67 3 (.slice (some ⟨g, 0, none⟩) n c) n (mk k (n * 3)) ∧ w.grownBy w' (some g)

end Go.Proofs.Ytkndejjfndjcoaa.Gs
namespace Go.Proofs.Ytkndejjfndjcoaa.Sp
open Go.RowKit Go.ChangeShapes Go.WideShapes Go.WideElems Go.Joins Go.Deep Go.Proofs.Ytkndejjfndjcoaa.Mem Go.Proofs.Ytkndejjfndjcoaa.Rw
set_option linter.unusedVariables false
set_option linter.unusedSimpArgs false

/-- A show as a value. -/
abbrev sv (A0 : Option Addr) (n0 c0 : Nat) (A1 : Option Addr) (n1 c1 : Nat) (A2 : Option Addr) (n2 c2 : Nat) (T : Int) : Value := .agg #[.slice A0 n0 c0, .slice A1 n1 c1, .slice A2 n2 c2, .int .i64 T]
abbrev sc (A0 : Option Addr) (n0 c0 : Nat) (A1 : Option Addr) (n1 c1 : Nat) (A2 : Option Addr) (n2 c2 : Nat) (T : Int) : Array Value := #[.slice A0 n0 c0, .slice A1 n1 c1, .slice A2 n2 c2, .int .i64 T]

section
variable {H : Type} {enc : TypeId × Value → H} {P : Program} {G : Type} {cells : G → List Value} {K : Nat}
/-- A slice of records in a field. -/
theorem rows_in {W : World} {t e : TypeId} {v : Value} {fuel : Nat} {x : DataW H × List MemPlace} [Inhabited G] (good : G → Prop) (hl : ∀ g, (cells g).length = K) (hK : 0 < K)
    (ht : P.underlying t = some (.slice e)) (ce : P.cellsOf e = K)
    (hel : ∀ fuel cs x, DataW.trod enc P W 0 (fun _ => true) true fuel e cs = some x → cs.length = K → ∃ g, cs = cells g ∧ good g)
    (hf : DataW.trod enc P W 0 (fun _ => true) true fuel t [v] = some x) :
    ∃ (A : Option Addr) (n c : Nat) (zs : List G), v = .slice A n c ∧ zs.length = n ∧ n ≤ maxLen ∧ Rd W W.heap.size A (zs.flatMap cells) ∧ ∀ z ∈ zs, good z := by
  rcases open_slice ht hf with ⟨hcs, _⟩ | ⟨a, len, cap', m, n, D, Pl, hcs, _, hlc, hm, hmm, _, hx⟩
  · injection hcs with hcs
    subst hcs
    exact ⟨none, 0, 0, [], rfl, rfl, Nat.zero_le _, Rd.nil _ _ _, fun _ h => by cases h⟩
  · injection hcs with hcs
    subst hcs
    simp only [if_true] at hmm
    subst hmm
    have each : ∀ i, i < len → ∃ g : G, (∀ j, j < K → W.cell? (a.add (i * K + j)) = (cells g)[j]?) ∧ good g := by
      intro i hi
      obtain ⟨cs', h1, h2⟩ := hx i (by omega)
      rw [ce] at h1
      obtain ⟨_, hlen, hcell⟩ := World.cells?_some h1
      obtain ⟨g, rfl, hg⟩ := hel _ _ _ h2 hlen
      refine ⟨g, fun j hj => ?_, hg⟩
      rw [← add_add]; exact hcell j hj
    obtain ⟨q, hq⟩ := choose_lt each
    refine ⟨some a, len, _, (List.range len).map q, rfl, by simp, by omega, ?_, ?_⟩
    · by_cases hz : len = 0
      · subst hz; exact Or.inl rfl
      · obtain ⟨b, o, spot⟩ := a
        have hk0 : (cells (q 0))[0]? = some ((cells (q 0))[0]'(by rw [hl]; exact hK)) := List.getElem?_eq_getElem _
        have c00 := ((hq 0 (by omega)).1 0 hK).trans hk0
        have hspot : spot = none := by simpa [Addr.add] using World.cell?_spot c00
        subst hspot
        have hb := World.block_lt_of_cell? W _ c00
        refine Or.inr ⟨b, o, rfl, by simpa [Addr.add] using hb, fun j v hv => ?_⟩
        have hj : j < (((List.range len).map q).flatMap cells).length := (List.getElem?_eq_some_iff.1 hv).1
        rw [flat_len hl] at hj
        simp only [List.length_map, List.length_range] at hj
        have hi : j / K < len := Nat.div_lt_of_lt_mul (by rw [Nat.mul_comm]; exact hj)
        have hr : j % K < K := Nat.mod_lt _ hK
        have hg := flat_get hl (zs := (List.range len).map q) (k := j / K) (z := q (j / K)) (by simp [hi]) (j % K) hr
        have k0 := (hq (j / K) hi).1 (j % K) hr
        have ej : j / K * K + j % K = j := by rw [Nat.mul_comm]; exact Nat.div_add_mod j K
        rw [ej] at hg k0
        rw [hv] at hg
        rw [← hg] at k0
        rw [← add_plain]; exact k0
    · intro z hz
      obtain ⟨i, hi, rfl⟩ := List.mem_map.1 hz
      exact (hq i (List.mem_range.1 hi)).2
end

section
variable {H : Type} {enc : TypeId × Value → H}
set_option maxRecDepth 100000 in
theorem read_gust {W : World} (fuel : Nat) (cs : List Value) (x : DataW H × List MemPlace) (hx : DataW.trod enc Try.prog W 0 (fun _ => true) true fuel 73 cs = some x) (hl : cs.length = 3) : ∃ g, cs = Gs.gc g ∧ Gs.Gok g := by
  match cs, hl with
  | [a, b, c], _ =>
    obtain ⟨y0, y1, n, _, _, k0, k1⟩ := trod_struct2 Try.underlying73 hx
    simp at k0 k1
    have ch : Try.prog.cellsOf 3 = 1 := by kernel_rfl
    have cp : Try.prog.cellsOf 52 = 2 := by kernel_rfl
    rw [ch] at k0
    rw [cp] at k1
    simp at k0 k1
    obtain ⟨z0, z1, m, _, _, l0, l1⟩ := trod_struct2 Try.underlying52 k1
    simp at l0 l1
    rw [ch] at l0 l1
    simp at l0 l1
    obtain ⟨f, e0, _, w0⟩ := DataW.trod_int Try.underlying3 k0
    obtain ⟨x, e1, _, w1⟩ := DataW.trod_int Try.underlying3 l0
    obtain ⟨y, e2, _, w2⟩ := DataW.trod_int Try.underlying3 l1
    injection e0 with e0
    injection e1 with e1
    injection e2 with e2
    subst e0 e1 e2
    exact ⟨(f, x, y), rfl, w0, w1, w2⟩
set_option maxRecDepth 100000 in
/-- An argument that is a show. -/
theorem take_show {W : World} {r : Reach} {b0 : Nat} {v : Value} {d : DataW H} {ps : List MemPlace}
    (hval : Value.okWide Try.prog W r b0 26 v) (h : DataW.Trod enc Try.prog W 0 (fun _ => true) true 26 v d ps) :
    ∃ (A0 : Option Addr) (n0 c0 : Nat) (ds : List Dd.D) (A1 : Option Addr) (n1 c1 : Nat) (cs : List Cd.C) (A2 : Option Addr) (n2 c2 : Nat) (gs : List (Int × Int × Int)) (T : Int),
      v = sv A0 n0 c0 A1 n1 c1 A2 n2 c2 T ∧ (ds.length = n0 ∧ n0 ≤ maxLen) ∧ (cs.length = n1 ∧ n1 ≤ maxLen) ∧ (gs.length = n2 ∧ n2 ≤ maxLen) ∧ (Lit.int .i64 T).wf = true ∧
      (Rd W W.heap.size A0 (Dd.dls ds) ∧ ∀ z ∈ ds, Dd.Dok z) ∧ (Rd W W.heap.size A1 (Cd.dls cs) ∧ ∀ z ∈ cs, Cd.Dok z) ∧ Rd W W.heap.size A2 (Gs.gls gs) ∧ ∀ z ∈ gs, Gs.Gok z := by
  obtain ⟨v0, v1, v2, v3, y0, y1, y2, y3, n, rfl, _, _, h0, h1, h2, h3⟩ := open_agg4 Try.underlying26 (by kernel_rfl) (by kernel_rfl) hval h
  obtain ⟨A0, n0, c0, ds, rfl, l0, m0, r0, w0⟩ := rows_in (K := 8) (cells := Dd.dc) Dd.Dok Dd.dc_len (by omega) Try.underlying22 (by kernel_rfl) Dd.read_this h0
  obtain ⟨A1, n1, c1, cs, rfl, l1, m1, r1, w1⟩ := rows_in (K := 4) (cells := Cd.dc) Cd.Dok Cd.dc_len (by omega) Try.underlying23 (by kernel_rfl) Cd.read_this h1
  obtain ⟨A2, n2, c2, gs, rfl, l2, m2, r2, w2⟩ := rows_in (K := 3) (cells := Gs.gc) Gs.Gok Gs.gc_len (by omega) Try.underlying24 (by kernel_rfl) read_gust h2
  obtain ⟨T, e3, _, w3⟩ := DataW.trod_int Try.underlying3 h3
  injection e3 with e3
  subst e3
  exact ⟨A0, n0, c0, ds, A1, n1, c1, cs, A2, n2, c2, gs, T, rfl, ⟨l0, m0⟩, ⟨l1, m1⟩, ⟨l2, m2⟩, w3, ⟨r0, w0⟩, ⟨r1, w1⟩, r2, w2⟩
end
end Go.Proofs.Ytkndejjfndjcoaa.Sp
namespace Go.Proofs.Ytkndejjfndjcoaa.Dv
open Go.RowKit Go.Proofs.Ytkndejjfndjcoaa.Dd Go.Proofs.Ytkndejjfndjcoaa.Pw
set_option linter.unusedVariables false
set_option linter.unusedSimpArgs false

set_option maxHeartbeats 1000000 in
theorem toDevice (n : ByteArray) (k : Int) (l : ByteArray) (x y h t m : Int) (w : World) : Calls Try.prog 33 #[va n k l x y h t m] w fun e w' => e = .returned (va n k l x y h t m) ∧ Below w.heap.size w w' := by
  go_enter Try.func33, Try.ntmps33
  go_wp2_with (go_at_call 50; ((with_reducible refine (toPlace _ _ _).mono ?_); rintro e w' ⟨rfl, rfl⟩))
  go_returns
  exact ⟨rfl, by go_grown⟩

set_option maxHeartbeats 1000000 in
theorem eqDevice (n : ByteArray) (k : Int) (l : ByteArray) (x y h t m : Int) (w : World) : Calls Try.prog 42 #[va n k l x y h t m, va n k l x y h t m] w fun e w' => e = .returned (.bool true) ∧ w' = (((w.alloc (.cells (ca n k l x y h t m) 60)).alloc (.cells (ca n k l x y h t m) 60)).alloc (.cells #[.int .i64 x, .int .i64 y] 58)).alloc (.cells #[.int .i64 x, .int .i64 y] 58) := by
  have h1 : (n.toList == n.toList) = true := by simp
  have h2 : (l.toList == l.toList) = true := by simp
  go_enter Try.func42, Try.ntmps42
  go_wp2_with (go_at_call 58; ((with_reducible refine (eqPlace _ _ _).mono ?_); rintro e w' ⟨rfl, rfl⟩))
  all_goals go_returns
  all_goals exact ⟨rfl, rfl⟩

theorem szYes (n : ByteArray) (k : Int) (l : ByteArray) (x y h t m : Int) (L R : Int) (h1 : L ≤ 1048576) (hR : L - (n.size : Int) - (l.size : Int) = R) (hp : 0 ≤ R) (w : World) :
    Calls Try.prog 26 #[va n k l x y h t m, .int .i64 L] w fun e w' => e = .returned (.int .i64 R) ∧ w' = w.alloc (.cells (ca n k l x y h t m) 54) := by
  have HR := Lib.hid hR
  have a1 : (n.size : Int) ≤ L := by omega
  have a2 : (l.size : Int) ≤ L - (n.size : Int) := by omega
  have a3 : ¬ L - (n.size : Int) < 0 := by omega
  have a4 : ¬ L - (n.size : Int) - (l.size : Int) < 0 := by omega
  have a5 : 0 ≤ L := by omega
  clear hR hp
  go_enter Try.func26, Try.ntmps26
  go_wp2
  all_goals go_returns
  all_goals first | exact ⟨rfl, rfl⟩ | exact ⟨by show Ending.returned (.int .i64 _) = _; rw [HR.out], rfl⟩ | (exfalso; omega)

theorem szNo (n : ByteArray) (k : Int) (l : ByteArray) (x y h t m : Int) (L : Int) (h0 : 0 ≤ L) (h1 : L ≤ 1048576) (hn : n.size ≤ maxLen) (hl : l.size ≤ maxLen) (hR : L - (n.size : Int) - (l.size : Int) < 0) (w : World) :
    Calls Try.prog 26 #[va n k l x y h t m, .int .i64 L] w fun e w' => e = .returned (.int .i64 (-1)) ∧ w' = w.alloc (.cells (ca n k l x y h t m) 54) := by
  unfold maxLen at hn hl
  by_cases h2 : L < (n.size : Int)
  · have a3 : L - (n.size : Int) < 0 := by omega
    have a1 : ¬ (n.size : Int) ≤ L := by omega
    go_enter Try.func26, Try.ntmps26
    go_wp2
    all_goals go_returns
    all_goals first | exact ⟨rfl, rfl⟩ | (exfalso; omega)
  · have a3 : ¬ L - (n.size : Int) < 0 := by omega
    have a1 : (n.size : Int) ≤ L := by omega
    have a4 : ¬ (l.size : Int) ≤ L - (n.size : Int) := by omega
    go_enter Try.func26, Try.ntmps26
    go_wp2
    all_goals go_returns
    all_goals first | exact ⟨rfl, rfl⟩ | (exfalso; omega)

end Go.Proofs.Ytkndejjfndjcoaa.Dv
