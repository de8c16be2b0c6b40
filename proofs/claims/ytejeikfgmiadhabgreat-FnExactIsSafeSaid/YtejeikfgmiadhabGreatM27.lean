/- A wind that is spread out in a slice of complex numbers, a window of it, its sum and its changes: the program's own functions. -/
import Derived.Test.YtejeikfgmiadhabGreatM26
import Derived.ArgAppend
import Derived.Deep.DeepCutAuto
import Derived.Handy
set_option linter.unusedVariables false
set_option linter.unusedSimpArgs false
namespace Go.Proofs.YtejeikfgmiadhabGreat.Wc
open Go.RowKit Go.Proofs.YtejeikfgmiadhabGreat.Mem Go.Proofs.YtejeikfgmiadhabGreat.Rw Go.Proofs.YtejeikfgmiadhabGreat.Bk Go.Proofs.YtejeikfgmiadhabGreat.Cx Go.Proofs.YtejeikfgmiadhabGreat.Cm Go.Proofs.YtejeikfgmiadhabGreat.Jt Go.Proofs.YtejeikfgmiadhabGreat.Pl Go.Proofs.YtejeikfgmiadhabGreat.Str Go.Proofs.YtejeikfgmiadhabGreat.Pw Go.Proofs.YtejeikfgmiadhabGreat.P2 Go.Proofs.YtejeikfgmiadhabGreat.Gs Go.Proofs.YtejeikfgmiadhabGreat.Wm Go.Proofs.YtejeikfgmiadhabGreat.Wi Go.Proofs.YtejeikfgmiadhabGreat.Wa
set_option linter.unusedVariables false
set_option linter.unusedSimpArgs false

abbrev zv (p : Int × Int) : Value := .complex .f32 (Meas.f32 p.1) (Meas.f32 p.2)
/-- The places as words. -/
def zs2 (l : List (Int × Int)) : List Value := l.map zv
theorem zs2_len (l : List (Int × Int)) : (zs2 l).length = l.length := List.length_map ..
theorem zs2_get {l : List (Int × Int)} {k : Nat} {p : Int × Int} (h : l[k]? = some p) : (zs2 l)[k]? = some (zv p) := by
  unfold zs2; rw [List.getElem?_map, h]; rfl
theorem f32_0 : Meas.f32 0 = 0 := by decide
theorem infoC : (Tryz.prog.info? 81).map (fun i => (i.zero, i.size, i.bytes)) = some (some (.complex .f32 0 0), 1, 8) := by kernel_rfl
theorem made_c (n : Nat) : (madeCells (Value.complex .f32 0 0).cells (n * 1)).toList = List.replicate n (.complex .f32 0 0) := by
  apply List.ext_getElem?
  intro j
  rw [Nat.mul_one, Array.getElem?_toList, List.getElem?_replicate]
  simp only [madeCells, Value.cells]
  by_cases h : j < n <;> simp [h, Nat.mod_one]
@[go_sem] theorem run_store_complex (P : Program) (w : World) (a : Addr) (m : Mode) (k : FloatKind) (b c : Nat) : (store a (.complex k b c) m).run P w = stored P w a (.complex k b c) m := run_store P w a _ m rfl

/-- The drifts at the first 128 ticks, the ticks below t by k + 1 gusts, the others by k. -/
def mixed (zs : List G) (k t : Nat) : List (Int × Int) := (List.range 128).map fun j => if j < t then dr (zs.take (k + 1)) (j : Int) else dr (zs.take k) (j : Int)
theorem mixed_len (zs : List G) (k t : Nat) : (mixed zs k t).length = 128 := by simp [mixed]
theorem mixed_get {zs : List G} {k t j : Nat} (h : j < 128) : (mixed zs k t)[j]? = some (if j < t then dr (zs.take (k + 1)) (j : Int) else dr (zs.take k) (j : Int)) := by
  unfold mixed; rw [List.getElem?_map, List.getElem?_range h]; rfl
theorem mixed_from {zs : List G} {k : Nat} {z : G} (hz : zs[k]? = some z) {t : Nat} (ht : (t : Int) ≤ z.1) : mixed zs k t = mixed zs k 0 := by
  unfold mixed
  apply List.map_congr_left
  intro j hj
  by_cases h : j < t
  · rw [if_pos h, if_neg (by omega), dr_take hz, if_neg (by omega)]
  · rw [if_neg h, if_neg (by omega)]
theorem mixed_end {zs : List G} {k : Nat} : mixed zs k 128 = mixed zs (k + 1) 0 := by
  unfold mixed
  apply List.map_congr_left
  intro j hj
  have := List.mem_range.1 hj
  rw [if_pos this, if_neg (by omega)]
theorem mixed_set {zs : List G} {k t : Nat} {z : G} (hz : zs[k]? = some z) (ht : z.1 ≤ (t : Int)) (h8 : t < 128) : (zs2 (mixed zs k t)).set t (zv z.2) = zs2 (mixed zs k (t + 1)) := by
  unfold zs2
  rw [← List.map_set]
  congr 1
  apply List.ext_getElem?
  intro j
  rw [List.getElem?_set]
  by_cases h : t = j
  · subst h
    rw [if_pos rfl, if_pos (by rw [mixed_len]; exact h8), mixed_get h8, if_pos (by omega), dr_take hz, if_pos ht]
  · rw [if_neg h]
    by_cases hj : j < 128
    · rw [mixed_get hj, mixed_get hj]
      by_cases h2 : j < t
      · rw [if_pos h2, if_pos (by omega)]
      · rw [if_neg h2, if_neg (by omega)]
    · rw [List.getElem?_eq_none (by rw [mixed_len]; omega), List.getElem?_eq_none (by rw [mixed_len]; omega)]
theorem mixed_zero (zs : List G) : zs2 (mixed zs 0 0) = List.replicate 128 (.complex .f32 0 0) := by
  apply List.ext_getElem?
  intro j
  rw [List.getElem?_replicate]
  by_cases h : j < 128
  · rw [zs2_get (mixed_get h), if_pos h, if_neg (by omega)]
    show some (Value.complex .f32 (Meas.f32 0) (Meas.f32 0)) = _
    rw [f32_0]
  · rw [if_neg h, List.getElem?_eq_none (by rw [zs2_len, mixed_len]; omega)]
theorem mixed_all (zs : List G) {n : Nat} (hn : zs.length = n) : mixed zs n 0 = drs zs 0 128 := by
  unfold mixed drs
  apply List.map_congr_left
  intro j hj
  rw [if_neg (by omega), ← hn, List.take_length, Nat.zero_add]

/-- A row of one's own with these words; what was there is as it was. -/
def RowC (w : World) (l : List (Int × Int)) (e : Ending) (w' : World) : Prop :=
  ∃ g, e = .returned (.slice (some ⟨g, 0, none⟩) l.length l.length) ∧ w'.ownsRow w.heap.size 81 1 (.slice (some ⟨g, 0, none⟩) l.length l.length) l.length (zs2 l) ∧ Below w.heap.size w w'

set_option maxRecDepth 100000 in
set_option maxHeartbeats 2000000 in
theorem spreadOut (A : Option Addr) (n c : Nat) (zs : List G) (H : Nat) (w : World) (hn : zs.length = n) (hb : n ≤ 1048576) (hH : H ≤ w.heap.size) (hr : Rd w H A (gls zs)) (hw : wd zs = true) :
    Calls Tryz.prog 176 #[.slice A n c] w (RowC w (drs zs 0 128)) := by
  obtain ⟨i0, hi, hz0, hz1, hz2⟩ := info_of infoC
  have HR := Lib.hid (hr.more hH)
  have HN := Lib.hid hn
  have HW := Lib.hid hw
  clear hr hn hw
  go_enter Tryz.func176, Tryz.ntmps176
  go_wp2_with (at_make; refine wpList_make_full _ rfl _ _ 134 rfl w.heap.size 81 i0 (.complex .f32 0 0) 1 Tryz.underlying134 hi hz0 hz1 .i64 .i64 128 128 128 rfl rfl rfl rfl (by rw [hz2]; omega) (by unfold maxLen; omega) (Nat.le_refl _) ?_; intro w1 hown hgrow; clear hi hz0 hz1 hz2)
  have R0 := Lib.hid (show w1.ownsRow w.heap.size 81 1 (.slice (some ⟨w.heap.size, 0, none⟩) 128 128) 128 (zs2 (mixed zs 0 0)) by
    rw [mixed_zero]; rw [made_c] at hown; exact hown)
  have B0 := Lib.hid (show Below w.heap.size w w1 from (Below.refl _ _).grown hgrow (Nat.le_refl _) (fun k hk => by cases hk))
  clear hown hgrow
  go_loopw [10] (fun i wr => ∃ k : Nat, k ≤ n ∧ i = .int .i64 k ∧ Hid (wr.ownsRow w.heap.size 81 1 (.slice (some ⟨w.heap.size, 0, none⟩) 128 128) 128 (zs2 (mixed zs k 0))) ∧ Hid (Below w.heap.size w wr)) (fun i _ => n - (intOf i).toNat)
  case atStart => exact ⟨0, Nat.zero_le _, rfl, R0, B0⟩
  case round =>
    obtain ⟨k, hk, rfl, RK, BK⟩ := hrel
    have hbs := BK.out.size
    by_cases hlt : k < n
    · have hkz : k < zs.length := by rw [HN.out]; exact hlt
      have hl : k * 3 < (gls zs).length := by rw [gls_len]; omega
      obtain ⟨z, hz⟩ : ∃ z, zs[k]? = some z := ⟨_, List.getElem?_eq_getElem hkz⟩
      obtain ⟨b, o, eA, hbl, hcell⟩ := (HR.out.below BK.out).get hl
      obtain ⟨z0, z1, z2⟩ := gls_get hz
      obtain ⟨hf, hx, hy⟩ := wd_each HW.out hz
      have HZ := Lib.hid hz
      obtain ⟨f, x, y⟩ := z
      simp only at hf hx hy
      obtain ⟨F, rfl⟩ : ∃ F : Nat, f = (F : Int) := ⟨f.toNat, by omega⟩
      have c1 : wr.cell? ⟨b, o + k * 3, none⟩ = some (.int .i64 (F : Int)) := hcell _ _ z0
      have c2 : wr.cell? ⟨b, o + k * 3 + 1, none⟩ = some (.int .i64 x) := hcell _ _ z1
      have c3 : wr.cell? ⟨b, o + k * 3 + 2, none⟩ = some (.int .i64 y) := hcell _ _ z2
      have p1 : b < wr.heap.size := World.block_lt_of_cell? wr _ c1
      have p2 : ∀ j, b < wr.heap.size + j := fun j => by omega
      have R1 := Lib.hid (show (wr.alloc (.cells #[.int .i64 (F : Int), .int .i64 x, .int .i64 y] 96)).ownsRow w.heap.size 81 1 (.slice (some ⟨w.heap.size, 0, none⟩) 128 128) 128 (zs2 (mixed zs k F)) by
        rw [mixed_from HZ.out (Int.le_refl _)]; exact RK.out.alloc _)
      have B1 := Lib.hid (BK.out.alloc hbs (.cells #[.int .i64 (F : Int), .int .i64 x, .int .i64 y] 96))
      have T1 := Lib.hid (Bk.new wr #[.int .i64 (F : Int), .int .i64 x, .int .i64 y] 96)
      have C := Lib.hid (complexOf x y (by omega) (by omega))
      clear hcell hz hl hkz z0 z1 z2 hbl RK BK R0 B0
      subst eA
      go_wp2_with fail
      obtain ⟨wo, rfl⟩ : ∃ wo : World, wo = wr := ⟨_, rfl⟩
      go_loopw [6] (fun i wr => ∃ t : Nat, F ≤ t ∧ t ≤ 128 ∧ i = .int .i64 t ∧ Hid (wr.ownsRow w.heap.size 81 1 (.slice (some ⟨w.heap.size, 0, none⟩) 128 128) 128 (zs2 (mixed zs k t))) ∧ Hid (Bk wr wo.heap.size #[.int .i64 (F : Int), .int .i64 x, .int .i64 y] 96) ∧ Hid (Below w.heap.size w wr)) (fun i _ => 128 - (intOf i).toNat)
      case atStart => exact ⟨F, Nat.le_refl _, by omega, rfl, R1, T1, B1⟩
      case round =>
        obtain ⟨t, ht1, ht2, rfl, RT, TT, BT⟩ := hrel
        have hts := BT.out.size
        by_cases hlt2 : t < 128
        · have hne := own_ne RT.out TT.out (by decide)
          have q0 := TT.out.cell (i := 1) rfl
          have q1 := TT.out.cell (i := 2) rfl
          have l1 := TT.out.lt
          have l2 : ∀ j, wo.heap.size < wr.heap.size + j := fun j => by omega
          have c4 := (RT.out.cellAt t (by omega)).trans (zs2_get (mixed_get hlt2))
          have f4 := RT.out.frozenAt t
          have l3 : w.heap.size < wr.heap.size := (RT.out.lt _ rfl).2
          have l4 : ∀ j, w.heap.size < wr.heap.size + j := fun j => by omega
          obtain ⟨r2, g2⟩ := RT.out.stored t (zv (x, y))
          rw [mixed_set HZ.out (by simp only; omega) hlt2] at r2
          have R2 := Lib.hid (show (((wr.setCell ⟨w.heap.size, t, none⟩ (zv (x, y))).alloc (.cells #[.int .i64 x, .int .i64 y] 31)).drew).ownsRow w.heap.size 81 1 (.slice (some ⟨w.heap.size, 0, none⟩) 128 128) 128 (zs2 (mixed zs k (t + 1))) from r2.alloc _)
          have T3 := Lib.hid ((TT.out.grown g2 hne).alloc (o := .cells #[.int .i64 x, .int .i64 y] 31)).drew
          have B2 := Lib.hid (((BT.out.grown g2 hts (fun q hq => by cases hq; exact Nat.le_refl _)).alloc (by simp [World.setCell]; omega) (.cells #[.int .i64 x, .int .i64 y] 31)).drew)
          clear r2 g2 hne
          go_wp2_with fail
          refine (C.out _).mono ?_
          rintro e u ⟨rfl, rfl⟩
          go_wp2_with fail
          go_roundw
          case rel => exact ⟨t + 1, by omega, by omega, by go_num, R2, T3, B2⟩
          case measure => simp [intOf]; omega
        · obtain rfl : t = 128 := by omega
          have R2 := Lib.hid (show wr.ownsRow w.heap.size 81 1 (.slice (some ⟨w.heap.size, 0, none⟩) 128 128) 128 (zs2 (mixed zs (k + 1) 0)) by rw [← mixed_end]; exact RT.out)
          go_wp2_with fail
          go_roundw
          case rel => exact ⟨k + 1, by omega, by go_num, R2, BT⟩
          case measure => simp [intOf]; omega
    · obtain rfl : k = n := by omega
      go_wp2
      go_ret
      refine ⟨w.heap.size, by rw [drs_len]; rfl, ?_, BK.out⟩
      rw [drs_len, ← mixed_all zs HN.out]; exact RK.out

end Go.Proofs.YtejeikfgmiadhabGreat.Wc
namespace Go.Proofs.YtejeikfgmiadhabGreat.Wb
open Go.RowKit Go.Proofs.YtejeikfgmiadhabGreat.Mem Go.Proofs.YtejeikfgmiadhabGreat.Rw Go.Proofs.YtejeikfgmiadhabGreat.Bk Go.Proofs.YtejeikfgmiadhabGreat.Jt Go.Proofs.YtejeikfgmiadhabGreat.Pw Go.Proofs.YtejeikfgmiadhabGreat.P2 Go.Proofs.YtejeikfgmiadhabGreat.Gs Go.Proofs.YtejeikfgmiadhabGreat.Wm Go.Proofs.YtejeikfgmiadhabGreat.Wi Go.Proofs.YtejeikfgmiadhabGreat.Wa
set_option linter.unusedVariables false
set_option linter.unusedSimpArgs false

end Go.Proofs.YtejeikfgmiadhabGreat.Wb
namespace Go.Proofs.YtejeikfgmiadhabGreat.Wc
open Go.RowKit Go.Proofs.YtejeikfgmiadhabGreat.Mem Go.Proofs.YtejeikfgmiadhabGreat.Rw Go.Proofs.YtejeikfgmiadhabGreat.Bk Go.Proofs.YtejeikfgmiadhabGreat.Cx Go.Proofs.YtejeikfgmiadhabGreat.Cm Go.Proofs.YtejeikfgmiadhabGreat.Jt Go.Proofs.YtejeikfgmiadhabGreat.Pl Go.Proofs.YtejeikfgmiadhabGreat.Str Go.Proofs.YtejeikfgmiadhabGreat.Pw Go.Proofs.YtejeikfgmiadhabGreat.P2 Go.Proofs.YtejeikfgmiadhabGreat.Gs Go.Proofs.YtejeikfgmiadhabGreat.Wm Go.Proofs.YtejeikfgmiadhabGreat.Wi Go.Proofs.YtejeikfgmiadhabGreat.Wa
set_option linter.unusedVariables false
set_option linter.unusedSimpArgs false

/-- Words that tell these places, to be read. -/
def Win (w : World) (l : List (Int × Int)) (e : Ending) (w' : World) : Prop :=
  ∃ g o, e = .returned (.slice (some ⟨g, o, none⟩) l.length l.length) ∧ Rd w' w'.heap.size (some ⟨g, o, none⟩) (zs2 l) ∧ Below w.heap.size w w'

theorem rd_part {w : World} {B g : Nat} {xs : List Value} (h : Rd w B (some ⟨g, 0, none⟩) xs) (a m : Nat) : Rd w B (some ⟨g, a, none⟩) ((xs.drop a).take m) := by
  rcases h with rfl | ⟨b, o, e, hb, hx⟩
  · exact Or.inl (by simp)
  · injection e with e
    injection e with e1 e2
    subst e1 e2
    refine Or.inr ⟨g, a, rfl, hb, fun j v hv => ?_⟩
    rw [List.getElem?_take] at hv
    split at hv
    · rw [List.getElem?_drop] at hv
      have := hx _ _ hv
      rwa [Nat.zero_add] at this
    · cases hv
theorem zs2_part (zs : List G) (a m : Nat) (h : a + m ≤ 128) : ((zs2 (drs zs 0 128)).drop a).take m = zs2 (drs zs a m) := by
  unfold zs2
  rw [← List.map_drop, ← List.map_take, drs_drop, drs_take (by omega)]

set_option maxRecDepth 100000 in
set_option maxHeartbeats 2000000 in
theorem driftsIn (A : Option Addr) (n c : Nat) (zs : List G) (H : Nat) (a m : Nat) (w : World) (hn : zs.length = n) (hb : n ≤ 1048576) (hH : H ≤ w.heap.size) (hr : Rd w H A (gls zs)) (hw : wd zs = true) (hm : a + m ≤ 128) :
    Calls Tryz.prog 142 #[.slice A n c, .int .i64 a, .int .i64 ((a : Int) + (m : Int))] w (Win w (drs zs a m)) := by
  have C := Lib.hid (spreadOut A n c zs H w hn hb hH hr hw)
  obtain ⟨b, hb⟩ : ∃ b : Nat, b = a + m := ⟨_, rfl⟩
  rw [show (a : Int) + (m : Int) = (b : Int) by omega]
  have hab : a ≤ b := by omega
  have hb8 : b ≤ 128 := by omega
  have HB := Lib.hid hb
  have a0 : (a : Int) ≤ (b : Int) := by omega
  have a1 : (0 : Int) ≤ (a : Int) := by omega
  have a2 : (b : Int) ≤ 128 := by omega
  have a3 : (b : Int) ≤ ((128 : Nat) : Int) := by omega
  clear hr hn hw hb
  go_enter Tryz.func142, Tryz.ntmps142
  go_wp2_with fail
  refine C.out.mono ?_
  rintro e u ⟨g, rfl, o1, b1⟩
  rw [drs_len] at o1 ⊢
  have O1 := Lib.hid o1
  have B1 := Lib.hid b1
  clear o1 b1
  have hl : (drs zs a m).length = m := drs_len _ _ _
  by_cases h0 : m = 0
  · have hba : b = a := by have := HB.out; omega
    subst h0 hba
    go_wp2_with fail
    go_ret
    exact ⟨g, 0, by rw [hl]; simp, by exact Or.inl rfl, B1.out⟩
  · have hba : ¬ b = a := by have := HB.out; omega
    go_wp2_with fail
    go_ret
    have := HB.out
    have hm2 : b - a = m := by omega
    refine ⟨g, a, by rw [hl, ← hm2]; rfl, ?_, B1.out⟩
    have h7 := rd_part (Rd.own O1.out) a m
    rw [zs2_part zs a m hm] at h7
    exact h7

theorem cneq {P : Program} {a b c d : Int} {x y u v : Nat} (ha : a.natAbs < 16777216) (hb : b.natAbs < 16777216) (hc : c.natAbs < 16777216) (hd : d.natAbs < 16777216) (hx : I32 a x) (hy : I32 b y) (hu : I32 c u) (hv : I32 d v) (r : Bool) (hr : r = (!(decide (a = c) && decide (b = d)))) (t : TypeId) (w : World) :
    (binOp .neq t (.complex .f32 x y) (.complex .f32 u v)).run P w = .ok (.bool r) w := by
  have key : ∀ {a b : Int}, (some (compare a b) == some Ordering.eq) = decide (a = b) := by
    intro a b
    by_cases h : a = b
    · subst h; simp [compare, compareOfLessAndEq]
    · simp [compare, compareOfLessAndEq, h]
      split <;> simp
  rw [run_neq_complex]
  have e1 : FloatKind.f32.format.order x u = some (compare a c) := order_is (s32 a ha) (s32 c hc) hx hu
  have e2 : FloatKind.f32.format.order y v = some (compare b d) := order_is (s32 b hb) (s32 d hd) hy hv
  rw [e1, e2, key, key, hr]

/-- All places of a list lie so near. -/
def Near (D : Int) (l : List (Int × Int)) : Prop := ∀ p ∈ l, (-D ≤ p.1 ∧ p.1 ≤ D) ∧ (-D ≤ p.2 ∧ p.2 ≤ D)
theorem Near.at {D : Int} {l : List (Int × Int)} (h : Near D l) {k : Nat} {p : Int × Int} (hp : l[k]? = some p) : (-D ≤ p.1 ∧ p.1 ≤ D) ∧ (-D ≤ p.2 ∧ p.2 ≤ D) := h p (List.mem_of_getElem? hp)
theorem Near.was {D : Int} {l : List (Int × Int)} (h : Near D l) (h0 : 0 ≤ D) {k : Nat} (hk : k ≤ l.length) : (-D ≤ (was l k).1 ∧ (was l k).1 ≤ D) ∧ (-D ≤ (was l k).2 ∧ (was l k).2 ≤ D) := by
  cases k with
  | zero => rw [was_zero]; simp only; omega
  | succ k =>
    obtain ⟨p, hp⟩ : ∃ p, l[k]? = some p := ⟨_, List.getElem?_eq_getElem (by omega)⟩
    rw [was_next hp]; exact h.at hp
theorem near_drs {zs : List G} (h : wd zs = true) (a m : Nat) : Near 8 (drs zs a m) := by
  intro p hp
  unfold drs at hp
  obtain ⟨j, _, rfl⟩ := List.mem_map.1 hp
  exact dr_bound h _

set_option maxRecDepth 100000 in
set_option maxHeartbeats 2000000 in
theorem changesOf (A : Option Addr) (m c : Nat) (l : List (Int × Int)) (H : Nat) (w : World) (hn : l.length = m) (hb : m ≤ 1000) (hH : H ≤ w.heap.size) (hr : Rd w H A (zs2 l)) (hl : Near 8 l) :
    Calls Tryz.prog 141 #[.slice A m c] w (Row3 w (chg l)) := by
  obtain ⟨i0, hi, hz0, hz1, hz2⟩ := info_of infoGust
  have HR := Lib.hid (hr.more hH)
  have HN := Lib.hid hn
  have HL := Lib.hid hl
  clear hr hn hl
  go_enter Tryz.func141, Tryz.ntmps141
  go_wp2_with fail
  go_loopw [3, 4, 12] (fun v z i wr => ∃ k : Nat, k ≤ m ∧ i = .int .i64 k ∧ (∃ a b : Nat, z = .complex .f32 a b ∧ Hid (a = Meas.f32 (was l k).1 ∧ b = Meas.f32 (was l k).2)) ∧ ∃ q : Nat, q ≤ k ∧ (∃ g c' : Nat, v = .slice (some ⟨g, 0, none⟩) q c') ∧ Hid ((chgs l k).length = q) ∧ Hid (wr.ownsRow w.heap.size 96 3 v q (gls (chgs l k))) ∧ Hid (Below w.heap.size w wr)) (fun _ _ i _ => m - (intOf i).toNat)
  case atStart => exact ⟨0, Nat.zero_le _, rfl, ⟨0, 0, rfl, Lib.hid ⟨f32_0.symm, f32_0.symm⟩⟩, 0, Nat.le_refl _, ⟨_, _, rfl⟩, Lib.hid rfl, Lib.hid (World.ownsRow_lit w #[] 0 (Nat.le_refl _) (Nat.zero_le _) rfl), Lib.hid (by go_grown)⟩
  case round =>
    obtain ⟨k, hk, rfl, ⟨za, zb, rfl, ZK⟩, q, hqk, ⟨g, c', rfl⟩, QK, RK, BK⟩ := hrel
    have hbs := BK.out.size
    by_cases hlt : k < m
    · have hkz : k < l.length := by rw [HN.out]; exact hlt
      obtain ⟨p, hp⟩ : ∃ p, l[k]? = some p := ⟨_, List.getElem?_eq_getElem hkz⟩
      obtain ⟨b, o, eA, hbl, hcell⟩ := (HR.out.below BK.out).get (k := k) (by rw [zs2_len]; exact hkz)
      have c1 : wr.cell? ⟨b, o + k, none⟩ = some (.complex .f32 (Meas.f32 p.1) (Meas.f32 p.2)) := hcell _ _ (zs2_get hp)
      have hg := own_base RK.out g rfl
      have WN := Lib.hid (was_next hp)
      have hq := HL.out.at hp
      have hw := HL.out.was (by decide) (k := k) (by omega)
      have p1 : b < wr.heap.size := World.block_lt_of_cell? wr _ c1
      have p2 : ∀ j, b < wr.heap.size + j := fun j => by omega
      obtain ⟨x, y⟩ := p
      obtain ⟨⟨u, v⟩, hu⟩ : ∃ u, was l k = u := ⟨_, rfl⟩
      have ZZ := ZK.out
      rw [hu] at ZZ hw
      simp only at hw hq ZZ c1
      obtain ⟨hza, hzb⟩ := ZZ
      have NE0 := cneq (P := Tryz.prog) (a := x) (b := y) (c := u) (d := v) (x := Meas.f32 x) (y := Meas.f32 y) (u := za) (v := zb) (by omega) (by omega) (by omega) (by omega) (i32_f32 x) (i32_f32 y) (hza ▸ i32_f32 u) (hzb ▸ i32_f32 v)
      have ZN := Lib.hid (show Meas.f32 x = Meas.f32 (was l (k + 1)).1 ∧ Meas.f32 y = Meas.f32 (was l (k + 1)).2 by rw [WN.out]; exact ⟨rfl, rfl⟩)
      by_cases hpu : (x, y) = (u, v)
      · have NE := NE0 false (by injection hpu with e1 e2; rw [e1, e2]; simp)
        have E := Lib.hid (chgs_no hp (by rw [hu]; exact hpu))
        clear NE0 hcell hp hkz hbl hu hpu hza hzb ZK hq hw WN
        subst eA
        go_wp2_with fail
        go_roundw
        case rel => exact ⟨k + 1, by omega, by go_num, ⟨_, _, rfl, ZN⟩, q, by omega, ⟨_, _, rfl⟩, by rw [E.out]; exact QK, by rw [E.out]; exact RK, BK⟩
        case measure => simp [intOf]; omega
      · have NE := NE0 true (by by_cases h1 : x = u <;> by_cases h2 : y = v <;> simp_all)
        have E := Lib.hid (chgs_yes hp (by rw [hu]; exact hpu))
        have T := Lib.hid (toldYes (a := x) (b := y) (by omega) (by omega) (i32_f32 x) (i32_f32 y))
        have SN := Lib.hid (show gls (chgs l k) ++ [.int .i64 (k : Int), .int .i64 x, .int .i64 y] = gls (chgs l (k + 1)) by rw [E.out]; exact gls_snoc (chgs l k) ((k : Int), (x, y)))
        have QL := Lib.hid (show (chgs l (k + 1)).length = q + 1 by rw [E.out, List.length_append, QK.out]; rfl)
        have R1 := (((RK.out.alloc (.cells #[.int .i64 x, .int .i64 y] 31)).alloc (.cells #[.int .i64 x, .int .i64 y] 31)).alloc (.cells #[.int .i64 (k : Int), .int .i64 x, .int .i64 y] 96))
        clear NE0 hcell hp hkz hbl hu hpu hza hzb ZK hq hw WN RK E
        subst eA
        go_wp2_with fail
        refine (T.out _).mono ?_
        rintro e w' ⟨rfl, rfl⟩
        go_wp2_with (
          at_builtin
          refine wpList_append_own _ rfl _ _ 38 rfl w.heap.size 96 i0 (.agg #[.int .i64 0, .int .i64 0, .int .i64 0]) 3 24 Tryz.underlying38 hi hz0 hz1 hz2 rfl (by decide) _ _ _ rfl R1 ⟨wr.heap.size + 1 + 1, 0, none⟩ 1 1 [.int .i64 (k : Int), .int .i64 x, .int .i64 y] rfl rfl (by intro j z hj; match j, hj with | 0, hj => (simp at hj; subst hj; simp [go_sem, Addr.add]) | 1, hj => (simp at hj; subst hj; simp [go_sem, Addr.add]) | 2, hj => (simp at hj; subst hj; simp [go_sem, Addr.add])) (by intro z hz; simp at hz; rcases hz with rfl | rfl | rfl <;> rfl) (by unfold maxLen; omega) (by omega) (by simp; omega) ?_
          intro v' w1 hown' hgrow hnil
          have B2 := Lib.hid ((((BK.out.alloc hbs (.cells #[.int .i64 x, .int .i64 y] 31)).alloc (by simp; omega) (.cells #[.int .i64 x, .int .i64 y] 31)).alloc (by simp; omega) (.cells #[.int .i64 (k : Int), .int .i64 x, .int .i64 y] 96)).grown hgrow (by simp; omega) (fun z hz => by cases hz; exact hg))
          rw [SN.out] at hown'
          obtain ⟨g', cc, rfl⟩ := own_slice hown'
          have R2 := Lib.hid hown'
          clear hown' hgrow hnil R1 c1 p1 p2)
        go_wp2_with fail
        go_roundw
        case rel => exact ⟨k + 1, by omega, by go_num, ⟨_, _, rfl, ZN⟩, q + 1, by omega, ⟨_, _, rfl⟩, QL, R2, B2⟩
        case measure => simp [intOf]; omega
    · obtain rfl : k = m := by omega
      have F := Lib.hid (show chgs l k = chg l by unfold chg; rw [HN.out])
      go_wp2_with fail
      go_ret
      exact ⟨g, c', by rw [← F.out, QK.out]; rfl, by rw [← F.out, QK.out]; exact RK.out, BK.out⟩

end Go.Proofs.YtejeikfgmiadhabGreat.Wc
namespace Go.Proofs.YtejeikfgmiadhabGreat.We
open Go.RowKit Go.Proofs.YtejeikfgmiadhabGreat.Mem Go.Proofs.YtejeikfgmiadhabGreat.Rw Go.Proofs.YtejeikfgmiadhabGreat.Bk Go.Proofs.YtejeikfgmiadhabGreat.Cx Go.Proofs.YtejeikfgmiadhabGreat.Cm Go.Proofs.YtejeikfgmiadhabGreat.Jt Go.Proofs.YtejeikfgmiadhabGreat.Pl Go.Proofs.YtejeikfgmiadhabGreat.Str Go.Proofs.YtejeikfgmiadhabGreat.Pw Go.Proofs.YtejeikfgmiadhabGreat.P2 Go.Proofs.YtejeikfgmiadhabGreat.Gs Go.Proofs.YtejeikfgmiadhabGreat.Wm Go.Proofs.YtejeikfgmiadhabGreat.Wi Go.Proofs.YtejeikfgmiadhabGreat.Wa Go.Proofs.YtejeikfgmiadhabGreat.Wb Go.Proofs.YtejeikfgmiadhabGreat.Wc
set_option linter.unusedVariables false
set_option linter.unusedSimpArgs false

/-- The drift that is told: none of a list that is no wind. -/
def dv (zs : List G) (t : Int) : Int × Int := if wd zs = true then dr zs t else (0, 0)
theorem windI {A : Option Addr} {n c : Nat} {zs : List G} {H : Nat} {r : Bool} (hn : zs.length = n) (hb : n ≤ 1048576) (h : wd zs = r) (w : World) (hH : H ≤ w.heap.size) (hr : Rd w H A (gls zs)) :
    Calls Tryz.prog 130 #[.slice A n c] w fun e w' => e = .returned (.bool r) ∧ Below w.heap.size w w' := h ▸ isWindI A n c zs H w hn hb hH hr
end Go.Proofs.YtejeikfgmiadhabGreat.We
