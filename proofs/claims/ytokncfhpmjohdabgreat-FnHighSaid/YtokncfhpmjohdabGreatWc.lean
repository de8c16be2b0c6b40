/- A wind that is spread out in a slice of complex numbers, a window of it, its sum and its changes: the program's own functions. -/
import Derived.Test.YtokncfhpmjohdabGreatM16
import Derived.ArgAppend
set_option linter.unusedVariables false
set_option linter.unusedSimpArgs false
namespace Go.Proofs.YtokncfhpmjohdabGreat.Wc
open Go.RowKit Go.Proofs.YtokncfhpmjohdabGreat.Mem Go.Proofs.YtokncfhpmjohdabGreat.Rw Go.Proofs.YtokncfhpmjohdabGreat.Bk Go.Proofs.YtokncfhpmjohdabGreat.Cx Go.Proofs.YtokncfhpmjohdabGreat.Cm Go.Proofs.YtokncfhpmjohdabGreat.Jt Go.Proofs.YtokncfhpmjohdabGreat.Pl Go.Proofs.YtokncfhpmjohdabGreat.Str Go.Proofs.YtokncfhpmjohdabGreat.Pw Go.Proofs.YtokncfhpmjohdabGreat.P2 Go.Proofs.YtokncfhpmjohdabGreat.Gs Go.Proofs.YtokncfhpmjohdabGreat.Wm Go.Proofs.YtokncfhpmjohdabGreat.Wi Go.Proofs.YtokncfhpmjohdabGreat.Wa
set_option linter.unusedVariables false
set_option linter.unusedSimpArgs false

abbrev zv (p : Int × Int) : Value := .complex .f32 (Meas.f32 p.1) (Meas.f32 p.2)
/-- The places as words. -/
def zs2 (l : List (Int × Int)) : List Value := l.map zv
theorem zs2_len (l : List (Int × Int)) : (zs2 l).length = l.length := List.length_map ..
theorem zs2_get {l : List (Int × Int)} {k : Nat} {p : Int × Int} (h : l[k]? = some p) : (zs2 l)[k]? = some (zv p) := by
  unfold zs2; rw [List.getElem?_map, h]; rfl
theorem f32_0 : Meas.f32 0 = 0 := by decide
theorem infoC : (Tryz.prog.info? 71).map (fun i => (i.zero, i.size, i.bytes)) = some (some (.complex .f32 0 0), 1, 8) := by kernel_rfl
theorem made_c (n : Nat) : (madeCells (Value.complex .f32 0 0).cells (n * 1)).toList = List.replicate n (.complex .f32 0 0) := by
  apply List.ext_getElem?
  intro j
  rw [Nat.mul_one, Array.getElem?_toList, List.getElem?_replicate]
  simp only [madeCells, Value.cells]
  by_cases h : j < n <;> simp [h, Nat.mod_one]
@[go_sem] theorem run_store_complex (P : Program) (w : World) (a : Addr) (m : Mode) (k : FloatKind) (b c : Nat) : (store a (.complex k b c) m).run P w = stored P w a (.complex k b c) m := run_store P w a _ m rfl

/-- The drifts at the first 128 ticks, the ticks below t by k + 1 gusts, the others by k. -/
def mixed (zs : List G) (k t : Nat) : List (Int × Int) := (List.range 128).map fun j => if j < t then dr (zs.take (k + 1)) (j : Int) else dr (zs.take k) (j : Int)
theorem mixed_len (zs : List G) (k t : Nat) : (mixed zs k t).length = 128 := by simp [mixed]
theorem mixed_get {zs : List G} {k t j : Nat} (h : j < 128) : (mixed zs k t)[j]? = some (if j < t then dr (zs.take (k + 1)) (j : Int) else dr (zs.take k) (j : Int)) := by
  unfold mixed; rw [List.getElem?_map, List.getElem?_range h]; rfl
theorem mixed_from {zs : List G} {k : Nat} {z : G} (hz : zs[k]? = some z) {t : Nat} (ht : (t : Int) ≤ z.1) : mixed zs k t = mixed zs k 0 := by
  unfold mixed
  apply List.map_congr_left
  intro j hj
  by_cases h : j < t
  · rw [if_pos h, if_neg (by omega), dr_take hz, if_neg (by omega)]
  · rw [if_neg h, if_neg (by omega)]
theorem mixed_end {zs : List G} {k : Nat} : mixed zs k 128 = mixed zs (k + 1) 0 := by
  unfold mixed
  apply List.map_congr_left
  intro j hj
  have := List.mem_range.1 hj
  rw [if_pos this, if_neg (by omega)]
theorem mixed_set {zs : List G} {k t : Nat} {z : G} (hz : zs[k]? = some z) (ht : z.1 ≤ (t : Int)) (h8 : t < 128) : (zs2 (mixed zs k t)).set t (zv z.2) = zs2 (mixed zs k (t + 1)) := by
  unfold zs2
  rw [← List.map_set]
  congr 1
  apply List.ext_getElem?
  intro j
  rw [List.getElem?_set]
  by_cases h : t = j
  · subst h
    rw [if_pos rfl, if_pos (by rw [mixed_len]; exact h8), mixed_get h8, if_pos (by omega), dr_take hz, if_pos ht]
  · rw [if_neg h]
    by_cases hj : j < 128
    · rw [mixed_get hj, mixed_get hj]
      by_cases h2 : j < t
      · rw [if_pos h2, if_pos (by omega)]
      · rw [if_neg h2, if_neg (by omega)]
    · rw [List.getElem?_eq_none (by rw [mixed_len]; omega), List.getElem?_eq_none (by rw [mixed_len]; omega)]
theorem mixed_zero (zs : List G) : zs2 (mixed zs 0 0) = List.replicate 128 (.complex .f32 0 0) := by
  apply List.ext_getElem?
  intro j
  rw [List.getElem?_replicate]
  by_cases h : j < 128
  · rw [zs2_get (mixed_get h), if_pos h, if_neg (by omega)]
    show some (Value.complex .f32 (Meas.f32 0) (Meas.f32 0)) = _
    rw [f32_0]
  · rw [if_neg h, List.getElem?_eq_none (by rw [zs2_len, mixed_len]; omega)]
theorem mixed_all (zs : List G) {n : Nat} (hn : zs.length = n) : mixed zs n 0 = drs zs 0 128 := by
  unfold mixed drs
  apply List.map_congr_left
  intro j hj
  rw [if_neg (by omega), ← hn, List.take_length, Nat.zero_add]

/-- A row of one's own with these words; what was there is as it was. -/
def RowC (w : World) (l : List (Int × Int)) (e : Ending) (w' : World) : Prop :=
  ∃ g, e = .returned (.slice (some ⟨g, 0, none⟩) l.length l.length) ∧ w'.ownsRow w.heap.size 71 1 (.slice (some ⟨g, 0, none⟩) l.length l.length) l.length (zs2 l) ∧ Below w.heap.size w w'

set_option maxRecDepth 100000 in
set_option maxHeartbeats 2000000 in
theorem spreadOut (A : Option Addr) (n c : Nat) (zs : List G) (H : Nat) (w : World) (hn : zs.length = n) (hb : n ≤ 1048576) (hH : H ≤ w.heap.size) (hr : Rd w H A (gls zs)) (hw : wd zs = true) :
    Calls Tryz.prog 152 #[.slice A n c] w (RowC w (drs zs 0 128)) := by
  obtain ⟨i0, hi, hz0, hz1, hz2⟩ := info_of infoC
  have HR := Lib.hid (hr.more hH)
  have HN := Lib.hid hn
  have HW := Lib.hid hw
  clear hr hn hw
  go_enter Tryz.func152, Tryz.ntmps152
  go_wp2_with (at_make; refine wpList_make_full _ rfl _ _ 117 rfl w.heap.size 71 i0 (.complex .f32 0 0) 1 Tryz.underlying117 hi hz0 hz1 .i64 .i64 128 128 128 rfl rfl rfl rfl (by rw [hz2]; omega) (by unfold maxLen; omega) (Nat.le_refl _) ?_; intro w1 hown hgrow; clear hi hz0 hz1 hz2)
  have R0 := Lib.hid (show w1.ownsRow w.heap.size 71 1 (.slice (some ⟨w.heap.size, 0, none⟩) 128 128) 128 (zs2 (mixed zs 0 0)) by
    rw [mixed_zero]; rw [made_c] at hown; exact hown)
  have B0 := Lib.hid (show Below w.heap.size w w1 from (Below.refl _ _).grown hgrow (Nat.le_refl _) (fun k hk => by cases hk))
  clear hown hgrow
  go_loopw [10] (fun i wr => ∃ k : Nat, k ≤ n ∧ i = .int .i64 k ∧ Hid (wr.ownsRow w.heap.size 71 1 (.slice (some ⟨w.heap.size, 0, none⟩) 128 128) 128 (zs2 (mixed zs k 0))) ∧ Hid (Below w.heap.size w wr)) (fun i _ => n - (intOf i).toNat)
  case atStart => exact ⟨0, Nat.zero_le _, rfl, R0, B0⟩
  case round =>
    obtain ⟨k, hk, rfl, RK, BK⟩ := hrel
    have hbs := BK.out.size
    by_cases hlt : k < n
    · have hkz : k < zs.length := by rw [HN.out]; exact hlt
      have hl : k * 3 < (gls zs).length := by rw [gls_len]; omega
      obtain ⟨z, hz⟩ : ∃ z, zs[k]? = some z := ⟨_, List.getElem?_eq_getElem hkz⟩
      obtain ⟨b, o, eA, hbl, hcell⟩ := (HR.out.below BK.out).get hl
      obtain ⟨z0, z1, z2⟩ := gls_get hz
      obtain ⟨hf, hx, hy⟩ := wd_each HW.out hz
      have HZ := Lib.hid hz
      obtain ⟨f, x, y⟩ := z
      simp only at hf hx hy
      obtain ⟨F, rfl⟩ : ∃ F : Nat, f = (F : Int) := ⟨f.toNat, by omega⟩
      have c1 : wr.cell? ⟨b, o + k * 3, none⟩ = some (.int .i64 (F : Int)) := hcell _ _ z0
      have c2 : wr.cell? ⟨b, o + k * 3 + 1, none⟩ = some (.int .i64 x) := hcell _ _ z1
      have c3 : wr.cell? ⟨b, o + k * 3 + 2, none⟩ = some (.int .i64 y) := hcell _ _ z2
      have p1 : b < wr.heap.size := World.block_lt_of_cell? wr _ c1
      have p2 : ∀ j, b < wr.heap.size + j := fun j => by omega
      have R1 := Lib.hid (show (wr.alloc (.cells #[.int .i64 (F : Int), .int .i64 x, .int .i64 y] 133)).ownsRow w.heap.size 71 1 (.slice (some ⟨w.heap.size, 0, none⟩) 128 128) 128 (zs2 (mixed zs k F)) by
        rw [mixed_from HZ.out (Int.le_refl _)]; exact RK.out.alloc _)
      have B1 := Lib.hid (BK.out.alloc hbs (.cells #[.int .i64 (F : Int), .int .i64 x, .int .i64 y] 133))
      have T1 := Lib.hid (Bk.new wr #[.int .i64 (F : Int), .int .i64 x, .int .i64 y] 133)
      have C := Lib.hid (complexOf x y (by omega) (by omega))
      clear hcell hz hl hkz z0 z1 z2 hbl RK BK R0 B0
      subst eA
      go_wp2_with fail
      obtain ⟨wo, rfl⟩ : ∃ wo : World, wo = wr := ⟨_, rfl⟩
      go_loopw [6] (fun i wr => ∃ t : Nat, F ≤ t ∧ t ≤ 128 ∧ i = .int .i64 t ∧ Hid (wr.ownsRow w.heap.size 71 1 (.slice (some ⟨w.heap.size, 0, none⟩) 128 128) 128 (zs2 (mixed zs k t))) ∧ Hid (Bk wr wo.heap.size #[.int .i64 (F : Int), .int .i64 x, .int .i64 y] 133) ∧ Hid (Below w.heap.size w wr)) (fun i _ => 128 - (intOf i).toNat)
      case atStart => exact ⟨F, Nat.le_refl _, by omega, rfl, R1, T1, B1⟩
      case round =>
        obtain ⟨t, ht1, ht2, rfl, RT, TT, BT⟩ := hrel
        have hts := BT.out.size
        by_cases hlt2 : t < 128
        · have hne := own_ne RT.out TT.out (by decide)
          have q0 := TT.out.cell (i := 1) rfl
          have q1 := TT.out.cell (i := 2) rfl
          have l1 := TT.out.lt
          have l2 : ∀ j, wo.heap.size < wr.heap.size + j := fun j => by omega
          have c4 := (RT.out.cellAt t (by omega)).trans (zs2_get (mixed_get hlt2))
          have f4 := RT.out.frozenAt t
          have l3 : w.heap.size < wr.heap.size := (RT.out.lt _ rfl).2
          have l4 : ∀ j, w.heap.size < wr.heap.size + j := fun j => by omega
          obtain ⟨r2, g2⟩ := RT.out.stored t (zv (x, y))
          rw [mixed_set HZ.out (by simp only; omega) hlt2] at r2
          have R2 := Lib.hid (show (((wr.setCell ⟨w.heap.size, t, none⟩ (zv (x, y))).alloc (.cells #[.int .i64 x, .int .i64 y] 34)).drew).ownsRow w.heap.size 71 1 (.slice (some ⟨w.heap.size, 0, none⟩) 128 128) 128 (zs2 (mixed zs k (t + 1))) from r2.alloc _)
          have T3 := Lib.hid ((TT.out.grown g2 hne).alloc (o := .cells #[.int .i64 x, .int .i64 y] 34)).drew
          have B2 := Lib.hid (((BT.out.grown g2 hts (fun q hq => by cases hq; exact Nat.le_refl _)).alloc (by simp [World.setCell]; omega) (.cells #[.int .i64 x, .int .i64 y] 34)).drew)
          clear r2 g2 hne
          go_wp2_with fail
          refine (C.out _).mono ?_
          rintro e u ⟨rfl, rfl⟩
          go_wp2_with fail
          go_roundw
          case rel => exact ⟨t + 1, by omega, by omega, by go_num, R2, T3, B2⟩
          case measure => simp [intOf]; omega
        · obtain rfl : t = 128 := by omega
          have R2 := Lib.hid (show wr.ownsRow w.heap.size 71 1 (.slice (some ⟨w.heap.size, 0, none⟩) 128 128) 128 (zs2 (mixed zs (k + 1) 0)) by rw [← mixed_end]; exact RT.out)
          go_wp2_with fail
          go_roundw
          case rel => exact ⟨k + 1, by omega, by go_num, R2, BT⟩
          case measure => simp [intOf]; omega
    · obtain rfl : k = n := by omega
      go_wp2
      go_ret
      refine ⟨w.heap.size, by rw [drs_len]; rfl, ?_, BK.out⟩
      rw [drs_len, ← mixed_all zs HN.out]; exact RK.out

end Go.Proofs.YtokncfhpmjohdabGreat.Wc
