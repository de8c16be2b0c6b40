/- A wind that is spread out in a slice of complex numbers, a window of it, its sum and its changes: the program's own functions. -/
import Derived.Test.YtejeikfgmiadhaaGreatM8
import Derived.ArgAppend
import Derived.Test.YtejeikfgmiadhaaGreatRows
import Derived.WalkKit
import Derived.WalkLawsBesides
import Derived.Lib.Hide
import Derived.Test.YtejeikfgmiadhaaGreatM2
import Derived.Test.YtejeikfgmiadhaaGreatM7
namespace Go.Proofs.YtejeikfgmiadhaaGreat.Wc
open Go.RowKit Go.Proofs.YtejeikfgmiadhaaGreat.Mem Go.Proofs.YtejeikfgmiadhaaGreat.Rw Go.Proofs.YtejeikfgmiadhaaGreat.Bk Go.Proofs.YtejeikfgmiadhaaGreat.Cx Go.Proofs.YtejeikfgmiadhaaGreat.Cm Go.Proofs.YtejeikfgmiadhaaGreat.Jt Go.Proofs.YtejeikfgmiadhaaGreat.Pl Go.Proofs.YtejeikfgmiadhaaGreat.Str Go.Proofs.YtejeikfgmiadhaaGreat.Pw Go.Proofs.YtejeikfgmiadhaaGreat.P2 Go.Proofs.YtejeikfgmiadhaaGreat.Gs Go.Proofs.YtejeikfgmiadhaaGreat.Wm Go.Proofs.YtejeikfgmiadhaaGreat.Wi Go.Proofs.YtejeikfgmiadhaaGreat.Wa
set_option linter.unusedVariables false
set_option linter.unusedSimpArgs false

abbrev zv (p : Int × Int) : Value := .complex .f32 (Meas.f32 p.1) (Meas.f32 p.2)
/-- The places as words. -/
def zs2 (l : List (Int × Int)) : List Value := l.map zv
theorem zs2_len (l : List (Int × Int)) : (zs2 l).length = l.length := List.length_map ..
theorem zs2_get {l : List (Int × Int)} {k : Nat} {p : Int × Int} (h : l[k]? = some p) : (zs2 l)[k]? = some (zv p) := by
  unfold zs2; rw [List.getElem?_map, h]; rfl
theorem f32_0 : Meas.f32 0 = 0 := by decide
theorem infoC : (Tryz.prog.info? 87).map (fun i => (i.zero, i.size, i.bytes)) = some (some (.complex .f32 0 0), 1, 8) := by kernel_rfl
theorem made_c (n : Nat) : (madeCells (Value.complex .f32 0 0).cells (n * 1)).toList = List.replicate n (.complex .f32 0 0) := by
  apply List.ext_getElem?
  intro j
  rw [Nat.mul_one, Array.getElem?_toList, List.getElem?_replicate]
  simp only [madeCells, Value.cells]
  by_cases h : j < n <;> simp [h, Nat.mod_one]
@[go_sem] theorem run_store_complex (P : Program) (w : World) (a : Addr) (m : Mode) (k : FloatKind) (b c : Nat) : (store a (.complex k b c) m).run P w = stored P w a (.complex k b c) m := run_store P w a _ m rfl

/-- The drifts at the first 128 ticks, the ticks below t by k + 1 gusts, the others by k. -/
def mixed (zs : List G) (k t : Nat) : List (Int × Int) := (List.range 128).map fun j => if j < t then dr (zs.take (k + 1)) (j : Int) else dr (zs.take k) (j : Int)
theorem mixed_len (zs : List G) (k t : Nat) : (mixed zs k t).length = 128 := by simp [mixed]
theorem mixed_get {zs : List G} {k t j : Nat} (h : j < 128) : (mixed zs k t)[j]? = some (if j < t then dr (zs.take (k + 1)) (j : Int) else dr (zs.take k) (j : Int)) := by
  unfold mixed; rw [List.getElem?_map, List.getElem?_range h]; rfl
theorem mixed_from {zs : List G} {k : Nat} {z : G} (hz : zs[k]? = some z) {t : Nat} (ht : (t : Int) ≤ z.1) : mixed zs k t = mixed zs k 0 := by
  unfold mixed
  apply List.map_congr_left
  intro j hj
  by_cases h : j < t
  · rw [if_pos h, if_neg (by omega), dr_take hz, if_neg (by omega)]
  · rw [if_neg h, if_neg (by omega)]
theorem mixed_end {zs : List G} {k : Nat} : mixed zs k 128 = mixed zs (k + 1) 0 := by
  unfold mixed
  apply List.map_congr_left
  intro j hj
  have := List.mem_range.1 hj
  rw [if_pos this, if_neg (by omega)]
theorem mixed_set {zs : List G} {k t : Nat} {z : G} (hz : zs[k]? = some z) (ht : z.1 ≤ (t : Int)) (h8 : t < 128) : (zs2 (mixed zs k t)).set t (zv z.2) = zs2 (mixed zs k (t + 1)) := by
  unfold zs2
  rw [← List.map_set]
  congr 1
  apply List.ext_getElem?
  intro j
  rw [List.getElem?_set]
  by_cases h : t = j
  · subst h
    rw [if_pos rfl, if_pos (by rw [mixed_len]; exact h8), mixed_get h8, if_pos (by omega), dr_take hz, if_pos ht]
  · rw [if_neg h]
    by_cases hj : j < 128
    · rw [mixed_get hj, mixed_get hj]
      by_cases h2 : j < t
      · rw [if_pos h2, if_pos (by omega)]
      · rw [if_neg h2, if_neg (by omega)]
    · rw [List.getElem?_eq_none (by rw [mixed_len]; omega), List.getElem?_eq_none (by rw [mixed_len]; omega)]
theorem mixed_zero (zs : List G) : zs2 (mixed zs 0 0) = List.replicate 128 (.complex .f32 0 0) := by
  apply List.ext_getElem?
  intro j
  rw [List.getElem?_replicate]
  by_cases h : j < 128
  · rw [zs2_get (mixed_get h), if_pos h, if_neg (by omega)]
    show some (Value.complex .f32 (Meas.f32 0) (Meas.f32 0)) = _
    rw [f32_0]
  · rw [if_neg h, List.getElem?_eq_none (by rw [zs2_len, mixed_len]; omega)]
theorem mixed_all (zs : List G) {n : Nat} (hn : zs.length = n) : mixed zs n 0 = drs zs 0 128 := by
  unfold mixed drs
  apply List.map_congr_left
  intro j hj
  rw [if_neg (by omega), ← hn, List.take_length, Nat.zero_add]

/-- A row of one's own with these words; what was there is as it was. -/
def RowC (w : World) (l : List (Int × Int)) (e : Ending) (w' : World) : Prop :=
  ∃ g, e = .returned (.slice (some ⟨g, 0, none⟩) l.length l.length) ∧ w'.ownsRow w.heap.size 87 1 (.slice (some ⟨g, 0, none⟩) l.length l.length) l.length (zs2 l) ∧ Below w.heap.size w w'

set_option maxRecDepth 100000 in
set_option maxHeartbeats 2000000 in
theorem spreadOut (A : Option Addr) (n c : Nat) (zs : List G) (H : Nat) (w : World) (hn : zs.length = n) (hb : n ≤ 1048576) (hH : H ≤ w.heap.size) (hr : Rd w H A (gls zs)) (hw : wd zs = true) :
    Calls Tryz.prog 149 #[.slice A n c] w (RowC w (drs zs 0 128)) := by
  obtain ⟨i0, hi, hz0, hz1, hz2⟩ := info_of infoC
  have HR := Lib.hid (hr.more hH)
  have HN := Lib.hid hn
  have HW := Lib.hid hw
  clear hr hn hw
  go_enter Tryz.func149, Tryz.ntmps149
  go_wp2_with (at_make; refine wpList_make_full _ rfl _ _ 166 rfl w.heap.size 87 i0 (.complex .f32 0 0) 1 Tryz.underlying166 hi hz0 hz1 .i64 .i64 128 128 128 rfl rfl rfl rfl (by rw [hz2]; omega) (by unfold maxLen; omega) (Nat.le_refl _) ?_; intro w1 hown hgrow; clear hi hz0 hz1 hz2)
  have R0 := Lib.hid (show w1.ownsRow w.heap.size 87 1 (.slice (some ⟨w.heap.size, 0, none⟩) 128 128) 128 (zs2 (mixed zs 0 0)) by
    rw [mixed_zero]; rw [made_c] at hown; exact hown)
  have B0 := Lib.hid (show Below w.heap.size w w1 from (Below.refl _ _).grown hgrow (Nat.le_refl _) (fun k hk => by cases hk))
  clear hown hgrow
  go_loopw [10] (fun i wr => ∃ k : Nat, k ≤ n ∧ i = .int .i64 k ∧ Hid (wr.ownsRow w.heap.size 87 1 (.slice (some ⟨w.heap.size, 0, none⟩) 128 128) 128 (zs2 (mixed zs k 0))) ∧ Hid (Below w.heap.size w wr)) (fun i _ => n - (intOf i).toNat)
  case atStart => exact ⟨0, Nat.zero_le _, rfl, R0, B0⟩
  case round =>
    obtain ⟨k, hk, rfl, RK, BK⟩ := hrel
    have hbs := BK.out.size
    by_cases hlt : k < n
    · have hkz : k < zs.length := by rw [HN.out]; exact hlt
      have hl : k * 3 < (gls zs).length := by rw [gls_len]; omega
      obtain ⟨z, hz⟩ : ∃ z, zs[k]? = some z := ⟨_, List.getElem?_eq_getElem hkz⟩
      obtain ⟨b, o, eA, hbl, hcell⟩ := (HR.out.below BK.out).get hl
      obtain ⟨z0, z1, z2⟩ := gls_get hz
      obtain ⟨hf, hx, hy⟩ := wd_each HW.out hz
      have HZ := Lib.hid hz
      obtain ⟨f, x, y⟩ := z
      simp only at hf hx hy
      obtain ⟨F, rfl⟩ : ∃ F : Nat, f = (F : Int) := ⟨f.toNat, by omega⟩
      have c1 : wr.cell? ⟨b, o + k * 3, none⟩ = some (.int .i64 (F : Int)) := hcell _ _ z0
      have c2 : wr.cell? ⟨b, o + k * 3 + 1, none⟩ = some (.int .i64 x) := hcell _ _ z1
      have c3 : wr.cell? ⟨b, o + k * 3 + 2, none⟩ = some (.int .i64 y) := hcell _ _ z2
      have p1 : b < wr.heap.size := World.block_lt_of_cell? wr _ c1
      have p2 : ∀ j, b < wr.heap.size + j := fun j => by omega
      have R1 := Lib.hid (show (wr.alloc (.cells #[.int .i64 (F : Int), .int .i64 x, .int .i64 y] 100)).ownsRow w.heap.size 87 1 (.slice (some ⟨w.heap.size, 0, none⟩) 128 128) 128 (zs2 (mixed zs k F)) by
        rw [mixed_from HZ.out (Int.le_refl _)]; exact RK.out.alloc _)
      have B1 := Lib.hid (BK.out.alloc hbs (.cells #[.int .i64 (F : Int), .int .i64 x, .int .i64 y] 100))
      have T1 := Lib.hid (Bk.new wr #[.int .i64 (F : Int), .int .i64 x, .int .i64 y] 100)
      have C := Lib.hid (complexOf x y (by omega) (by omega))
      clear hcell hz hl hkz z0 z1 z2 hbl RK BK R0 B0
      subst eA
      go_wp2_with fail
      obtain ⟨wo, rfl⟩ : ∃ wo : World, wo = wr := ⟨_, rfl⟩
      go_loopw [6] (fun i wr => ∃ t : Nat, F ≤ t ∧ t ≤ 128 ∧ i = .int .i64 t ∧ Hid (wr.ownsRow w.heap.size 87 1 (.slice (some ⟨w.heap.size, 0, none⟩) 128 128) 128 (zs2 (mixed zs k t))) ∧ Hid (Bk wr wo.heap.size #[.int .i64 (F : Int), .int .i64 x, .int .i64 y] 100) ∧ Hid (Below w.heap.size w wr)) (fun i _ => 128 - (intOf i).toNat)
      case atStart => exact ⟨F, Nat.le_refl _, by omega, rfl, R1, T1, B1⟩
      case round =>
        obtain ⟨t, ht1, ht2, rfl, RT, TT, BT⟩ := hrel
        have hts := BT.out.size
        by_cases hlt2 : t < 128
        · have hne := own_ne RT.out TT.out (by decide)
          have q0 := TT.out.cell (i := 1) rfl
          have q1 := TT.out.cell (i := 2) rfl
          have l1 := TT.out.lt
          have l2 : ∀ j, wo.heap.size < wr.heap.size + j := fun j => by omega
          have c4 := (RT.out.cellAt t (by omega)).trans (zs2_get (mixed_get hlt2))
          have f4 := RT.out.frozenAt t
          have l3 : w.heap.size < wr.heap.size := (RT.out.lt _ rfl).2
          have l4 : ∀ j, w.heap.size < wr.heap.size + j := fun j => by omega
          obtain ⟨r2, g2⟩ := RT.out.stored t (zv (x, y))
          rw [mixed_set HZ.out (by simp only; omega) hlt2] at r2
          have R2 := Lib.hid (show (((wr.setCell ⟨w.heap.size, t, none⟩ (zv (x, y))).alloc (.cells #[.int .i64 x, .int .i64 y] 47)).drew).ownsRow w.heap.size 87 1 (.slice (some ⟨w.heap.size, 0, none⟩) 128 128) 128 (zs2 (mixed zs k (t + 1))) from r2.alloc _)
          have T3 := Lib.hid ((TT.out.grown g2 hne).alloc (o := .cells #[.int .i64 x, .int .i64 y] 47)).drew
          have B2 := Lib.hid (((BT.out.grown g2 hts (fun q hq => by cases hq; exact Nat.le_refl _)).alloc (by simp [World.setCell]; omega) (.cells #[.int .i64 x, .int .i64 y] 47)).drew)
          clear r2 g2 hne
          go_wp2_with fail
          refine (C.out _).mono ?_
          rintro e u ⟨rfl, rfl⟩
          go_wp2_with fail
          go_roundw
          case rel => exact ⟨t + 1, by omega, by omega, by go_num, R2, T3, B2⟩
          case measure => simp [intOf]; omega
        · obtain rfl : t = 128 := by omega
          have R2 := Lib.hid (show wr.ownsRow w.heap.size 87 1 (.slice (some ⟨w.heap.size, 0, none⟩) 128 128) 128 (zs2 (mixed zs (k + 1) 0)) by rw [← mixed_end]; exact RT.out)
          go_wp2_with fail
          go_roundw
          case rel => exact ⟨k + 1, by omega, by go_num, R2, BT⟩
          case measure => simp [intOf]; omega
    · obtain rfl : k = n := by omega
      go_wp2
      go_ret
      refine ⟨w.heap.size, by rw [drs_len]; rfl, ?_, BK.out⟩
      rw [drs_len, ← mixed_all zs HN.out]; exact RK.out

end Go.Proofs.YtejeikfgmiadhaaGreat.Wc
namespace Go.Proofs.YtejeikfgmiadhaaGreat.IsName
open Go.RowKit

def letter (c : UInt8) : Bool := decide (97 ≤ c.toNat ∧ c.toNat ≤ 122)
def digit (c : UInt8) : Bool := decide (48 ≤ c.toNat ∧ c.toNat ≤ 57)
def okAt (s : ByteArray) (k : Nat) (h : k < s.size) : Prop := letter s[k] = true ∨ digit s[k] = true ∧ k ≠ 0
def allOk (s : ByteArray) (n : Nat) : Prop := ∀ (k : Nat) (h : k < s.size), k < n → okAt s k h
def Name (s : ByteArray) : Prop := 1 ≤ s.size ∧ s.size ≤ 8 ∧ allOk s s.size
noncomputable def nameB (s : ByteArray) : Bool := @decide (Name s) (Classical.propDecidable _)

theorem nameB_yes {s : ByteArray} (h1 : 1 ≤ s.size) (h2 : s.size ≤ 8) (h : allOk s s.size) : nameB s = true := by
  unfold nameB; exact @decide_eq_true _ (Classical.propDecidable _) ⟨h1, h2, h⟩
theorem nameB_len {s : ByteArray} (h : s.size < 1 ∨ 8 < s.size) : nameB s = false := by
  unfold nameB; exact @decide_eq_false _ (Classical.propDecidable _) fun c => by have := c.1; have := c.2.1; omega
theorem nameB_no {s : ByteArray} {k : Nat} (hk : k < s.size) (h : ¬ okAt s k hk) : nameB s = false := by
  unfold nameB; exact @decide_eq_false _ (Classical.propDecidable _) fun c => h (c.2.2 k hk hk)
theorem allOk_zero (s : ByteArray) : allOk s 0 := fun _ _ h => absurd h (Nat.not_lt_zero _)
theorem allOk_succ {s : ByteArray} {k : Nat} (hk : k < s.size) (h : allOk s k) (ho : okAt s k hk) : allOk s (k + 1) := fun j hj hl => by
  by_cases e : j = k
  · subst e; exact ho
  · exact h j hj (by omega)
theorem ret_bool {a b : Bool} (h : a = b) : Ending.returned (.bool a) = .returned (.bool b) := by rw [h]

theorem isLetter (c : UInt8) (w : World) : Calls Tryz.prog 177 #[.int .u8 c.toNat] w fun e w' => e = .returned (.bool (letter c)) ∧ w = w' := by
  by_cases h1 : 97 ≤ c.toNat
  · by_cases h2 : c.toNat ≤ 122
    · have e : letter c = true := decide_eq_true ⟨h1, h2⟩
      have d : decide ((c.toNat : Int) ≤ 122) = true := decide_eq_true (by omega)
      rw [e]; clear e
      go_enter Tryz.func177, Tryz.ntmps177
      go_wp2
      go_ret
      exact ⟨rfl, rfl⟩
    · have e : letter c = false := decide_eq_false (by omega)
      have d : decide ((c.toNat : Int) ≤ 122) = false := decide_eq_false (by omega)
      rw [e]; clear e
      go_enter Tryz.func177, Tryz.ntmps177
      go_wp2
      go_ret
      exact ⟨rfl, rfl⟩
  · have e : letter c = false := decide_eq_false (by omega)
    have d : decide (97 ≤ (c.toNat : Int)) = false := decide_eq_false (by omega)
    rw [e]; clear e
    go_enter Tryz.func177, Tryz.ntmps177
    go_wp2
    go_ret
    exact ⟨rfl, rfl⟩

theorem isDigit (c : UInt8) (w : World) : Calls Tryz.prog 178 #[.int .u8 c.toNat] w fun e w' => e = .returned (.bool (digit c)) ∧ w = w' := by
  by_cases h1 : 48 ≤ c.toNat
  · by_cases h2 : c.toNat ≤ 57
    · have e : digit c = true := decide_eq_true ⟨h1, h2⟩
      have d : decide ((c.toNat : Int) ≤ 57) = true := decide_eq_true (by omega)
      rw [e]; clear e
      go_enter Tryz.func178, Tryz.ntmps178
      go_wp2
      go_ret
      exact ⟨rfl, rfl⟩
    · have e : digit c = false := decide_eq_false (by omega)
      have d : decide ((c.toNat : Int) ≤ 57) = false := decide_eq_false (by omega)
      rw [e]; clear e
      go_enter Tryz.func178, Tryz.ntmps178
      go_wp2
      go_ret
      exact ⟨rfl, rfl⟩
  · have e : digit c = false := decide_eq_false (by omega)
    have d : decide (48 ≤ (c.toNat : Int)) = false := decide_eq_false (by omega)
    rw [e]; clear e
    go_enter Tryz.func178, Tryz.ntmps178
    go_wp2
    go_ret
    exact ⟨rfl, rfl⟩

set_option maxHeartbeats 1000000 in
theorem impl (s : ByteArray) (w : World) : Calls Tryz.prog 164 #[.string s] w fun e w' => e = .returned (.bool (nameB s)) ∧ w = w' := by
  by_cases h0 : s.size < 1
  · have F := Lib.hid (nameB_len (Or.inl h0))
    go_enter Tryz.func164, Tryz.ntmps164
    go_wp2
    go_ret
    exact ⟨ret_bool F.out.symm, rfl⟩
  · by_cases h8 : 8 < s.size
    · have F := Lib.hid (nameB_len (Or.inr h8))
      have d0 : decide ((s.size : Int) < 1) = false := decide_eq_false (by omega)
      go_enter Tryz.func164, Tryz.ntmps164
      go_wp2
      go_ret
      exact ⟨ret_bool F.out.symm, rfl⟩
    · have d0 : decide ((s.size : Int) < 1) = false := decide_eq_false (by omega)
      have d8 : decide (8 < (s.size : Int)) = false := decide_eq_false (by omega)
      have h1 : 1 ≤ s.size := by omega
      have h8' : s.size ≤ 8 := by omega
      have hp : 0 < s.size := by omega
      clear h0 h8
      by_cases hl : letter s[0] = true
      · go_enter Tryz.func164, Tryz.ntmps164
        go_wp2_with (go_at_call 177; refine (isLetter _ _).mono ?_; rintro e w' ⟨rfl, rfl⟩)
        go_loop [20] (fun i => ∃ k : Nat, k ≤ s.size ∧ allOk s k ∧ i = .int .i64 k) (fun i => s.size - (intOf i).toNat)
        case atStart => exact ⟨0, by omega, allOk_zero s, rfl⟩
        case round =>
          obtain ⟨k, hk, hall, rfl⟩ := hrel
          have HA := Lib.hid hall
          clear hall
          by_cases hlt : k < s.size
          · by_cases hlk : letter s[k] = true
            · go_wp2_with (go_at_call 177; refine (isLetter _ _).mono ?_; rintro e w' ⟨rfl, rfl⟩)
              go_round
              case rel => exact ⟨k + 1, by omega, allOk_succ hlt HA.out (Or.inl hlk), by go_num⟩
              case measure => simp [intOf]; omega
            · have hlk' : letter s[k] = false := by simpa using hlk
              by_cases hdk : digit s[k] = true
              · have hk0 : k ≠ 0 := fun c => by subst c; rw [hl] at hlk'; cases hlk'
                have HK0 := Lib.hid hk0
                clear hlk hk0
                go_wp2_with (first
                  | (go_at_call 177; refine (isLetter _ _).mono ?_; rintro e w' ⟨rfl, rfl⟩)
                  | (go_at_call 178; refine (isDigit _ _).mono ?_; rintro e w' ⟨rfl, rfl⟩))
                go_round
                case rel => exact ⟨k + 1, by omega, allOk_succ hlt HA.out (Or.inr ⟨hdk, HK0.out⟩), by go_num⟩
                case measure => simp [intOf]; omega
              · have hdk' : digit s[k] = false := by simpa using hdk
                have F := Lib.hid (nameB_no (s := s) (k := k) hlt (by unfold okAt; simp [hlk', hdk']))
                clear hlk hdk
                go_wp2_with (first
                  | (go_at_call 177; refine (isLetter _ _).mono ?_; rintro e w' ⟨rfl, rfl⟩)
                  | (go_at_call 178; refine (isDigit _ _).mono ?_; rintro e w' ⟨rfl, rfl⟩))
                go_ret
                exact ⟨ret_bool F.out.symm, rfl⟩
          · obtain rfl : k = s.size := by omega
            have F := Lib.hid (nameB_yes h1 h8' HA.out)
            go_wp2
            go_ret
            exact ⟨ret_bool F.out.symm, rfl⟩
      · have hl' : letter s[0] = false := by simpa using hl
        have F := Lib.hid (nameB_no (s := s) (k := 0) h1 (by unfold okAt; simp [hl']))
        clear hl
        go_enter Tryz.func164, Tryz.ntmps164
        go_wp2_with (go_at_call 177; refine (isLetter _ _).mono ?_; rintro e w' ⟨rfl, rfl⟩)
        go_ret
        exact ⟨ret_bool F.out.symm, rfl⟩

set_option maxHeartbeats 2000000 in
theorem spec (s : ByteArray) (hs : s.size ≤ 1048576) (w : World) : Calls Tryz.prog 138 #[.string s] w fun e w' => e = .returned (.bool (nameB s)) ∧ w = w' := by
  go_enter Tryz.func138, Tryz.ntmps138
  go_wp2
  go_loop [3] (fun i => ∃ k : Nat, k ≤ s.size ∧ allOk s k ∧ i = .int .i64 k) (fun i => s.size - (intOf i).toNat)
  case atStart => exact ⟨0, by omega, allOk_zero s, rfl⟩
  case round =>
    obtain ⟨k, hk, hall, rfl⟩ := hrel
    have HA := Lib.hid hall
    clear hall
    by_cases hlt : k < s.size
    · by_cases hlk : letter s[k] = true
      · have hc := of_decide_eq_true hlk
        have HR := Lib.hid (allOk_succ hlt HA.out (Or.inl hlk))
        have d1 : decide (97 ≤ (s[k].toNat : Int)) = true := decide_eq_true (by omega)
        have d2 : decide ((s[k].toNat : Int) ≤ 122) = true := decide_eq_true (by omega)
        have d3 : decide (48 ≤ (s[k].toNat : Int)) = true := decide_eq_true (by omega)
        have d4 : decide ((s[k].toNat : Int) ≤ 57) = false := decide_eq_false (by omega)
        clear hlk HA
        obtain ⟨hc1, hc2⟩ := hc
        go_wp2
        go_round
        case rel => exact ⟨k + 1, by omega, HR.out, by go_num⟩
        case measure => simp [intOf]; omega
      · have hlk' : letter s[k] = false := by simpa using hlk
        have hc := of_decide_eq_false hlk'
        by_cases hdk : digit s[k] = true
        · have hd := of_decide_eq_true hdk
          have d1 : decide (97 ≤ (s[k].toNat : Int)) = false := decide_eq_false (by omega)
          have d3 : decide (48 ≤ (s[k].toNat : Int)) = true := decide_eq_true (by omega)
          have d4 : decide ((s[k].toNat : Int) ≤ 57) = true := decide_eq_true (by omega)
          obtain ⟨hd1, hd2⟩ := hd
          by_cases hk0 : k = 0
          · have F := Lib.hid (nameB_no (s := s) (k := k) hlt (by
              rintro (c | ⟨_, c⟩)
              · rw [hlk'] at c; cases c
              · exact c hk0))
            have z : ((k : Int) == 0) = true := by simp [hk0]
            clear hlk hlk' hdk hc HA hk0
            go_wp2
            go_ret
            exact ⟨ret_bool F.out.symm, rfl⟩
          · have HR := Lib.hid (allOk_succ hlt HA.out (Or.inr ⟨hdk, hk0⟩))
            have z : ((k : Int) == 0) = false := by simp [hk0]
            clear hlk hlk' hdk hc HA hk0
            go_wp2
            go_round
            case rel => exact ⟨k + 1, by omega, HR.out, by go_num⟩
            case measure => simp [intOf]; omega
        · have hdk' : digit s[k] = false := by simpa using hdk
          have hd := of_decide_eq_false hdk'
          have F := Lib.hid (nameB_no (s := s) (k := k) hlt (by unfold okAt; simp [hlk', hdk']))
          clear hlk hlk' hdk hdk' HA
          by_cases c1 : 97 ≤ s[k].toNat
          · have d1 : decide (97 ≤ (s[k].toNat : Int)) = true := decide_eq_true (by omega)
            have d2 : decide ((s[k].toNat : Int) ≤ 122) = false := decide_eq_false (by omega)
            have d3 : decide (48 ≤ (s[k].toNat : Int)) = true := decide_eq_true (by omega)
            have d4 : decide ((s[k].toNat : Int) ≤ 57) = false := decide_eq_false (by omega)
            clear hc hd
            go_wp2
            go_ret
            exact ⟨ret_bool F.out.symm, rfl⟩
          · have d1 : decide (97 ≤ (s[k].toNat : Int)) = false := decide_eq_false (by omega)
            by_cases c2 : 48 ≤ s[k].toNat
            · have d3 : decide (48 ≤ (s[k].toNat : Int)) = true := decide_eq_true (by omega)
              have d4 : decide ((s[k].toNat : Int) ≤ 57) = false := decide_eq_false (by omega)
              clear hc hd
              go_wp2
              go_ret
              exact ⟨ret_bool F.out.symm, rfl⟩
            · have d3 : decide (48 ≤ (s[k].toNat : Int)) = false := decide_eq_false (by omega)
              clear hc hd
              go_wp2
              go_ret
              exact ⟨ret_bool F.out.symm, rfl⟩
    · obtain rfl : k = s.size := by omega
      by_cases h0 : s.size < 1
      · have F := Lib.hid (nameB_len (Or.inl h0))
        have d : decide (0 < (s.size : Int)) = false := decide_eq_false (by omega)
        go_wp2
        go_ret
        exact ⟨ret_bool F.out.symm, rfl⟩
      · have d : decide (0 < (s.size : Int)) = true := decide_eq_true (by omega)
        by_cases h8 : 8 < s.size
        · have F := Lib.hid (nameB_len (Or.inr h8))
          have d8 : decide ((s.size : Int) ≤ 8) = false := decide_eq_false (by omega)
          go_wp2
          go_ret
          exact ⟨ret_bool F.out.symm, rfl⟩
        · have F := Lib.hid (nameB_yes (by omega) (by omega) HA.out)
          have d8 : decide ((s.size : Int) ≤ 8) = true := decide_eq_true (by omega)
          go_wp2
          go_ret
          exact ⟨ret_bool F.out.symm, rfl⟩

end Go.Proofs.YtejeikfgmiadhaaGreat.IsName
namespace Go.Proofs.YtejeikfgmiadhaaGreat.P2
open Go.RowKit Go.Proofs.YtejeikfgmiadhaaGreat.Cm Go.Proofs.YtejeikfgmiadhaaGreat.Pl Go.Proofs.YtejeikfgmiadhaaGreat.Str Go.Proofs.YtejeikfgmiadhaaGreat.Pw
set_option linter.unusedVariables false

set_option maxHeartbeats 2000000 in
set_option maxRecDepth 100000 in
theorem addI (x y a b : Int) {b1 b2 b3 : Bool} (h1 : (ms x && ms y) = b1) (h2 : (ms a && ms b) = b2) (h3 : (ms (x + a) && ms (y + b)) = b3) (w : World) :
    Calls Tryz.prog 224 #[.agg #[.int .i64 x, .int .i64 y], .agg #[.int .i64 a, .int .i64 b]] w fun e w' => e = .returned (told2 (b1 && b2 && b3) (x + a) (y + b)) ∧ Below w.heap.size w w' := by
  have C1 := Lib.hid (isPlaceI_of h1)
  have C2 := Lib.hid (isPlaceI_of h2)
  cases b1
  · clear h1 h2 h3
    go_enter Tryz.func224, Tryz.ntmps224
    go_wp2_with fail
    refine (C1.out _).mono ?_
    rintro e w' ⟨rfl, rfl⟩
    go_wp2_with fail
    go_returns
    exact ⟨rfl, by go_grown⟩
  cases b2
  · clear h1 h2 h3
    go_enter Tryz.func224, Tryz.ntmps224
    go_wp2_with fail
    refine (C1.out _).mono ?_
    rintro e w' ⟨rfl, rfl⟩
    go_wp2_with fail
    refine (C2.out _).mono ?_
    rintro e w' ⟨rfl, rfl⟩
    go_wp2_with fail
    go_returns
    exact ⟨rfl, by go_grown⟩
  · have ⟨hx, hy⟩ := pl_yes h1
    have ⟨ha, hb⟩ := pl_yes h2
    obtain ⟨re, im, hs, i1, i2⟩ := csum (P := Tryz.prog) .add 1 (Or.inl ⟨rfl, rfl⟩) (by omega) (by omega) (by omega) (by omega) (i32_f32 x) (i32_f32 y) (i32_f32 a) (i32_f32 b)
    rw [Int.one_mul] at i1 i2
    have D := Lib.hid (toldOf (by omega) (by omega) h3 i1 i2)
    have CC := Lib.hid (show ∀ p q, (p = x ∧ q = y ∨ p = a ∧ q = b) → ∀ w, Calls Tryz.prog 148 #[.agg #[.int .i64 p, .int .i64 q]] w fun e w' => e = .returned (.complex .f32 (Meas.f32 p) (Meas.f32 q)) ∧ w' = (w.alloc (.cells #[.int .i64 p, .int .i64 q] 47)).drew from fun p q h => complexOf p q (by omega) (by omega))
    clear h1 h2 h3 hx hy ha hb i1 i2
    cases b3
    all_goals
      go_enter Tryz.func224, Tryz.ntmps224
      go_wp2_with fail
      refine (C1.out _).mono ?_
      rintro e w' ⟨rfl, rfl⟩
      go_wp2_with fail
      refine (C2.out _).mono ?_
      rintro e w' ⟨rfl, rfl⟩
      go_wp2_with fail
      go_region_held3 (fun w' => w'.cell? ⟨w.heap.size, 0, none⟩ = some (.int .i64 x) ∧ w'.cell? ⟨w.heap.size, 1, none⟩ = some (.int .i64 y) ∧ w'.cell? ⟨w.heap.size + 1, 0, none⟩ = some (.int .i64 a) ∧ w'.cell? ⟨w.heap.size + 1, 1, none⟩ = some (.int .i64 b)) (simp [go_sem, *])
        (first
          | (go_at_call 148; refine (CC.out _ _ ?_ _).mono ?_; (first | exact Or.inl ⟨rfl, rfl⟩ | exact Or.inr ⟨rfl, rfl⟩); rintro e w' ⟨rfl, rfl⟩)
          | (go_at_call 118; refine (D.out _).mono ?_; rintro e w' ⟨rfl, rfl⟩))
      all_goals go_wp2_with fail
      all_goals go_returns
      all_goals exact ⟨rfl, by go_grown⟩

end Go.Proofs.YtejeikfgmiadhaaGreat.P2
namespace Go.Proofs.YtejeikfgmiadhaaGreat.Hd
open Go.RowKit Go.Proofs.YtejeikfgmiadhaaGreat.Cm Go.Proofs.YtejeikfgmiadhaaGreat.Pl
set_option linter.unusedVariables false

def hd (h : Int) : Bool := decide (0 ≤ h) && decide (h ≤ 3)
theorem hd_yes {h : Int} (e : hd h = true) : 0 ≤ h ∧ h ≤ 3 := by
  unfold hd at e; rw [Bool.and_eq_true, decide_eq_true_eq, decide_eq_true_eq] at e; exact e
theorem hd_mk {h : Int} (e : 0 ≤ h ∧ h ≤ 3) : hd h = true := by unfold hd; rw [decide_eq_true e.1, decide_eq_true e.2]; rfl

theorem isHeadingI (h : Int) (w : World) : Calls Tryz.prog 171 #[.int .i64 h] w fun e w' => e = .returned (.bool (hd h)) ∧ w = w' := by
  go_enter Tryz.func171, Tryz.ntmps171
  go_wp2
  all_goals go_returns
  · rename_i h1
    refine ⟨?_, rfl⟩
    show Ending.returned (.bool (decide (h < 4))) = _
    unfold hd
    rw [decide_eq_true h1, Bool.true_and]
    congr 2
    rw [decide_eq_decide]; omega
  · rename_i h1
    refine ⟨?_, rfl⟩
    show Ending.returned (.bool false) = _
    unfold hd
    rw [decide_eq_false (by omega)]; rfl
theorem isHeadingS (h : Int) (w : World) : Calls Tryz.prog 114 #[.int .i64 h] w fun e w' => e = .returned (.bool (hd h)) ∧ w = w' := by
  go_enter Tryz.func114, Tryz.ntmps114
  go_wp2
  all_goals go_returns
  · rename_i h1
    refine ⟨?_, rfl⟩
    show Ending.returned (.bool (decide (h ≤ 3))) = _
    unfold hd
    rw [decide_eq_true h1, Bool.true_and]
  · rename_i h1
    refine ⟨?_, rfl⟩
    show Ending.returned (.bool false) = _
    unfold hd
    rw [decide_eq_false (by omega)]; rfl

theorem isHeadingI_of {h : Int} {b : Bool} (e : hd h = b) (w : World) : Calls Tryz.prog 171 #[.int .i64 h] w fun e w' => e = .returned (.bool b) ∧ w = w' := e ▸ isHeadingI h w
theorem isHeadingS_of {h : Int} {b : Bool} (e : hd h = b) (w : World) : Calls Tryz.prog 114 #[.int .i64 h] w fun e w' => e = .returned (.bool b) ∧ w = w' := e ▸ isHeadingS h w

/-- The heading behind n quarter turns. -/
def th (h n : Int) : Int := if hd h then (h + n) % 4 else 0

end Go.Proofs.YtejeikfgmiadhaaGreat.Hd
namespace Go.Proofs.YtejeikfgmiadhaaGreat.Jt
open Go.RowKit Go.Proofs.YtejeikfgmiadhaaGreat.Cm Go.Proofs.YtejeikfgmiadhaaGreat.Pl Go.Proofs.YtejeikfgmiadhaaGreat.Str Go.Proofs.YtejeikfgmiadhaaGreat.Pw Go.Proofs.YtejeikfgmiadhaaGreat.P2 Go.Proofs.YtejeikfgmiadhaaGreat.Hd
set_option linter.unusedVariables false
set_option linter.unusedSimpArgs false

/-- A jet's value. -/
abbrev jv (x y h t l : Int) : Value := .agg #[.int .i64 x, .int .i64 y, .int .i64 h, .int .i64 t, .int .i64 l]
/-- The memory of a jet. -/
abbrev jc (x y h t l : Int) : Array Value := #[.int .i64 x, .int .i64 y, .int .i64 h, .int .i64 t, .int .i64 l]

/-- Whether a jet is valid. -/
def jt (x y h t l : Int) : Bool := iw x (-1024) 1024 && iw y (-1024) 1024 && hd h && iw t 0 16 && iw l 1 32
theorem jt_iff {x y h t l : Int} : jt x y h t l = true ↔ (-1024 ≤ x ∧ x ≤ 1024) ∧ (-1024 ≤ y ∧ y ≤ 1024) ∧ (0 ≤ h ∧ h ≤ 3) ∧ (0 ≤ t ∧ t ≤ 16) ∧ (1 ≤ l ∧ l ≤ 32) := by
  unfold jt hd
  simp only [Bool.and_eq_true, iw_iff, decide_eq_true_eq]
  omega

set_option maxHeartbeats 1000000 in
theorem isJetI (x y h t l : Int) (w : World) : Calls Tryz.prog 151 #[jv x y h t l] w fun e w' => e = .returned (.bool (jt x y h t l)) ∧ w' = w.alloc (.cells (jc x y h t l) 65) := by
  unfold jt
  have H := isHeadingI h
  generalize hd h = b3 at *
  generalize e1 : iw x (-1024) 1024 = b1
  generalize e2 : iw y (-1024) 1024 = b2
  generalize e4 : iw t 0 16 = b4
  generalize e5 : iw l 1 32 = b5
  have C1 := Lib.hid (fun w => e1 ▸ isWithin x (-1024) 1024 w)
  have C2 := Lib.hid (fun w => e2 ▸ isWithin y (-1024) 1024 w)
  have C3 := Lib.hid H
  have C4 := Lib.hid (fun w => e4 ▸ isWithin t 0 16 w)
  have C5 := Lib.hid (fun w => e5 ▸ isWithin l 1 32 w)
  clear e1 e2 e4 e5 H
  cases b1 <;> cases b2 <;> cases b3 <;> cases b4
  all_goals
    go_enter Tryz.func151, Tryz.ntmps151
    go_wp2_with fail
    refine (C1.out _).mono ?_
    rintro e w' ⟨rfl, rfl⟩
    go_wp2_with fail
    try (refine (C2.out _).mono ?_; rintro e w' ⟨rfl, rfl⟩; go_wp2_with fail)
    try (refine (C3.out _).mono ?_; rintro e w' ⟨rfl, rfl⟩; go_wp2_with fail)
    try (refine (C4.out _).mono ?_; rintro e w' ⟨rfl, rfl⟩; go_wp2_with fail)
    try (refine (C5.out _).mono ?_; rintro e w' ⟨rfl, rfl⟩; go_wp2_with fail)
    go_returns
    exact ⟨rfl, rfl⟩

set_option maxHeartbeats 1000000 in
theorem isJetS (x y h t l : Int) (w : World) : Calls Tryz.prog 78 #[jv x y h t l] w fun e w' => e = .returned (.bool (jt x y h t l)) ∧ w' = w.alloc (.cells (jc x y h t l) 65) := by
  unfold jt
  have H := isHeadingS h
  generalize hd h = b3 at *
  generalize e1 : iw x (-1024) 1024 = b1
  generalize e2 : iw y (-1024) 1024 = b2
  generalize e4 : iw t 0 16 = b4
  generalize e5 : iw l 1 32 = b5
  have C1 := Lib.hid (fun w => e1 ▸ l1In x (-1024) 1024 w)
  have C2 := Lib.hid (fun w => e2 ▸ l1In y (-1024) 1024 w)
  have C3 := Lib.hid H
  have C4 := Lib.hid (fun w => e4 ▸ l1In t 0 16 w)
  have C5 := Lib.hid (fun w => e5 ▸ l1In l 1 32 w)
  clear e1 e2 e4 e5 H
  cases b1 <;> cases b2 <;> cases b3 <;> cases b4
  all_goals
    go_enter Tryz.func78, Tryz.ntmps78
    go_wp2_with fail
    refine (C1.out _).mono ?_
    rintro e w' ⟨rfl, rfl⟩
    go_wp2_with fail
    try (refine (C2.out _).mono ?_; rintro e w' ⟨rfl, rfl⟩; go_wp2_with fail)
    try (refine (C3.out _).mono ?_; rintro e w' ⟨rfl, rfl⟩; go_wp2_with fail)
    try (refine (C4.out _).mono ?_; rintro e w' ⟨rfl, rfl⟩; go_wp2_with fail)
    try (refine (C5.out _).mono ?_; rintro e w' ⟨rfl, rfl⟩; go_wp2_with fail)
    go_returns
    exact ⟨rfl, rfl⟩

theorem isJetI_of {x y h t l : Int} {b : Bool} (e : jt x y h t l = b) (w : World) : Calls Tryz.prog 151 #[jv x y h t l] w fun e w' => e = .returned (.bool b) ∧ w' = w.alloc (.cells (jc x y h t l) 65) := e ▸ isJetI x y h t l w
theorem isJetS_of {x y h t l : Int} {b : Bool} (e : jt x y h t l = b) (w : World) : Calls Tryz.prog 78 #[jv x y h t l] w fun e w' => e = .returned (.bool b) ∧ w' = w.alloc (.cells (jc x y h t l) 65) := e ▸ isJetS x y h t l w

end Go.Proofs.YtejeikfgmiadhaaGreat.Jt
