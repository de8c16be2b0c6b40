/- The laws' helpers on lists of strings: a copy reads as the list, equal lists are found equal, and the lengths are added up. -/
import Derived.Test.YtdhdmdjahfnicaaMem
namespace Go.Proofs.Ytdhdmdjahfnicaa.Strs
open Go.RowKit Go.Proofs.Ytdhdmdjahfnicaa.Mem

theorem infoStr : (Try.prog.info? 9).map (fun i => (i.zero, i.size, i.bytes)) = some (some (.string ByteArray.empty), 1, 16) := by kernel_rfl
def strs (ss : List ByteArray) : List Value := ss.map Value.string
theorem strs_len (ss : List ByteArray) : (strs ss).length = ss.length := List.length_map ..
theorem strs_get {ss : List ByteArray} {k : Nat} {s : ByteArray} (h : ss[k]? = some s) : (strs ss)[k]? = some (.string s) := by
  unfold strs; rw [List.getElem?_map, h]; rfl

theorem made_strs (n : Nat) : (madeCells (Value.string ByteArray.empty).cells (n * 1)).toList = List.replicate n (.string ByteArray.empty) := by
  rw [Nat.mul_one]; exact toList_madeCells_one _ _

/-- What the copy leaves: a row of its own with these strings; what was there is as it was. -/
def Copied (w : World) (n : Nat) (ss : List ByteArray) (e : Ending) (w' : World) : Prop :=
  ∃ g, e = .returned (.slice (some ⟨g, 0, none⟩) n n) ∧ w.heap.size ≤ g ∧ w'.ownsRow w.heap.size 9 1 (.slice (some ⟨g, 0, none⟩) n n) n (strs ss) ∧ Below w.heap.size w w'

set_option maxHeartbeats 1000000 in
theorem toStringS (A : Option Addr) (n c : Nat) (zs : List ByteArray) (w : World) (hn : zs.length = n) (hb : n ≤ 1048576) (hr : Rd w w.heap.size A (strs zs)) :
    Calls Try.prog 40 #[.slice A n c] w (Copied w n zs) := by
  obtain ⟨i0, hi, hz0, hz1, hz2⟩ := info_parts infoStr
  have HR := Lib.hid hr
  have HN := Lib.hid hn
  clear hr hn
  go_enter Try.func40, Try.ntmps40
  go_wp2_with (at_make; refine wpList_make_full _ rfl _ _ 53 rfl w.heap.size 9 i0 (.string ByteArray.empty) 1 Try.underlying53 hi hz0 hz1 .i64 .i64 n n n rfl rfl rfl rfl (by rw [hz2]; omega) (by unfold maxLen; omega) (Nat.le_refl _) ?_; intro w1 hown hgrow; clear hi hz0 hz1 hz2)
  have R0 := Lib.hid (show w1.ownsRow w.heap.size 9 1 (.slice (some ⟨w.heap.size, 0, none⟩) n n) n (filled (strs zs) (.string ByteArray.empty) 0) by
    rw [filled_zero, strs_len, HN.out]; rw [made_strs] at hown; exact hown)
  have B0 := Lib.hid (show Below w.heap.size w w1 from (Below.refl _ _).grown hgrow (Nat.le_refl _) (fun k hk => by cases hk))
  clear hown hgrow
  go_loopw [4] (fun i wr => ∃ k : Nat, k ≤ n ∧ i = .int .i64 k ∧ Hid (wr.ownsRow w.heap.size 9 1 (.slice (some ⟨w.heap.size, 0, none⟩) n n) n (filled (strs zs) (.string ByteArray.empty) k)) ∧ Hid (Below w.heap.size w wr)) (fun i _ => n - (intOf i).toNat)
  case atStart => exact ⟨0, Nat.zero_le _, rfl, R0, B0⟩
  case round =>
    obtain ⟨k, hk, rfl, RK, BK⟩ := hrel
    by_cases hlt : k < n
    · have hl : (strs zs).length = n := by rw [strs_len, HN.out]
      obtain ⟨b, o, eA, hbl, hcell⟩ := HR.out.get (k := k) (by omega)
      have hkz : k < zs.length := by rw [HN.out]; exact hlt
      obtain ⟨z, hz⟩ : ∃ z, (strs zs)[k]? = some (.string z) := ⟨_, strs_get (List.getElem?_eq_getElem hkz)⟩
      have c1 : wr.cell? ⟨b, o + k, none⟩ = some (.string z) := (BK.out.cell (p := ⟨b, o + k, none⟩) hbl).trans (hcell k _ hz)
      have c2 : wr.cell? ⟨w.heap.size, k, none⟩ = some (.string ByteArray.empty) := (RK.out.cellAt k (by omega)).trans (filled_get (by omega))
      have f2 := RK.out.frozenAt k
      obtain ⟨r1, r2⟩ := RK.out.stored k (.string z)
      have e3 := filled_put (z := .string ByteArray.empty) hz
      rw [e3] at r1
      have R1 := Lib.hid r1
      have B1 := Lib.hid (BK.out.grown r2 (by exact BK.out.size) (fun g hg => by cases hg; exact Nat.le_refl _))
      clear r1 r2 e3 RK BK hl hbl hcell hkz hz R0 B0
      subst eA
      go_wp2
      go_roundw
      case rel => exact ⟨k + 1, by omega, by go_num, R1, B1⟩
      case measure => simp [intOf]; omega
    · obtain rfl : k = n := by omega
      go_wp2
      go_ret
      refine ⟨w.heap.size, rfl, Nat.le_refl _, ?_, BK.out⟩
      have := RK.out
      rw [show k = (strs zs).length by rw [strs_len, HN.out], filled_all] at this
      rw [show k = (strs zs).length by rw [strs_len, HN.out]]
      exact this

/-- Found equal: only draws were made. -/
def Same (b : Bool) (w : World) (e : Ending) (w' : World) : Prop := e = .returned (.bool b) ∧ ∃ m, w' = w.drewN m

set_option maxHeartbeats 1000000 in
theorem eqStringS (A B : Option Addr) (n c d : Nat) (zs : List ByteArray) (H : Nat) (w : World) (hn : zs.length = n) (hb : n ≤ 9223372036854775807) (hr : Rd w H A (strs zs)) (hs : Rd w H B (strs zs)) :
    Calls Try.prog 42 #[.slice A n c, .slice B n d] w (Same true w) := by
  have HR := Lib.hid hr
  have HS := Lib.hid hs
  have HN := Lib.hid hn
  clear hr hs hn
  go_enter Try.func42, Try.ntmps42
  go_wp2
  go_loopw [5] (fun i wr => ∃ k m : Nat, k ≤ n ∧ i = .int .i64 k ∧ wr = w.drewN m) (fun i _ => n - (intOf i).toNat)
  case atStart => exact ⟨0, 0, Nat.zero_le _, rfl, rfl⟩
  case round =>
    obtain ⟨k, m, hk, rfl, rfl⟩ := hrel
    by_cases hlt : k < n
    · have hkz : k < zs.length := by rw [HN.out]; exact hlt
      have hl : k < (strs zs).length := by rw [strs_len]; exact hkz
      obtain ⟨z, hz⟩ : ∃ z, (strs zs)[k]? = some (.string z) := ⟨_, strs_get (List.getElem?_eq_getElem hkz)⟩
      obtain ⟨b1, o1, eA, _, g1⟩ := HR.out.get hl
      obtain ⟨b2, o2, eB, _, g2⟩ := HS.out.get hl
      have c1 : (w.drewN m).cell? ⟨b1, o1 + k, none⟩ = some (.string z) := g1 k _ hz
      have c2 : (w.drewN m).cell? ⟨b2, o2 + k, none⟩ = some (.string z) := g2 k _ hz
      clear g1 g2 hz hl hkz
      subst eA eB
      have hlt' : (k : Int) < (n : Int) := by omega
      have hk0 : (0 : Int) ≤ (k : Int) := by omega
      obtain ⟨W, hW⟩ : ∃ W, W = w.drewN m := ⟨_, rfl⟩
      rw [← hW] at c1 c2 ⊢
      have HW := Lib.hid hW
      clear hW
      go_wp2
      go_quiet (fail)
      go_wp2
      go_roundw
      case rel => exact ⟨k + 1, m + nq, by omega, by go_num, by rw [HW.out, World.drewN_drewN]⟩
      case measure => simp [intOf]; omega
    · obtain rfl : k = n := by omega
      go_wp2
      go_ret
      exact ⟨rfl, m, rfl⟩

/-- All lengths together. -/
def byteSum : List ByteArray → Nat
  | [] => 0
  | s :: ss => s.size + byteSum ss
theorem byteSum_append (a b : List ByteArray) : byteSum (a ++ b) = byteSum a + byteSum b := by
  induction a with
  | nil => simp [byteSum]
  | cons z a ih => simp only [List.cons_append, byteSum, ih]; omega
theorem byteSum_take {ss : List ByteArray} {k : Nat} {s : ByteArray} (h : ss[k]? = some s) : byteSum (ss.take (k + 1)) = byteSum (ss.take k) + s.size := by
  obtain ⟨hk, rfl⟩ := List.getElem?_eq_some_iff.1 h
  rw [List.take_succ_eq_append_getElem hk, byteSum_append]; simp [byteSum]
theorem byteSum_take_le (ss : List ByteArray) (k : Nat) : byteSum (ss.take k) ≤ byteSum ss := by
  have := byteSum_append (ss.take k) (ss.drop k)
  rw [List.take_append_drop] at this
  omega
def left (ss : List ByteArray) : Int := if ss.length + byteSum ss ≤ 1048576 then 1048576 - (ss.length : Int) - byteSum ss else -1
theorem left_no {ss : List ByteArray} (h : 1048576 < ss.length + byteSum ss) : left ss = -1 := if_neg (by omega)
theorem left_yes {ss : List ByteArray} (h : ss.length + byteSum ss ≤ 1048576) : left ss = 1048576 - (ss.length : Int) - byteSum ss := if_pos h
theorem ret_int {a b : Int} (h : a = b) : Ending.returned (.int .i64 a) = .returned (.int .i64 b) := by rw [h]

set_option maxHeartbeats 1000000 in
theorem szStringS (A : Option Addr) (n c : Nat) (ss : List ByteArray) (H : Nat) (w : World) (hn : ss.length = n) (hb : n ≤ 9223372036854775807) (hw : ∀ s ∈ ss, s.size ≤ 9223372036854775807) (hr : Rd w H A (strs ss)) :
    Calls Try.prog 38 #[.slice A n c, .int .i64 1048576] w fun e w' => e = .returned (.int .i64 (left ss)) ∧ w = w' := by
  have HR := Lib.hid hr
  have HN := Lib.hid hn
  have HW := Lib.hid hw
  clear hr hn hw
  by_cases h0 : 1048576 < n
  · have F := Lib.hid (left_no (ss := ss) (by rw [HN.out]; omega))
    go_enter Try.func38, Try.ntmps38
    go_wp2
    go_ret
    exact ⟨ret_int F.out.symm, rfl⟩
  · go_enter Try.func38, Try.ntmps38
    go_wp2
    go_loop [1, 5] (fun l i => ∃ k : Nat, k ≤ n ∧ i = .int .i64 k ∧ ∃ m : Int, l = .int .i64 m ∧ 0 ≤ m ∧ m ≤ 1048576 ∧ Hid (m = 1048576 - (n : Int) - byteSum (ss.take k))) (fun _ i => n - (intOf i).toNat)
    case atStart => exact ⟨0, Nat.zero_le _, rfl, _, rfl, by omega, by omega, by show _ = _; simp [byteSum]⟩
    case round =>
      obtain ⟨k, hk, rfl, m, rfl, hm0, hm1, HM⟩ := hrel
      by_cases hlt : k < n
      · have hkz : k < ss.length := by rw [HN.out]; exact hlt
        have hl : k < (strs ss).length := by rw [strs_len]; exact hkz
        obtain ⟨z, hz⟩ : ∃ z, ss[k]? = some z := ⟨_, List.getElem?_eq_getElem hkz⟩
        obtain ⟨b1, o1, eA, _, g1⟩ := HR.out.get hl
        have c1 : w.cell? ⟨b1, o1 + k, none⟩ = some (.string z) := g1 k _ (strs_get hz)
        have hzs := HW.out z (List.mem_of_getElem? hz)
        have HT := Lib.hid (byteSum_take hz)
        have HL := Lib.hid (byteSum_take_le ss (k + 1))
        clear g1 hz hl hkz
        subst eA
        by_cases hneg : m < z.size
        · have F := Lib.hid (left_no (ss := ss) (by have := HT.out; have := HL.out; have := HM.out; have := HN.out; omega))
          go_wp2
          go_ret
          exact ⟨ret_int F.out.symm, rfl⟩
        · have HM2 := Lib.hid (show m - z.size = 1048576 - (n : Int) - byteSum (ss.take (k + 1)) by have := HT.out; have := HM.out; omega)
          go_wp2
          go_round
          case rel => exact ⟨k + 1, by omega, by go_num, _, rfl, by omega, by omega, HM2⟩
          case measure => simp [intOf]; omega
      · obtain rfl : k = n := by omega
        have F := Lib.hid (show left ss = m by
          have ht : ss.take k = ss := by rw [← HN.out, List.take_length]
          have h1 := HM.out
          rw [ht] at h1
          have h2 := HN.out
          rw [left_yes (by omega)]
          omega)
        go_wp2
        go_ret
        exact ⟨ret_int F.out.symm, rfl⟩

end Go.Proofs.Ytdhdmdjahfnicaa.Strs
