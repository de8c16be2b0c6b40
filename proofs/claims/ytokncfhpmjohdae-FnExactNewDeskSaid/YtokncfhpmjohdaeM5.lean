/- The marks that the laws lay into a list of texts: what they are, that they are laid, and that they are found. -/
import Derived.Test.YtokncfhpmjohdaeM4
import Derived.Test.YtokncfhpmjohdaeEqs
import Derived.Deep.RegionHeld3
set_option linter.unusedVariables false
set_option linter.unusedSimpArgs false
namespace Go.Proofs.Ytokncfhpmjohdae.Mark
open Go.RowKit Go.Proofs.Ytokncfhpmjohdae.Mem Go.Proofs.Ytokncfhpmjohdae.Strs Go.Proofs.Ytokncfhpmjohdae.Fmt

/-- The digits that are still to be written. -/
def D (v : Nat) : List UInt8 := if v = 0 then [] else Lib.decDigits v
theorem D_zero : D 0 = [] := rfl
theorem D_pos {v : Nat} (h : 0 < v) : D v = D (v / 10) ++ [UInt8.ofNat (48 + v % 10)] := by
  unfold D
  rw [if_neg (by omega)]
  by_cases h1 : v < 10
  · rw [if_pos (by omega), digits_one v h1, Nat.mod_eq_of_lt h1]; rfl
  · rw [if_neg (by omega), digits_step v h1]
theorem D_len (v : Nat) (h : v ≤ 9223372036854775807) : (txt (D v)).size ≤ 19 := by
  have e : (txt (D v)).size = (D v).length := by rw [Lib.size_eq]; rfl
  rw [e]
  unfold D
  split
  · exact Nat.zero_le _
  · exact digits_len 18 v (Nat.lt_of_le_of_lt h (by decide))
/-- The mark's text. -/
def M (v : Nat) : ByteArray := txt [109] ++ txt (D v)
theorem M_size (v : Nat) (h : v ≤ 9223372036854775807) : (M v).size ≤ 20 := by
  unfold M
  rw [ByteArray.size_append]
  have := D_len v h
  have e : (txt [109]).size = 1 := rfl
  omega
theorem txt_nil : txt [] = ByteArray.empty := rfl
theorem ret_str {a b : ByteArray} (h : a = b) : Ending.returned (.string a) = .returned (.string b) := by rw [h]

set_option maxRecDepth 100000 in
set_option maxHeartbeats 1000000 in
theorem markText (v : Nat) (w : World) (h1 : 0 < v) (h2 : v ≤ 9223372036854775807) : Calls Try.prog 103 #[.int .i64 v] w (Wrote (M v) w) := by
  go_enter Try.func103, Try.ntmps103
  go_wp2_with fail
  go_loopw [0, 3] (fun n t wr => ∃ u : Nat, n = .int .i64 u ∧ u ≤ 9223372036854775807 ∧ ∃ x : ByteArray, t = .string x ∧ Hid (txt (D u) ++ x = txt (D v)) ∧ Hid (Below w.heap.size w wr)) (fun n _ _ => (intOf n).toNat)
  case atStart => exact ⟨v, rfl, h2, _, rfl, Lib.hid (by rw [show ((⟨#[]⟩ : ByteArray)) = txt [] from rfl, txt_append, List.append_nil]), Lib.hid (Below.refl _ _)⟩
  case round =>
    obtain ⟨u, rfl, hu, x, rfl, HX, HB⟩ := hrel
    have hx : x.size ≤ 19 := by
      have e := congrArg ByteArray.size HX.out
      rw [ByteArray.size_append] at e
      have := D_len v h2
      omega
    by_cases h0 : 0 < u
    · have hc := digit_conv wr (u % 10) (Nat.mod_lt _ (by decide))
      have HX2 := Lib.hid (show txt (D (u / 10)) ++ (txt [UInt8.ofNat (48 + u % 10)] ++ x) = txt (D v) by
        rw [← HX.out, D_pos h0, ← txt_append, ByteArray.append_assoc])
      have HB2 := Lib.hid (show Below w.heap.size w (wr.alloc (.cells #[.int .u8 (48 + ((u % 10 : Nat) : Int))] 5)) from HB.out.alloc HB.out.size _)
      obtain ⟨d, hd⟩ : ∃ d, txt [UInt8.ofNat (48 + u % 10)] = d := ⟨_, rfl⟩
      have hds : d.size ≤ 1 := by rw [← hd]; exact Nat.le_refl _
      rw [hd] at hc HX2
      have e10 : ((u % 10 : Nat) : Int) = (u : Int) % 10 := by omega
      rw [e10] at hc HB2
      clear e10 hd HX HB
      go_wp2_with fail
      go_roundw
      case rel => exact ⟨u / 10, by first | rfl | (congr 1; omega), by omega, _, rfl, HX2, HB2⟩
      case measure => simp [intOf]; omega
    · obtain rfl : u = 0 := by omega
      have F := Lib.hid (show txt [109] ++ x = M v by
        unfold M
        rw [← HX.out, D_zero, txt_nil, ByteArray.empty_append])
      go_wp2_with fail
      go_ret
      exact ⟨ret_str F.out, HB.out⟩

/-- n marks from k on. -/
def marks (k n : Nat) : List ByteArray := (List.range n).map fun j => M (k + j)
theorem marks_len (k n : Nat) : (marks k n).length = n := by simp [marks]
theorem marks_get {k n j : Nat} (h : j < n) : (marks k n)[j]? = some (M (k + j)) := by
  unfold marks
  rw [List.getElem?_map, List.getElem?_range h]
  rfl

/-- A list whose first j elements are marks, the others as they were. -/
def part (k j : Nat) (zs : List ByteArray) : List ByteArray := marks k j ++ zs.drop j
theorem part_zero (k : Nat) (zs : List ByteArray) : part k 0 zs = zs := by simp [part, marks]
theorem part_all (k : Nat) (zs : List ByteArray) : part k zs.length zs = marks k zs.length := by simp [part]
theorem part_get {k j : Nat} {zs : List ByteArray} (h : j < zs.length) : ∃ z, (part k j zs)[j]? = some z :=
  ⟨zs[j], by unfold part; rw [List.getElem?_append_right (by rw [marks_len]; exact Nat.le_refl _), marks_len, Nat.sub_self, List.getElem?_drop, Nat.add_zero, List.getElem?_eq_getElem h]⟩
theorem part_set {k j : Nat} {zs : List ByteArray} (h : j < zs.length) : (strs (part k j zs)).set j (.string (M (k + j))) = strs (part k (j + 1) zs) := by
  unfold strs part
  rw [show (Value.string (M (k + j))) = Value.string (M (k + j)) from rfl, ← List.map_set]
  congr 1
  rw [List.set_append_right _ _ (by rw [marks_len]; exact Nat.le_refl _), marks_len, Nat.sub_self, List.drop_eq_getElem_cons h, List.set_cons_zero]
  unfold marks
  rw [List.range_succ, List.map_append, List.append_assoc]
  rfl

def Laid (w : World) (B base g n c k : Nat) (e : Ending) (w' : World) : Prop :=
  e = .returned (.int .i64 ((k : Int) + n)) ∧ w'.ownsRow base 9 1 (.slice (some ⟨g, 0, none⟩) n c) n (strs (marks k n)) ∧ Below B w w'

def Kept (z : ByteArray) (p : Addr) (w : World) (e : Ending) (w' : World) : Prop := e = .returned (.string z) ∧ Below w.heap.size w w' ∧ w'.cell? p = some (.string z)
def Held (w : World) (n k : Nat) (e : Ending) (w' : World) : Prop := e = .returned (.int .i64 ((k : Int) + n)) ∧ Below w.heap.size w w'

end Go.Proofs.Ytokncfhpmjohdae.Mark
namespace Go.Proofs.Ytokncfhpmjohdae.Dmk
open Go.RowKit Go.ChangeShapes Go.WideShapes Go.WideElems Go.Deep Go.Proofs.Ytokncfhpmjohdae.Mem Go.Proofs.Ytokncfhpmjohdae.Rw Go.Proofs.Ytokncfhpmjohdae.Dd Go.Proofs.Ytokncfhpmjohdae.Dl
open Go.Proofs.Ytokncfhpmjohdae.Mark (M markText)
open Go.Proofs.Ytokncfhpmjohdae.Rw (owns_below)
open Go.Proofs.Ytokncfhpmjohdae.P2 (cell_below)
set_option linter.unusedVariables false
set_option linter.unusedSimpArgs false

/-- A device of marks from q on. -/
def mkq (q : Nat) : D := ⟨M q, (q : Int) + 1, M (q + 2), (q : Int) + 1 + 1 + 1, (q : Int) + 1 + 1 + 1 + 1, (q : Int) + 1 + 1 + 1 + 1 + 1, (q : Int) + 1 + 1 + 1 + 1 + 1 + 1, (q : Int) + 1 + 1 + 1 + 1 + 1 + 1 + 1⟩
/-- n devices of marks from k on. -/
def mkd (k n : Nat) : List D := (List.range n).map fun j => mkq (k + j * 8)
theorem mkd_len (k n : Nat) : (mkd k n).length = n := by simp [mkd]
theorem mkd_get {k n j : Nat} (h : j < n) : (mkd k n)[j]? = some (mkq (k + j * 8)) := by
  unfold mkd; rw [List.getElem?_map, List.getElem?_range h]; rfl

/-- The marks are laid; what lies in other blocks is as it was. -/
def Laid (w : World) (base g n c k : Nat) (e : Ending) (w' : World) : Prop :=
  e = .returned (.int .i64 ((k : Int) + ((n * 8 : Nat) : Int))) ∧ w'.ownsRow base 27 8 (.slice (some ⟨g, 0, none⟩) n c) n (dls (mkd k n)) ∧ w.grownBy w' (some g)
theorem below_grown {w w' : World} {r : Option Nat} (h : Below w.heap.size w w') : w.grownBy w' r := ⟨h.os, h.tape, h.output, h.size, fun j hj _ => h.block j hj⟩

set_option maxHeartbeats 4000000 in
set_option maxRecDepth 100000 in
theorem markDeviceS (base g n c k : Nat) (zs : List D) (w : World) (hn : zs.length = n) (hb : n ≤ 1048576) (hk0 : 0 < k) (hk : k ≤ 8388608) (hr : w.ownsRow base 27 8 (.slice (some ⟨g, 0, none⟩) n c) n (dls zs)) :
    Calls Try.prog 80 #[.slice (some ⟨g, 0, none⟩) n c, .int .i64 k] w (Laid w base g n c k) := by
  have HN := Lib.hid hn
  have HL := Lib.hid (show (dls zs).length = (dls (mkd k n)).length by rw [dls_len, dls_len, mkd_len, hn])
  have R0 := Lib.hid (show w.ownsRow base 27 8 (.slice (some ⟨g, 0, none⟩) n c) n (mixed (dls (mkd k n)) (dls zs) 0) by rw [mixed_zero]; exact hr)
  clear hn hr
  go_enter Try.func80, Try.ntmps80
  go_wp2_with fail
  go_loopw [1, 5] (fun q i wr => ∃ j : Nat, j ≤ n ∧ i = .int .i64 j ∧ q = .int .i64 ((k : Int) + ((j * 8 : Nat) : Int)) ∧ Hid (wr.ownsRow base 27 8 (.slice (some ⟨g, 0, none⟩) n c) n (mixed (dls (mkd k n)) (dls zs) (j * 8))) ∧ Hid (w.grownBy wr (some g))) (fun _ i _ => n - (intOf i).toNat)
  case atStart => exact ⟨0, Nat.zero_le _, rfl, by simp, R0, Lib.hid (grown_refl _ _)⟩
  case round =>
    obtain ⟨j, hj, rfl, rfl, RK, GK⟩ := hrel
    obtain ⟨q, hq⟩ : ∃ q : Nat, q = k + j * 8 := ⟨_, rfl⟩
    rw [show (k : Int) + ((j * 8 : Nat) : Int) = (q : Int) by omega]
    by_cases hlt : j < n
    · obtain ⟨z, hz⟩ : ∃ z, zs[j]? = some z := ⟨_, List.getElem?_eq_getElem (by rw [HN.out]; exact hlt)⟩
      obtain ⟨n_, q_, l_, x_, y_, h_, t_, m_⟩ := z
      obtain ⟨y0, y1, y2, y3, y4, y5, y6, y7⟩ := dls_get hz
      have hm := mkd_get (k := k) hlt
      rw [← hq] at hm
      obtain ⟨v0, v1, v2, v3, v4, v5, v6, v7⟩ := dls_get (zs := mkd k n) (k := j) (n := M q) (q := (q : Int) + 1) (l := M (q + 2)) (x := (q : Int) + 1 + 1 + 1) (y := (q : Int) + 1 + 1 + 1 + 1) (h := (q : Int) + 1 + 1 + 1 + 1 + 1) (t := (q : Int) + 1 + 1 + 1 + 1 + 1 + 1) (m := (q : Int) + 1 + 1 + 1 + 1 + 1 + 1 + 1) hm
      obtain ⟨m0, hm0⟩ : ∃ m, M q = m := ⟨_, rfl⟩
      obtain ⟨m2, hm2⟩ : ∃ m, M (q + 2) = m := ⟨_, rfl⟩
      rw [hm0] at v0
      rw [hm2] at v2
      have C0 := Lib.hid (fun W => by have C := markText q W (by omega) (by omega); rw [hm0] at C; exact C)
      have C2 := Lib.hid (fun W => by have C := markText (q + 2) W (by omega) (by omega); rw [hm2, show ((q + 2 : Nat) : Int) = (q : Int) + 1 + 1 by omega] at C; exact C)
      have V := Lib.hid (⟨v0, v1, v2, v3, v4, v5, v6, v7⟩ : _ ∧ _ ∧ _ ∧ _ ∧ _ ∧ _ ∧ _ ∧ _)
      have Y := Lib.hid (⟨y0, y1, y2, y3, y4, y5, y6, y7⟩ : _ ∧ _ ∧ _ ∧ _ ∧ _ ∧ _ ∧ _ ∧ _)
      have HQ := Lib.hid hq
      have hq8 : q ≤ 20971520 := by omega
      have HJ : j * 8 + 7 < n * 8 := by omega
      clear v0 v1 v2 v3 v4 v5 v6 v7 y0 y1 y2 y3 y4 y5 y6 y7 hm hm0 hm2 hz hq R0
      go_wp2_with fail
      refine (C0.out _).mono ?_
      rintro e w1 ⟨rfl, b1⟩
      have R1 := owns_below RK.out b1
      have G1 := grown_trans GK.out (below_grown (r := some g) b1)
      have hl8 := HL.out
      have c0 := (R1.cellAt (j * 8) (by omega)).trans (mixed_at HL.out (by omega) Y.out.1)
      have f0 := R1.frozenAt (j * 8)
      obtain ⟨r0, g0⟩ := R1.stored (j * 8) (.string m0)
      rw [mixed_put HL.out V.out.1] at r0
      have c1 := (r0.cellAt (j * 8 + 1) (by omega)).trans (mixed_at HL.out (by omega) Y.out.2.1)
      have f1 := r0.frozenAt (j * 8 + 1)
      obtain ⟨r1, g1⟩ := r0.stored (j * 8 + 1) (.int .i64 ((q : Int) + 1))
      rw [mixed_put HL.out V.out.2.1] at r1
      have RR := Lib.hid r1
      have GG := Lib.hid (grown_trans (grown_trans G1 g0) g1)
      clear r0 r1 g0 g1 R1 G1 RK GK b1 C0 hl8
      go_wp2_with fail
      refine (C2.out _).mono ?_
      rintro e w2 ⟨rfl, b2⟩
      have R2 := owns_below RR.out b2
      have G2 := grown_trans GG.out (below_grown (r := some g) b2)
      clear c0 f0 c1 f1
      have c2 := (R2.cellAt (j * 8 + 2) (by omega)).trans (mixed_at HL.out (by omega) Y.out.2.2.1)
      have f2 := R2.frozenAt (j * 8 + 2)
      obtain ⟨r2, g2⟩ := R2.stored (j * 8 + 1 + 1) (.string m2)
      rw [mixed_put HL.out V.out.2.2.1] at r2
      have c3 := (r2.cellAt (j * 8 + 3) (by omega)).trans (mixed_at HL.out (by omega) Y.out.2.2.2.1)
      have f3 := r2.frozenAt (j * 8 + 3)
      obtain ⟨r3, g3⟩ := r2.stored (j * 8 + 1 + 1 + 1) (.int .i64 ((q : Int) + 1 + 1 + 1))
      rw [mixed_put HL.out V.out.2.2.2.1] at r3
      have c4 := (r3.cellAt (j * 8 + 4) (by omega)).trans (mixed_at HL.out (by omega) Y.out.2.2.2.2.1)
      have f4 := r3.frozenAt (j * 8 + 4)
      obtain ⟨r4, g4⟩ := r3.stored (j * 8 + 1 + 1 + 1 + 1) (.int .i64 ((q : Int) + 1 + 1 + 1 + 1))
      rw [mixed_put HL.out V.out.2.2.2.2.1] at r4
      have c5 := (r4.cellAt (j * 8 + 5) (by omega)).trans (mixed_at HL.out (by omega) Y.out.2.2.2.2.2.1)
      have f5 := r4.frozenAt (j * 8 + 5)
      obtain ⟨r5, g5⟩ := r4.stored (j * 8 + 1 + 1 + 1 + 1 + 1) (.int .i64 ((q : Int) + 1 + 1 + 1 + 1 + 1))
      rw [mixed_put HL.out V.out.2.2.2.2.2.1] at r5
      have c6 := (r5.cellAt (j * 8 + 6) (by omega)).trans (mixed_at HL.out (by omega) Y.out.2.2.2.2.2.2.1)
      have f6 := r5.frozenAt (j * 8 + 6)
      obtain ⟨r6, g6⟩ := r5.stored (j * 8 + 1 + 1 + 1 + 1 + 1 + 1) (.int .i64 ((q : Int) + 1 + 1 + 1 + 1 + 1 + 1))
      rw [mixed_put HL.out V.out.2.2.2.2.2.2.1] at r6
      have c7 := (r6.cellAt (j * 8 + 7) (by omega)).trans (mixed_at HL.out (by omega) Y.out.2.2.2.2.2.2.2)
      have f7 := r6.frozenAt (j * 8 + 7)
      obtain ⟨r7, g7⟩ := r6.stored (j * 8 + 1 + 1 + 1 + 1 + 1 + 1 + 1) (.int .i64 ((q : Int) + 1 + 1 + 1 + 1 + 1 + 1 + 1))
      rw [mixed_put HL.out V.out.2.2.2.2.2.2.2] at r7
      have R9 := Lib.hid r7
      have G9 := Lib.hid (grown_trans (grown_trans (grown_trans (grown_trans (grown_trans (grown_trans G2 g2) g3) g4) g5) g6) g7)
      clear r2 g2 r3 g3 r4 g4 r5 g5 r6 g6 r7 g7 R2 G2 RR GG b2 C2
      go_wp2_with fail
      go_roundw
      case rel => exact ⟨j + 1, by omega, by go_num, by (have := HQ.out; congr 1; omega), by rw [show (j + 1) * 8 = j * 8 + 1 + 1 + 1 + 1 + 1 + 1 + 1 + 1 by omega]; exact R9, G9⟩
      case measure => simp [intOf]; omega
    · obtain rfl : j = n := by omega
      have F := Lib.hid (show wr.ownsRow base 27 8 (.slice (some ⟨g, 0, none⟩) j c) j (dls (mkd k j)) by
        have := RK.out
        rw [show j * 8 = (dls (mkd k j)).length by rw [dls_len, mkd_len], mixed_all HL.out] at this
        exact this)
      have HQ := Lib.hid hq
      clear hq R0
      go_wp2_with fail
      go_ret
      exact ⟨by rw [HQ.out]; congr 1, F.out, GK.out⟩

set_option maxHeartbeats 4000000 in
set_option maxRecDepth 100000 in
theorem heldDeviceS (A : Option Addr) (n c k : Nat) (w : World) (hb : n ≤ 1048576) (hk0 : 0 < k) (hk : k ≤ 8388608) (hr : Rd w w.heap.size A (dls (mkd k n))) :
    Calls Try.prog 83 #[.slice A n c, .int .i64 k] w fun e w' => e = .returned (.int .i64 ((k : Int) + ((n * 8 : Nat) : Int))) ∧ Below w.heap.size w w' := by
  have HR := Lib.hid hr
  clear hr
  go_enter Try.func83, Try.ntmps83
  go_wp2_with fail
  go_loopw [1, 5] (fun q i wr => ∃ j : Nat, j ≤ n ∧ i = .int .i64 j ∧ q = .int .i64 ((k : Int) + ((j * 8 : Nat) : Int)) ∧ Hid (Below w.heap.size w wr)) (fun _ i _ => n - (intOf i).toNat)
  case atStart => exact ⟨0, Nat.zero_le _, rfl, by simp, Lib.hid (Below.refl _ _)⟩
  case round =>
    obtain ⟨j, hj, rfl, rfl, BK⟩ := hrel
    obtain ⟨q, hq⟩ : ∃ q : Nat, q = k + j * 8 := ⟨_, rfl⟩
    rw [show (k : Int) + ((j * 8 : Nat) : Int) = (q : Int) by omega]
    by_cases hlt : j < n
    · obtain ⟨b, o, eA, hbl, hcell⟩ := (HR.out.below BK.out).get (k := j * 8) (by rw [dls_len, mkd_len]; omega)
      have hm := mkd_get (k := k) hlt
      rw [← hq] at hm
      obtain ⟨v0, v1, v2, v3, v4, v5, v6, v7⟩ := dls_get (zs := mkd k n) (k := j) (n := M q) (q := (q : Int) + 1) (l := M (q + 2)) (x := (q : Int) + 1 + 1 + 1) (y := (q : Int) + 1 + 1 + 1 + 1) (h := (q : Int) + 1 + 1 + 1 + 1 + 1) (t := (q : Int) + 1 + 1 + 1 + 1 + 1 + 1) (m := (q : Int) + 1 + 1 + 1 + 1 + 1 + 1 + 1) hm
      obtain ⟨m0, hm0⟩ : ∃ m, M q = m := ⟨_, rfl⟩
      obtain ⟨m2, hm2⟩ : ∃ m, M (q + 2) = m := ⟨_, rfl⟩
      rw [hm0] at v0
      rw [hm2] at v2
      have c0 := hcell _ _ v0
      have c1 := hcell _ _ v1
      rw [← Nat.add_assoc] at c1
      have c2 := hcell _ _ v2
      rw [← Nat.add_assoc] at c2
      have c3 := hcell _ _ v3
      rw [← Nat.add_assoc] at c3
      have c4 := hcell _ _ v4
      rw [← Nat.add_assoc] at c4
      have c5 := hcell _ _ v5
      rw [← Nat.add_assoc] at c5
      have c6 := hcell _ _ v6
      rw [← Nat.add_assoc] at c6
      have c7 := hcell _ _ v7
      rw [← Nat.add_assoc] at c7
      have C0 := Lib.hid (fun W => by have C := markText q W (by omega) (by omega); rw [hm0] at C; exact C)
      have C2 := Lib.hid (fun W => by have C := markText (q + 2) W (by omega) (by omega); rw [hm2, show ((q + 2 : Nat) : Int) = (q : Int) + 1 + 1 by omega] at C; exact C)
      have HQ := Lib.hid hq
      have hq8 : q ≤ 20971520 := by omega
      have s0 : (m0.toList == m0.toList) = true := by simp
      have s2 : (m2.toList == m2.toList) = true := by simp
      have hu : undef = Value.tuple #[] := rfl
      clear v0 v1 v2 v3 v4 v5 v6 v7 hm hm0 hm2 hq hcell hbl
      subst eA
      go_wp2_with fail
      refine wp_region_noPanic ?_
      refine wp_region_held_drew (S := (fun w' => w'.cell? ⟨b, o + j * 8, none⟩ = some (.string m0) ∧ w'.cell? ⟨b, o + j * 8 + 1, none⟩ = some (.int .i64 ((q : Int) + 1)) ∧ w'.cell? ⟨b, o + j * 8 + 2, none⟩ = some (.string m2) ∧ w'.cell? ⟨b, o + j * 8 + 3, none⟩ = some (.int .i64 ((q : Int) + 1 + 1 + 1)) ∧ w'.cell? ⟨b, o + j * 8 + 4, none⟩ = some (.int .i64 ((q : Int) + 1 + 1 + 1 + 1)) ∧ w'.cell? ⟨b, o + j * 8 + 5, none⟩ = some (.int .i64 ((q : Int) + 1 + 1 + 1 + 1 + 1)) ∧ w'.cell? ⟨b, o + j * 8 + 6, none⟩ = some (.int .i64 ((q : Int) + 1 + 1 + 1 + 1 + 1 + 1)) ∧ w'.cell? ⟨b, o + j * 8 + 7, none⟩ = some (.int .i64 ((q : Int) + 1 + 1 + 1 + 1 + 1 + 1 + 1)) ∧ Below wr.heap.size wr w')) (by kernel_rfl) ?_ (fun hH => ?_)
      · exact ⟨c0, c1, c2, c3, c4, c5, c6, c7, (Below.refl _ _).drew⟩
      refine wpAnyH_take (i := 0) (oi := { dst := some 12, op := _, type := _, pos := _, after := _, guard := _ }) (v := ?_) rfl (by kernel_rfl) (by kernel_rfl) (by kernel_rfl) (fun _ _ _ h => h) (Or.inl ⟨by rfl, ?_⟩) hH ?_
      rotate_left 1
      · intro W hSw
        (try dsimp only at hSw)
        go_simp
        (try with_reducible rfl)
      try simp only [Act.put, List.setIfInBounds_toArray, List.set_cons_zero, List.set_cons_succ]
      refine wpAnyH_take (i := 1) (oi := { dst := some 13, op := _, type := _, pos := _, after := _, guard := _ }) (v := ?_) rfl (by kernel_rfl) (by kernel_rfl) (by kernel_rfl) (fun _ _ _ h => h) (Or.inl ⟨by rfl, ?_⟩) hH ?_
      rotate_left 1
      · intro W hSw
        (try dsimp only at hSw)
        go_simp
        (try with_reducible rfl)
      try simp only [Act.put, List.setIfInBounds_toArray, List.set_cons_zero, List.set_cons_succ]
      refine wpAnyH_take (i := 2) (oi := { dst := some 14, op := _, type := _, pos := _, after := _, guard := _ }) (v := ?_) rfl (by kernel_rfl) (by kernel_rfl) (by kernel_rfl) (fun _ _ _ h => h) (Or.inl ⟨by rfl, ?_⟩) hH ?_
      rotate_left 1
      · intro W hSw
        (try dsimp only at hSw)
        go_simp
        (try with_reducible rfl)
      try simp only [Act.put, List.setIfInBounds_toArray, List.set_cons_zero, List.set_cons_succ]
      refine wpAnyH_take (i := 3) (oi := { dst := some 15, op := _, type := _, pos := _, after := _, guard := _ }) (v := ?_) rfl (by kernel_rfl) (by kernel_rfl) (by kernel_rfl) (fun _ _ _ h => h) (Or.inl ⟨by rfl, ?_⟩) hH ?_
      rotate_left 1
      · intro W hSw
        (try dsimp only at hSw)
        go_simp
        (try with_reducible rfl)
      try simp only [Act.put, List.setIfInBounds_toArray, List.set_cons_zero, List.set_cons_succ]
      refine wpAnyH_take (i := 4) (oi := { dst := some 16, op := _, type := _, pos := _, after := _, guard := _ }) (v := ?_) rfl (by kernel_rfl) (by kernel_rfl) (by kernel_rfl) (fun _ _ _ h => h) (Or.inl ⟨by rfl, ?_⟩) hH ?_
      rotate_left 1
      · intro W hSw
        (try dsimp only at hSw)
        go_simp
        (try with_reducible rfl)
      try simp only [Act.put, List.setIfInBounds_toArray, List.set_cons_zero, List.set_cons_succ]
      refine wpAnyH_take (i := 5) (oi := { dst := some 17, op := _, type := _, pos := _, after := _, guard := _ }) (v := ?_) rfl (by kernel_rfl) (by kernel_rfl) (by kernel_rfl) (fun _ _ _ h => h) (Or.inl ⟨by rfl, ?_⟩) hH ?_
      rotate_left 1
      · intro W hSw
        (try dsimp only at hSw)
        go_simp
        (try with_reducible rfl)
      try simp only [Act.put, List.setIfInBounds_toArray, List.set_cons_zero, List.set_cons_succ]
      refine wpAnyH_ready (rs := [6]) (by kernel_rfl) (by simp) (AllReadyH.cons rfl (fun K hK => ?_) AllReadyH.nil)
      go_simp
      go_at_call 103; ((with_reducible refine (C0.out _).mono ?_); rintro e r1 ⟨rfl, hb9⟩); go_wp2_with fail
      refine hK.out _ _ ?_ (fun hG => ?_)
      · exact ⟨cell_below hb9 hH.1, cell_below hb9 hH.2.1, cell_below hb9 hH.2.2.1, cell_below hb9 hH.2.2.2.1, cell_below hb9 hH.2.2.2.2.1, cell_below hb9 hH.2.2.2.2.2.1, cell_below hb9 hH.2.2.2.2.2.2.1, cell_below hb9 hH.2.2.2.2.2.2.2.1, Below.trans hH.2.2.2.2.2.2.2.2 (hb9.mono hH.2.2.2.2.2.2.2.2.size)⟩
      replace hH := hG
      clear hK K hG
      try simp only [Act.put, List.setIfInBounds_toArray, List.set_cons_zero, List.set_cons_succ]
      refine wpAnyH_take (i := 7) (oi := { dst := some 19, op := _, type := _, pos := _, after := _, guard := _ }) (v := ?_) rfl (by kernel_rfl) (by kernel_rfl) (by kernel_rfl) (fun _ _ _ h => h) (Or.inl ⟨by rfl, ?_⟩) hH ?_
      rotate_left 1
      · intro W hSw
        (try dsimp only at hSw)
        go_simp
        (try with_reducible rfl)
      try simp only [Act.put, List.setIfInBounds_toArray, List.set_cons_zero, List.set_cons_succ]
      refine wpAnyH_done (by kernel_rfl) ?_ _
      refine NoPanic.normal ?_
      obtain ⟨e0, e1, e2, e3, e4, e5, e6, e7, hB⟩ := hH
      have B1 := Lib.hid (BK.out.trans (hB.mono BK.out.size))
      clear hB c0 c1 c2 c3 c4 c5 c6 c7 BK C0
      go_wp2_with fail
      refine wp_region_noPanic ?_
      refine wp_region_held_drew (S := (fun w' => w'.cell? ⟨b, o + j * 8, none⟩ = some (.string m0) ∧ w'.cell? ⟨b, o + j * 8 + 1, none⟩ = some (.int .i64 ((q : Int) + 1)) ∧ w'.cell? ⟨b, o + j * 8 + 2, none⟩ = some (.string m2) ∧ w'.cell? ⟨b, o + j * 8 + 3, none⟩ = some (.int .i64 ((q : Int) + 1 + 1 + 1)) ∧ w'.cell? ⟨b, o + j * 8 + 4, none⟩ = some (.int .i64 ((q : Int) + 1 + 1 + 1 + 1)) ∧ w'.cell? ⟨b, o + j * 8 + 5, none⟩ = some (.int .i64 ((q : Int) + 1 + 1 + 1 + 1 + 1)) ∧ w'.cell? ⟨b, o + j * 8 + 6, none⟩ = some (.int .i64 ((q : Int) + 1 + 1 + 1 + 1 + 1 + 1)) ∧ w'.cell? ⟨b, o + j * 8 + 7, none⟩ = some (.int .i64 ((q : Int) + 1 + 1 + 1 + 1 + 1 + 1 + 1)) ∧ Below r1.heap.size r1 w')) (by kernel_rfl) ?_ (fun hH => ?_)
      · exact ⟨e0, e1, e2, e3, e4, e5, e6, e7, (Below.refl _ _).drew⟩
      refine wpAnyH_take (i := 0) (oi := { dst := some 31, op := _, type := _, pos := _, after := _, guard := _ }) (v := ?_) rfl (by kernel_rfl) (by kernel_rfl) (by kernel_rfl) (fun _ _ _ h => h) (Or.inl ⟨by rfl, ?_⟩) hH ?_
      rotate_left 1
      · intro W hSw
        (try dsimp only at hSw)
        go_simp
        (try with_reducible rfl)
      try simp only [Act.put, List.setIfInBounds_toArray, List.set_cons_zero, List.set_cons_succ]
      refine wpAnyH_take (i := 1) (oi := { dst := some 32, op := _, type := _, pos := _, after := _, guard := _ }) (v := ?_) rfl (by kernel_rfl) (by kernel_rfl) (by kernel_rfl) (fun _ _ _ h => h) (Or.inl ⟨by rfl, ?_⟩) hH ?_
      rotate_left 1
      · intro W hSw
        (try dsimp only at hSw)
        go_simp
        (try with_reducible rfl)
      try simp only [Act.put, List.setIfInBounds_toArray, List.set_cons_zero, List.set_cons_succ]
      refine wpAnyH_take (i := 2) (oi := { dst := some 33, op := _, type := _, pos := _, after := _, guard := _ }) (v := ?_) rfl (by kernel_rfl) (by kernel_rfl) (by kernel_rfl) (fun _ _ _ h => h) (Or.inl ⟨by rfl, ?_⟩) hH ?_
      rotate_left 1
      · intro W hSw
        (try dsimp only at hSw)
        go_simp
        (try with_reducible rfl)
      try simp only [Act.put, List.setIfInBounds_toArray, List.set_cons_zero, List.set_cons_succ]
      refine wpAnyH_take (i := 3) (oi := { dst := some 34, op := _, type := _, pos := _, after := _, guard := _ }) (v := ?_) rfl (by kernel_rfl) (by kernel_rfl) (by kernel_rfl) (fun _ _ _ h => h) (Or.inl ⟨by rfl, ?_⟩) hH ?_
      rotate_left 1
      · intro W hSw
        (try dsimp only at hSw)
        go_simp
        (try with_reducible rfl)
      try simp only [Act.put, List.setIfInBounds_toArray, List.set_cons_zero, List.set_cons_succ]
      refine wpAnyH_take (i := 4) (oi := { dst := some 35, op := _, type := _, pos := _, after := _, guard := _ }) (v := ?_) rfl (by kernel_rfl) (by kernel_rfl) (by kernel_rfl) (fun _ _ _ h => h) (Or.inl ⟨by rfl, ?_⟩) hH ?_
      rotate_left 1
      · intro W hSw
        (try dsimp only at hSw)
        go_simp
        (try with_reducible rfl)
      try simp only [Act.put, List.setIfInBounds_toArray, List.set_cons_zero, List.set_cons_succ]
      refine wpAnyH_take (i := 5) (oi := { dst := some 36, op := _, type := _, pos := _, after := _, guard := _ }) (v := ?_) rfl (by kernel_rfl) (by kernel_rfl) (by kernel_rfl) (fun _ _ _ h => h) (Or.inl ⟨by rfl, ?_⟩) hH ?_
      rotate_left 1
      · intro W hSw
        (try dsimp only at hSw)
        go_simp
        (try with_reducible rfl)
      try simp only [Act.put, List.setIfInBounds_toArray, List.set_cons_zero, List.set_cons_succ]
      refine wpAnyH_ready (rs := [6]) (by kernel_rfl) (by simp) (AllReadyH.cons rfl (fun K hK => ?_) AllReadyH.nil)
      go_simp
      go_at_call 103; ((with_reducible refine (C2.out _).mono ?_); rintro e r2 ⟨rfl, hb9⟩); go_wp2_with fail
      refine hK.out _ _ ?_ (fun hG => ?_)
      · exact ⟨cell_below hb9 hH.1, cell_below hb9 hH.2.1, cell_below hb9 hH.2.2.1, cell_below hb9 hH.2.2.2.1, cell_below hb9 hH.2.2.2.2.1, cell_below hb9 hH.2.2.2.2.2.1, cell_below hb9 hH.2.2.2.2.2.2.1, cell_below hb9 hH.2.2.2.2.2.2.2.1, Below.trans hH.2.2.2.2.2.2.2.2 (hb9.mono hH.2.2.2.2.2.2.2.2.size)⟩
      replace hH := hG
      clear hK K hG
      try simp only [Act.put, List.setIfInBounds_toArray, List.set_cons_zero, List.set_cons_succ]
      refine wpAnyH_take (i := 7) (oi := { dst := some 38, op := _, type := _, pos := _, after := _, guard := _ }) (v := ?_) rfl (by kernel_rfl) (by kernel_rfl) (by kernel_rfl) (fun _ _ _ h => h) (Or.inl ⟨by rfl, ?_⟩) hH ?_
      rotate_left 1
      · intro W hSw
        (try dsimp only at hSw)
        go_simp
        (try with_reducible rfl)
      try simp only [Act.put, List.setIfInBounds_toArray, List.set_cons_zero, List.set_cons_succ]
      refine wpAnyH_done (by kernel_rfl) ?_ _
      refine NoPanic.normal ?_
      obtain ⟨c0, c1, c2, c3, c4, c5, c6, c7, hB⟩ := hH
      have B2 := Lib.hid (B1.out.trans (hB.mono B1.out.size))
      clear hB e0 e1 e2 e3 e4 e5 e6 e7 B1 C2
      go_wp2_with fail
      go_roundw
      case rel => first | exact ⟨j + 1, by omega, by go_num, by (have := HQ.out; congr 1; omega), B2⟩ | ((repeat apply Exists.intro); exact ⟨⟨j + 1, by omega, by go_num, by (have := HQ.out; congr 1; omega), B2⟩, rfl⟩)
      case measure => simp [intOf]; omega
    · obtain rfl : j = n := by omega
      have HQ := Lib.hid hq
      clear hq
      go_wp2_with fail
      go_ret
      exact ⟨by rw [HQ.out]; congr 1, BK.out⟩

end Go.Proofs.Ytokncfhpmjohdae.Dmk
namespace Go.Proofs.Ytokncfhpmjohdae.Cmk
open Go.RowKit Go.ChangeShapes Go.WideShapes Go.WideElems Go.Deep Go.Proofs.Ytokncfhpmjohdae.Mem Go.Proofs.Ytokncfhpmjohdae.Rw Go.Proofs.Ytokncfhpmjohdae.Cd Go.Proofs.Ytokncfhpmjohdae.Cl
open Go.Proofs.Ytokncfhpmjohdae.Mark (M markText)
open Go.Proofs.Ytokncfhpmjohdae.Rw (owns_below)
open Go.Proofs.Ytokncfhpmjohdae.P2 (cell_below)
set_option linter.unusedVariables false
set_option linter.unusedSimpArgs false

/-- A cue of marks from q on. -/
def mkq (q : Nat) : C := ⟨(q : Int), M (q + 1), (q : Int) + 1 + 1, (q : Int) + 1 + 1 + 1⟩
/-- n cues of marks from k on. -/
def mkd (k n : Nat) : List C := (List.range n).map fun j => mkq (k + j * 4)
theorem mkd_len (k n : Nat) : (mkd k n).length = n := by simp [mkd]
theorem mkd_get {k n j : Nat} (h : j < n) : (mkd k n)[j]? = some (mkq (k + j * 4)) := by
  unfold mkd; rw [List.getElem?_map, List.getElem?_range h]; rfl

/-- The marks are laid; what lies in other blocks is as it was. -/
def Laid (w : World) (base g n c k : Nat) (e : Ending) (w' : World) : Prop :=
  e = .returned (.int .i64 ((k : Int) + ((n * 4 : Nat) : Int))) ∧ w'.ownsRow base 134 4 (.slice (some ⟨g, 0, none⟩) n c) n (dls (mkd k n)) ∧ w.grownBy w' (some g)
theorem below_grown {w w' : World} {r : Option Nat} (h : Below w.heap.size w w') : w.grownBy w' r := ⟨h.os, h.tape, h.output, h.size, fun j hj _ => h.block j hj⟩

set_option maxHeartbeats 4000000 in
set_option maxRecDepth 100000 in
theorem markCueS (base g n c k : Nat) (zs : List C) (w : World) (hn : zs.length = n) (hb : n ≤ 1048576) (hk0 : 0 < k) (hk : k ≤ 16777216) (hr : w.ownsRow base 134 4 (.slice (some ⟨g, 0, none⟩) n c) n (dls zs)) :
    Calls Try.prog 81 #[.slice (some ⟨g, 0, none⟩) n c, .int .i64 k] w (Laid w base g n c k) := by
  have HN := Lib.hid hn
  have HL := Lib.hid (show (dls zs).length = (dls (mkd k n)).length by rw [dls_len, dls_len, mkd_len, hn])
  have R0 := Lib.hid (show w.ownsRow base 134 4 (.slice (some ⟨g, 0, none⟩) n c) n (mixed (dls (mkd k n)) (dls zs) 0) by rw [mixed_zero]; exact hr)
  clear hn hr
  go_enter Try.func81, Try.ntmps81
  go_wp2_with fail
  go_loopw [1, 5] (fun q i wr => ∃ j : Nat, j ≤ n ∧ i = .int .i64 j ∧ q = .int .i64 ((k : Int) + ((j * 4 : Nat) : Int)) ∧ Hid (wr.ownsRow base 134 4 (.slice (some ⟨g, 0, none⟩) n c) n (mixed (dls (mkd k n)) (dls zs) (j * 4))) ∧ Hid (w.grownBy wr (some g))) (fun _ i _ => n - (intOf i).toNat)
  case atStart => exact ⟨0, Nat.zero_le _, rfl, by simp, R0, Lib.hid (grown_refl _ _)⟩
  case round =>
    obtain ⟨j, hj, rfl, rfl, RK, GK⟩ := hrel
    obtain ⟨q, hq⟩ : ∃ q : Nat, q = k + j * 4 := ⟨_, rfl⟩
    rw [show (k : Int) + ((j * 4 : Nat) : Int) = (q : Int) by omega]
    by_cases hlt : j < n
    · obtain ⟨z, hz⟩ : ∃ z, zs[j]? = some z := ⟨_, List.getElem?_eq_getElem (by rw [HN.out]; exact hlt)⟩
      obtain ⟨t_, n_, l_, r_⟩ := z
      obtain ⟨y0, y1, y2, y3⟩ := dls_get hz
      have hm := mkd_get (k := k) hlt
      rw [← hq] at hm
      obtain ⟨v0, v1, v2, v3⟩ := dls_get (zs := mkd k n) (k := j) (t := (q : Int)) (n := M (q + 1)) (l := (q : Int) + 1 + 1) (r := (q : Int) + 1 + 1 + 1) hm
      obtain ⟨m1, hm1⟩ : ∃ m, M (q + 1) = m := ⟨_, rfl⟩
      rw [hm1] at v1
      have C1 := Lib.hid (fun W => by have C := markText (q + 1) W (by omega) (by omega); rw [hm1, show ((q + 1 : Nat) : Int) = (q : Int) + 1 by omega] at C; exact C)
      have V := Lib.hid (⟨v0, v1, v2, v3⟩ : _ ∧ _ ∧ _ ∧ _)
      have Y := Lib.hid (⟨y0, y1, y2, y3⟩ : _ ∧ _ ∧ _ ∧ _)
      have HQ := Lib.hid hq
      have hq8 : q ≤ 20971520 := by omega
      have HJ : j * 4 + 3 < n * 4 := by omega
      have hl8 := HL.out
      clear v0 v1 v2 v3 y0 y1 y2 y3 hm hm1 hz hq R0
      have c0 := (RK.out.cellAt (j * 4) (by omega)).trans (mixed_at HL.out (by omega) Y.out.1)
      have f0 := RK.out.frozenAt (j * 4)
      obtain ⟨r0, g0⟩ := RK.out.stored (j * 4) (.int .i64 ((q : Int)))
      rw [mixed_put HL.out V.out.1] at r0
      have RR := Lib.hid r0
      have GG := Lib.hid (grown_trans GK.out g0)
      clear r0 g0 RK GK
      go_wp2_with fail
      refine (C1.out _).mono ?_
      rintro e w2 ⟨rfl, b2⟩
      have R2 := owns_below RR.out b2
      have G2 := grown_trans GG.out (below_grown (r := some g) b2)
      clear c0 f0
      have c1 := (R2.cellAt (j * 4 + 1) (by omega)).trans (mixed_at HL.out (by omega) Y.out.2.1)
      have f1 := R2.frozenAt (j * 4 + 1)
      obtain ⟨r1, g1⟩ := R2.stored (j * 4 + 1) (.string m1)
      rw [mixed_put HL.out V.out.2.1] at r1
      have c2 := (r1.cellAt (j * 4 + 2) (by omega)).trans (mixed_at HL.out (by omega) Y.out.2.2.1)
      have f2 := r1.frozenAt (j * 4 + 2)
      obtain ⟨r2, g2⟩ := r1.stored (j * 4 + 1 + 1) (.int .i64 ((q : Int) + 1 + 1))
      rw [mixed_put HL.out V.out.2.2.1] at r2
      have c3 := (r2.cellAt (j * 4 + 3) (by omega)).trans (mixed_at HL.out (by omega) Y.out.2.2.2)
      have f3 := r2.frozenAt (j * 4 + 3)
      obtain ⟨r3, g3⟩ := r2.stored (j * 4 + 1 + 1 + 1) (.int .i64 ((q : Int) + 1 + 1 + 1))
      rw [mixed_put HL.out V.out.2.2.2] at r3
      have R9 := Lib.hid r3
      have G9 := Lib.hid (grown_trans (grown_trans (grown_trans G2 g1) g2) g3)
      clear r1 g1 r2 g2 r3 g3 R2 G2 RR GG b2 C1 hl8
      go_wp2_with fail
      go_roundw
      case rel => exact ⟨j + 1, by omega, by go_num, by (have := HQ.out; congr 1; omega), by rw [show (j + 1) * 4 = j * 4 + 1 + 1 + 1 + 1 by omega]; exact R9, G9⟩
      case measure => simp [intOf]; omega
    · obtain rfl : j = n := by omega
      have F := Lib.hid (show wr.ownsRow base 134 4 (.slice (some ⟨g, 0, none⟩) j c) j (dls (mkd k j)) by
        have := RK.out
        rw [show j * 4 = (dls (mkd k j)).length by rw [dls_len, mkd_len], mixed_all HL.out] at this
        exact this)
      have HQ := Lib.hid hq
      clear hq R0
      go_wp2_with fail
      go_ret
      exact ⟨by rw [HQ.out]; congr 1, F.out, GK.out⟩

set_option maxHeartbeats 4000000 in
set_option maxRecDepth 100000 in
theorem heldCueS (A : Option Addr) (n c k : Nat) (w : World) (hb : n ≤ 1048576) (hk0 : 0 < k) (hk : k ≤ 16777216) (hr : Rd w w.heap.size A (dls (mkd k n))) :
    Calls Try.prog 84 #[.slice A n c, .int .i64 k] w fun e w' => e = .returned (.int .i64 ((k : Int) + ((n * 4 : Nat) : Int))) ∧ Below w.heap.size w w' := by
  have HR := Lib.hid hr
  clear hr
  go_enter Try.func84, Try.ntmps84
  go_wp2_with fail
  go_loopw [1, 5] (fun q i wr => ∃ j : Nat, j ≤ n ∧ i = .int .i64 j ∧ q = .int .i64 ((k : Int) + ((j * 4 : Nat) : Int)) ∧ Hid (Below w.heap.size w wr)) (fun _ i _ => n - (intOf i).toNat)
  case atStart => exact ⟨0, Nat.zero_le _, rfl, by simp, Lib.hid (Below.refl _ _)⟩
  case round =>
    obtain ⟨j, hj, rfl, rfl, BK⟩ := hrel
    obtain ⟨q, hq⟩ : ∃ q : Nat, q = k + j * 4 := ⟨_, rfl⟩
    rw [show (k : Int) + ((j * 4 : Nat) : Int) = (q : Int) by omega]
    by_cases hlt : j < n
    · obtain ⟨b, o, eA, hbl, hcell⟩ := (HR.out.below BK.out).get (k := j * 4) (by rw [dls_len, mkd_len]; omega)
      have hm := mkd_get (k := k) hlt
      rw [← hq] at hm
      obtain ⟨v0, v1, v2, v3⟩ := dls_get (zs := mkd k n) (k := j) (t := (q : Int)) (n := M (q + 1)) (l := (q : Int) + 1 + 1) (r := (q : Int) + 1 + 1 + 1) hm
      obtain ⟨m1, hm1⟩ : ∃ m, M (q + 1) = m := ⟨_, rfl⟩
      rw [hm1] at v1
      have c0 := hcell _ _ v0
      have c1 := hcell _ _ v1
      rw [← Nat.add_assoc] at c1
      have c2 := hcell _ _ v2
      rw [← Nat.add_assoc] at c2
      have c3 := hcell _ _ v3
      rw [← Nat.add_assoc] at c3
      have C1 := Lib.hid (fun W => by have C := markText (q + 1) W (by omega) (by omega); rw [hm1, show ((q + 1 : Nat) : Int) = (q : Int) + 1 by omega] at C; exact C)
      have HQ := Lib.hid hq
      have hq8 : q ≤ 20971520 := by omega
      have s1 : (m1.toList == m1.toList) = true := by simp
      have hu : undef = Value.tuple #[] := rfl
      clear v0 v1 v2 v3 hm hm1 hq hcell hbl
      subst eA
      go_wp2_with fail
      refine wp_region_noPanic ?_
      refine wp_region_held_drew (S := (fun w' => w'.cell? ⟨b, o + j * 4, none⟩ = some (.int .i64 ((q : Int))) ∧ w'.cell? ⟨b, o + j * 4 + 1, none⟩ = some (.string m1) ∧ w'.cell? ⟨b, o + j * 4 + 2, none⟩ = some (.int .i64 ((q : Int) + 1 + 1)) ∧ w'.cell? ⟨b, o + j * 4 + 3, none⟩ = some (.int .i64 ((q : Int) + 1 + 1 + 1)) ∧ Below wr.heap.size wr w')) (by kernel_rfl) ?_ (fun hH => ?_)
      · exact ⟨c0, c1, c2, c3, (Below.refl _ _).drew⟩
      refine wpAnyH_take (i := 0) (oi := { dst := some 21, op := _, type := _, pos := _, after := _, guard := _ }) (v := ?_) rfl (by kernel_rfl) (by kernel_rfl) (by kernel_rfl) (fun _ _ _ h => h) (Or.inl ⟨by rfl, ?_⟩) hH ?_
      rotate_left 1
      · intro W hSw
        (try dsimp only at hSw)
        go_simp
        (try with_reducible rfl)
      try simp only [Act.put, List.setIfInBounds_toArray, List.set_cons_zero, List.set_cons_succ]
      refine wpAnyH_take (i := 1) (oi := { dst := some 22, op := _, type := _, pos := _, after := _, guard := _ }) (v := ?_) rfl (by kernel_rfl) (by kernel_rfl) (by kernel_rfl) (fun _ _ _ h => h) (Or.inl ⟨by rfl, ?_⟩) hH ?_
      rotate_left 1
      · intro W hSw
        (try dsimp only at hSw)
        go_simp
        (try with_reducible rfl)
      try simp only [Act.put, List.setIfInBounds_toArray, List.set_cons_zero, List.set_cons_succ]
      refine wpAnyH_take (i := 2) (oi := { dst := some 23, op := _, type := _, pos := _, after := _, guard := _ }) (v := ?_) rfl (by kernel_rfl) (by kernel_rfl) (by kernel_rfl) (fun _ _ _ h => h) (Or.inl ⟨by rfl, ?_⟩) hH ?_
      rotate_left 1
      · intro W hSw
        (try dsimp only at hSw)
        go_simp
        (try with_reducible rfl)
      try simp only [Act.put, List.setIfInBounds_toArray, List.set_cons_zero, List.set_cons_succ]
      refine wpAnyH_take (i := 3) (oi := { dst := some 24, op := _, type := _, pos := _, after := _, guard := _ }) (v := ?_) rfl (by kernel_rfl) (by kernel_rfl) (by kernel_rfl) (fun _ _ _ h => h) (Or.inl ⟨by rfl, ?_⟩) hH ?_
      rotate_left 1
      · intro W hSw
        (try dsimp only at hSw)
        go_simp
        (try with_reducible rfl)
      try simp only [Act.put, List.setIfInBounds_toArray, List.set_cons_zero, List.set_cons_succ]
      refine wpAnyH_take (i := 4) (oi := { dst := some 25, op := _, type := _, pos := _, after := _, guard := _ }) (v := ?_) rfl (by kernel_rfl) (by kernel_rfl) (by kernel_rfl) (fun _ _ _ h => h) (Or.inl ⟨by rfl, ?_⟩) hH ?_
      rotate_left 1
      · intro W hSw
        (try dsimp only at hSw)
        go_simp
        (try with_reducible rfl)
      try simp only [Act.put, List.setIfInBounds_toArray, List.set_cons_zero, List.set_cons_succ]
      refine wpAnyH_take (i := 5) (oi := { dst := some 26, op := _, type := _, pos := _, after := _, guard := _ }) (v := ?_) rfl (by kernel_rfl) (by kernel_rfl) (by kernel_rfl) (fun _ _ _ h => h) (Or.inl ⟨by rfl, ?_⟩) hH ?_
      rotate_left 1
      · intro W hSw
        (try dsimp only at hSw)
        go_simp
        (try with_reducible rfl)
      try simp only [Act.put, List.setIfInBounds_toArray, List.set_cons_zero, List.set_cons_succ]
      refine wpAnyH_ready (rs := [6]) (by kernel_rfl) (by simp) (AllReadyH.cons rfl (fun K hK => ?_) AllReadyH.nil)
      go_simp
      go_at_call 103; ((with_reducible refine (C1.out _).mono ?_); rintro e r1 ⟨rfl, hb9⟩); go_wp2_with fail
      refine hK.out _ _ ?_ (fun hG => ?_)
      · exact ⟨cell_below hb9 hH.1, cell_below hb9 hH.2.1, cell_below hb9 hH.2.2.1, cell_below hb9 hH.2.2.2.1, Below.trans hH.2.2.2.2 (hb9.mono hH.2.2.2.2.size)⟩
      replace hH := hG
      clear hK K hG
      try simp only [Act.put, List.setIfInBounds_toArray, List.set_cons_zero, List.set_cons_succ]
      refine wpAnyH_take (i := 7) (oi := { dst := some 28, op := _, type := _, pos := _, after := _, guard := _ }) (v := ?_) rfl (by kernel_rfl) (by kernel_rfl) (by kernel_rfl) (fun _ _ _ h => h) (Or.inl ⟨by rfl, ?_⟩) hH ?_
      rotate_left 1
      · intro W hSw
        (try dsimp only at hSw)
        go_simp
        (try with_reducible rfl)
      try simp only [Act.put, List.setIfInBounds_toArray, List.set_cons_zero, List.set_cons_succ]
      refine wpAnyH_done (by kernel_rfl) ?_ _
      refine NoPanic.normal ?_
      obtain ⟨e0, e1, e2, e3, hB⟩ := hH
      have B1 := Lib.hid (BK.out.trans (hB.mono BK.out.size))
      clear hB c0 c1 c2 c3 BK C1
      go_wp2_with fail
      go_roundw
      case rel => first | exact ⟨j + 1, by omega, by go_num, by (have := HQ.out; congr 1; omega), B1⟩ | ((repeat apply Exists.intro); exact ⟨⟨j + 1, by omega, by go_num, by (have := HQ.out; congr 1; omega), B1⟩, rfl⟩)
      case measure => simp [intOf]; omega
    · obtain rfl : j = n := by omega
      have HQ := Lib.hid hq
      clear hq
      go_wp2_with fail
      go_ret
      exact ⟨by rw [HQ.out]; congr 1, BK.out⟩

end Go.Proofs.Ytokncfhpmjohdae.Cmk
namespace Go.Proofs.Ytokncfhpmjohdae.Mk9
open Go.RowKit Go.ChangeShapes Go.WideShapes Go.WideElems Go.Deep Go.Proofs.Ytokncfhpmjohdae.Mem Go.Proofs.Ytokncfhpmjohdae.Rw Go.Proofs.Ytokncfhpmjohdae.P2 Go.Proofs.Ytokncfhpmjohdae.Bk Go.Proofs.Ytokncfhpmjohdae.Sp Go.Proofs.Ytokncfhpmjohdae.Sq Go.Proofs.Ytokncfhpmjohdae.St9
set_option linter.unusedVariables false
set_option linter.unusedSimpArgs false

/-- Three rows were written into, one behind the other. -/
def G3 (w w' : World) (g0 g1 g2 : Nat) : Prop := ∃ a b, w.grownBy a (some g0) ∧ a.grownBy b (some g1) ∧ b.grownBy w' (some g2)
theorem ne_blk {g : Nat} {n c b : Nat} (hb : b ≠ g) : ∀ k, (Value.slice (some ⟨g, 0, none⟩) n c).ownBlock = some k → some b ≠ some k := by
  intro k hk e
  have hk : g = k := Option.some.inj hk
  have e := Option.some.inj e
  omega
theorem G3.own {w w' : World} {g0 g1 g2 : Nat} (h : G3 w w' g0 g1 g2) {base : Nat} {e : TypeId} {s g n c : Nat} {xs : List Value} (o : w.ownsRow base e s (.slice (some ⟨g, 0, none⟩) n c) n xs) (h0 : g0 ≠ g) (h1 : g1 ≠ g) (h2 : g2 ≠ g) :
    w'.ownsRow base e s (.slice (some ⟨g, 0, none⟩) n c) n xs :=
  let ⟨_, _, a, b, c⟩ := h; owns_grown (owns_grown (owns_grown o a (ne_blk h0)) b (ne_blk h1)) c (ne_blk h2)
theorem G3.bk {w w' : World} {g0 g1 g2 b : Nat} (h : G3 w w' g0 g1 g2) {cs : Array Value} {T : TypeId} (k : Bk w b cs T) (h0 : g0 ≠ b) (h1 : g1 ≠ b) (h2 : g2 ≠ b) : Bk w' b cs T :=
  let ⟨_, _, x, y, z⟩ := h; ((k.grown x (fun e => h0 (Option.some.inj e))).grown y (fun e => h1 (Option.some.inj e))).grown z (fun e => h2 (Option.some.inj e))
theorem G3.below {w0 w w' : World} {g0 g1 g2 : Nat} (h : G3 w w' g0 g1 g2) (b : Below w0.heap.size w0 w) (h0 : w0.heap.size ≤ g0) (h1 : w0.heap.size ≤ g1) (h2 : w0.heap.size ≤ g2) : Below w0.heap.size w0 w' := by
  obtain ⟨_, _, x, y, z⟩ := h
  have b1 := b.grown x b.size (fun k e => by have e := Option.some.inj e; omega)
  have b2 := b1.grown y b1.size (fun k e => by have e := Option.some.inj e; omega)
  exact b2.grown z b2.size (fun k e => by have e := Option.some.inj e; omega)
theorem below_grown {w w' : World} {r : Option Nat} (h : Below w.heap.size w w') : w.grownBy w' r := ⟨h.os, h.tape, h.output, h.size, fun j hj _ => h.block j hj⟩

/-- The marks of a show. -/
def mD (n0 : Nat) : List Value := Dd.dls (Dmk.mkd 1 n0)
def mC (n0 n1 : Nat) : List Value := Cd.dls (Cmk.mkd (1 + n0 * 8) n1)
def mG (n0 n1 n2 : Nat) : List Value := Rw.mk (1 + n0 * 8 + n1 * 4) (n2 * 3)
theorem ret_int {a b : Int} (h : a = b) : Ending.returned (.int .i64 a) = .returned (.int .i64 b) := by rw [h]

set_option maxRecDepth 100000 in
set_option maxHeartbeats 2000000 in
theorem markShow (B n0 n1 n2 g0 g1 g2 c0 c1 c2 : Nat) (T : Int) (ds : List D) (cs : List C) (gs : List G) (w : World) (hf : Fit n0 n1 n2 ds cs gs) (hs : n0 + n1 + n2 ≤ 2097152) (h01 : g0 < g1) (h12 : g1 < g2)
    (o0 : w.ownsRow B 27 8 (.slice (some ⟨g0, 0, none⟩) n0 c0) n0 (Dd.dls ds)) (o1 : w.ownsRow B 134 4 (.slice (some ⟨g1, 0, none⟩) n1 c1) n1 (Cd.dls cs)) (o2 : w.ownsRow B 137 3 (.slice (some ⟨g2, 0, none⟩) n2 c2) n2 (Gs.gls gs)) :
    Calls Try.prog 44 #[sv (some ⟨g0, 0, none⟩) n0 c0 (some ⟨g1, 0, none⟩) n1 c1 (some ⟨g2, 0, none⟩) n2 c2 T, .int .i64 1] w fun e w' => e = .returned (.int .i64 ((1 + n0 * 8 + n1 * 4 + n2 * 3 : Nat) : Int)) ∧
      w'.ownsRow B 27 8 (.slice (some ⟨g0, 0, none⟩) n0 c0) n0 (mD n0) ∧ w'.ownsRow B 134 4 (.slice (some ⟨g1, 0, none⟩) n1 c1) n1 (mC n0 n1) ∧ w'.ownsRow B 137 3 (.slice (some ⟨g2, 0, none⟩) n2 c2) n2 (mG n0 n1 n2) ∧ G3 w w' g0 g1 g2 := by
  obtain ⟨⟨hn0, hb0⟩, ⟨hn1, hb1⟩, hn2, hb2⟩ := hf
  obtain ⟨k1, hk1⟩ : ∃ k, 1 + n0 * 8 = k := ⟨_, rfl⟩
  obtain ⟨k2, hk2⟩ : ∃ k, k1 + n1 * 4 = k := ⟨_, rfl⟩
  obtain ⟨k3, hk3⟩ : ∃ k, k2 + n2 * 3 = k := ⟨_, rfl⟩
  have m0 := o0.lt g0 rfl
  have m1 := o1.lt g1 rfl
  have m2 := o2.lt g2 rfl
  have C0 := Lib.hid (fun (W : World) h => (by have := Dmk.markDeviceS B g0 n0 c0 1 ds W hn0 hb0 (by omega) (by omega) h; unfold Dmk.Laid at this; rw [show (((1 : Nat) : Int) + ((n0 * 8 : Nat) : Int)) = (k1 : Int) by omega, show ((1 : Nat) : Int) = 1 by omega] at this; exact this :
    Calls Try.prog 80 #[.slice (some ⟨g0, 0, none⟩) n0 c0, .int .i64 1] W _))
  have C1 := Lib.hid (fun (W : World) h => (by have := Cmk.markCueS B g1 n1 c1 k1 cs W hn1 hb1 (by omega) (by omega) h; unfold Cmk.Laid at this; rw [show (((k1 : Nat) : Int) + ((n1 * 4 : Nat) : Int)) = (k2 : Int) by omega] at this; exact this :
    Calls Try.prog 81 #[.slice (some ⟨g1, 0, none⟩) n1 c1, .int .i64 (k1 : Int)] W _))
  have C2 := Lib.hid (fun (W : World) h => (by have := Gs.markGustS B g2 n2 c2 k2 (Gs.gls gs) W (by rw [Gs.gls_len, hn2]) hb2 (by omega) h; unfold Gs.Laid at this; rw [show (((k2 : Nat) : Int) + ((n2 * 3 : Nat) : Int)) = (k3 : Int) by omega] at this; exact this :
    Calls Try.prog 82 #[.slice (some ⟨g2, 0, none⟩) n2 c2, .int .i64 (k2 : Int)] W _))
  have E := Lib.hid (show mD n0 = Dd.dls (Dmk.mkd 1 n0) ∧ mC n0 n1 = Cd.dls (Cmk.mkd k1 n1) ∧ mG n0 n1 n2 = Rw.mk k2 (n2 * 3) ∧ ((1 + n0 * 8 + n1 * 4 + n2 * 3 : Nat) : Int) = (k3 : Int) from ⟨rfl, by rw [← hk1]; rfl, by rw [← hk2, ← hk1]; rfl, by omega⟩)
  have BX := Lib.hid ((Below.refl w.heap.size w).alloc (Nat.le_refl _) (.cells (sc (some ⟨g0, 0, none⟩) n0 c0 (some ⟨g1, 0, none⟩) n1 c1 (some ⟨g2, 0, none⟩) n2 c2 T) 46))
  have K0 := Lib.hid (Bk.new w (sc (some ⟨g0, 0, none⟩) n0 c0 (some ⟨g1, 0, none⟩) n1 c1 (some ⟨g2, 0, none⟩) n2 c2 T) 46)
  have O0 := Lib.hid (o0.alloc (.cells (sc (some ⟨g0, 0, none⟩) n0 c0 (some ⟨g1, 0, none⟩) n1 c1 (some ⟨g2, 0, none⟩) n2 c2 T) 46))
  have O1 := Lib.hid (o1.alloc (.cells (sc (some ⟨g0, 0, none⟩) n0 c0 (some ⟨g1, 0, none⟩) n1 c1 (some ⟨g2, 0, none⟩) n2 c2 T) 46))
  have O2 := Lib.hid (o2.alloc (.cells (sc (some ⟨g0, 0, none⟩) n0 c0 (some ⟨g1, 0, none⟩) n1 c1 (some ⟨g2, 0, none⟩) n2 c2 T) 46))
  rw [E.out.2.2.2]
  clear o0 o1 o2 hk1 hk2 hk3 hn0 hn1 hn2 hb0 hb1 hb2 hs
  go_enter Try.func44, Try.ntmps44
  go_wp2_with fail
  refine (C0.out _ O0.out).mono ?_
  rintro e u1 ⟨rfl, p0, q0⟩
  have K1 := Lib.hid (K0.out.grown q0 (fun e => by have e := Option.some.inj e; omega))
  have P0 := Lib.hid p0
  have P1 := Lib.hid (owns_grown O1.out q0 (ne_blk (by omega)))
  have P2 := Lib.hid (owns_grown O2.out q0 (ne_blk (by omega)))
  have Q0 := Lib.hid (grown_trans (below_grown BX.out) q0)
  have y1 := K1.out.cell (i := 1) rfl
  clear p0 q0 K0 O0 O1 O2 BX C0
  go_wp2_with fail
  refine (C1.out _ P1.out).mono ?_
  rintro e u2 ⟨rfl, p1, q1⟩
  have K2 := Lib.hid (K1.out.grown q1 (fun e => by have e := Option.some.inj e; omega))
  have R0 := Lib.hid (owns_grown P0.out q1 (ne_blk (by omega)))
  have R1 := Lib.hid p1
  have R2 := Lib.hid (owns_grown P2.out q1 (ne_blk (by omega)))
  have Q1 := Lib.hid q1
  have y2 := K2.out.cell (i := 2) rfl
  clear p1 q1 K1 P0 P1 P2 C1 y1
  go_wp2_with fail
  refine (C2.out _ R2.out).mono ?_
  rintro e u3 ⟨rfl, p2, q2⟩
  have S0 := Lib.hid (owns_grown R0.out q2 (ne_blk (by omega)))
  have S1 := Lib.hid (owns_grown R1.out q2 (ne_blk (by omega)))
  have S2 := Lib.hid p2
  have Q2 := Lib.hid q2
  clear p2 q2 K2 R0 R1 R2 C2 y2
  go_wp2_with fail
  go_ret
  rw [E.out.1, E.out.2.1, E.out.2.2.1]
  exact ⟨rfl, S0.out, S1.out, S2.out, _, _, Q0.out, Q1.out, Q2.out⟩

set_option maxRecDepth 100000 in
set_option maxHeartbeats 2000000 in
theorem heldShow (n0 n1 n2 c0 c1 c2 : Nat) (A0 A1 A2 : Option Addr) (T : Int) (w : World) (hs : n0 + n1 + n2 ≤ 2097152) (hb0 : n0 ≤ 1048576) (hb1 : n1 ≤ 1048576) (hb2 : n2 ≤ 1048576)
    (r0 : Rd w w.heap.size A0 (mD n0)) (r1 : Rd w w.heap.size A1 (mC n0 n1)) (r2 : Rd w w.heap.size A2 (mG n0 n1 n2)) :
    Calls Try.prog 46 #[sv A0 n0 c0 A1 n1 c1 A2 n2 c2 T, .int .i64 1] w fun e w' => e = .returned (.int .i64 ((1 + n0 * 8 + n1 * 4 + n2 * 3 : Nat) : Int)) ∧ Below w.heap.size w w' := by
  obtain ⟨k1, hk1⟩ : ∃ k, 1 + n0 * 8 = k := ⟨_, rfl⟩
  obtain ⟨k2, hk2⟩ : ∃ k, k1 + n1 * 4 = k := ⟨_, rfl⟩
  obtain ⟨k3, hk3⟩ : ∃ k, k2 + n2 * 3 = k := ⟨_, rfl⟩
  have C0 := Lib.hid (fun (W : World) h => (by have := Dmk.heldDeviceS A0 n0 c0 1 W hb0 (by omega) (by omega) h; rw [show (((1 : Nat) : Int) + ((n0 * 8 : Nat) : Int)) = (k1 : Int) by omega, show ((1 : Nat) : Int) = 1 by omega] at this; exact this :
    Calls Try.prog 83 #[.slice A0 n0 c0, .int .i64 1] W _))
  have C1 := Lib.hid (fun (W : World) h => (by have := Cmk.heldCueS A1 n1 c1 k1 W hb1 (by omega) (by omega) h; rw [show (((k1 : Nat) : Int) + ((n1 * 4 : Nat) : Int)) = (k2 : Int) by omega] at this; exact this :
    Calls Try.prog 84 #[.slice A1 n1 c1, .int .i64 (k1 : Int)] W _))
  have C2 := Lib.hid (fun (W : World) (h : Rd W W.heap.size A2 (Rw.mk k2 (n2 * 3))) => (by have := Gs.heldGustS A2 n2 c2 k2 W.heap.size W hb2 (by omega) h; rw [show (((k2 : Nat) : Int) + ((n2 * 3 : Nat) : Int)) = (k3 : Int) by omega] at this; exact this :
    Calls Try.prog 85 #[.slice A2 n2 c2, .int .i64 (k2 : Int)] W _))
  have BX := Lib.hid ((Below.refl w.heap.size w).alloc (Nat.le_refl _) (.cells (sc A0 n0 c0 A1 n1 c1 A2 n2 c2 T) 46))
  have K0 := Lib.hid (Bk.new w (sc A0 n0 c0 A1 n1 c1 A2 n2 c2 T) 46)
  have H0 := Lib.hid (show Rd w w.heap.size A0 (Dd.dls (Dmk.mkd 1 n0)) from r0)
  have H1 := Lib.hid (show Rd w w.heap.size A1 (Cd.dls (Cmk.mkd k1 n1)) by rw [← hk1]; exact r1)
  have H2 := Lib.hid (show Rd w w.heap.size A2 (Rw.mk k2 (n2 * 3)) by rw [← hk2, ← hk1]; exact r2)
  have p1 : ¬ (k1 : Int) < 0 := by omega
  have p2 : ¬ (k2 : Int) < 0 := by omega
  have p3 : ¬ (k3 : Int) < 0 := by omega
  rw [show ((1 + n0 * 8 + n1 * 4 + n2 * 3 : Nat) : Int) = (k3 : Int) by omega]
  clear r0 r1 r2 hk1 hk2 hk3 hs hb0 hb1 hb2
  go_enter Try.func46, Try.ntmps46
  go_wp2_with fail
  refine (C0.out _ ((H0.out.below BX.out).more BX.out.size)).mono ?_
  rintro e u1 ⟨rfl, hb⟩
  have K1 := Lib.hid (K0.out.below hb)
  have B1 := Lib.hid (BX.out.trans (hb.mono BX.out.size))
  have y1 := K1.out.cell (i := 1) rfl
  clear hb K0 BX C0 H0
  go_wp2_with fail
  refine (C1.out _ ((H1.out.below B1.out).more B1.out.size)).mono ?_
  rintro e u2 ⟨rfl, hb⟩
  have K2 := Lib.hid (K1.out.below hb)
  have B2 := Lib.hid (B1.out.trans (hb.mono B1.out.size))
  have y2 := K2.out.cell (i := 2) rfl
  clear hb K1 B1 C1 H1 y1
  go_wp2_with fail
  refine (C2.out _ ((H2.out.below B2.out).more B2.out.size)).mono ?_
  rintro e u3 ⟨rfl, rfl⟩
  clear K2 C2 H2 y2
  go_wp2_with fail
  go_ret
  exact ⟨rfl, B2.out⟩
end Go.Proofs.Ytokncfhpmjohdae.Mk9
namespace Go.Proofs.Ytokncfhpmjohdae.Mn9
open Go.RowKit Go.ChangeShapes Go.WideShapes Go.WideElems Go.Deep Go.Proofs.Ytokncfhpmjohdae.Mem Go.Proofs.Ytokncfhpmjohdae.Rw Go.Proofs.Ytokncfhpmjohdae.P2 Go.Proofs.Ytokncfhpmjohdae.Bk Go.Proofs.Ytokncfhpmjohdae.Sp Go.Proofs.Ytokncfhpmjohdae.Sq Go.Proofs.Ytokncfhpmjohdae.St9
set_option linter.unusedVariables false
set_option linter.unusedSimpArgs false
theorem markD0 (w : World) : Calls Try.prog 80 #[.slice none 0 0, .int .i64 1] w fun e w' => e = .returned (.int .i64 1) ∧ Below w.heap.size w w' := by
  go_enter Try.func80, Try.ntmps80
  go_wp2_with fail
  refine wp_loop_rounds 2 ?_
  repeat any_goals (rw [rounds_succ]; go_wp2_with fail)
  go_ret
  exact ⟨rfl, Below.refl _ _⟩
theorem markC0 (w : World) : Calls Try.prog 81 #[.slice none 0 0, .int .i64 1] w fun e w' => e = .returned (.int .i64 1) ∧ Below w.heap.size w w' := by
  go_enter Try.func81, Try.ntmps81
  go_wp2_with fail
  refine wp_loop_rounds 2 ?_
  repeat any_goals (rw [rounds_succ]; go_wp2_with fail)
  go_ret
  exact ⟨rfl, Below.refl _ _⟩
theorem markG0 (w : World) : Calls Try.prog 82 #[.slice none 0 0, .int .i64 1] w fun e w' => e = .returned (.int .i64 1) ∧ Below w.heap.size w w' := by
  go_enter Try.func82, Try.ntmps82
  go_wp2_with fail
  refine wp_loop_rounds 2 ?_
  repeat any_goals (rw [rounds_succ]; go_wp2_with fail)
  go_ret
  exact ⟨rfl, Below.refl _ _⟩
set_option maxRecDepth 100000 in
theorem markNil (w : World) : Calls Try.prog 44 #[.agg #[.slice none 0 0, .slice none 0 0, .slice none 0 0, .int .i64 0], .int .i64 1] w fun e w' => e = .returned (.int .i64 1) ∧ Below w.heap.size w w' := by
  have B0 := Lib.hid ((Below.refl w.heap.size w).alloc (Nat.le_refl _) (.cells zc 46))
  have K0 := Lib.hid (Bk.new w zc 46)
  go_enter Try.func44, Try.ntmps44
  go_wp2_with fail
  refine (markD0 _).mono ?_
  rintro e u1 ⟨rfl, hb⟩
  have K1 := Lib.hid (K0.out.below hb)
  have B1 := Lib.hid (B0.out.trans (hb.mono B0.out.size))
  have y1 := K1.out.cell (i := 1) rfl
  clear hb K0 B0
  go_wp2_with fail
  refine (markC0 _).mono ?_
  rintro e u2 ⟨rfl, hb⟩
  have K2 := Lib.hid (K1.out.below hb)
  have B2 := Lib.hid (B1.out.trans (hb.mono B1.out.size))
  have y2 := K2.out.cell (i := 2) rfl
  clear hb K1 B1 y1
  go_wp2_with fail
  refine (markG0 _).mono ?_
  rintro e u3 ⟨rfl, hb⟩
  have B3 := Lib.hid (B2.out.trans (hb.mono B2.out.size))
  clear hb K2 B2 y2
  go_wp2_with fail
  go_ret
  exact ⟨rfl, B3.out⟩
end Go.Proofs.Ytokncfhpmjohdae.Mn9
