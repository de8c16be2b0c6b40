/- The marks that the laws lay into a list of texts: what they are, that they are laid, and that they are found. -/
import Derived.Test.YtokncfhpmjohdaaGreatM10
import Derived.Test.YtokncfhpmjohdaaGreatEqs
import Derived.Deep.RegionHeld3
import Derived.Test.YtokncfhpmjohdaaGreatM4
set_option linter.unusedVariables false
set_option linter.unusedSimpArgs false
namespace Go.Proofs.YtokncfhpmjohdaaGreat.Mark
open Go.RowKit Go.Proofs.YtokncfhpmjohdaaGreat.Mem Go.Proofs.YtokncfhpmjohdaaGreat.Strs Go.Proofs.YtokncfhpmjohdaaGreat.Fmt

/-- The digits that are still to be written. -/
def D (v : Nat) : List UInt8 := if v = 0 then [] else Lib.decDigits v
theorem D_zero : D 0 = [] := rfl
theorem D_pos {v : Nat} (h : 0 < v) : D v = D (v / 10) ++ [UInt8.ofNat (48 + v % 10)] := by
  unfold D
  rw [if_neg (by omega)]
  by_cases h1 : v < 10
  · rw [if_pos (by omega), digits_one v h1, Nat.mod_eq_of_lt h1]; rfl
  · rw [if_neg (by omega), digits_step v h1]
theorem D_len (v : Nat) (h : v ≤ 9223372036854775807) : (txt (D v)).size ≤ 19 := by
  have e : (txt (D v)).size = (D v).length := by rw [Lib.size_eq]; rfl
  rw [e]
  unfold D
  split
  · exact Nat.zero_le _
  · exact digits_len 18 v (Nat.lt_of_le_of_lt h (by decide))
/-- The mark's text. -/
def M (v : Nat) : ByteArray := txt [109] ++ txt (D v)
theorem txt_nil : txt [] = ByteArray.empty := rfl
theorem ret_str {a b : ByteArray} (h : a = b) : Ending.returned (.string a) = .returned (.string b) := by rw [h]

set_option maxRecDepth 100000 in
set_option maxHeartbeats 1000000 in
theorem markText (v : Nat) (w : World) (h1 : 0 < v) (h2 : v ≤ 9223372036854775807) : Calls Tryz.prog 97 #[.int .i64 v] w (Wrote (M v) w) := by
  go_enter Tryz.func97, Tryz.ntmps97
  go_wp2_with fail
  go_loopw [0, 3] (fun n t wr => ∃ u : Nat, n = .int .i64 u ∧ u ≤ 9223372036854775807 ∧ ∃ x : ByteArray, t = .string x ∧ Hid (txt (D u) ++ x = txt (D v)) ∧ Hid (Below w.heap.size w wr)) (fun n _ _ => (intOf n).toNat)
  case atStart => exact ⟨v, rfl, h2, _, rfl, Lib.hid (by rw [show ((⟨#[]⟩ : ByteArray)) = txt [] from rfl, txt_append, List.append_nil]), Lib.hid (Below.refl _ _)⟩
  case round =>
    obtain ⟨u, rfl, hu, x, rfl, HX, HB⟩ := hrel
    have hx : x.size ≤ 19 := by
      have e := congrArg ByteArray.size HX.out
      rw [ByteArray.size_append] at e
      have := D_len v h2
      omega
    by_cases h0 : 0 < u
    · have hc := digit_conv wr (u % 10) (Nat.mod_lt _ (by decide))
      have HX2 := Lib.hid (show txt (D (u / 10)) ++ (txt [UInt8.ofNat (48 + u % 10)] ++ x) = txt (D v) by
        rw [← HX.out, D_pos h0, ← txt_append, ByteArray.append_assoc])
      have HB2 := Lib.hid (show Below w.heap.size w (wr.alloc (.cells #[.int .u8 (48 + ((u % 10 : Nat) : Int))] 5)) from HB.out.alloc HB.out.size _)
      obtain ⟨d, hd⟩ : ∃ d, txt [UInt8.ofNat (48 + u % 10)] = d := ⟨_, rfl⟩
      have hds : d.size ≤ 1 := by rw [← hd]; exact Nat.le_refl _
      rw [hd] at hc HX2
      have e10 : ((u % 10 : Nat) : Int) = (u : Int) % 10 := by omega
      rw [e10] at hc HB2
      clear e10 hd HX HB
      go_wp2_with fail
      go_roundw
      case rel => exact ⟨u / 10, by first | rfl | (congr 1; omega), by omega, _, rfl, HX2, HB2⟩
      case measure => simp [intOf]; omega
    · obtain rfl : u = 0 := by omega
      have F := Lib.hid (show txt [109] ++ x = M v by
        unfold M
        rw [← HX.out, D_zero, txt_nil, ByteArray.empty_append])
      go_wp2_with fail
      go_ret
      exact ⟨ret_str F.out, HB.out⟩

/-- n marks from k on. -/
def marks (k n : Nat) : List ByteArray := (List.range n).map fun j => M (k + j)
def Laid (w : World) (B base g n c k : Nat) (e : Ending) (w' : World) : Prop :=
  e = .returned (.int .i64 ((k : Int) + n)) ∧ w'.ownsRow base 9 1 (.slice (some ⟨g, 0, none⟩) n c) n (strs (marks k n)) ∧ Below B w w'

def Held (w : World) (n k : Nat) (e : Ending) (w' : World) : Prop := e = .returned (.int .i64 ((k : Int) + n)) ∧ Below w.heap.size w w'

end Go.Proofs.YtokncfhpmjohdaaGreat.Mark
namespace Go.Proofs.YtokncfhpmjohdaaGreat.Dmk
open Go.RowKit Go.ChangeShapes Go.WideShapes Go.WideElems Go.Deep Go.Proofs.YtokncfhpmjohdaaGreat.Mem Go.Proofs.YtokncfhpmjohdaaGreat.Rw Go.Proofs.YtokncfhpmjohdaaGreat.Dd Go.Proofs.YtokncfhpmjohdaaGreat.Dl
open Go.Proofs.YtokncfhpmjohdaaGreat.Mark (M markText)
open Go.Proofs.YtokncfhpmjohdaaGreat.Rw (owns_below)
open Go.Proofs.YtokncfhpmjohdaaGreat.P2 (cell_below)
set_option linter.unusedVariables false
set_option linter.unusedSimpArgs false

/-- A device of marks from q on. -/
def mkq (q : Nat) : D := ⟨M q, (q : Int) + 1, M (q + 2), (q : Int) + 1 + 1 + 1, (q : Int) + 1 + 1 + 1 + 1, (q : Int) + 1 + 1 + 1 + 1 + 1, (q : Int) + 1 + 1 + 1 + 1 + 1 + 1, (q : Int) + 1 + 1 + 1 + 1 + 1 + 1 + 1⟩
/-- n devices of marks from k on. -/
def mkd (k n : Nat) : List D := (List.range n).map fun j => mkq (k + j * 8)
theorem mkd_len (k n : Nat) : (mkd k n).length = n := by simp [mkd]
theorem mkd_get {k n j : Nat} (h : j < n) : (mkd k n)[j]? = some (mkq (k + j * 8)) := by
  unfold mkd; rw [List.getElem?_map, List.getElem?_range h]; rfl

/-- The marks are laid; what lies in other blocks is as it was. -/
def Laid (w : World) (base g n c k : Nat) (e : Ending) (w' : World) : Prop :=
  e = .returned (.int .i64 ((k : Int) + ((n * 8 : Nat) : Int))) ∧ w'.ownsRow base 98 8 (.slice (some ⟨g, 0, none⟩) n c) n (dls (mkd k n)) ∧ w.grownBy w' (some g)
theorem below_grown {w w' : World} {r : Option Nat} (h : Below w.heap.size w w') : w.grownBy w' r := ⟨h.os, h.tape, h.output, h.size, fun j hj _ => h.block j hj⟩

set_option maxHeartbeats 4000000 in
set_option maxRecDepth 100000 in
theorem markDeviceS (base g n c k : Nat) (zs : List D) (w : World) (hn : zs.length = n) (hb : n ≤ 1048576) (hk0 : 0 < k) (hk : k ≤ 8388608) (hr : w.ownsRow base 98 8 (.slice (some ⟨g, 0, none⟩) n c) n (dls zs)) :
    Calls Tryz.prog 51 #[.slice (some ⟨g, 0, none⟩) n c, .int .i64 k] w (Laid w base g n c k) := by
  have HN := Lib.hid hn
  have HL := Lib.hid (show (dls zs).length = (dls (mkd k n)).length by rw [dls_len, dls_len, mkd_len, hn])
  have R0 := Lib.hid (show w.ownsRow base 98 8 (.slice (some ⟨g, 0, none⟩) n c) n (mixed (dls (mkd k n)) (dls zs) 0) by rw [mixed_zero]; exact hr)
  clear hn hr
  go_enter Tryz.func51, Tryz.ntmps51
  go_wp2_with fail
  go_loopw [1, 5] (fun q i wr => ∃ j : Nat, j ≤ n ∧ i = .int .i64 j ∧ q = .int .i64 ((k : Int) + ((j * 8 : Nat) : Int)) ∧ Hid (wr.ownsRow base 98 8 (.slice (some ⟨g, 0, none⟩) n c) n (mixed (dls (mkd k n)) (dls zs) (j * 8))) ∧ Hid (w.grownBy wr (some g))) (fun _ i _ => n - (intOf i).toNat)
  case atStart => exact ⟨0, Nat.zero_le _, rfl, by simp, R0, Lib.hid (grown_refl _ _)⟩
  case round =>
    obtain ⟨j, hj, rfl, rfl, RK, GK⟩ := hrel
    obtain ⟨q, hq⟩ : ∃ q : Nat, q = k + j * 8 := ⟨_, rfl⟩
    rw [show (k : Int) + ((j * 8 : Nat) : Int) = (q : Int) by omega]
    by_cases hlt : j < n
    · obtain ⟨z, hz⟩ : ∃ z, zs[j]? = some z := ⟨_, List.getElem?_eq_getElem (by rw [HN.out]; exact hlt)⟩
      obtain ⟨n_, q_, l_, x_, y_, h_, t_, m_⟩ := z
      obtain ⟨y0, y1, y2, y3, y4, y5, y6, y7⟩ := dls_get hz
      have hm := mkd_get (k := k) hlt
      rw [← hq] at hm
      obtain ⟨v0, v1, v2, v3, v4, v5, v6, v7⟩ := dls_get (zs := mkd k n) (k := j) (n := M q) (q := (q : Int) + 1) (l := M (q + 2)) (x := (q : Int) + 1 + 1 + 1) (y := (q : Int) + 1 + 1 + 1 + 1) (h := (q : Int) + 1 + 1 + 1 + 1 + 1) (t := (q : Int) + 1 + 1 + 1 + 1 + 1 + 1) (m := (q : Int) + 1 + 1 + 1 + 1 + 1 + 1 + 1) hm
      obtain ⟨m0, hm0⟩ : ∃ m, M q = m := ⟨_, rfl⟩
      obtain ⟨m2, hm2⟩ : ∃ m, M (q + 2) = m := ⟨_, rfl⟩
      rw [hm0] at v0
      rw [hm2] at v2
      have C0 := Lib.hid (fun W => by have C := markText q W (by omega) (by omega); rw [hm0] at C; exact C)
      have C2 := Lib.hid (fun W => by have C := markText (q + 2) W (by omega) (by omega); rw [hm2, show ((q + 2 : Nat) : Int) = (q : Int) + 1 + 1 by omega] at C; exact C)
      have V := Lib.hid (⟨v0, v1, v2, v3, v4, v5, v6, v7⟩ : _ ∧ _ ∧ _ ∧ _ ∧ _ ∧ _ ∧ _ ∧ _)
      have Y := Lib.hid (⟨y0, y1, y2, y3, y4, y5, y6, y7⟩ : _ ∧ _ ∧ _ ∧ _ ∧ _ ∧ _ ∧ _ ∧ _)
      have HQ := Lib.hid hq
      have hq8 : q ≤ 20971520 := by omega
      have HJ : j * 8 + 7 < n * 8 := by omega
      clear v0 v1 v2 v3 v4 v5 v6 v7 y0 y1 y2 y3 y4 y5 y6 y7 hm hm0 hm2 hz hq R0
      go_wp2_with fail
      refine (C0.out _).mono ?_
      rintro e w1 ⟨rfl, b1⟩
      have R1 := owns_below RK.out b1
      have G1 := grown_trans GK.out (below_grown (r := some g) b1)
      have hl8 := HL.out
      have c0 := (R1.cellAt (j * 8) (by omega)).trans (mixed_at HL.out (by omega) Y.out.1)
      have f0 := R1.frozenAt (j * 8)
      obtain ⟨r0, g0⟩ := R1.stored (j * 8) (.string m0)
      rw [mixed_put HL.out V.out.1] at r0
      have c1 := (r0.cellAt (j * 8 + 1) (by omega)).trans (mixed_at HL.out (by omega) Y.out.2.1)
      have f1 := r0.frozenAt (j * 8 + 1)
      obtain ⟨r1, g1⟩ := r0.stored (j * 8 + 1) (.int .i64 ((q : Int) + 1))
      rw [mixed_put HL.out V.out.2.1] at r1
      have RR := Lib.hid r1
      have GG := Lib.hid (grown_trans (grown_trans G1 g0) g1)
      clear r0 r1 g0 g1 R1 G1 RK GK b1 C0 hl8
      go_wp2_with fail
      refine (C2.out _).mono ?_
      rintro e w2 ⟨rfl, b2⟩
      have R2 := owns_below RR.out b2
      have G2 := grown_trans GG.out (below_grown (r := some g) b2)
      clear c0 f0 c1 f1
      have c2 := (R2.cellAt (j * 8 + 2) (by omega)).trans (mixed_at HL.out (by omega) Y.out.2.2.1)
      have f2 := R2.frozenAt (j * 8 + 2)
      obtain ⟨r2, g2⟩ := R2.stored (j * 8 + 1 + 1) (.string m2)
      rw [mixed_put HL.out V.out.2.2.1] at r2
      have c3 := (r2.cellAt (j * 8 + 3) (by omega)).trans (mixed_at HL.out (by omega) Y.out.2.2.2.1)
      have f3 := r2.frozenAt (j * 8 + 3)
      obtain ⟨r3, g3⟩ := r2.stored (j * 8 + 1 + 1 + 1) (.int .i64 ((q : Int) + 1 + 1 + 1))
      rw [mixed_put HL.out V.out.2.2.2.1] at r3
      have c4 := (r3.cellAt (j * 8 + 4) (by omega)).trans (mixed_at HL.out (by omega) Y.out.2.2.2.2.1)
      have f4 := r3.frozenAt (j * 8 + 4)
      obtain ⟨r4, g4⟩ := r3.stored (j * 8 + 1 + 1 + 1 + 1) (.int .i64 ((q : Int) + 1 + 1 + 1 + 1))
      rw [mixed_put HL.out V.out.2.2.2.2.1] at r4
      have c5 := (r4.cellAt (j * 8 + 5) (by omega)).trans (mixed_at HL.out (by omega) Y.out.2.2.2.2.2.1)
      have f5 := r4.frozenAt (j * 8 + 5)
      obtain ⟨r5, g5⟩ := r4.stored (j * 8 + 1 + 1 + 1 + 1 + 1) (.int .i64 ((q : Int) + 1 + 1 + 1 + 1 + 1))
      rw [mixed_put HL.out V.out.2.2.2.2.2.1] at r5
      have c6 := (r5.cellAt (j * 8 + 6) (by omega)).trans (mixed_at HL.out (by omega) Y.out.2.2.2.2.2.2.1)
      have f6 := r5.frozenAt (j * 8 + 6)
      obtain ⟨r6, g6⟩ := r5.stored (j * 8 + 1 + 1 + 1 + 1 + 1 + 1) (.int .i64 ((q : Int) + 1 + 1 + 1 + 1 + 1 + 1))
      rw [mixed_put HL.out V.out.2.2.2.2.2.2.1] at r6
      have c7 := (r6.cellAt (j * 8 + 7) (by omega)).trans (mixed_at HL.out (by omega) Y.out.2.2.2.2.2.2.2)
      have f7 := r6.frozenAt (j * 8 + 7)
      obtain ⟨r7, g7⟩ := r6.stored (j * 8 + 1 + 1 + 1 + 1 + 1 + 1 + 1) (.int .i64 ((q : Int) + 1 + 1 + 1 + 1 + 1 + 1 + 1))
      rw [mixed_put HL.out V.out.2.2.2.2.2.2.2] at r7
      have R9 := Lib.hid r7
      have G9 := Lib.hid (grown_trans (grown_trans (grown_trans (grown_trans (grown_trans (grown_trans G2 g2) g3) g4) g5) g6) g7)
      clear r2 g2 r3 g3 r4 g4 r5 g5 r6 g6 r7 g7 R2 G2 RR GG b2 C2
      go_wp2_with fail
      go_roundw
      case rel => exact ⟨j + 1, by omega, by go_num, by (have := HQ.out; congr 1; omega), by rw [show (j + 1) * 8 = j * 8 + 1 + 1 + 1 + 1 + 1 + 1 + 1 + 1 by omega]; exact R9, G9⟩
      case measure => simp [intOf]; omega
    · obtain rfl : j = n := by omega
      have F := Lib.hid (show wr.ownsRow base 98 8 (.slice (some ⟨g, 0, none⟩) j c) j (dls (mkd k j)) by
        have := RK.out
        rw [show j * 8 = (dls (mkd k j)).length by rw [dls_len, mkd_len], mixed_all HL.out] at this
        exact this)
      have HQ := Lib.hid hq
      clear hq R0
      go_wp2_with fail
      go_ret
      exact ⟨by rw [HQ.out]; congr 1, F.out, GK.out⟩

end Go.Proofs.YtokncfhpmjohdaaGreat.Dmk
namespace Go.Proofs.YtokncfhpmjohdaaGreat.Cmk
open Go.RowKit Go.ChangeShapes Go.WideShapes Go.WideElems Go.Deep Go.Proofs.YtokncfhpmjohdaaGreat.Mem Go.Proofs.YtokncfhpmjohdaaGreat.Rw Go.Proofs.YtokncfhpmjohdaaGreat.Cd Go.Proofs.YtokncfhpmjohdaaGreat.Cl
open Go.Proofs.YtokncfhpmjohdaaGreat.Mark (M markText)
open Go.Proofs.YtokncfhpmjohdaaGreat.Rw (owns_below)
open Go.Proofs.YtokncfhpmjohdaaGreat.P2 (cell_below)
set_option linter.unusedVariables false
set_option linter.unusedSimpArgs false

/-- A cue of marks from q on. -/
def mkq (q : Nat) : C := ⟨(q : Int), M (q + 1), (q : Int) + 1 + 1, (q : Int) + 1 + 1 + 1⟩
/-- n cues of marks from k on. -/
def mkd (k n : Nat) : List C := (List.range n).map fun j => mkq (k + j * 4)
theorem mkd_len (k n : Nat) : (mkd k n).length = n := by simp [mkd]
theorem mkd_get {k n j : Nat} (h : j < n) : (mkd k n)[j]? = some (mkq (k + j * 4)) := by
  unfold mkd; rw [List.getElem?_map, List.getElem?_range h]; rfl

/-- The marks are laid; what lies in other blocks is as it was. -/
def Laid (w : World) (base g n c k : Nat) (e : Ending) (w' : World) : Prop :=
  e = .returned (.int .i64 ((k : Int) + ((n * 4 : Nat) : Int))) ∧ w'.ownsRow base 126 4 (.slice (some ⟨g, 0, none⟩) n c) n (dls (mkd k n)) ∧ w.grownBy w' (some g)
theorem below_grown {w w' : World} {r : Option Nat} (h : Below w.heap.size w w') : w.grownBy w' r := ⟨h.os, h.tape, h.output, h.size, fun j hj _ => h.block j hj⟩

set_option maxHeartbeats 4000000 in
set_option maxRecDepth 100000 in
theorem markCueS (base g n c k : Nat) (zs : List C) (w : World) (hn : zs.length = n) (hb : n ≤ 1048576) (hk0 : 0 < k) (hk : k ≤ 16777216) (hr : w.ownsRow base 126 4 (.slice (some ⟨g, 0, none⟩) n c) n (dls zs)) :
    Calls Tryz.prog 52 #[.slice (some ⟨g, 0, none⟩) n c, .int .i64 k] w (Laid w base g n c k) := by
  have HN := Lib.hid hn
  have HL := Lib.hid (show (dls zs).length = (dls (mkd k n)).length by rw [dls_len, dls_len, mkd_len, hn])
  have R0 := Lib.hid (show w.ownsRow base 126 4 (.slice (some ⟨g, 0, none⟩) n c) n (mixed (dls (mkd k n)) (dls zs) 0) by rw [mixed_zero]; exact hr)
  clear hn hr
  go_enter Tryz.func52, Tryz.ntmps52
  go_wp2_with fail
  go_loopw [1, 5] (fun q i wr => ∃ j : Nat, j ≤ n ∧ i = .int .i64 j ∧ q = .int .i64 ((k : Int) + ((j * 4 : Nat) : Int)) ∧ Hid (wr.ownsRow base 126 4 (.slice (some ⟨g, 0, none⟩) n c) n (mixed (dls (mkd k n)) (dls zs) (j * 4))) ∧ Hid (w.grownBy wr (some g))) (fun _ i _ => n - (intOf i).toNat)
  case atStart => exact ⟨0, Nat.zero_le _, rfl, by simp, R0, Lib.hid (grown_refl _ _)⟩
  case round =>
    obtain ⟨j, hj, rfl, rfl, RK, GK⟩ := hrel
    obtain ⟨q, hq⟩ : ∃ q : Nat, q = k + j * 4 := ⟨_, rfl⟩
    rw [show (k : Int) + ((j * 4 : Nat) : Int) = (q : Int) by omega]
    by_cases hlt : j < n
    · obtain ⟨z, hz⟩ : ∃ z, zs[j]? = some z := ⟨_, List.getElem?_eq_getElem (by rw [HN.out]; exact hlt)⟩
      obtain ⟨t_, n_, l_, r_⟩ := z
      obtain ⟨y0, y1, y2, y3⟩ := dls_get hz
      have hm := mkd_get (k := k) hlt
      rw [← hq] at hm
      obtain ⟨v0, v1, v2, v3⟩ := dls_get (zs := mkd k n) (k := j) (t := (q : Int)) (n := M (q + 1)) (l := (q : Int) + 1 + 1) (r := (q : Int) + 1 + 1 + 1) hm
      obtain ⟨m1, hm1⟩ : ∃ m, M (q + 1) = m := ⟨_, rfl⟩
      rw [hm1] at v1
      have C1 := Lib.hid (fun W => by have C := markText (q + 1) W (by omega) (by omega); rw [hm1, show ((q + 1 : Nat) : Int) = (q : Int) + 1 by omega] at C; exact C)
      have V := Lib.hid (⟨v0, v1, v2, v3⟩ : _ ∧ _ ∧ _ ∧ _)
      have Y := Lib.hid (⟨y0, y1, y2, y3⟩ : _ ∧ _ ∧ _ ∧ _)
      have HQ := Lib.hid hq
      have hq8 : q ≤ 20971520 := by omega
      have HJ : j * 4 + 3 < n * 4 := by omega
      have hl8 := HL.out
      clear v0 v1 v2 v3 y0 y1 y2 y3 hm hm1 hz hq R0
      have c0 := (RK.out.cellAt (j * 4) (by omega)).trans (mixed_at HL.out (by omega) Y.out.1)
      have f0 := RK.out.frozenAt (j * 4)
      obtain ⟨r0, g0⟩ := RK.out.stored (j * 4) (.int .i64 ((q : Int)))
      rw [mixed_put HL.out V.out.1] at r0
      have RR := Lib.hid r0
      have GG := Lib.hid (grown_trans GK.out g0)
      clear r0 g0 RK GK
      go_wp2_with fail
      refine (C1.out _).mono ?_
      rintro e w2 ⟨rfl, b2⟩
      have R2 := owns_below RR.out b2
      have G2 := grown_trans GG.out (below_grown (r := some g) b2)
      clear c0 f0
      have c1 := (R2.cellAt (j * 4 + 1) (by omega)).trans (mixed_at HL.out (by omega) Y.out.2.1)
      have f1 := R2.frozenAt (j * 4 + 1)
      obtain ⟨r1, g1⟩ := R2.stored (j * 4 + 1) (.string m1)
      rw [mixed_put HL.out V.out.2.1] at r1
      have c2 := (r1.cellAt (j * 4 + 2) (by omega)).trans (mixed_at HL.out (by omega) Y.out.2.2.1)
      have f2 := r1.frozenAt (j * 4 + 2)
      obtain ⟨r2, g2⟩ := r1.stored (j * 4 + 1 + 1) (.int .i64 ((q : Int) + 1 + 1))
      rw [mixed_put HL.out V.out.2.2.1] at r2
      have c3 := (r2.cellAt (j * 4 + 3) (by omega)).trans (mixed_at HL.out (by omega) Y.out.2.2.2)
      have f3 := r2.frozenAt (j * 4 + 3)
      obtain ⟨r3, g3⟩ := r2.stored (j * 4 + 1 + 1 + 1) (.int .i64 ((q : Int) + 1 + 1 + 1))
      rw [mixed_put HL.out V.out.2.2.2] at r3
      have R9 := Lib.hid r3
      have G9 := Lib.hid (grown_trans (grown_trans (grown_trans G2 g1) g2) g3)
      clear r1 g1 r2 g2 r3 g3 R2 G2 RR GG b2 C1 hl8
      go_wp2_with fail
      go_roundw
      case rel => exact ⟨j + 1, by omega, by go_num, by (have := HQ.out; congr 1; omega), by rw [show (j + 1) * 4 = j * 4 + 1 + 1 + 1 + 1 by omega]; exact R9, G9⟩
      case measure => simp [intOf]; omega
    · obtain rfl : j = n := by omega
      have F := Lib.hid (show wr.ownsRow base 126 4 (.slice (some ⟨g, 0, none⟩) j c) j (dls (mkd k j)) by
        have := RK.out
        rw [show j * 4 = (dls (mkd k j)).length by rw [dls_len, mkd_len], mixed_all HL.out] at this
        exact this)
      have HQ := Lib.hid hq
      clear hq R0
      go_wp2_with fail
      go_ret
      exact ⟨by rw [HQ.out]; congr 1, F.out, GK.out⟩

end Go.Proofs.YtokncfhpmjohdaaGreat.Cmk
namespace Go.Proofs.YtokncfhpmjohdaaGreat.Mk9
open Go.RowKit Go.ChangeShapes Go.WideShapes Go.WideElems Go.Deep Go.Proofs.YtokncfhpmjohdaaGreat.Mem Go.Proofs.YtokncfhpmjohdaaGreat.Rw Go.Proofs.YtokncfhpmjohdaaGreat.P2 Go.Proofs.YtokncfhpmjohdaaGreat.Bk Go.Proofs.YtokncfhpmjohdaaGreat.Sp Go.Proofs.YtokncfhpmjohdaaGreat.Sq Go.Proofs.YtokncfhpmjohdaaGreat.St9
set_option linter.unusedVariables false
set_option linter.unusedSimpArgs false

/-- Three rows were written into, one behind the other. -/
def G3 (w w' : World) (g0 g1 g2 : Nat) : Prop := ∃ a b, w.grownBy a (some g0) ∧ a.grownBy b (some g1) ∧ b.grownBy w' (some g2)
theorem ne_blk {g : Nat} {n c b : Nat} (hb : b ≠ g) : ∀ k, (Value.slice (some ⟨g, 0, none⟩) n c).ownBlock = some k → some b ≠ some k := by
  intro k hk e
  have hk : g = k := Option.some.inj hk
  have e := Option.some.inj e
  omega
theorem G3.own {w w' : World} {g0 g1 g2 : Nat} (h : G3 w w' g0 g1 g2) {base : Nat} {e : TypeId} {s g n c : Nat} {xs : List Value} (o : w.ownsRow base e s (.slice (some ⟨g, 0, none⟩) n c) n xs) (h0 : g0 ≠ g) (h1 : g1 ≠ g) (h2 : g2 ≠ g) :
    w'.ownsRow base e s (.slice (some ⟨g, 0, none⟩) n c) n xs :=
  let ⟨_, _, a, b, c⟩ := h; owns_grown (owns_grown (owns_grown o a (ne_blk h0)) b (ne_blk h1)) c (ne_blk h2)
theorem G3.bk {w w' : World} {g0 g1 g2 b : Nat} (h : G3 w w' g0 g1 g2) {cs : Array Value} {T : TypeId} (k : Bk w b cs T) (h0 : g0 ≠ b) (h1 : g1 ≠ b) (h2 : g2 ≠ b) : Bk w' b cs T :=
  let ⟨_, _, x, y, z⟩ := h; ((k.grown x (fun e => h0 (Option.some.inj e))).grown y (fun e => h1 (Option.some.inj e))).grown z (fun e => h2 (Option.some.inj e))
theorem G3.below {w0 w w' : World} {g0 g1 g2 : Nat} (h : G3 w w' g0 g1 g2) (b : Below w0.heap.size w0 w) (h0 : w0.heap.size ≤ g0) (h1 : w0.heap.size ≤ g1) (h2 : w0.heap.size ≤ g2) : Below w0.heap.size w0 w' := by
  obtain ⟨_, _, x, y, z⟩ := h
  have b1 := b.grown x b.size (fun k e => by have e := Option.some.inj e; omega)
  have b2 := b1.grown y b1.size (fun k e => by have e := Option.some.inj e; omega)
  exact b2.grown z b2.size (fun k e => by have e := Option.some.inj e; omega)
theorem below_grown {w w' : World} {r : Option Nat} (h : Below w.heap.size w w') : w.grownBy w' r := ⟨h.os, h.tape, h.output, h.size, fun j hj _ => h.block j hj⟩

/-- The marks of a show. -/
def mD (n0 : Nat) : List Value := Dd.dls (Dmk.mkd 1 n0)
def mC (n0 n1 : Nat) : List Value := Cd.dls (Cmk.mkd (1 + n0 * 8) n1)
def mG (n0 n1 n2 : Nat) : List Value := Rw.mk (1 + n0 * 8 + n1 * 4) (n2 * 3)
theorem ret_int {a b : Int} (h : a = b) : Ending.returned (.int .i64 a) = .returned (.int .i64 b) := by rw [h]

set_option maxRecDepth 100000 in
set_option maxHeartbeats 2000000 in
theorem markShow (B n0 n1 n2 g0 g1 g2 c0 c1 c2 : Nat) (T : Int) (ds : List D) (cs : List C) (gs : List G) (w : World) (hf : Fit n0 n1 n2 ds cs gs) (hs : n0 + n1 + n2 ≤ 2097152) (h01 : g0 < g1) (h12 : g1 < g2)
    (o0 : w.ownsRow B 98 8 (.slice (some ⟨g0, 0, none⟩) n0 c0) n0 (Dd.dls ds)) (o1 : w.ownsRow B 126 4 (.slice (some ⟨g1, 0, none⟩) n1 c1) n1 (Cd.dls cs)) (o2 : w.ownsRow B 89 3 (.slice (some ⟨g2, 0, none⟩) n2 c2) n2 (Gs.gls gs)) :
    Calls Tryz.prog 17 #[sv (some ⟨g0, 0, none⟩) n0 c0 (some ⟨g1, 0, none⟩) n1 c1 (some ⟨g2, 0, none⟩) n2 c2 T, .int .i64 1] w fun e w' => e = .returned (.int .i64 ((1 + n0 * 8 + n1 * 4 + n2 * 3 : Nat) : Int)) ∧
      w'.ownsRow B 98 8 (.slice (some ⟨g0, 0, none⟩) n0 c0) n0 (mD n0) ∧ w'.ownsRow B 126 4 (.slice (some ⟨g1, 0, none⟩) n1 c1) n1 (mC n0 n1) ∧ w'.ownsRow B 89 3 (.slice (some ⟨g2, 0, none⟩) n2 c2) n2 (mG n0 n1 n2) ∧ G3 w w' g0 g1 g2 := by
  obtain ⟨⟨hn0, hb0⟩, ⟨hn1, hb1⟩, hn2, hb2⟩ := hf
  obtain ⟨k1, hk1⟩ : ∃ k, 1 + n0 * 8 = k := ⟨_, rfl⟩
  obtain ⟨k2, hk2⟩ : ∃ k, k1 + n1 * 4 = k := ⟨_, rfl⟩
  obtain ⟨k3, hk3⟩ : ∃ k, k2 + n2 * 3 = k := ⟨_, rfl⟩
  have m0 := o0.lt g0 rfl
  have m1 := o1.lt g1 rfl
  have m2 := o2.lt g2 rfl
  have C0 := Lib.hid (fun (W : World) h => (by have := Dmk.markDeviceS B g0 n0 c0 1 ds W hn0 hb0 (by omega) (by omega) h; unfold Dmk.Laid at this; rw [show (((1 : Nat) : Int) + ((n0 * 8 : Nat) : Int)) = (k1 : Int) by omega, show ((1 : Nat) : Int) = 1 by omega] at this; exact this :
    Calls Tryz.prog 51 #[.slice (some ⟨g0, 0, none⟩) n0 c0, .int .i64 1] W _))
  have C1 := Lib.hid (fun (W : World) h => (by have := Cmk.markCueS B g1 n1 c1 k1 cs W hn1 hb1 (by omega) (by omega) h; unfold Cmk.Laid at this; rw [show (((k1 : Nat) : Int) + ((n1 * 4 : Nat) : Int)) = (k2 : Int) by omega] at this; exact this :
    Calls Tryz.prog 52 #[.slice (some ⟨g1, 0, none⟩) n1 c1, .int .i64 (k1 : Int)] W _))
  have C2 := Lib.hid (fun (W : World) h => (by have := Gs.markGustS B g2 n2 c2 k2 (Gs.gls gs) W (by rw [Gs.gls_len, hn2]) hb2 (by omega) h; unfold Gs.Laid at this; rw [show (((k2 : Nat) : Int) + ((n2 * 3 : Nat) : Int)) = (k3 : Int) by omega] at this; exact this :
    Calls Tryz.prog 19 #[.slice (some ⟨g2, 0, none⟩) n2 c2, .int .i64 (k2 : Int)] W _))
  have E := Lib.hid (show mD n0 = Dd.dls (Dmk.mkd 1 n0) ∧ mC n0 n1 = Cd.dls (Cmk.mkd k1 n1) ∧ mG n0 n1 n2 = Rw.mk k2 (n2 * 3) ∧ ((1 + n0 * 8 + n1 * 4 + n2 * 3 : Nat) : Int) = (k3 : Int) from ⟨rfl, by rw [← hk1]; rfl, by rw [← hk2, ← hk1]; rfl, by omega⟩)
  have BX := Lib.hid ((Below.refl w.heap.size w).alloc (Nat.le_refl _) (.cells (sc (some ⟨g0, 0, none⟩) n0 c0 (some ⟨g1, 0, none⟩) n1 c1 (some ⟨g2, 0, none⟩) n2 c2 T) 40))
  have K0 := Lib.hid (Bk.new w (sc (some ⟨g0, 0, none⟩) n0 c0 (some ⟨g1, 0, none⟩) n1 c1 (some ⟨g2, 0, none⟩) n2 c2 T) 40)
  have O0 := Lib.hid (o0.alloc (.cells (sc (some ⟨g0, 0, none⟩) n0 c0 (some ⟨g1, 0, none⟩) n1 c1 (some ⟨g2, 0, none⟩) n2 c2 T) 40))
  have O1 := Lib.hid (o1.alloc (.cells (sc (some ⟨g0, 0, none⟩) n0 c0 (some ⟨g1, 0, none⟩) n1 c1 (some ⟨g2, 0, none⟩) n2 c2 T) 40))
  have O2 := Lib.hid (o2.alloc (.cells (sc (some ⟨g0, 0, none⟩) n0 c0 (some ⟨g1, 0, none⟩) n1 c1 (some ⟨g2, 0, none⟩) n2 c2 T) 40))
  rw [E.out.2.2.2]
  clear o0 o1 o2 hk1 hk2 hk3 hn0 hn1 hn2 hb0 hb1 hb2 hs
  go_enter Tryz.func17, Tryz.ntmps17
  go_wp2_with fail
  refine (C0.out _ O0.out).mono ?_
  rintro e u1 ⟨rfl, p0, q0⟩
  have K1 := Lib.hid (K0.out.grown q0 (fun e => by have e := Option.some.inj e; omega))
  have P0 := Lib.hid p0
  have P1 := Lib.hid (owns_grown O1.out q0 (ne_blk (by omega)))
  have P2 := Lib.hid (owns_grown O2.out q0 (ne_blk (by omega)))
  have Q0 := Lib.hid (grown_trans (below_grown BX.out) q0)
  have y1 := K1.out.cell (i := 1) rfl
  clear p0 q0 K0 O0 O1 O2 BX C0
  go_wp2_with fail
  refine (C1.out _ P1.out).mono ?_
  rintro e u2 ⟨rfl, p1, q1⟩
  have K2 := Lib.hid (K1.out.grown q1 (fun e => by have e := Option.some.inj e; omega))
  have R0 := Lib.hid (owns_grown P0.out q1 (ne_blk (by omega)))
  have R1 := Lib.hid p1
  have R2 := Lib.hid (owns_grown P2.out q1 (ne_blk (by omega)))
  have Q1 := Lib.hid q1
  have y2 := K2.out.cell (i := 2) rfl
  clear p1 q1 K1 P0 P1 P2 C1 y1
  go_wp2_with fail
  refine (C2.out _ R2.out).mono ?_
  rintro e u3 ⟨rfl, p2, q2⟩
  have S0 := Lib.hid (owns_grown R0.out q2 (ne_blk (by omega)))
  have S1 := Lib.hid (owns_grown R1.out q2 (ne_blk (by omega)))
  have S2 := Lib.hid p2
  have Q2 := Lib.hid q2
  clear p2 q2 K2 R0 R1 R2 C2 y2
  go_wp2_with fail
  go_ret
  rw [E.out.1, E.out.2.1, E.out.2.2.1]
  exact ⟨rfl, S0.out, S1.out, S2.out, _, _, Q0.out, Q1.out, Q2.out⟩

end Go.Proofs.YtokncfhpmjohdaaGreat.Mk9
namespace Go.Proofs.YtokncfhpmjohdaaGreat.Mn9
open Go.RowKit Go.ChangeShapes Go.WideShapes Go.WideElems Go.Deep Go.Proofs.YtokncfhpmjohdaaGreat.Mem Go.Proofs.YtokncfhpmjohdaaGreat.Rw Go.Proofs.YtokncfhpmjohdaaGreat.P2 Go.Proofs.YtokncfhpmjohdaaGreat.Bk Go.Proofs.YtokncfhpmjohdaaGreat.Sp Go.Proofs.YtokncfhpmjohdaaGreat.Sq Go.Proofs.YtokncfhpmjohdaaGreat.St9
set_option linter.unusedVariables false
set_option linter.unusedSimpArgs false
end Go.Proofs.YtokncfhpmjohdaaGreat.Mn9
