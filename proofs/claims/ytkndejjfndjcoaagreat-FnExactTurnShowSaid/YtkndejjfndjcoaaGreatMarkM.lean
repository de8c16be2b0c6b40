/- The marks that the laws lay into a list of texts: what they are, that they are laid, and that they are found. -/
import Derived.Test.YtkndejjfndjcoaaGreatM8
import Derived.Test.YtkndejjfndjcoaaGreatEqs
import Derived.Deep.RegionHeld3
namespace Go.Proofs.YtkndejjfndjcoaaGreat.Mark
open Go.RowKit Go.Proofs.YtkndejjfndjcoaaGreat.Mem Go.Proofs.YtkndejjfndjcoaaGreat.Strs Go.Proofs.YtkndejjfndjcoaaGreat.Fmt

/-- The digits that are still to be written. -/
def D (v : Nat) : List UInt8 := if v = 0 then [] else Lib.decDigits v
theorem D_zero : D 0 = [] := rfl
theorem D_pos {v : Nat} (h : 0 < v) : D v = D (v / 10) ++ [UInt8.ofNat (48 + v % 10)] := by
  unfold D
  rw [if_neg (by omega)]
  by_cases h1 : v < 10
  · rw [if_pos (by omega), digits_one v h1, Nat.mod_eq_of_lt h1]; rfl
  · rw [if_neg (by omega), digits_step v h1]
theorem D_len (v : Nat) (h : v ≤ 9223372036854775807) : (txt (D v)).size ≤ 19 := by
  have e : (txt (D v)).size = (D v).length := by rw [Lib.size_eq]; rfl
  rw [e]
  unfold D
  split
  · exact Nat.zero_le _
  · exact digits_len 18 v (Nat.lt_of_le_of_lt h (by decide))
/-- The mark's text. -/
def M (v : Nat) : ByteArray := txt [109] ++ txt (D v)
theorem M_size (v : Nat) (h : v ≤ 9223372036854775807) : (M v).size ≤ 20 := by
  unfold M
  rw [ByteArray.size_append]
  have := D_len v h
  have e : (txt [109]).size = 1 := rfl
  omega
theorem txt_nil : txt [] = ByteArray.empty := rfl
theorem ret_str {a b : ByteArray} (h : a = b) : Ending.returned (.string a) = .returned (.string b) := by rw [h]

set_option maxRecDepth 100000 in
set_option maxHeartbeats 1000000 in
theorem markText (v : Nat) (w : World) (h1 : 0 < v) (h2 : v ≤ 9223372036854775807) : Calls Tryz.prog 64 #[.int .i64 v] w (Wrote (M v) w) := by
  go_enter Tryz.func64, Tryz.ntmps64
  go_wp2_with fail
  go_loopw [0, 3] (fun n t wr => ∃ u : Nat, n = .int .i64 u ∧ u ≤ 9223372036854775807 ∧ ∃ x : ByteArray, t = .string x ∧ Hid (txt (D u) ++ x = txt (D v)) ∧ Hid (Below w.heap.size w wr)) (fun n _ _ => (intOf n).toNat)
  case atStart => exact ⟨v, rfl, h2, _, rfl, Lib.hid (by rw [show ((⟨#[]⟩ : ByteArray)) = txt [] from rfl, txt_append, List.append_nil]), Lib.hid (Below.refl _ _)⟩
  case round =>
    obtain ⟨u, rfl, hu, x, rfl, HX, HB⟩ := hrel
    have hx : x.size ≤ 19 := by
      have e := congrArg ByteArray.size HX.out
      rw [ByteArray.size_append] at e
      have := D_len v h2
      omega
    by_cases h0 : 0 < u
    · have hc := digit_conv wr (u % 10) (Nat.mod_lt _ (by decide))
      have HX2 := Lib.hid (show txt (D (u / 10)) ++ (txt [UInt8.ofNat (48 + u % 10)] ++ x) = txt (D v) by
        rw [← HX.out, D_pos h0, ← txt_append, ByteArray.append_assoc])
      have HB2 := Lib.hid (show Below w.heap.size w (wr.alloc (.cells #[.int .u8 (48 + ((u % 10 : Nat) : Int))] 5)) from HB.out.alloc HB.out.size _)
      obtain ⟨d, hd⟩ : ∃ d, txt [UInt8.ofNat (48 + u % 10)] = d := ⟨_, rfl⟩
      have hds : d.size ≤ 1 := by rw [← hd]; exact Nat.le_refl _
      rw [hd] at hc HX2
      have e10 : ((u % 10 : Nat) : Int) = (u : Int) % 10 := by omega
      rw [e10] at hc HB2
      clear e10 hd HX HB
      go_wp2_with fail
      go_roundw
      case rel => exact ⟨u / 10, by first | rfl | (congr 1; omega), by omega, _, rfl, HX2, HB2⟩
      case measure => simp [intOf]; omega
    · obtain rfl : u = 0 := by omega
      have F := Lib.hid (show txt [109] ++ x = M v by
        unfold M
        rw [← HX.out, D_zero, txt_nil, ByteArray.empty_append])
      go_wp2_with fail
      go_ret
      exact ⟨ret_str F.out, HB.out⟩

/-- n marks from k on. -/
def marks (k n : Nat) : List ByteArray := (List.range n).map fun j => M (k + j)
theorem marks_len (k n : Nat) : (marks k n).length = n := by simp [marks]
theorem marks_get {k n j : Nat} (h : j < n) : (marks k n)[j]? = some (M (k + j)) := by
  unfold marks
  rw [List.getElem?_map, List.getElem?_range h]
  rfl

/-- A list whose first j elements are marks, the others as they were. -/
def part (k j : Nat) (zs : List ByteArray) : List ByteArray := marks k j ++ zs.drop j
theorem part_zero (k : Nat) (zs : List ByteArray) : part k 0 zs = zs := by simp [part, marks]
theorem part_all (k : Nat) (zs : List ByteArray) : part k zs.length zs = marks k zs.length := by simp [part]
theorem part_get {k j : Nat} {zs : List ByteArray} (h : j < zs.length) : ∃ z, (part k j zs)[j]? = some z :=
  ⟨zs[j], by unfold part; rw [List.getElem?_append_right (by rw [marks_len]; exact Nat.le_refl _), marks_len, Nat.sub_self, List.getElem?_drop, Nat.add_zero, List.getElem?_eq_getElem h]⟩
theorem part_set {k j : Nat} {zs : List ByteArray} (h : j < zs.length) : (strs (part k j zs)).set j (.string (M (k + j))) = strs (part k (j + 1) zs) := by
  unfold strs part
  rw [show (Value.string (M (k + j))) = Value.string (M (k + j)) from rfl, ← List.map_set]
  congr 1
  rw [List.set_append_right _ _ (by rw [marks_len]; exact Nat.le_refl _), marks_len, Nat.sub_self, List.drop_eq_getElem_cons h, List.set_cons_zero]
  unfold marks
  rw [List.range_succ, List.map_append, List.append_assoc]
  rfl

def Laid (w : World) (B base g n c k : Nat) (e : Ending) (w' : World) : Prop :=
  e = .returned (.int .i64 ((k : Int) + n)) ∧ w'.ownsRow base 9 1 (.slice (some ⟨g, 0, none⟩) n c) n (strs (marks k n)) ∧ Below B w w'

set_option maxHeartbeats 1000000 in
theorem markStringS (base g n c B k : Nat) (zs : List ByteArray) (w : World) (hn : zs.length = n) (hb : n ≤ 2097152) (hk0 : 0 < k) (hk : k ≤ 2097152) (hB : B ≤ base) (hBw : base ≤ w.heap.size) (hr : w.ownsRow base 9 1 (.slice (some ⟨g, 0, none⟩) n c) n (strs zs)) :
    Calls Tryz.prog 29 #[.slice (some ⟨g, 0, none⟩) n c, .int .i64 k] w (Laid w B base g n c k) := by
  have HN := Lib.hid hn
  have R0 := Lib.hid (show w.ownsRow base 9 1 (.slice (some ⟨g, 0, none⟩) n c) n (strs (part k 0 zs)) by rw [part_zero]; exact hr)
  have hbg : base ≤ g := (hr.lt g rfl).1
  clear hn hr
  go_enter Tryz.func29, Tryz.ntmps29
  go_wp2_with fail
  go_loopw [1, 5] (fun q i wr => ∃ j : Nat, j ≤ n ∧ i = .int .i64 j ∧ q = .int .i64 ((k : Int) + j) ∧ Hid (wr.ownsRow base 9 1 (.slice (some ⟨g, 0, none⟩) n c) n (strs (part k j zs))) ∧ Hid (Below B w wr)) (fun _ i _ => n - (intOf i).toNat)
  case atStart => exact ⟨0, Nat.zero_le _, rfl, by simp, R0, Lib.hid (Below.refl _ _)⟩
  case round =>
    obtain ⟨j, hj, rfl, rfl, RK, BK⟩ := hrel
    by_cases hlt : j < n
    · have C := fun w1 => Lib.hid (markText (k + j) w1 (by omega) (by omega))
      rw [show ((k + j : Nat) : Int) = (k : Int) + (j : Int) by omega] at C
      generalize hm : M (k + j) = m at C
      have HM := Lib.hid hm
      clear hm
      go_wp2_with fail
      refine (C _).out.mono ?_
      rintro e w1 ⟨rfl, b1⟩
      have R1 := owns_below RK.out b1
      have f1 := R1.frozenAt j
      obtain ⟨z, hz⟩ := part_get (k := k) (j := j) (zs := zs) (by rw [HN.out]; exact hlt)
      have c1 := (R1.cellAt j (by omega)).trans (strs_get hz)
      clear hz
      obtain ⟨r1, r2⟩ := R1.stored j (.string m)
      have e3 := part_set (k := k) (j := j) (zs := zs) (by rw [HN.out]; exact hlt)
      rw [HM.out] at e3
      rw [e3] at r1
      have R2 := Lib.hid r1
      have BS : B ≤ wr.heap.size := by have := BK.out.size; omega
      have B2 := Lib.hid ((BK.out.trans (b1.mono BS)).grown r2 (by exact Nat.le_trans BS b1.size) (fun q hq => by cases hq; omega))
      clear r1 r2 R1 e3 RK BK b1 R0
      go_wp2_with fail
      go_roundw
      case rel => exact ⟨j + 1, by omega, by go_num, by first | rfl | (congr 1; omega), R2, B2⟩
      case measure => simp [intOf]; omega
    · obtain rfl : j = n := by omega
      have F := RK.out
      rw [show part k j zs = marks k j by rw [← HN.out]; exact part_all k zs] at F
      go_wp2_with fail
      go_ret
      exact ⟨rfl, F, BK.out⟩

def Kept (z : ByteArray) (p : Addr) (w : World) (e : Ending) (w' : World) : Prop := e = .returned (.string z) ∧ Below w.heap.size w w' ∧ w'.cell? p = some (.string z)
def Held (w : World) (n k : Nat) (e : Ending) (w' : World) : Prop := e = .returned (.int .i64 ((k : Int) + n)) ∧ Below w.heap.size w w'

set_option maxHeartbeats 1000000 in
theorem heldStringS (A : Option Addr) (n c k : Nat) (w : World) (hb : n ≤ 2097152) (hk0 : 0 < k) (hk : k ≤ 2097152) (hr : Rd w w.heap.size A (strs (marks k n))) :
    Calls Tryz.prog 30 #[.slice A n c, .int .i64 k] w (Held w n k) := by
  have HR := Lib.hid hr
  clear hr
  go_enter Tryz.func30, Tryz.ntmps30
  go_wp2_with fail
  go_loopw [1, 5] (fun q i wr => ∃ j : Nat, j ≤ n ∧ i = .int .i64 j ∧ q = .int .i64 ((k : Int) + j) ∧ Hid (Below w.heap.size w wr)) (fun _ i _ => n - (intOf i).toNat)
  case atStart => exact ⟨0, Nat.zero_le _, rfl, by simp, Lib.hid (Below.refl _ _)⟩
  case round =>
    obtain ⟨j, hj, rfl, rfl, BK⟩ := hrel
    by_cases hlt : j < n
    · obtain ⟨m, hm⟩ : ∃ m, M (k + j) = m := ⟨_, rfl⟩
      obtain ⟨b, o, eA, hbl, hcell⟩ := HR.out.get (k := j) (by rw [strs_len, marks_len]; exact hlt)
      have c0 : w.cell? ⟨b, o + j, none⟩ = some (.string m) := by rw [← hm]; exact hcell j _ (strs_get (marks_get hlt))
      have c1 : wr.cell? ⟨b, o + j, none⟩ = some (.string m) := (BK.out.cell (p := ⟨b, o + j, none⟩) hbl).trans c0
      have C : ∀ w1, w1.cell? ⟨b, o + j, none⟩ = some (.string m) → Calls Tryz.prog 64 #[.int .i64 ((k : Int) + (j : Int))] w1 (Kept m ⟨b, o + j, none⟩ w1) := fun w1 h1 => by
        have C0 := markText (k + j) w1 (by omega) (by omega)
        rw [show ((k + j : Nat) : Int) = (k : Int) + (j : Int) by omega, hm] at C0
        exact C0.mono fun e w2 ⟨he, h2⟩ => ⟨he, h2, (h2.cell (p := ⟨b, o + j, none⟩) (World.block_lt_of_cell? w1 _ h1)).trans h1⟩
      have CC := Lib.hid C
      have hlt' : (j : Int) < (n : Int) := by omega
      have hj0 : (0 : Int) ≤ (j : Int) := by omega
      clear C hcell hbl c0 hm
      subst eA
      go_wp2_with fail
      go_region_held3 (fun w' => w'.cell? ⟨b, o + j, none⟩ = some (.string m)) (go_keep)
        (first | (go_at_call 64; refine (CC.out _ ?_).mono ?_; (simp [*]); rintro e w2 ⟨rfl, b2, c2⟩))
      go_wp2_with fail
      go_roundw
      case rel => exact ⟨j + 1, by omega, by go_num, by first | rfl | (congr 1; omega), Lib.hid (BK.out.drew.trans (b2.mono BK.out.size))⟩
      case measure => simp [intOf]; omega
    · obtain rfl : j = n := by omega
      go_wp2_with fail
      go_ret
      exact ⟨rfl, BK.out⟩

end Go.Proofs.YtkndejjfndjcoaaGreat.Mark
