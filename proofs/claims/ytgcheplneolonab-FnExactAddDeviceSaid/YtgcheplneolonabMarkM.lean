/- The marks that the laws lay into a list of texts: what they are, that they are laid, and that they are found. -/
import Derived.Test.YtgcheplneolonabFmtM
import Derived.Test.YtgcheplneolonabEqs
import Derived.Deep.RegionHeld3
namespace Go.Proofs.Ytgcheplneolonab.Mark
open Go.RowKit Go.Proofs.Ytgcheplneolonab.Mem Go.Proofs.Ytgcheplneolonab.Strs Go.Proofs.Ytgcheplneolonab.Fmt

/-- The digits that are still to be written. -/
def D (v : Nat) : List UInt8 := if v = 0 then [] else Lib.decDigits v
theorem D_zero : D 0 = [] := rfl
theorem D_pos {v : Nat} (h : 0 < v) : D v = D (v / 10) ++ [UInt8.ofNat (48 + v % 10)] := by
  unfold D
  rw [if_neg (by omega)]
  by_cases h1 : v < 10
  · rw [if_pos (by omega), digits_one v h1, Nat.mod_eq_of_lt h1]; rfl
  · rw [if_neg (by omega), digits_step v h1]
theorem D_len (v : Nat) (h : v ≤ 9223372036854775807) : (txt (D v)).size ≤ 19 := by
  have e : (txt (D v)).size = (D v).length := by rw [Lib.size_eq]; rfl
  rw [e]
  unfold D
  split
  · exact Nat.zero_le _
  · exact digits_len 18 v (Nat.lt_of_le_of_lt h (by decide))
/-- The mark's text. -/
def M (v : Nat) : ByteArray := txt [109] ++ txt (D v)
theorem M_size (v : Nat) (h : v ≤ 9223372036854775807) : (M v).size ≤ 20 := by
  unfold M
  rw [ByteArray.size_append]
  have := D_len v h
  have e : (txt [109]).size = 1 := rfl
  omega
theorem txt_nil : txt [] = ByteArray.empty := rfl
theorem ret_str {a b : ByteArray} (h : a = b) : Ending.returned (.string a) = .returned (.string b) := by rw [h]

set_option maxRecDepth 100000 in
set_option maxHeartbeats 1000000 in
theorem markText (v : Nat) (w : World) (h1 : 0 < v) (h2 : v ≤ 9223372036854775807) : Calls Try.prog 40 #[.int .i64 v] w (Wrote (M v) w) := by
  go_enter Try.func40, Try.ntmps40
  go_wp2_with fail
  go_loopw [0, 3] (fun n t wr => ∃ u : Nat, n = .int .i64 u ∧ u ≤ 9223372036854775807 ∧ ∃ x : ByteArray, t = .string x ∧ Hid (txt (D u) ++ x = txt (D v)) ∧ Hid (Below w.heap.size w wr)) (fun n _ _ => (intOf n).toNat)
  case atStart => exact ⟨v, rfl, h2, _, rfl, Lib.hid (by rw [show ((⟨#[]⟩ : ByteArray)) = txt [] from rfl, txt_append, List.append_nil]), Lib.hid (Below.refl _ _)⟩
  case round =>
    obtain ⟨u, rfl, hu, x, rfl, HX, HB⟩ := hrel
    have hx : x.size ≤ 19 := by
      have e := congrArg ByteArray.size HX.out
      rw [ByteArray.size_append] at e
      have := D_len v h2
      omega
    by_cases h0 : 0 < u
    · have hc := digit_conv wr (u % 10) (Nat.mod_lt _ (by decide))
      have HX2 := Lib.hid (show txt (D (u / 10)) ++ (txt [UInt8.ofNat (48 + u % 10)] ++ x) = txt (D v) by
        rw [← HX.out, D_pos h0, ← txt_append, ByteArray.append_assoc])
      have HB2 := Lib.hid (show Below w.heap.size w (wr.alloc (.cells #[.int .u8 (48 + ((u % 10 : Nat) : Int))] 5)) from HB.out.alloc HB.out.size _)
      obtain ⟨d, hd⟩ : ∃ d, txt [UInt8.ofNat (48 + u % 10)] = d := ⟨_, rfl⟩
      have hds : d.size ≤ 1 := by rw [← hd]; exact Nat.le_refl _
      rw [hd] at hc HX2
      have e10 : ((u % 10 : Nat) : Int) = (u : Int) % 10 := by omega
      rw [e10] at hc HB2
      clear e10 hd HX HB
      go_wp2_with fail
      go_roundw
      case rel => exact ⟨u / 10, by first | rfl | (congr 1; omega), by omega, _, rfl, HX2, HB2⟩
      case measure => simp [intOf]; omega
    · obtain rfl : u = 0 := by omega
      have F := Lib.hid (show txt [109] ++ x = M v by
        unfold M
        rw [← HX.out, D_zero, txt_nil, ByteArray.empty_append])
      go_wp2_with fail
      go_ret
      exact ⟨ret_str F.out, HB.out⟩

/-- n marks from k on. -/
def marks (k n : Nat) : List ByteArray := (List.range n).map fun j => M (k + j)
theorem marks_len (k n : Nat) : (marks k n).length = n := by simp [marks]
theorem marks_get {k n j : Nat} (h : j < n) : (marks k n)[j]? = some (M (k + j)) := by
  unfold marks
  rw [List.getElem?_map, List.getElem?_range h]
  rfl

/-- A list whose first j elements are marks, the others as they were. -/
def part (k j : Nat) (zs : List ByteArray) : List ByteArray := marks k j ++ zs.drop j
theorem part_zero (k : Nat) (zs : List ByteArray) : part k 0 zs = zs := by simp [part, marks]
theorem part_all (k : Nat) (zs : List ByteArray) : part k zs.length zs = marks k zs.length := by simp [part]
theorem part_get {k j : Nat} {zs : List ByteArray} (h : j < zs.length) : ∃ z, (part k j zs)[j]? = some z :=
  ⟨zs[j], by unfold part; rw [List.getElem?_append_right (by rw [marks_len]; exact Nat.le_refl _), marks_len, Nat.sub_self, List.getElem?_drop, Nat.add_zero, List.getElem?_eq_getElem h]⟩
theorem part_set {k j : Nat} {zs : List ByteArray} (h : j < zs.length) : (strs (part k j zs)).set j (.string (M (k + j))) = strs (part k (j + 1) zs) := by
  unfold strs part
  rw [show (Value.string (M (k + j))) = Value.string (M (k + j)) from rfl, ← List.map_set]
  congr 1
  rw [List.set_append_right _ _ (by rw [marks_len]; exact Nat.le_refl _), marks_len, Nat.sub_self, List.drop_eq_getElem_cons h, List.set_cons_zero]
  unfold marks
  rw [List.range_succ, List.map_append, List.append_assoc]
  rfl

def Laid (w : World) (B base g n c k : Nat) (e : Ending) (w' : World) : Prop :=
  e = .returned (.int .i64 ((k : Int) + n)) ∧ w'.ownsRow base 9 1 (.slice (some ⟨g, 0, none⟩) n c) n (strs (marks k n)) ∧ Below B w w'

def Kept (z : ByteArray) (p : Addr) (w : World) (e : Ending) (w' : World) : Prop := e = .returned (.string z) ∧ Below w.heap.size w w' ∧ w'.cell? p = some (.string z)
def Held (w : World) (n k : Nat) (e : Ending) (w' : World) : Prop := e = .returned (.int .i64 ((k : Int) + n)) ∧ Below w.heap.size w w'

end Go.Proofs.Ytgcheplneolonab.Mark
