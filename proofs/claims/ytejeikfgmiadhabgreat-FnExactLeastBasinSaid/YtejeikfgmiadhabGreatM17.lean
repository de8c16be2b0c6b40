/- The marks that the laws lay into a list of texts: what they are, that they are laid, and that they are found. -/
import Derived.Test.YtejeikfgmiadhabGreatM16
import Derived.Test.YtejeikfgmiadhabGreatEqs
import Derived.Deep.RegionHeld3
import Derived.Test.YtejeikfgmiadhabGreatM6
set_option linter.unusedVariables false
set_option linter.unusedSimpArgs false
namespace Go.Proofs.YtejeikfgmiadhabGreat.Mark
open Go.RowKit Go.Proofs.YtejeikfgmiadhabGreat.Mem Go.Proofs.YtejeikfgmiadhabGreat.Strs Go.Proofs.YtejeikfgmiadhabGreat.Fmt

/-- The digits that are still to be written. -/
def D (v : Nat) : List UInt8 := if v = 0 then [] else Lib.decDigits v
theorem D_zero : D 0 = [] := rfl
theorem D_pos {v : Nat} (h : 0 < v) : D v = D (v / 10) ++ [UInt8.ofNat (48 + v % 10)] := by
  unfold D
  rw [if_neg (by omega)]
  by_cases h1 : v < 10
  · rw [if_pos (by omega), digits_one v h1, Nat.mod_eq_of_lt h1]; rfl
  · rw [if_neg (by omega), digits_step v h1]
theorem D_len (v : Nat) (h : v ≤ 9223372036854775807) : (txt (D v)).size ≤ 19 := by
  have e : (txt (D v)).size = (D v).length := by rw [Lib.size_eq]; rfl
  rw [e]
  unfold D
  split
  · exact Nat.zero_le _
  · exact digits_len 18 v (Nat.lt_of_le_of_lt h (by decide))
/-- The mark's text. -/
def M (v : Nat) : ByteArray := txt [109] ++ txt (D v)
theorem txt_nil : txt [] = ByteArray.empty := rfl
theorem ret_str {a b : ByteArray} (h : a = b) : Ending.returned (.string a) = .returned (.string b) := by rw [h]

set_option maxRecDepth 100000 in
set_option maxHeartbeats 1000000 in
theorem markText (v : Nat) (w : World) (h1 : 0 < v) (h2 : v ≤ 9223372036854775807) : Calls Tryz.prog 109 #[.int .i64 v] w (Wrote (M v) w) := by
  go_enter Tryz.func109, Tryz.ntmps109
  go_wp2_with fail
  go_loopw [0, 3] (fun n t wr => ∃ u : Nat, n = .int .i64 u ∧ u ≤ 9223372036854775807 ∧ ∃ x : ByteArray, t = .string x ∧ Hid (txt (D u) ++ x = txt (D v)) ∧ Hid (Below w.heap.size w wr)) (fun n _ _ => (intOf n).toNat)
  case atStart => exact ⟨v, rfl, h2, _, rfl, Lib.hid (by rw [show ((⟨#[]⟩ : ByteArray)) = txt [] from rfl, txt_append, List.append_nil]), Lib.hid (Below.refl _ _)⟩
  case round =>
    obtain ⟨u, rfl, hu, x, rfl, HX, HB⟩ := hrel
    have hx : x.size ≤ 19 := by
      have e := congrArg ByteArray.size HX.out
      rw [ByteArray.size_append] at e
      have := D_len v h2
      omega
    by_cases h0 : 0 < u
    · have hc := digit_conv wr (u % 10) (Nat.mod_lt _ (by decide))
      have HX2 := Lib.hid (show txt (D (u / 10)) ++ (txt [UInt8.ofNat (48 + u % 10)] ++ x) = txt (D v) by
        rw [← HX.out, D_pos h0, ← txt_append, ByteArray.append_assoc])
      have HB2 := Lib.hid (show Below w.heap.size w (wr.alloc (.cells #[.int .u8 (48 + ((u % 10 : Nat) : Int))] 5)) from HB.out.alloc HB.out.size _)
      obtain ⟨d, hd⟩ : ∃ d, txt [UInt8.ofNat (48 + u % 10)] = d := ⟨_, rfl⟩
      have hds : d.size ≤ 1 := by rw [← hd]; exact Nat.le_refl _
      rw [hd] at hc HX2
      have e10 : ((u % 10 : Nat) : Int) = (u : Int) % 10 := by omega
      rw [e10] at hc HB2
      clear e10 hd HX HB
      go_wp2_with fail
      go_roundw
      case rel => exact ⟨u / 10, by first | rfl | (congr 1; omega), by omega, _, rfl, HX2, HB2⟩
      case measure => simp [intOf]; omega
    · obtain rfl : u = 0 := by omega
      have F := Lib.hid (show txt [109] ++ x = M v by
        unfold M
        rw [← HX.out, D_zero, txt_nil, ByteArray.empty_append])
      go_wp2_with fail
      go_ret
      exact ⟨ret_str F.out, HB.out⟩

/-- n marks from k on. -/
def marks (k n : Nat) : List ByteArray := (List.range n).map fun j => M (k + j)
/-- A list whose first j elements are marks, the others as they were. -/
def part (k j : Nat) (zs : List ByteArray) : List ByteArray := marks k j ++ zs.drop j
def Laid (w : World) (B base g n c k : Nat) (e : Ending) (w' : World) : Prop :=
  e = .returned (.int .i64 ((k : Int) + n)) ∧ w'.ownsRow base 9 1 (.slice (some ⟨g, 0, none⟩) n c) n (strs (marks k n)) ∧ Below B w w'

def Held (w : World) (n k : Nat) (e : Ending) (w' : World) : Prop := e = .returned (.int .i64 ((k : Int) + n)) ∧ Below w.heap.size w w'

end Go.Proofs.YtejeikfgmiadhabGreat.Mark
namespace Go.Proofs.YtejeikfgmiadhabGreat.Dmk
open Go.RowKit Go.ChangeShapes Go.WideShapes Go.WideElems Go.Deep Go.Proofs.YtejeikfgmiadhabGreat.Mem Go.Proofs.YtejeikfgmiadhabGreat.Rw Go.Proofs.YtejeikfgmiadhabGreat.Dd Go.Proofs.YtejeikfgmiadhabGreat.Dl
open Go.Proofs.YtejeikfgmiadhabGreat.Mark (M markText)
open Go.Proofs.YtejeikfgmiadhabGreat.Rw (owns_below)
open Go.Proofs.YtejeikfgmiadhabGreat.P2 (cell_below)
set_option linter.unusedVariables false
set_option linter.unusedSimpArgs false

/-- A device of marks from q on. -/
def mkq (q : Nat) : D := ⟨M q, (q : Int) + 1, M (q + 2), (q : Int) + 1 + 1 + 1, (q : Int) + 1 + 1 + 1 + 1, (q : Int) + 1 + 1 + 1 + 1 + 1, (q : Int) + 1 + 1 + 1 + 1 + 1 + 1, (q : Int) + 1 + 1 + 1 + 1 + 1 + 1 + 1⟩
/-- n devices of marks from k on. -/
def mkd (k n : Nat) : List D := (List.range n).map fun j => mkq (k + j * 8)
theorem mkd_len (k n : Nat) : (mkd k n).length = n := by simp [mkd]
theorem mkd_get {k n j : Nat} (h : j < n) : (mkd k n)[j]? = some (mkq (k + j * 8)) := by
  unfold mkd; rw [List.getElem?_map, List.getElem?_range h]; rfl

/-- The marks are laid; what lies in other blocks is as it was. -/
def Laid (w : World) (base g n c k : Nat) (e : Ending) (w' : World) : Prop :=
  e = .returned (.int .i64 ((k : Int) + ((n * 8 : Nat) : Int))) ∧ w'.ownsRow base 102 8 (.slice (some ⟨g, 0, none⟩) n c) n (dls (mkd k n)) ∧ w.grownBy w' (some g)
theorem below_grown {w w' : World} {r : Option Nat} (h : Below w.heap.size w w') : w.grownBy w' r := ⟨h.os, h.tape, h.output, h.size, fun j hj _ => h.block j hj⟩

end Go.Proofs.YtejeikfgmiadhabGreat.Dmk
