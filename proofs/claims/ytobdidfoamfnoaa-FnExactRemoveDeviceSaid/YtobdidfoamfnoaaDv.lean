/- The laws' copy of a device, their comparison, and how much of what is left it takes. -/
import Derived.Test.YtobdidfoamfnoaaDd
import Derived.Test.YtobdidfoamfnoaaPb
namespace Go.Proofs.Ytobdidfoamfnoaa.Dv
open Go.RowKit Go.Proofs.Ytobdidfoamfnoaa.Dd Go.Proofs.Ytobdidfoamfnoaa.Pw
set_option linter.unusedVariables false
set_option linter.unusedSimpArgs false

set_option maxHeartbeats 1000000 in
theorem toDevice (n : ByteArray) (k : Int) (l : ByteArray) (x y h t m : Int) (w : World) : Calls Try.prog 15 #[va n k l x y h t m] w fun e w' => e = .returned (va n k l x y h t m) ∧ Below w.heap.size w w' := by
  go_enter Try.func15, Try.ntmps15
  go_wp2_with (go_at_call 40; ((with_reducible refine (toPlace _ _ _).mono ?_); rintro e w' ⟨rfl, rfl⟩))
  go_returns
  exact ⟨rfl, by go_grown⟩

set_option maxHeartbeats 1000000 in
theorem eqDevice (n : ByteArray) (k : Int) (l : ByteArray) (x y h t m : Int) (w : World) : Calls Try.prog 54 #[va n k l x y h t m, va n k l x y h t m] w fun e w' => e = .returned (.bool true) ∧ w' = (((w.alloc (.cells (ca n k l x y h t m) 30)).alloc (.cells (ca n k l x y h t m) 30)).alloc (.cells #[.int .i64 x, .int .i64 y] 28)).alloc (.cells #[.int .i64 x, .int .i64 y] 28) := by
  have h1 : (n.toList == n.toList) = true := by simp
  have h2 : (l.toList == l.toList) = true := by simp
  go_enter Try.func54, Try.ntmps54
  go_wp2_with (go_at_call 73; ((with_reducible refine (eqPlace _ _ _).mono ?_); rintro e w' ⟨rfl, rfl⟩))
  all_goals go_returns
  all_goals exact ⟨rfl, rfl⟩

theorem szYes (n : ByteArray) (k : Int) (l : ByteArray) (x y h t m : Int) (L R : Int) (h1 : L ≤ 1048576) (hR : L - (n.size : Int) - (l.size : Int) = R) (hp : 0 ≤ R) (w : World) :
    Calls Try.prog 13 #[va n k l x y h t m, .int .i64 L] w fun e w' => e = .returned (.int .i64 R) ∧ w' = w.alloc (.cells (ca n k l x y h t m) 25) := by
  have HR := Lib.hid hR
  have a1 : (n.size : Int) ≤ L := by omega
  have a2 : (l.size : Int) ≤ L - (n.size : Int) := by omega
  have a3 : ¬ L - (n.size : Int) < 0 := by omega
  have a4 : ¬ L - (n.size : Int) - (l.size : Int) < 0 := by omega
  have a5 : 0 ≤ L := by omega
  clear hR hp
  go_enter Try.func13, Try.ntmps13
  go_wp2
  all_goals go_returns
  all_goals first | exact ⟨rfl, rfl⟩ | exact ⟨by show Ending.returned (.int .i64 _) = _; rw [HR.out], rfl⟩ | (exfalso; omega)

theorem szNo (n : ByteArray) (k : Int) (l : ByteArray) (x y h t m : Int) (L : Int) (h0 : 0 ≤ L) (h1 : L ≤ 1048576) (hn : n.size ≤ maxLen) (hl : l.size ≤ maxLen) (hR : L - (n.size : Int) - (l.size : Int) < 0) (w : World) :
    Calls Try.prog 13 #[va n k l x y h t m, .int .i64 L] w fun e w' => e = .returned (.int .i64 (-1)) ∧ w' = w.alloc (.cells (ca n k l x y h t m) 25) := by
  unfold maxLen at hn hl
  by_cases h2 : L < (n.size : Int)
  · have a3 : L - (n.size : Int) < 0 := by omega
    have a1 : ¬ (n.size : Int) ≤ L := by omega
    go_enter Try.func13, Try.ntmps13
    go_wp2
    all_goals go_returns
    all_goals first | exact ⟨rfl, rfl⟩ | (exfalso; omega)
  · have a3 : ¬ L - (n.size : Int) < 0 := by omega
    have a1 : (n.size : Int) ≤ L := by omega
    have a4 : ¬ (l.size : Int) ≤ L - (n.size : Int) := by omega
    go_enter Try.func13, Try.ntmps13
    go_wp2
    all_goals go_returns
    all_goals first | exact ⟨rfl, rfl⟩ | (exfalso; omega)

end Go.Proofs.Ytobdidfoamfnoaa.Dv
