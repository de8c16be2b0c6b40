/- The laws' copy of a device, their comparison, and how much of what is left it takes. -/
import Derived.Test.YtgcheplneolonabDd
import Derived.Test.YtgcheplneolonabPb
namespace Go.Proofs.Ytgcheplneolonab.Dv
open Go.RowKit Go.Proofs.Ytgcheplneolonab.Dd Go.Proofs.Ytgcheplneolonab.Pw
set_option linter.unusedVariables false
set_option linter.unusedSimpArgs false

set_option maxHeartbeats 1000000 in
theorem toDevice (n : ByteArray) (k : Int) (l : ByteArray) (x y h t m : Int) (w : World) : Calls Try.prog 17 #[va n k l x y h t m] w fun e w' => e = .returned (va n k l x y h t m) ∧ Below w.heap.size w w' := by
  go_enter Try.func17, Try.ntmps17
  go_wp2_with (go_at_call 38; ((with_reducible refine (toPlace _ _ _).mono ?_); rintro e w' ⟨rfl, rfl⟩))
  go_returns
  exact ⟨rfl, by go_grown⟩

set_option maxHeartbeats 1000000 in
theorem eqDevice (n : ByteArray) (k : Int) (l : ByteArray) (x y h t m : Int) (w : World) : Calls Try.prog 39 #[va n k l x y h t m, va n k l x y h t m] w fun e w' => e = .returned (.bool true) ∧ w' = (((w.alloc (.cells (ca n k l x y h t m) 28)).alloc (.cells (ca n k l x y h t m) 28)).alloc (.cells #[.int .i64 x, .int .i64 y] 26)).alloc (.cells #[.int .i64 x, .int .i64 y] 26) := by
  have h1 : (n.toList == n.toList) = true := by simp
  have h2 : (l.toList == l.toList) = true := by simp
  go_enter Try.func39, Try.ntmps39
  go_wp2_with (go_at_call 59; ((with_reducible refine (eqPlace _ _ _).mono ?_); rintro e w' ⟨rfl, rfl⟩))
  all_goals go_returns
  all_goals exact ⟨rfl, rfl⟩

theorem szYes (n : ByteArray) (k : Int) (l : ByteArray) (x y h t m : Int) (L R : Int) (h1 : L ≤ 1048576) (hR : L - (n.size : Int) - (l.size : Int) = R) (hp : 0 ≤ R) (w : World) :
    Calls Try.prog 14 #[va n k l x y h t m, .int .i64 L] w fun e w' => e = .returned (.int .i64 R) ∧ w' = w.alloc (.cells (ca n k l x y h t m) 42) := by
  have HR := Lib.hid hR
  have a1 : (n.size : Int) ≤ L := by omega
  have a2 : (l.size : Int) ≤ L - (n.size : Int) := by omega
  have a3 : ¬ L - (n.size : Int) < 0 := by omega
  have a4 : ¬ L - (n.size : Int) - (l.size : Int) < 0 := by omega
  have a5 : 0 ≤ L := by omega
  clear hR hp
  go_enter Try.func14, Try.ntmps14
  go_wp2
  all_goals go_returns
  all_goals first | exact ⟨rfl, rfl⟩ | exact ⟨by show Ending.returned (.int .i64 _) = _; rw [HR.out], rfl⟩ | (exfalso; omega)

theorem szNo (n : ByteArray) (k : Int) (l : ByteArray) (x y h t m : Int) (L : Int) (h0 : 0 ≤ L) (h1 : L ≤ 1048576) (hn : n.size ≤ maxLen) (hl : l.size ≤ maxLen) (hR : L - (n.size : Int) - (l.size : Int) < 0) (w : World) :
    Calls Try.prog 14 #[va n k l x y h t m, .int .i64 L] w fun e w' => e = .returned (.int .i64 (-1)) ∧ w' = w.alloc (.cells (ca n k l x y h t m) 42) := by
  unfold maxLen at hn hl
  by_cases h2 : L < (n.size : Int)
  · have a3 : L - (n.size : Int) < 0 := by omega
    have a1 : ¬ (n.size : Int) ≤ L := by omega
    go_enter Try.func14, Try.ntmps14
    go_wp2
    all_goals go_returns
    all_goals first | exact ⟨rfl, rfl⟩ | (exfalso; omega)
  · have a3 : ¬ L - (n.size : Int) < 0 := by omega
    have a1 : (n.size : Int) ≤ L := by omega
    have a4 : ¬ (l.size : Int) ≤ L - (n.size : Int) := by omega
    go_enter Try.func14, Try.ntmps14
    go_wp2
    all_goals go_returns
    all_goals first | exact ⟨rfl, rfl⟩ | (exfalso; omega)

end Go.Proofs.Ytgcheplneolonab.Dv
