/- The laws' copy of a cue, their comparison, and how much of what is left it takes. -/
import Derived.Test.YtdhdmdjahfnicaaCd
import Derived.Test.YtdhdmdjahfnicaaGe
namespace Go.Proofs.Ytdhdmdjahfnicaa.Cv
open Go.RowKit Go.Proofs.Ytdhdmdjahfnicaa.Cd
set_option linter.unusedVariables false
set_option linter.unusedSimpArgs false

set_option maxHeartbeats 1000000 in
theorem toCue (t : Int) (n : ByteArray) (l r : Int) (w : World) : Calls Try.prog 31 #[va t n l r] w fun e w' => e = .returned (va t n l r) ∧ Below w.heap.size w w' := by
  go_enter Try.func31, Try.ntmps31
  go_wp2_with fail
  go_returns
  exact ⟨rfl, by go_grown⟩

set_option maxHeartbeats 1000000 in
theorem eqCue (t : Int) (n : ByteArray) (l r : Int) (w : World) : Calls Try.prog 58 #[va t n l r, va t n l r] w fun e w' => e = .returned (.bool true) ∧ w' = (w.alloc (.cells (ca t n l r) 47)).alloc (.cells (ca t n l r) 47) := by
  have h1 : (n.toList == n.toList) = true := by simp
  go_enter Try.func58, Try.ntmps58
  go_wp2_with fail
  all_goals go_returns
  all_goals exact ⟨rfl, rfl⟩

theorem szYes (t : Int) (n : ByteArray) (l r : Int) (L R : Int) (h1 : L ≤ 1048576) (hR : L - (n.size : Int) = R) (hp : 0 ≤ R) (w : World) :
    Calls Try.prog 29 #[va t n l r, .int .i64 L] w fun e w' => e = .returned (.int .i64 R) ∧ w' = w.alloc (.cells (ca t n l r) 44) := by
  have HR := Lib.hid hR
  have a1 : (n.size : Int) ≤ L := by omega
  have a3 : ¬ L - (n.size : Int) < 0 := by omega
  have a5 : 0 ≤ L := by omega
  clear hR hp
  go_enter Try.func29, Try.ntmps29
  go_wp2
  all_goals go_returns
  all_goals first | exact ⟨rfl, rfl⟩ | exact ⟨by show Ending.returned (.int .i64 _) = _; rw [HR.out], rfl⟩ | (exfalso; omega)

theorem szNo (t : Int) (n : ByteArray) (l r : Int) (L : Int) (h0 : 0 ≤ L) (h1 : L ≤ 1048576) (hn : n.size ≤ maxLen) (hR : L - (n.size : Int) < 0) (w : World) :
    Calls Try.prog 29 #[va t n l r, .int .i64 L] w fun e w' => e = .returned (.int .i64 (-1)) ∧ w' = w.alloc (.cells (ca t n l r) 44) := by
  unfold maxLen at hn
  have a1 : ¬ (n.size : Int) ≤ L := by omega
  go_enter Try.func29, Try.ntmps29
  go_wp2
  all_goals go_returns
  all_goals first | exact ⟨rfl, rfl⟩ | (exfalso; omega)

end Go.Proofs.Ytdhdmdjahfnicaa.Cv
