/- How much of what is left a list takes: of any amount that is left. -/
import Derived.Test.YtjemjffiomkioaaMem
namespace Go.Proofs.Ytjemjffiomkioaa.SzP
open Go.RowKit
set_option linter.unusedVariables false
set_option linter.unusedSimpArgs false

theorem yes (A : Option Addr) (n c : Nat) (L R : Int) (h1 : L ≤ 1048576) (hp : 0 ≤ R) (hR : L - (n : Int) = R) (w : World) :
    Calls Try.prog 34 #[.slice A n c, .int .i64 L] w fun e w' => e = .returned (.int .i64 R) ∧ w = w' := by
  have h2 : (n : Int) ≤ L := by omega
  have HR := Lib.hid hR
  have hn : n ≤ 1048576 := by omega
  have h0 : 0 ≤ L := by omega
  have h3 : ¬ L < 0 := by omega
  have h4 : ¬ L - (n : Int) < 0 := by omega
  have h5 : ¬ L < (n : Int) := by omega
  clear hR hp
  go_enter Try.func34, Try.ntmps34
  go_wp2
  go_ret
  exact ⟨by rw [HR.out]; rfl, rfl⟩

theorem no (A : Option Addr) (n c : Nat) (L : Int) (h0 : 0 ≤ L) (h1 : L ≤ 1048576) (hm : n ≤ maxLen) (h : L - (n : Int) < 0) (w : World) :
    Calls Try.prog 34 #[.slice A n c, .int .i64 L] w fun e w' => e = .returned (.int .i64 (-1)) ∧ w = w' := by
  unfold maxLen at hm
  have h2 : ¬ (n : Int) ≤ L := by omega
  have h3 : ¬ L < 0 := by omega
  have h5 : L < (n : Int) := by omega
  go_enter Try.func34, Try.ntmps34
  go_wp2
  go_ret
  exact ⟨rfl, rfl⟩

end Go.Proofs.Ytjemjffiomkioaa.SzP
