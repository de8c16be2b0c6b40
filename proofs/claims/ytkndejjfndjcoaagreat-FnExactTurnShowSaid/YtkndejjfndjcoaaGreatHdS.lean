/- What the model answers for a heading that is turned. -/
import Derived.Test.YtkndejjfndjcoaaGreatM11
namespace Go.Proofs.YtkndejjfndjcoaaGreat.Hd
open Go.RowKit Go.Proofs.YtkndejjfndjcoaaGreat.Cm Go.Proofs.YtkndejjfndjcoaaGreat.Pl
set_option linter.unusedVariables false

theorem turnHeadingS (h n : Int) (w : World) : Calls Tryz.prog 119 #[.int .i64 h, .int .i64 n] w fun e w' => e = .returned (.int .i64 (th h n)) ∧ w = w' := by
  cases c : hd h
  · have C := Lib.hid (isHeadingS_of c)
    go_enter Tryz.func119, Tryz.ntmps119
    go_wp2_with fail
    refine (C.out _).mono ?_
    rintro e w' ⟨rfl, rfl⟩
    go_wp2_with fail
    go_returns
    refine ⟨?_, rfl⟩
    unfold th; rw [c]; rfl
  · have C := Lib.hid (isHeadingS_of c)
    have ⟨h1, h2⟩ := hd_yes c
    have s : wrap64 (h + n % 4) = h + n % 4 := IntWalk.wrap64_in _ (by omega)
    have f : (h + n % 4) % 4 = th h n := by unfold th; rw [c]; simp
    generalize th h n = r at *
    have Q := Lib.hid (fun w => f ▸ l2Mod (h + n % 4) w)
    clear f c h1 h2
    go_enter Tryz.func119, Tryz.ntmps119
    go_wp2_with fail
    refine (C.out _).mono ?_
    rintro e w' ⟨rfl, rfl⟩
    go_wp2_with fail
    refine (l2Mod n _).mono ?_
    rintro e w' ⟨rfl, rfl⟩
    go_wp2_with fail
    refine (Q.out _).mono ?_
    rintro e w' ⟨rfl, rfl⟩
    go_wp2_with fail
    go_returns
    exact ⟨rfl, rfl⟩

end Go.Proofs.YtkndejjfndjcoaaGreat.Hd
