/- Marks of texts, what lies in other blocks stays. -/
import Derived.Test.YtkndejjfndjcoaaGreatM1
import Derived.Test.YtkndejjfndjcoaaGreatMarkM
namespace Go.Proofs.YtkndejjfndjcoaaGreat.Smk
open Go.RowKit Go.Proofs.YtkndejjfndjcoaaGreat.Mem Go.Proofs.YtkndejjfndjcoaaGreat.Strs Go.Proofs.YtkndejjfndjcoaaGreat.Fmt
open Go.Proofs.YtkndejjfndjcoaaGreat.Mark (M markText part_zero part_get part_set part_all)
set_option linter.unusedVariables false
set_option linter.unusedSimpArgs false

theorem below_grown {w w' : World} {r : Option Nat} (h : Below w.heap.size w w') : w.grownBy w' r := ⟨h.os, h.tape, h.output, h.size, fun j hj _ => h.block j hj⟩
def Laid (w : World) (base g n c k : Nat) (e : Ending) (w' : World) : Prop :=
  e = .returned (.int .i64 ((k : Int) + n)) ∧ w'.ownsRow base 9 1 (.slice (some ⟨g, 0, none⟩) n c) n (strs (Mark.marks k n)) ∧ w.grownBy w' (some g)

set_option maxHeartbeats 2000000 in
theorem markStrG (base g n c k : Nat) (zs : List ByteArray) (w : World) (hn : zs.length = n) (hb : n ≤ 8388608) (hk0 : 0 < k) (hk : k ≤ 8388608) (hr : w.ownsRow base 9 1 (.slice (some ⟨g, 0, none⟩) n c) n (strs zs)) :
    Calls Tryz.prog 29 #[.slice (some ⟨g, 0, none⟩) n c, .int .i64 k] w (Laid w base g n c k) := by
  have HN := Lib.hid hn
  have R0 := Lib.hid (show w.ownsRow base 9 1 (.slice (some ⟨g, 0, none⟩) n c) n (strs (Mark.part k 0 zs)) by rw [part_zero]; exact hr)
  have hbg : base ≤ g := (hr.lt g rfl).1
  clear hn hr
  go_enter Tryz.func29, Tryz.ntmps29
  go_wp2_with fail
  go_loopw [1, 5] (fun q i wr => ∃ j : Nat, j ≤ n ∧ i = .int .i64 j ∧ q = .int .i64 ((k : Int) + j) ∧ Hid (wr.ownsRow base 9 1 (.slice (some ⟨g, 0, none⟩) n c) n (strs (Mark.part k j zs))) ∧ Hid (w.grownBy wr (some g))) (fun _ i _ => n - (intOf i).toNat)
  case atStart => exact ⟨0, Nat.zero_le _, rfl, by simp, R0, Lib.hid (Rw.grown_refl _ _)⟩
  case round =>
    obtain ⟨j, hj, rfl, rfl, RK, BK⟩ := hrel
    by_cases hlt : j < n
    · have C := fun w1 => Lib.hid (markText (k + j) w1 (by omega) (by omega))
      rw [show ((k + j : Nat) : Int) = (k : Int) + (j : Int) by omega] at C
      generalize hm : M (k + j) = m at C
      have HM := Lib.hid hm
      clear hm
      go_wp2_with fail
      refine (C _).out.mono ?_
      rintro e w1 ⟨rfl, b1⟩
      have R1 := Rw.owns_below RK.out b1
      have f1 := R1.frozenAt j
      obtain ⟨z, hz⟩ := part_get (k := k) (j := j) (zs := zs) (by rw [HN.out]; exact hlt)
      have c1 := (R1.cellAt j (by omega)).trans (strs_get hz)
      clear hz
      obtain ⟨r1, r2⟩ := R1.stored j (.string m)
      have e3 := part_set (k := k) (j := j) (zs := zs) (by rw [HN.out]; exact hlt)
      rw [HM.out] at e3
      rw [e3] at r1
      have R2 := Lib.hid r1
      have B2 := Lib.hid (Rw.grown_trans (Rw.grown_trans BK.out (below_grown b1)) r2)
      clear r1 r2 R1 e3 RK BK b1 R0
      go_wp2_with fail
      go_roundw
      case rel => exact ⟨j + 1, by omega, by go_num, by first | rfl | (congr 1; omega), R2, B2⟩
      case measure => simp [intOf]; omega
    · obtain rfl : j = n := by omega
      have F := RK.out
      rw [show Mark.part k j zs = Mark.marks k j by rw [← HN.out]; exact part_all k zs] at F
      go_wp2_with fail
      go_ret
      exact ⟨rfl, F, BK.out⟩
end Go.Proofs.YtkndejjfndjcoaaGreat.Smk
