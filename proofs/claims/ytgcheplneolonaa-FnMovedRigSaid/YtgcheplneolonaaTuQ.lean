/- A jet that is turned or moved, of the program. -/
import Derived.Test.YtgcheplneolonaaJbQ
import Derived.Test.YtgcheplneolonaaTp
namespace Go.Proofs.Ytgcheplneolonaa.Dr4
open Go.RowKit Go.Proofs.Ytgcheplneolonaa.Cx Go.Proofs.Ytgcheplneolonaa.Cm Go.Proofs.Ytgcheplneolonaa.Pl Go.Proofs.Ytgcheplneolonaa.Str Go.Proofs.Ytgcheplneolonaa.Pw Go.Proofs.Ytgcheplneolonaa.P2 Go.Proofs.Ytgcheplneolonaa.Hd Go.Proofs.Ytgcheplneolonaa.Jt Go.Proofs.Ytgcheplneolonaa.Dp
set_option linter.unusedVariables false
set_option linter.unusedSimpArgs false

/-- A jet behind n quarter turns. -/
def turnV (x y h t l n : Int) : Value := if jt x y h t l then jv (tx (n % 4).toNat x y) (ty (n % 4).toNat x y) (th h n) t l else jv 0 0 0 0 0
theorem turnV_no {x y h t l n : Int} (hj : jt x y h t l = false) : turnV x y h t l n = jv 0 0 0 0 0 := by unfold turnV; rw [hj]; rfl
theorem turnV_yes {x y h t l n : Int} (hj : jt x y h t l = true) : turnV x y h t l n = jv (tx (n % 4).toNat x y) (ty (n % 4).toNat x y) (th h n) t l := by unfold turnV; rw [hj]; rfl
theorem pl_of {x y h t l : Int} (hj : jt x y h t l = true) : (ms x && ms y) = true := by
  obtain ⟨hx, hy, _⟩ := jt_iff.1 hj
  exact pl_mk (by omega) (by omega)

set_option maxHeartbeats 2000000 in
set_option maxRecDepth 100000 in
theorem turnJetI (x y h t l n : Int) (w : World) : Calls Try.prog 101 #[jv x y h t l, .int .i64 n] w fun e w' => e = .returned (turnV x y h t l n) ∧ Below w.heap.size w w' := by
  cases hj : jt x y h t l
  · rw [turnV_no hj]
    have C := Lib.hid (isJetI_of hj)
    clear hj
    go_enter Try.func101, Try.ntmps101
    go_wp2_with fail
    refine (C.out _).mono ?_
    rintro e w' ⟨rfl, rfl⟩
    go_wp2_with fail
    go_returns
    exact ⟨rfl, by go_grown⟩
  · rw [turnV_yes hj]
    have C := Lib.hid (isJetI_of hj)
    have T := Lib.hid (Tp.turnI n (pl_of hj))
    have H := Lib.hid (turnHeadingI h n)
    generalize tx (n % 4).toNat x y = X at *
    generalize ty (n % 4).toNat x y = Y at *
    generalize th h n = R at *
    clear hj
    go_enter Try.func101, Try.ntmps101
    go_wp2_with fail
    refine (C.out _).mono ?_
    rintro e w' ⟨rfl, rfl⟩
    go_wp2_with fail
    refine (T.out _).mono ?_
    rintro e v ⟨rfl, hb⟩
    have Jj := Lib.hid (JB.below (((JB.new w x y h t l).alloc (.cells (jc 0 0 0 0 0) 84)).alloc (.cells (jc x y h t l) 84)) hb)
    have Jr := Lib.hid (JB.below ((show JB ((w.alloc (.cells (jc x y h t l) 84)).alloc (.cells (jc 0 0 0 0 0) 84)) (w.heap.size + 1) 0 0 0 0 0 from by simpa using JB.new (w.alloc (.cells (jc x y h t l) 84)) 0 0 0 0 0).alloc (.cells (jc x y h t l) 84)) hb)
    have HB := Lib.hid (show Below w.heap.size w v from Below.trans (by go_grown) (hb.mono (by go_size)))
    have hsz := HB.out.size
    obtain ⟨a0, a1, a2, a3, a4⟩ := Jj.out.c
    have f0 := Jj.out.f 0
    have f1 := Jj.out.f 1
    have f2 := Jj.out.f 2
    obtain ⟨b0, b1, b2, b3, b4⟩ := Jr.out.c
    have g0 := Jr.out.f 0
    have g1 := Jr.out.f 1
    have g2 := Jr.out.f 2
    have g3 := Jr.out.f 3
    have g4 := Jr.out.f 4
    clear hb
    go_wp2_with fail
    refine (H.out _).mono ?_
    rintro e w' ⟨rfl, rfl⟩
    have JR := Lib.hid (((Jr.out.other (b' := w.heap.size) 0 (.int .i64 X) (by omega)).other (b' := w.heap.size) 1 (.int .i64 Y) (by omega)).other (b' := w.heap.size) 2 (.int .i64 R) (by omega))
    go_wp2_with fail
    obtain ⟨s0, s1, s2, s3, s4⟩ := (JR.out.set X Y R t l).c
    (try simp only [Exit.inBlock, Exit.then])
    refine bodyPost_ret (v := jv X Y R t l) (by simp [results, Try.results101, go_sem, s0, s1, s2, s3, s4]; try rfl) rfl ?_
    exact ⟨rfl, HB.out.trans (by go_grown)⟩

end Go.Proofs.Ytgcheplneolonaa.Dr4
