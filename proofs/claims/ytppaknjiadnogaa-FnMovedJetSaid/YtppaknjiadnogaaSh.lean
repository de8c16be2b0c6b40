/- A jet that is moved, of the program. -/
import Derived.Test.YtppaknjiadnogaaTu
import Derived.Deep.DeepCutAuto
namespace Go.Proofs.Ytppaknjiadnogaa.Dr4
open Go.RowKit Go.Proofs.Ytppaknjiadnogaa.Cx Go.Proofs.Ytppaknjiadnogaa.Cm Go.Proofs.Ytppaknjiadnogaa.Pl Go.Proofs.Ytppaknjiadnogaa.Str Go.Proofs.Ytppaknjiadnogaa.Pw Go.Proofs.Ytppaknjiadnogaa.P2 Go.Proofs.Ytppaknjiadnogaa.Hd Go.Proofs.Ytppaknjiadnogaa.Jt Go.Proofs.Ytppaknjiadnogaa.Dp
set_option linter.unusedVariables false
set_option linter.unusedSimpArgs false

/-- A jet that is moved, and whether it is. -/
def shB (x y h t l a b : Int) : Bool := jt x y h t l && (ms a && ms b) && jt (x + a) (y + b) h t l
def shV (x y h t l a b : Int) : Value := if shB x y h t l a b then .tuple #[jv (x + a) (y + b) h t l, .bool true] else .tuple #[jv 0 0 0 0 0, .bool false]
theorem shV_no {x y h t l a b : Int} (k : shB x y h t l a b = false) : shV x y h t l a b = .tuple #[jv 0 0 0 0 0, .bool false] := by unfold shV; rw [k]; rfl
theorem shV_yes {x y h t l a b : Int} (k : shB x y h t l a b = true) : shV x y h t l a b = .tuple #[jv (x + a) (y + b) h t l, .bool true] := by unfold shV; rw [k]; rfl

set_option maxHeartbeats 2000000 in
set_option maxRecDepth 100000 in
theorem shiftJetI (x y h t l a b : Int) (w : World) : Calls Try.prog 20 #[jv x y h t l, .agg #[.int .i64 a, .int .i64 b]] w fun e w' => e = .returned (shV x y h t l a b) ∧ Below w.heap.size w w' := by
  cases hj : jt x y h t l
  · rw [shV_no (by unfold shB; rw [hj]; rfl)]
    have C := Lib.hid (isJetI_of hj)
    clear hj
    go_enter Try.func20, Try.ntmps20
    go_wp2_with fail
    refine (C.out _).mono ?_
    rintro e w' ⟨rfl, rfl⟩
    go_wp2_with fail
    go_returns
    exact ⟨rfl, by go_grown⟩
  have C := Lib.hid (isJetI_of hj)
  obtain ⟨P, hP⟩ : ∃ P, (ms a && ms b && (ms (x + a) && ms (y + b))) = P := ⟨_, rfl⟩
  have A := addI x y a b (pl_of hj) rfl rfl
  rw [Bool.true_and, hP] at A
  cases P
  · have hs : shB x y h t l a b = false := by
      cases hs : shB x y h t l a b
      · rfl
      · unfold shB at hs
        rw [Bool.and_eq_true, Bool.and_eq_true] at hs
        rw [hs.1.2, pl_of hs.2] at hP; cases hP
    rw [shV_no hs]
    rw [told2_no rfl] at A
    replace A := Lib.hid A
    clear hj hP hs
    go_enter Try.func20, Try.ntmps20
    go_wp2_with fail
    refine (C.out _).mono ?_
    rintro e w' ⟨rfl, rfl⟩
    go_wp2_with fail
    refine (A.out _).mono ?_
    rintro e v ⟨rfl, hb⟩
    have Jj := Lib.hid (JB.below ((((JB.new w x y h t l).alloc (.cells #[.int .i64 a, .int .i64 b] 25)).alloc (.cells (jc 0 0 0 0 0) 27)).alloc (.cells (jc x y h t l) 27)) hb)
    have Jr := Lib.hid (JB.below ((show JB (((w.alloc (.cells (jc x y h t l) 27)).alloc (.cells #[.int .i64 a, .int .i64 b] 25)).alloc (.cells (jc 0 0 0 0 0) 27)) (w.heap.size + 1 + 1) 0 0 0 0 0 from by simpa using JB.new ((w.alloc (.cells (jc x y h t l) 27)).alloc (.cells #[.int .i64 a, .int .i64 b] 25)) 0 0 0 0 0).alloc (.cells (jc x y h t l) 27)) hb)
    have HB := Lib.hid (show Below w.heap.size w v from Below.trans (by go_grown) (hb.mono (by go_size)))
    have hsz := HB.out.size
    have l1 := Jj.out.lt
    have l2 := Jr.out.lt
    have l3 : ∀ j, w.heap.size < v.heap.size + j := fun j => by omega
    have l4 : ∀ j, w.heap.size + 1 + 1 < v.heap.size + j := fun j => by omega
    obtain ⟨a0, a1, a2, a3, a4⟩ := Jj.out.c
    have f0 := Jj.out.f 0
    have f1 := Jj.out.f 1
    obtain ⟨b0, b1, b2, b3, b4⟩ := Jr.out.c
    have g0 := Jr.out.f 0
    have g1 := Jr.out.f 1
    have g2 := Jr.out.f 2
    have g3 := Jr.out.f 3
    have g4 := Jr.out.f 4
    clear hb
    go_upto_region 6 with fail
    have JR := Lib.hid (show JB (((v.setCell ⟨w.heap.size, 0, none⟩ (.int .i64 0)).setCell ⟨w.heap.size, 1, none⟩ (.int .i64 0)).alloc (.cells #[.int .i64 0, .int .i64 0] 25)) (w.heap.size + 1 + 1) 0 0 0 0 0 from ((Jr.out.other (b' := w.heap.size) 0 (.int .i64 0) (by omega)).other (b' := w.heap.size) 1 (.int .i64 0) (by omega)).alloc (.cells #[.int .i64 0, .int .i64 0] 25))
    have JQ := Lib.hid (show JB (((v.setCell ⟨w.heap.size, 0, none⟩ (.int .i64 0)).setCell ⟨w.heap.size, 1, none⟩ (.int .i64 0)).alloc (.cells #[.int .i64 0, .int .i64 0] 25)) w.heap.size 0 0 h t l from ((Jj.out.set0 0).set1 0).alloc (.cells #[.int .i64 0, .int .i64 0] 25))
    have HC := Lib.hid (show Below w.heap.size w (((v.setCell ⟨w.heap.size, 0, none⟩ (.int .i64 0)).setCell ⟨w.heap.size, 1, none⟩ (.int .i64 0)).alloc (.cells #[.int .i64 0, .int .i64 0] 25)) from HB.out.trans (by go_grown))
    clear a0 a1 a2 a3 a4 b0 b1 b2 b3 b4 f0 f1 g0 g1 g2 g3 g4 l1 l2 l3 l4 HB Jj Jr hsz
    generalize (((v.setCell ⟨w.heap.size, 0, none⟩ (.int .i64 0)).setCell ⟨w.heap.size, 1, none⟩ (.int .i64 0)).alloc (.cells #[.int .i64 0, .int .i64 0] 25)) = V at *
    have HB := HC
    have hsz := HB.out.size
    obtain ⟨b0, b1, b2, b3, b4⟩ := JR.out.c
    have g0 := JR.out.f 0
    have g1 := JR.out.f 1
    have g2 := JR.out.f 2
    have g3 := JR.out.f 3
    have g4 := JR.out.f 4
    go_wp2_with fail
    obtain ⟨s0, s1, s2, s3, s4⟩ := (JR.out.set 0 0 0 0 0).c
    (try simp only [Exit.inBlock, Exit.then])
    refine bodyPost_ret (v := .tuple #[jv 0 0 0 0 0, .bool false]) (by simp [results, Try.results20, go_sem, s0, s1, s2, s3, s4]; try rfl) rfl ?_
    exact ⟨rfl, HB.out.trans (by go_grown)⟩
  · obtain ⟨hab, hxy⟩ := Bool.and_eq_true_iff.1 hP
    rw [told2_yes rfl] at A
    replace A := Lib.hid A
    have C2 := isJetI (x + a) (y + b) h t l
    have hq : shB x y h t l a b = jt (x + a) (y + b) h t l := by unfold shB; rw [hj, hab]; rfl
    cases hk : jt (x + a) (y + b) h t l
    · rw [shV_no (hq.trans hk)]
      rw [hk] at C2
      replace C2 := Lib.hid C2
      clear hj hP hab hxy hq hk
      generalize x + a = X at *
      generalize y + b = Y at *
      go_enter Try.func20, Try.ntmps20
      go_wp2_with fail
      refine (C.out _).mono ?_
      rintro e w' ⟨rfl, rfl⟩
      go_wp2_with fail
      refine (A.out _).mono ?_
      rintro e v ⟨rfl, hb⟩
      have Jj := Lib.hid (JB.below ((((JB.new w x y h t l).alloc (.cells #[.int .i64 a, .int .i64 b] 25)).alloc (.cells (jc 0 0 0 0 0) 27)).alloc (.cells (jc x y h t l) 27)) hb)
      have Jr := Lib.hid (JB.below ((show JB (((w.alloc (.cells (jc x y h t l) 27)).alloc (.cells #[.int .i64 a, .int .i64 b] 25)).alloc (.cells (jc 0 0 0 0 0) 27)) (w.heap.size + 1 + 1) 0 0 0 0 0 from by simpa using JB.new ((w.alloc (.cells (jc x y h t l) 27)).alloc (.cells #[.int .i64 a, .int .i64 b] 25)) 0 0 0 0 0).alloc (.cells (jc x y h t l) 27)) hb)
      have HB := Lib.hid (show Below w.heap.size w v from Below.trans (by go_grown) (hb.mono (by go_size)))
      have hsz := HB.out.size
      have l1 := Jj.out.lt
      have l2 := Jr.out.lt
      have l3 : ∀ j, w.heap.size < v.heap.size + j := fun j => by omega
      have l4 : ∀ j, w.heap.size + 1 + 1 < v.heap.size + j := fun j => by omega
      obtain ⟨a0, a1, a2, a3, a4⟩ := Jj.out.c
      have f0 := Jj.out.f 0
      have f1 := Jj.out.f 1
      obtain ⟨b0, b1, b2, b3, b4⟩ := Jr.out.c
      have g0 := Jr.out.f 0
      have g1 := Jr.out.f 1
      have g2 := Jr.out.f 2
      have g3 := Jr.out.f 3
      have g4 := Jr.out.f 4
      clear hb
      go_wp2_with fail
      refine (C2.out _).mono ?_
      rintro e w' ⟨rfl, rfl⟩
      go_upto_region 6 with fail
      have JR := Lib.hid (show JB ((((v.setCell ⟨w.heap.size, 0, none⟩ (.int .i64 X)).setCell ⟨w.heap.size, 1, none⟩ (.int .i64 Y)).alloc (.cells #[.int .i64 X, .int .i64 Y] 25)).alloc (.cells (jc X Y h t l) 27)) (w.heap.size + 1 + 1) 0 0 0 0 0 from (((Jr.out.other (b' := w.heap.size) 0 (.int .i64 X) (by omega)).other (b' := w.heap.size) 1 (.int .i64 Y) (by omega)).alloc (.cells #[.int .i64 X, .int .i64 Y] 25)).alloc (.cells (jc X Y h t l) 27))
      have JQ := Lib.hid (show JB ((((v.setCell ⟨w.heap.size, 0, none⟩ (.int .i64 X)).setCell ⟨w.heap.size, 1, none⟩ (.int .i64 Y)).alloc (.cells #[.int .i64 X, .int .i64 Y] 25)).alloc (.cells (jc X Y h t l) 27)) w.heap.size X Y h t l from (((Jj.out.set0 X).set1 Y).alloc (.cells #[.int .i64 X, .int .i64 Y] 25)).alloc (.cells (jc X Y h t l) 27))
      have HC := Lib.hid (show Below w.heap.size w ((((v.setCell ⟨w.heap.size, 0, none⟩ (.int .i64 X)).setCell ⟨w.heap.size, 1, none⟩ (.int .i64 Y)).alloc (.cells #[.int .i64 X, .int .i64 Y] 25)).alloc (.cells (jc X Y h t l) 27)) from HB.out.trans (by go_grown))
      clear a0 a1 a2 a3 a4 b0 b1 b2 b3 b4 f0 f1 g0 g1 g2 g3 g4 l1 l2 l3 l4 HB Jj Jr hsz
      generalize ((((v.setCell ⟨w.heap.size, 0, none⟩ (.int .i64 X)).setCell ⟨w.heap.size, 1, none⟩ (.int .i64 Y)).alloc (.cells #[.int .i64 X, .int .i64 Y] 25)).alloc (.cells (jc X Y h t l) 27)) = V at *
      have HB := HC
      have hsz := HB.out.size
      obtain ⟨b0, b1, b2, b3, b4⟩ := JR.out.c
      have g0 := JR.out.f 0
      have g1 := JR.out.f 1
      have g2 := JR.out.f 2
      have g3 := JR.out.f 3
      have g4 := JR.out.f 4
      go_wp2_with fail
      obtain ⟨s0, s1, s2, s3, s4⟩ := (JR.out.set 0 0 0 0 0).c
      (try simp only [Exit.inBlock, Exit.then])
      refine bodyPost_ret (v := .tuple #[jv 0 0 0 0 0, .bool false]) (by simp [results, Try.results20, go_sem, s0, s1, s2, s3, s4]; try rfl) rfl ?_
      exact ⟨rfl, HB.out.trans (by go_grown)⟩
    · rw [shV_yes (hq.trans hk)]
      rw [hk] at C2
      replace C2 := Lib.hid C2
      clear hj hP hab hxy hq hk
      generalize x + a = X at *
      generalize y + b = Y at *
      go_enter Try.func20, Try.ntmps20
      go_wp2_with fail
      refine (C.out _).mono ?_
      rintro e w' ⟨rfl, rfl⟩
      go_wp2_with fail
      refine (A.out _).mono ?_
      rintro e v ⟨rfl, hb⟩
      have Jj := Lib.hid (JB.below ((((JB.new w x y h t l).alloc (.cells #[.int .i64 a, .int .i64 b] 25)).alloc (.cells (jc 0 0 0 0 0) 27)).alloc (.cells (jc x y h t l) 27)) hb)
      have Jr := Lib.hid (JB.below ((show JB (((w.alloc (.cells (jc x y h t l) 27)).alloc (.cells #[.int .i64 a, .int .i64 b] 25)).alloc (.cells (jc 0 0 0 0 0) 27)) (w.heap.size + 1 + 1) 0 0 0 0 0 from by simpa using JB.new ((w.alloc (.cells (jc x y h t l) 27)).alloc (.cells #[.int .i64 a, .int .i64 b] 25)) 0 0 0 0 0).alloc (.cells (jc x y h t l) 27)) hb)
      have HB := Lib.hid (show Below w.heap.size w v from Below.trans (by go_grown) (hb.mono (by go_size)))
      have hsz := HB.out.size
      have l1 := Jj.out.lt
      have l2 := Jr.out.lt
      have l3 : ∀ j, w.heap.size < v.heap.size + j := fun j => by omega
      have l4 : ∀ j, w.heap.size + 1 + 1 < v.heap.size + j := fun j => by omega
      obtain ⟨a0, a1, a2, a3, a4⟩ := Jj.out.c
      have f0 := Jj.out.f 0
      have f1 := Jj.out.f 1
      obtain ⟨b0, b1, b2, b3, b4⟩ := Jr.out.c
      have g0 := Jr.out.f 0
      have g1 := Jr.out.f 1
      have g2 := Jr.out.f 2
      have g3 := Jr.out.f 3
      have g4 := Jr.out.f 4
      clear hb
      go_wp2_with fail
      refine (C2.out _).mono ?_
      rintro e w' ⟨rfl, rfl⟩
      go_upto_region 7 with fail
      have JR := Lib.hid (show JB ((((v.setCell ⟨w.heap.size, 0, none⟩ (.int .i64 X)).setCell ⟨w.heap.size, 1, none⟩ (.int .i64 Y)).alloc (.cells #[.int .i64 X, .int .i64 Y] 25)).alloc (.cells (jc X Y h t l) 27)) (w.heap.size + 1 + 1) 0 0 0 0 0 from (((Jr.out.other (b' := w.heap.size) 0 (.int .i64 X) (by omega)).other (b' := w.heap.size) 1 (.int .i64 Y) (by omega)).alloc (.cells #[.int .i64 X, .int .i64 Y] 25)).alloc (.cells (jc X Y h t l) 27))
      have JQ := Lib.hid (show JB ((((v.setCell ⟨w.heap.size, 0, none⟩ (.int .i64 X)).setCell ⟨w.heap.size, 1, none⟩ (.int .i64 Y)).alloc (.cells #[.int .i64 X, .int .i64 Y] 25)).alloc (.cells (jc X Y h t l) 27)) w.heap.size X Y h t l from (((Jj.out.set0 X).set1 Y).alloc (.cells #[.int .i64 X, .int .i64 Y] 25)).alloc (.cells (jc X Y h t l) 27))
      have HC := Lib.hid (show Below w.heap.size w ((((v.setCell ⟨w.heap.size, 0, none⟩ (.int .i64 X)).setCell ⟨w.heap.size, 1, none⟩ (.int .i64 Y)).alloc (.cells #[.int .i64 X, .int .i64 Y] 25)).alloc (.cells (jc X Y h t l) 27)) from HB.out.trans (by go_grown))
      clear a0 a1 a2 a3 a4 b0 b1 b2 b3 b4 f0 f1 g0 g1 g2 g3 g4 l1 l2 l3 l4 HB Jj Jr hsz
      generalize ((((v.setCell ⟨w.heap.size, 0, none⟩ (.int .i64 X)).setCell ⟨w.heap.size, 1, none⟩ (.int .i64 Y)).alloc (.cells #[.int .i64 X, .int .i64 Y] 25)).alloc (.cells (jc X Y h t l) 27)) = V at *
      have HB := HC
      have hsz := HB.out.size
      obtain ⟨b0, b1, b2, b3, b4⟩ := JR.out.c
      have g0 := JR.out.f 0
      have g1 := JR.out.f 1
      have g2 := JR.out.f 2
      have g3 := JR.out.f 3
      have g4 := JR.out.f 4
      obtain ⟨a0, a1, a2, a3, a4⟩ := JQ.out.c
      go_wp2_with fail
      obtain ⟨s0, s1, s2, s3, s4⟩ := (JR.out.set X Y h t l).c
      (try simp only [Exit.inBlock, Exit.then])
      refine bodyPost_ret (v := .tuple #[jv X Y h t l, .bool true]) (by simp [results, Try.results20, go_sem, s0, s1, s2, s3, s4]; try rfl) rfl ?_
      exact ⟨rfl, HB.out.trans (by go_grown)⟩


end Go.Proofs.Ytppaknjiadnogaa.Dr4
