/- The new desk, of the program and of the model, and the laws' helpers on desks that have no show. -/
import Derived.Test.YtokncfhpmjohdaeM5
import Derived.Test.YtokncfhpmjohdaeM4
import Derived.Test.YtokncfhpmjohdaeM6
set_option linter.unusedVariables false
set_option linter.unusedSimpArgs false
namespace Go.Proofs.Ytokncfhpmjohdae.Nd11
open Go.RowKit Go.ChangeShapes Go.WideShapes Go.WideElems Go.Deep Go.Proofs.Ytokncfhpmjohdae.Mem Go.Proofs.Ytokncfhpmjohdae.Rw Go.Proofs.Ytokncfhpmjohdae.P2 Go.Proofs.Ytokncfhpmjohdae.Bk Go.Proofs.Ytokncfhpmjohdae.Sp Go.Proofs.Ytokncfhpmjohdae.Sq
open Go.Proofs.Ytokncfhpmjohdae.Pls (pls)
set_option linter.unusedVariables false
set_option linter.unusedSimpArgs false

set_option maxHeartbeats 2000000 in
theorem heldPlaceS (A : Option Addr) (n c k B : Nat) (w : World) (hb : n ≤ 1048576) (hk : k ≤ 16777216) (hr : Rd w B A (mk k (n * 2))) :
    Calls Try.prog 47 #[.slice A n c, .int .i64 k] w fun e w' => e = .returned (.int .i64 ((k : Int) + ((n * 2 : Nat) : Int))) ∧ w = w' := by
  have HR := Lib.hid hr
  clear hr
  go_enter Try.func47, Try.ntmps47
  go_wp2_with fail
  go_loop [1, 5] (fun q i => ∃ j : Nat, j ≤ n ∧ i = .int .i64 j ∧ q = .int .i64 ((k : Int) + ((j * 2 : Nat) : Int))) (fun _ i => n - (intOf i).toNat)
  case atStart => exact ⟨0, Nat.zero_le _, rfl, by simp⟩
  case round =>
    obtain ⟨j, hj, rfl, rfl⟩ := hrel
    obtain ⟨q, hq⟩ : ∃ q : Nat, q = k + j * 2 := ⟨_, rfl⟩
    rw [show (k : Int) + ((j * 2 : Nat) : Int) = (q : Int) by omega]
    by_cases hlt : j < n
    · obtain ⟨b, o, eA, hbl, hcell⟩ := HR.out.get (k := j * 2) (by rw [mk_len]; omega)
      have c1 := hcell (j * 2) _ (mk_get (by omega))
      have c2 := hcell (j * 2 + 1) _ (mk_get (by omega))
      rw [← Nat.add_assoc] at c2
      rw [show (k : Int) + ((j * 2 : Nat) : Int) = (q : Int) by omega] at c1
      rw [show (k : Int) + ((j * 2 + 1 : Nat) : Int) = (q : Int) + 1 by omega] at c2
      have HQ := Lib.hid hq
      have hq8 : q ≤ 33554432 := by omega
      clear hcell hbl hq
      subst eA
      go_wp2_with fail
      go_round
      case rel => exact ⟨j + 1, by omega, by go_num, by (have := HQ.out; congr 1; omega)⟩
      case measure => simp [intOf]; omega
    · obtain rfl : j = n := by omega
      have HQ := Lib.hid hq
      clear hq
      go_wp2_with fail
      go_ret
      exact ⟨by rw [HQ.out]; congr 1, rfl⟩


/-- A desk without a show, its rose in a row. -/
abbrev dv (g c : Nat) : Value := .agg #[.slice none 0 0, .slice none 0 0, .slice none 0 0, .int .i64 0, .slice (some ⟨g, 0, none⟩) 1 c, .int .i64 0, .int .i64 0, .int .i64 0, .int .i64 0]
abbrev dc (g c : Nat) : Array Value := #[.slice none 0 0, .slice none 0 0, .slice none 0 0, .int .i64 0, .slice (some ⟨g, 0, none⟩) 1 c, .int .i64 0, .int .i64 0, .int .i64 0, .int .i64 0]
def NewD (w : World) (e : Ending) (w' : World) : Prop :=
  ∃ g c, e = .returned (dv g c) ∧ w'.ownsRow w.heap.size 25 2 (.slice (some ⟨g, 0, none⟩) 1 c) 1 (pls [(0, 0)]) ∧ Below w.heap.size w w'
theorem eqBox0 (w : World) : Calls Try.prog 43 #[.agg #[.int .i64 0, .int .i64 0, .int .i64 0, .int .i64 0], .agg #[.int .i64 0, .int .i64 0, .int .i64 0, .int .i64 0]] w fun e w' => e = .returned (.bool true) ∧ Below w.heap.size w w' := by
  go_enter Try.func43, Try.ntmps43
  go_wp2_with (go_at_call 79; refine (Pw.eqPlace _ _ _).mono ?_; rintro e w' ⟨rfl, rfl⟩)
  all_goals go_returns
  all_goals exact ⟨rfl, by go_grown⟩
set_option maxRecDepth 100000 in
theorem newS (w : World) : Calls Try.prog 14 #[] w (NewD w) := by
  go_enter Try.func14, Try.ntmps14
  go_wp2_with fail
  have hz : (w.alloc (.cells (dc (w.heap.size + 1) 1) 48)).heap.size = w.heap.size + 1 := by simp [go_sem]
  have ho := World.ownsRow_lit (base := w.heap.size) (e := 25) (size := 2) (w.alloc (.cells (dc (w.heap.size + 1) 1) 48)) #[.int .i64 0, .int .i64 0] 1 (by rw [hz]; omega) (by unfold maxLen; omega) rfl
  rw [hz] at ho
  have K := (Bk.new w (dc (w.heap.size + 1) 1) 48).alloc (o := .cells #[.int .i64 0, .int .i64 0] 25)
  have f0 := (Below.refl w.heap.size w).alloc (Nat.le_refl _) (.cells (dc (w.heap.size + 1) 1) 48)
  have hb := f0.alloc f0.size (.cells #[.int .i64 0, .int .i64 0] 25)
  have s0 := K.cell (i := 0) rfl
  have s1 := K.cell (i := 1) rfl
  have s2 := K.cell (i := 2) rfl
  have s3 := K.cell (i := 3) rfl
  have s4 := K.cell (i := 4) rfl
  have s5 := K.cell (i := 5) rfl
  have s6 := K.cell (i := 6) rfl
  have s7 := K.cell (i := 7) rfl
  have s8 := K.cell (i := 8) rfl
  refine bodyPost_ret (v := dv (w.heap.size + 1) 1) (by simp [results, Try.results14, go_sem, s0, s1, s2, s3, s4, s5, s6, s7, s8]; try rfl) rfl ?_
  exact ⟨w.heap.size + 1, 1, rfl, ho, hb⟩
set_option maxRecDepth 100000 in
theorem newI (w : World) : Calls Try.prog 15 #[] w (NewD w) := by
  go_enter Try.func15, Try.ntmps15
  go_wp2_with fail
  have hz : (w.alloc (.cells (dc (w.heap.size + 1) 1) 48)).heap.size = w.heap.size + 1 := by simp [go_sem]
  have ho := World.ownsRow_lit (base := w.heap.size) (e := 25) (size := 2) (w.alloc (.cells (dc (w.heap.size + 1) 1) 48)) #[.int .i64 0, .int .i64 0] 1 (by rw [hz]; omega) (by unfold maxLen; omega) rfl
  rw [hz] at ho
  have K := (Bk.new w (dc (w.heap.size + 1) 1) 48).alloc (o := .cells #[.int .i64 0, .int .i64 0] 25)
  have f0 := (Below.refl w.heap.size w).alloc (Nat.le_refl _) (.cells (dc (w.heap.size + 1) 1) 48)
  have hb := f0.alloc f0.size (.cells #[.int .i64 0, .int .i64 0] 25)
  have s0 := K.cell (i := 0) rfl
  have s1 := K.cell (i := 1) rfl
  have s2 := K.cell (i := 2) rfl
  have s3 := K.cell (i := 3) rfl
  have s4 := K.cell (i := 4) rfl
  have s5 := K.cell (i := 5) rfl
  have s6 := K.cell (i := 6) rfl
  have s7 := K.cell (i := 7) rfl
  have s8 := K.cell (i := 8) rfl
  refine bodyPost_ret (v := dv (w.heap.size + 1) 1) (by simp [results, Try.results15, go_sem, s0, s1, s2, s3, s4, s5, s6, s7, s8]; try rfl) rfl ?_
  exact ⟨w.heap.size + 1, 1, rfl, ho, hb⟩

set_option maxRecDepth 100000 in
theorem eqDesk (g c k d : Nat) (w : World) (h : Rd w w.heap.size (some ⟨g, 0, none⟩) (pls [(0, 0)])) (h2 : Rd w w.heap.size (some ⟨k, 0, none⟩) (pls [(0, 0)])) : Calls Try.prog 16 #[dv g c, dv k d] w fun e w' => e = .returned (.bool true) ∧ Below w.heap.size w w' := by
  have f0 := (Below.refl w.heap.size w).alloc (Nat.le_refl _) (.cells (dc g c) 48)
  have hz : (w.alloc (.cells (dc g c) 48)).heap.size = w.heap.size + 1 := by simp [go_sem]
  have hb := f0.alloc f0.size (.cells (dc k d) 48)
  have K0 := Lib.hid ((Bk.new w (dc g c) 48).alloc (o := .cells (dc k d) 48))
  have K1 := Bk.new (w.alloc (.cells (dc g c) 48)) (dc k d) 48
  rw [hz] at K1
  have K1 := Lib.hid K1
  have B0 := Lib.hid hb
  have H0 := Lib.hid (h.below hb)
  have H1 := Lib.hid (h2.below hb)
  clear f0 hz hb h h2
  have EN := Lib.hid (fun (W : World) => eqShow none 0 0 none 0 0 none 0 0 0 none 0 none 0 none 0 [] [] [] W ⟨⟨rfl, by omega⟩, ⟨rfl, by omega⟩, rfl, by omega⟩ ⟨Rd.nil _ _ _, Rd.nil _ _ _, Rd.nil _ _ _⟩ ⟨Rd.nil _ _ _, Rd.nil _ _ _, Rd.nil _ _ _⟩)
  have a0 := K0.out.cell (i := 0) rfl
  have a1 := K0.out.cell (i := 1) rfl
  have a2 := K0.out.cell (i := 2) rfl
  have a3 := K0.out.cell (i := 3) rfl
  have b0 := K1.out.cell (i := 0) rfl
  have b1 := K1.out.cell (i := 1) rfl
  have b2 := K1.out.cell (i := 2) rfl
  have b3 := K1.out.cell (i := 3) rfl
  go_enter Try.func16, Try.ntmps16
  go_wp2_with fail
  clear a0 a1 a2 a3 b0 b1 b2 b3
  refine (EN.out _).mono ?_
  rintro e u1 ⟨rfl, hb⟩
  have K2 := Lib.hid (K0.out.below hb)
  have K3 := Lib.hid (K1.out.below hb)
  have B1 := Lib.hid (B0.out.trans (hb.mono B0.out.size))
  have R1 := Lib.hid (((H0.out.more B0.out.size).below hb).more hb.size)
  have R2 := Lib.hid (((H1.out.more B0.out.size).below hb).more hb.size)
  clear hb K0 K1 B0 H0 H1 EN
  have a4 := K2.out.cell (i := 4) rfl
  have b4 := K3.out.cell (i := 4) rfl
  go_wp2_with fail
  clear a4 b4
  refine (Pls.eqPlaceS _ _ 1 c d [(0, 0)] _ _ rfl (by omega) (Nat.le_refl _) R1.out R2.out).mono ?_
  rintro e u2 ⟨rfl, hb⟩
  have K4 := Lib.hid (K2.out.below hb)
  have K5 := Lib.hid (K3.out.below hb)
  have B2 := Lib.hid (B1.out.trans (hb.mono B1.out.size))
  clear hb K2 K3 B1 R1 R2
  have a5 := K4.out.cell (i := 5) rfl
  have a6 := K4.out.cell (i := 6) rfl
  have a7 := K4.out.cell (i := 7) rfl
  have a8 := K4.out.cell (i := 8) rfl
  have b5 := K5.out.cell (i := 5) rfl
  have b6 := K5.out.cell (i := 6) rfl
  have b7 := K5.out.cell (i := 7) rfl
  have b8 := K5.out.cell (i := 8) rfl
  go_wp2_with fail
  clear a5 a6 a7 a8 b5 b6 b7 b8
  refine (eqBox0 _).mono ?_
  rintro e u3 ⟨rfl, hb⟩
  have B3 := Lib.hid (B2.out.trans (hb.mono B2.out.size))
  clear hb B2
  go_wp2_with fail
  go_ret
  exact ⟨rfl, B3.out⟩
set_option maxRecDepth 100000 in
theorem markDesk (B g c : Nat) (w : World) (hB : B ≤ w.heap.size) (h : w.ownsRow B 25 2 (.slice (some ⟨g, 0, none⟩) 1 c) 1 (pls [(0, 0)])) : Calls Try.prog 17 #[dv g c, .int .i64 1] w fun e w' => e = .returned (.int .i64 3) ∧ w'.ownsRow B 25 2 (.slice (some ⟨g, 0, none⟩) 1 c) 1 (Rw.mk 1 2) ∧ w.grownBy w' (some g) := by
  have hb := (Below.refl w.heap.size w).alloc (Nat.le_refl _) (.cells (dc g c) 48)
  have K0 := Lib.hid (Bk.new w (dc g c) 48)
  have B0 := Lib.hid hb
  have H0 := Lib.hid (owns_below h hb)
  clear hb h
  have a0 := K0.out.cell (i := 0) rfl
  have a1 := K0.out.cell (i := 1) rfl
  have a2 := K0.out.cell (i := 2) rfl
  have a3 := K0.out.cell (i := 3) rfl
  go_enter Try.func17, Try.ntmps17
  go_wp2_with fail
  clear a0 a1 a2 a3
  refine (Mn9.markNil _).mono ?_
  rintro e u1 ⟨rfl, hb⟩
  have K1 := Lib.hid (K0.out.below hb)
  have B1 := Lib.hid (B0.out.trans (hb.mono B0.out.size))
  have H1 := Lib.hid (owns_below H0.out hb)
  clear hb K0 B0 H0
  have a4 := K1.out.cell (i := 4) rfl
  go_wp2_with fail
  clear a4
  refine (Mp11.markPlaceS B g 1 c 1 (pls [(0, 0)]) _ rfl (by omega) (by omega) H1.out).mono ?_
  rintro e u2 ⟨rfl, ho, hg⟩
  have G9 := Lib.hid (Rw.grown_trans (show w.grownBy _ (some g) from ⟨B1.out.os, B1.out.tape, B1.out.output, B1.out.size, fun j hj _ => B1.out.block j hj⟩) hg)
  have O9 := Lib.hid ho
  clear hg ho B1 H1 K1
  go_wp2_with fail
  go_ret
  exact ⟨rfl, O9.out, G9.out⟩
set_option maxRecDepth 100000 in
theorem heldDesk (g c : Nat) (w : World) (h : Rd w w.heap.size (some ⟨g, 0, none⟩) (Rw.mk 1 2)) : Calls Try.prog 18 #[dv g c, .int .i64 1] w fun e w' => e = .returned (.int .i64 3) ∧ Below w.heap.size w w' := by
  have hb := (Below.refl w.heap.size w).alloc (Nat.le_refl _) (.cells (dc g c) 48)
  have K0 := Lib.hid (Bk.new w (dc g c) 48)
  have B0 := Lib.hid hb
  have H0 := Lib.hid ((h.below hb).more hb.size)
  clear hb h
  have HN := Lib.hid (fun (W : World) => (by have := Mk9.heldShow 0 0 0 0 0 0 none none none 0 W (by omega) (by omega) (by omega) (by omega) (Rd.nil _ _ _) (Rd.nil _ _ _) (Rd.nil _ _ _); exact this : Calls Try.prog 46 #[.agg #[.slice none 0 0, .slice none 0 0, .slice none 0 0, .int .i64 0], .int .i64 1] W fun e w' => e = .returned (.int .i64 1) ∧ Below W.heap.size W w'))
  have a0 := K0.out.cell (i := 0) rfl
  have a1 := K0.out.cell (i := 1) rfl
  have a2 := K0.out.cell (i := 2) rfl
  have a3 := K0.out.cell (i := 3) rfl
  go_enter Try.func18, Try.ntmps18
  go_wp2_with fail
  clear a0 a1 a2 a3
  refine (HN.out _).mono ?_
  rintro e u1 ⟨rfl, hb⟩
  have K1 := Lib.hid (K0.out.below hb)
  have B1 := Lib.hid (B0.out.trans (hb.mono B0.out.size))
  have H1 := Lib.hid ((H0.out.below hb).more hb.size)
  clear hb K0 B0 H0 HN
  have a4 := K1.out.cell (i := 4) rfl
  go_wp2_with fail
  clear a4
  refine (heldPlaceS _ 1 c 1 _ _ (by omega) (by omega) H1.out).mono ?_
  rintro e u2 ⟨rfl, rfl⟩
  go_wp2_with fail
  go_ret
  exact ⟨rfl, B1.out⟩
end Go.Proofs.Ytokncfhpmjohdae.Nd11
