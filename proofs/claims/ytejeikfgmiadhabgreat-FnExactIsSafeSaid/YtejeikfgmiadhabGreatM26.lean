/- TurnRig of the program. -/
import Derived.Test.YtejeikfgmiadhabGreatM25
import Derived.Test.YtejeikfgmiadhabGreatWi
import Derived.Test.YtejeikfgmiadhabGreatM7
import Derived.Laws.AppendOwn
set_option linter.unusedVariables false
set_option linter.unusedSimpArgs false
namespace Go.Proofs.YtejeikfgmiadhabGreat.Tq
open Go.RowKit Go.ChangeShapes Go.WideShapes Go.WideElems Go.Deep Go.Proofs.YtejeikfgmiadhabGreat.Mem Go.Proofs.YtejeikfgmiadhabGreat.Rw Go.Proofs.YtejeikfgmiadhabGreat.Pw Go.Proofs.YtejeikfgmiadhabGreat.P2 Go.Proofs.YtejeikfgmiadhabGreat.Dd Go.Proofs.YtejeikfgmiadhabGreat.Dv Go.Proofs.YtejeikfgmiadhabGreat.Dl Go.Proofs.YtejeikfgmiadhabGreat.Ds Go.Proofs.YtejeikfgmiadhabGreat.Fd Go.Proofs.YtejeikfgmiadhabGreat.Ch Go.Proofs.YtejeikfgmiadhabGreat.Hn Go.Proofs.YtejeikfgmiadhabGreat.Po
set_option linter.unusedVariables false
set_option linter.unusedSimpArgs false
open Go.Proofs.YtejeikfgmiadhabGreat.Cm Go.Proofs.YtejeikfgmiadhabGreat.Pl Go.Proofs.YtejeikfgmiadhabGreat.Str Go.Proofs.YtejeikfgmiadhabGreat.Hd Go.Proofs.YtejeikfgmiadhabGreat.Jt Go.Proofs.YtejeikfgmiadhabGreat.Ho Go.Proofs.YtejeikfgmiadhabGreat.Pa Go.Proofs.YtejeikfgmiadhabGreat.Di Go.Proofs.YtejeikfgmiadhabGreat.Ig Go.Proofs.YtejeikfgmiadhabGreat.Ir Go.Proofs.YtejeikfgmiadhabGreat.Iq Go.Proofs.YtejeikfgmiadhabGreat.IsName Go.Proofs.YtejeikfgmiadhabGreat.Mo Go.Proofs.YtejeikfgmiadhabGreat.Tr
open Go.Proofs.YtejeikfgmiadhabGreat.Rw (owns_below owns_grown)

set_option maxHeartbeats 400000 in
theorem turnedL (n l : ByteArray) (x y h t m : Int) (c : Nat) (t9 : Int) (hp : (ms x && ms y) = true) (w : World) :
    Calls Tryz.prog 245 #[hv n 3 l x y h t m c, .int .i64 t9] w fun e w' => e = .returned (va n 3 l (tx (t9 % 4).toNat x y) (ty (t9 % 4).toNat x y) h t m) ∧ Below w.heap.size w w' := by
  have T := Tp.turnI t9 hp
  generalize tx (t9 % 4).toNat x y = X at *
  generalize ty (t9 % 4).toNat x y = Y at *
  have T := Lib.hid T
  clear hp
  go_enter Tryz.func245, Tryz.ntmps245
  go_wp2_with fail
  refine (T.out _).mono ?_
  rintro e v ⟨rfl, hb⟩
  have hz : w.heap.size + 1 + 1 < v.heap.size := by have := hb.size; simp at this; omega
  have u0 : v.cell? ⟨w.heap.size + 1 + 1, 0, none⟩ = some (.string n) := (hb.cell (by simp)).trans (by simp [go_sem])
  have u1 : v.cell? ⟨w.heap.size + 1 + 1, 1, none⟩ = some (.int .i64 3) := (hb.cell (by simp)).trans (by simp [go_sem])
  have u2 : v.cell? ⟨w.heap.size + 1 + 1, 2, none⟩ = some (.string l) := (hb.cell (by simp)).trans (by simp [go_sem])
  have u3 : v.cell? ⟨w.heap.size + 1 + 1, 3, none⟩ = some (.int .i64 x) := (hb.cell (by simp)).trans (by simp [go_sem])
  have u4 : v.cell? ⟨w.heap.size + 1 + 1, 4, none⟩ = some (.int .i64 y) := (hb.cell (by simp)).trans (by simp [go_sem])
  have u5 : v.cell? ⟨w.heap.size + 1 + 1, 5, none⟩ = some (.int .i64 h) := (hb.cell (by simp)).trans (by simp [go_sem])
  have u6 : v.cell? ⟨w.heap.size + 1 + 1, 6, none⟩ = some (.int .i64 t) := (hb.cell (by simp)).trans (by simp [go_sem])
  have u7 : v.cell? ⟨w.heap.size + 1 + 1, 7, none⟩ = some (.int .i64 m) := (hb.cell (by simp)).trans (by simp [go_sem])
  have fu3 : v.frozen? ⟨w.heap.size + 1 + 1, 3, none⟩ = false := (hb.frozen (by simp)).trans (by simp [go_sem])
  have fu4 : v.frozen? ⟨w.heap.size + 1 + 1, 4, none⟩ = false := (hb.frozen (by simp)).trans (by simp [go_sem])
  have r0 : v.cell? ⟨w.heap.size + 1, 0, none⟩ = some (.string ⟨#[]⟩) := (hb.cell (by first | (simp; done) | (simp; omega))).trans (by simp [go_sem])
  have f0 : v.frozen? ⟨w.heap.size + 1, 0, none⟩ = false := (hb.frozen (by first | (simp; done) | (simp; omega))).trans (by simp [go_sem])
  have r1 : v.cell? ⟨w.heap.size + 1, 1, none⟩ = some (.int .i64 0) := (hb.cell (by first | (simp; done) | (simp; omega))).trans (by simp [go_sem])
  have f1 : v.frozen? ⟨w.heap.size + 1, 1, none⟩ = false := (hb.frozen (by first | (simp; done) | (simp; omega))).trans (by simp [go_sem])
  have r2 : v.cell? ⟨w.heap.size + 1, 2, none⟩ = some (.string ⟨#[]⟩) := (hb.cell (by first | (simp; done) | (simp; omega))).trans (by simp [go_sem])
  have f2 : v.frozen? ⟨w.heap.size + 1, 2, none⟩ = false := (hb.frozen (by first | (simp; done) | (simp; omega))).trans (by simp [go_sem])
  have r3 : v.cell? ⟨w.heap.size + 1, 3, none⟩ = some (.int .i64 0) := (hb.cell (by first | (simp; done) | (simp; omega))).trans (by simp [go_sem])
  have f3 : v.frozen? ⟨w.heap.size + 1, 3, none⟩ = false := (hb.frozen (by first | (simp; done) | (simp; omega))).trans (by simp [go_sem])
  have r4 : v.cell? ⟨w.heap.size + 1, 4, none⟩ = some (.int .i64 0) := (hb.cell (by first | (simp; done) | (simp; omega))).trans (by simp [go_sem])
  have f4 : v.frozen? ⟨w.heap.size + 1, 4, none⟩ = false := (hb.frozen (by first | (simp; done) | (simp; omega))).trans (by simp [go_sem])
  have r5 : v.cell? ⟨w.heap.size + 1, 5, none⟩ = some (.int .i64 0) := (hb.cell (by first | (simp; done) | (simp; omega))).trans (by simp [go_sem])
  have f5 : v.frozen? ⟨w.heap.size + 1, 5, none⟩ = false := (hb.frozen (by first | (simp; done) | (simp; omega))).trans (by simp [go_sem])
  have r6 : v.cell? ⟨w.heap.size + 1, 6, none⟩ = some (.int .i64 0) := (hb.cell (by first | (simp; done) | (simp; omega))).trans (by simp [go_sem])
  have f6 : v.frozen? ⟨w.heap.size + 1, 6, none⟩ = false := (hb.frozen (by first | (simp; done) | (simp; omega))).trans (by simp [go_sem])
  have r7 : v.cell? ⟨w.heap.size + 1, 7, none⟩ = some (.int .i64 0) := (hb.cell (by first | (simp; done) | (simp; omega))).trans (by simp [go_sem])
  have f7 : v.frozen? ⟨w.heap.size + 1, 7, none⟩ = false := (hb.frozen (by first | (simp; done) | (simp; omega))).trans (by simp [go_sem])
  have B1 := Lib.hid (show Below w.heap.size w v from Below.trans (by go_grown) (hb.mono (by simp; omega)))
  have d0 : ((v.setCell ⟨w.heap.size + 1 + 1, 3, none⟩ (.int .i64 X)).setCell ⟨w.heap.size + 1 + 1, 4, none⟩ (.int .i64 Y)).cell? ⟨w.heap.size + 1 + 1, 0, none⟩ = some (.string n) := by rw [World.cell?_setCell_other _ _ _ _ (by simp), World.cell?_setCell_other _ _ _ _ (by simp)]; exact u0
  have d1 : ((v.setCell ⟨w.heap.size + 1 + 1, 3, none⟩ (.int .i64 X)).setCell ⟨w.heap.size + 1 + 1, 4, none⟩ (.int .i64 Y)).cell? ⟨w.heap.size + 1 + 1, 1, none⟩ = some (.int .i64 3) := by rw [World.cell?_setCell_other _ _ _ _ (by simp), World.cell?_setCell_other _ _ _ _ (by simp)]; exact u1
  have d2 : ((v.setCell ⟨w.heap.size + 1 + 1, 3, none⟩ (.int .i64 X)).setCell ⟨w.heap.size + 1 + 1, 4, none⟩ (.int .i64 Y)).cell? ⟨w.heap.size + 1 + 1, 2, none⟩ = some (.string l) := by rw [World.cell?_setCell_other _ _ _ _ (by simp), World.cell?_setCell_other _ _ _ _ (by simp)]; exact u2
  have d5 : ((v.setCell ⟨w.heap.size + 1 + 1, 3, none⟩ (.int .i64 X)).setCell ⟨w.heap.size + 1 + 1, 4, none⟩ (.int .i64 Y)).cell? ⟨w.heap.size + 1 + 1, 5, none⟩ = some (.int .i64 h) := by rw [World.cell?_setCell_other _ _ _ _ (by simp), World.cell?_setCell_other _ _ _ _ (by simp)]; exact u5
  have d6 : ((v.setCell ⟨w.heap.size + 1 + 1, 3, none⟩ (.int .i64 X)).setCell ⟨w.heap.size + 1 + 1, 4, none⟩ (.int .i64 Y)).cell? ⟨w.heap.size + 1 + 1, 6, none⟩ = some (.int .i64 t) := by rw [World.cell?_setCell_other _ _ _ _ (by simp), World.cell?_setCell_other _ _ _ _ (by simp)]; exact u6
  have d7 : ((v.setCell ⟨w.heap.size + 1 + 1, 3, none⟩ (.int .i64 X)).setCell ⟨w.heap.size + 1 + 1, 4, none⟩ (.int .i64 Y)).cell? ⟨w.heap.size + 1 + 1, 7, none⟩ = some (.int .i64 m) := by rw [World.cell?_setCell_other _ _ _ _ (by simp), World.cell?_setCell_other _ _ _ _ (by simp)]; exact u7
  have d3 : ((v.setCell ⟨w.heap.size + 1 + 1, 3, none⟩ (.int .i64 X)).setCell ⟨w.heap.size + 1 + 1, 4, none⟩ (.int .i64 Y)).cell? ⟨w.heap.size + 1 + 1, 3, none⟩ = some (.int .i64 X) := by rw [World.cell?_setCell_other _ _ _ _ (by simp)]; exact World.cell?_setCell_same' _ _ _ (by rw [u3]; rfl)
  have d4 : ((v.setCell ⟨w.heap.size + 1 + 1, 3, none⟩ (.int .i64 X)).setCell ⟨w.heap.size + 1 + 1, 4, none⟩ (.int .i64 Y)).cell? ⟨w.heap.size + 1 + 1, 4, none⟩ = some (.int .i64 Y) := World.cell?_setCell_same' _ _ _ (by rw [World.cell?_setCell_other _ _ _ _ (by simp), u4]; rfl)
  have a0 : ((v.setCell ⟨w.heap.size + 1 + 1, 3, none⟩ (.int .i64 X)).setCell ⟨w.heap.size + 1 + 1, 4, none⟩ (.int .i64 Y)).cell? ⟨w.heap.size + 1, 0, none⟩ = some (.string ⟨#[]⟩) := by rw [World.cell?_setCell_far _ _ _ _ (by show w.heap.size + 1 + 1 ≠ w.heap.size + 1; omega), World.cell?_setCell_far _ _ _ _ (by show w.heap.size + 1 + 1 ≠ w.heap.size + 1; omega)]; exact r0
  have q0 : ((v.setCell ⟨w.heap.size + 1 + 1, 3, none⟩ (.int .i64 X)).setCell ⟨w.heap.size + 1 + 1, 4, none⟩ (.int .i64 Y)).frozen? ⟨w.heap.size + 1, 0, none⟩ = false := by rw [World.frozen?_setCell, World.frozen?_setCell]; exact f0
  have a1 : ((v.setCell ⟨w.heap.size + 1 + 1, 3, none⟩ (.int .i64 X)).setCell ⟨w.heap.size + 1 + 1, 4, none⟩ (.int .i64 Y)).cell? ⟨w.heap.size + 1, 1, none⟩ = some (.int .i64 0) := by rw [World.cell?_setCell_far _ _ _ _ (by show w.heap.size + 1 + 1 ≠ w.heap.size + 1; omega), World.cell?_setCell_far _ _ _ _ (by show w.heap.size + 1 + 1 ≠ w.heap.size + 1; omega)]; exact r1
  have q1 : ((v.setCell ⟨w.heap.size + 1 + 1, 3, none⟩ (.int .i64 X)).setCell ⟨w.heap.size + 1 + 1, 4, none⟩ (.int .i64 Y)).frozen? ⟨w.heap.size + 1, 1, none⟩ = false := by rw [World.frozen?_setCell, World.frozen?_setCell]; exact f1
  have a2 : ((v.setCell ⟨w.heap.size + 1 + 1, 3, none⟩ (.int .i64 X)).setCell ⟨w.heap.size + 1 + 1, 4, none⟩ (.int .i64 Y)).cell? ⟨w.heap.size + 1, 2, none⟩ = some (.string ⟨#[]⟩) := by rw [World.cell?_setCell_far _ _ _ _ (by show w.heap.size + 1 + 1 ≠ w.heap.size + 1; omega), World.cell?_setCell_far _ _ _ _ (by show w.heap.size + 1 + 1 ≠ w.heap.size + 1; omega)]; exact r2
  have q2 : ((v.setCell ⟨w.heap.size + 1 + 1, 3, none⟩ (.int .i64 X)).setCell ⟨w.heap.size + 1 + 1, 4, none⟩ (.int .i64 Y)).frozen? ⟨w.heap.size + 1, 2, none⟩ = false := by rw [World.frozen?_setCell, World.frozen?_setCell]; exact f2
  have a3 : ((v.setCell ⟨w.heap.size + 1 + 1, 3, none⟩ (.int .i64 X)).setCell ⟨w.heap.size + 1 + 1, 4, none⟩ (.int .i64 Y)).cell? ⟨w.heap.size + 1, 3, none⟩ = some (.int .i64 0) := by rw [World.cell?_setCell_far _ _ _ _ (by show w.heap.size + 1 + 1 ≠ w.heap.size + 1; omega), World.cell?_setCell_far _ _ _ _ (by show w.heap.size + 1 + 1 ≠ w.heap.size + 1; omega)]; exact r3
  have q3 : ((v.setCell ⟨w.heap.size + 1 + 1, 3, none⟩ (.int .i64 X)).setCell ⟨w.heap.size + 1 + 1, 4, none⟩ (.int .i64 Y)).frozen? ⟨w.heap.size + 1, 3, none⟩ = false := by rw [World.frozen?_setCell, World.frozen?_setCell]; exact f3
  have a4 : ((v.setCell ⟨w.heap.size + 1 + 1, 3, none⟩ (.int .i64 X)).setCell ⟨w.heap.size + 1 + 1, 4, none⟩ (.int .i64 Y)).cell? ⟨w.heap.size + 1, 4, none⟩ = some (.int .i64 0) := by rw [World.cell?_setCell_far _ _ _ _ (by show w.heap.size + 1 + 1 ≠ w.heap.size + 1; omega), World.cell?_setCell_far _ _ _ _ (by show w.heap.size + 1 + 1 ≠ w.heap.size + 1; omega)]; exact r4
  have q4 : ((v.setCell ⟨w.heap.size + 1 + 1, 3, none⟩ (.int .i64 X)).setCell ⟨w.heap.size + 1 + 1, 4, none⟩ (.int .i64 Y)).frozen? ⟨w.heap.size + 1, 4, none⟩ = false := by rw [World.frozen?_setCell, World.frozen?_setCell]; exact f4
  have a5 : ((v.setCell ⟨w.heap.size + 1 + 1, 3, none⟩ (.int .i64 X)).setCell ⟨w.heap.size + 1 + 1, 4, none⟩ (.int .i64 Y)).cell? ⟨w.heap.size + 1, 5, none⟩ = some (.int .i64 0) := by rw [World.cell?_setCell_far _ _ _ _ (by show w.heap.size + 1 + 1 ≠ w.heap.size + 1; omega), World.cell?_setCell_far _ _ _ _ (by show w.heap.size + 1 + 1 ≠ w.heap.size + 1; omega)]; exact r5
  have q5 : ((v.setCell ⟨w.heap.size + 1 + 1, 3, none⟩ (.int .i64 X)).setCell ⟨w.heap.size + 1 + 1, 4, none⟩ (.int .i64 Y)).frozen? ⟨w.heap.size + 1, 5, none⟩ = false := by rw [World.frozen?_setCell, World.frozen?_setCell]; exact f5
  have a6 : ((v.setCell ⟨w.heap.size + 1 + 1, 3, none⟩ (.int .i64 X)).setCell ⟨w.heap.size + 1 + 1, 4, none⟩ (.int .i64 Y)).cell? ⟨w.heap.size + 1, 6, none⟩ = some (.int .i64 0) := by rw [World.cell?_setCell_far _ _ _ _ (by show w.heap.size + 1 + 1 ≠ w.heap.size + 1; omega), World.cell?_setCell_far _ _ _ _ (by show w.heap.size + 1 + 1 ≠ w.heap.size + 1; omega)]; exact r6
  have q6 : ((v.setCell ⟨w.heap.size + 1 + 1, 3, none⟩ (.int .i64 X)).setCell ⟨w.heap.size + 1 + 1, 4, none⟩ (.int .i64 Y)).frozen? ⟨w.heap.size + 1, 6, none⟩ = false := by rw [World.frozen?_setCell, World.frozen?_setCell]; exact f6
  have a7 : ((v.setCell ⟨w.heap.size + 1 + 1, 3, none⟩ (.int .i64 X)).setCell ⟨w.heap.size + 1 + 1, 4, none⟩ (.int .i64 Y)).cell? ⟨w.heap.size + 1, 7, none⟩ = some (.int .i64 0) := by rw [World.cell?_setCell_far _ _ _ _ (by show w.heap.size + 1 + 1 ≠ w.heap.size + 1; omega), World.cell?_setCell_far _ _ _ _ (by show w.heap.size + 1 + 1 ≠ w.heap.size + 1; omega)]; exact r7
  have q7 : ((v.setCell ⟨w.heap.size + 1 + 1, 3, none⟩ (.int .i64 X)).setCell ⟨w.heap.size + 1 + 1, 4, none⟩ (.int .i64 Y)).frozen? ⟨w.heap.size + 1, 7, none⟩ = false := by rw [World.frozen?_setCell, World.frozen?_setCell]; exact f7
  have BV := Lib.hid (show Below w.heap.size w ((v.setCell ⟨w.heap.size + 1 + 1, 3, none⟩ (.int .i64 X)).setCell ⟨w.heap.size + 1 + 1, 4, none⟩ (.int .i64 Y)) from (B1.out.setCell (by show w.heap.size ≤ w.heap.size + 1 + 1; omega) _).setCell (by show w.heap.size ≤ w.heap.size + 1 + 1; omega) _)
  have HF := Lib.hid (And.intro (And.intro d0 (And.intro d1 (And.intro d2 (And.intro d3 (And.intro d4 (And.intro d5 (And.intro d6 d7))))))) (And.intro (And.intro a0 (And.intro a1 (And.intro a2 (And.intro a3 (And.intro a4 (And.intro a5 (And.intro a6 a7))))))) (And.intro q0 (And.intro q1 (And.intro q2 (And.intro q3 (And.intro q4 (And.intro q5 (And.intro q6 q7)))))))))
  clear hb B1 d0 d1 d2 d3 d4 d5 d6 d7 a0 a1 a2 a3 a4 a5 a6 a7 q0 q1 q2 q3 q4 q5 q6 q7 r0 r1 r2 r3 r4 r5 r6 r7 f0 f1 f2 f3 f4 f5 f6 f7
  go_upto_region 3 with fail
  clear u0 u1 u2 u3 u4 u5 u6 u7 fu3 fu4
  generalize (v.setCell ⟨w.heap.size + 1 + 1, 3, none⟩ (.int .i64 X)).setCell ⟨w.heap.size + 1 + 1, 4, none⟩ (.int .i64 Y) = V at *
  obtain ⟨⟨d0, d1, d2, d3, d4, d5, d6, d7⟩, ⟨a0, a1, a2, a3, a4, a5, a6, a7⟩, q0, q1, q2, q3, q4, q5, q6, q7⟩ := HF.out
  go_wp2_with fail
  obtain ⟨s0, s1, s2, s3, s4, s5, s6, s7⟩ := set8 (W := V) (b := w.heap.size + 1) (v0 := .string n) (v1 := .int .i64 3) (v2 := .string l) (v3 := .int .i64 X) (v4 := .int .i64 Y) (v5 := .int .i64 h) (v6 := .int .i64 t) (v7 := .int .i64 m) (by intro j hj; match j, hj with | 0, _ => (rw [a0]; rfl) | 1, _ => (rw [a1]; rfl) | 2, _ => (rw [a2]; rfl) | 3, _ => (rw [a3]; rfl) | 4, _ => (rw [a4]; rfl) | 5, _ => (rw [a5]; rfl) | 6, _ => (rw [a6]; rfl) | 7, _ => (rw [a7]; rfl))
  clear a0 a1 a2 a3 a4 a5 a6 a7 d0 d1 d2 d3 d4 d5 d6 d7 q0 q1 q2 q3 q4 q5 q6 q7
  (try simp only [Exit.inBlock, Exit.then])
  refine bodyPost_ret (v := va n 3 l X Y h t m) (by simp only [results, Tryz.results245, s0, s1, s2, s3, s4, s5, s6, s7]; simp [go_sem, s0, s1, s2, s3, s4, s5, s6, s7]; try rfl) rfl ?_
  exact ⟨rfl, BV.out.trans (by go_grown)⟩

theorem ne_own {w : World} {base base2 n n2 g c2 g2 c3 : Nat} {xs ys : List Value} (h : w.ownsRow base 102 8 (.slice (some ⟨g2, 0, none⟩) n c3) n xs) (k : w.ownsRow base2 183 1 (.slice (some ⟨g, 0, none⟩) n2 c2) n2 ys) : g2 ≠ g := by
  intro hb
  subst hb
  rcases h.2 with ⟨e1, _⟩ | ⟨g', cap, cur, e1, _, e3, _⟩
  · cases e1
  · rcases k.2 with ⟨f1, _⟩ | ⟨g9, cap2, cur2, f1, _, f3, _⟩
    · cases f1
    · injection f1 with f1; injection f1 with f1; injection f1 with f1
      injection e1 with e1; injection e1 with e1; injection e1 with e1
      subst f1 e1
      rw [e3] at f3
      injection f3 with f3
      injection f3 with _ f3
      exact absurd f3 (by decide)

set_option maxHeartbeats 2000000 in
theorem turnI (A : Option Addr) (n0 c9 : Nat) (zs : List D) (t9 : Int) (w : World) (hn : zs.length = n0) (hb : n0 ≤ 1048576) (hr : Rd w w.heap.size A (dls zs)) :
    Calls Tryz.prog 113 #[.slice A n0 c9, .int .i64 t9] w (RowD w (trV zs t9)) := by
  have hmm := @run_makeMap Tryz.prog
  have HR := Lib.hid hr
  have HN := Lib.hid hn
  have CR := Lib.hid (rigI A n0 c9 zs w hn hb hr)
  clear hr hn
  by_cases hrig : rig zs = true
  · have HH := Lib.hid (rig_of hrig)
    have HL := Lib.hid (show trV zs t9 = zs.map (mvD t9 0 0) by unfold trV; rw [if_pos hrig])
    rw [hrig] at CR
    clear hrig
    obtain ⟨i0, hi, hz0, hz1, hz2⟩ := info_of infoD
    have HLN := Lib.hid (show (dls (List.replicate n0 d0)).length = (dls (zs.map (mvD t9 0 0))).length by rw [dls_len, dls_len, List.length_replicate, List.length_map, HN.out])
    go_enter Tryz.func113, Tryz.ntmps113
    go_wp2_with fail
    refine CR.out.mono ?_
    rintro e w1 ⟨rfl, hb1⟩
    have B1 := Lib.hid hb1
    clear hb1 CR
    go_wp2_with (at_make; refine wpList_make_full _ rfl _ _ 36 rfl w1.heap.size 102 i0 (.agg #[.string ⟨#[]⟩, .int .i64 0, .string ⟨#[]⟩, .int .i64 0, .int .i64 0, .int .i64 0, .int .i64 0, .int .i64 0]) 8 Tryz.underlying36 hi hz0 hz1 .i64 .i64 n0 n0 n0 rfl rfl rfl rfl (by rw [hz2]; omega) (by unfold maxLen; omega) (Nat.le_refl _) ?_; intro w2 hown hgrow; clear hi hz0 hz1 hz2)
    have R2 := Lib.hid (show w2.ownsRow w1.heap.size 102 8 (.slice (some ⟨w1.heap.size, 0, none⟩) n0 n0) n0 (mixed (dls (zs.map (mvD t9 0 0))) (dls (List.replicate n0 d0)) 0) by
      rw [mixed_zero, ← dls_made]; exact hown)
    have W2 := Lib.hid (show Below w1.heap.size w1 w2 from (Below.refl _ _).grown hgrow (Nat.le_refl _) (fun k hk => by cases hk))
    have B2 := Lib.hid (B1.out.trans (W2.out.mono B1.out.size))
    clear hown hgrow W2
    have CP := Lib.hid (partsOf A n0 c9 w2.heap.size zs [] w.heap.size (w2.alloc (.map #[] 0)) HN.out hb (by have := B2.out.size; simp; omega) ((HR.out.below B2.out).below (Below.mono (by go_grown) B2.out.size)) (by
      have hs := B2.out.size
      rcases HR.out with h | ⟨b', o', e, hb', _⟩
      · exact Or.inr h
      · refine Or.inl ?_; rw [e]; simp; omega) (Ls.made w2) (Gd.nil _))
    go_wp2_with fail
    refine CP.out.mono ?_
    rintro e w3 ⟨g, M, rfl, HP⟩
    have HP := Lib.hid HP
    have W3 := Lib.hid (show Below w2.heap.size w2 w3 from Below.grown (by go_grown) HP.out.grown (by simp) (fun k hk => by cases hk; exact Nat.le_refl _))
    have B3 := Lib.hid (B2.out.trans (W3.out.mono B2.out.size))
    have R3 := Lib.hid (owns_below R2.out W3.out)
    have P3 := Lib.hid HP.out.row
    clear hmm CP R2 B2 W3 HP
    go_wp2_with fail
    go_loopw [19] (fun i wr => ∃ k : Nat, k ≤ n0 ∧ i = .int .i64 k ∧ Hid (wr.ownsRow w1.heap.size 102 8 (.slice (some ⟨w1.heap.size, 0, none⟩) n0 n0) n0 (mixed (dls (zs.map (mvD t9 0 0))) (dls (List.replicate n0 d0)) (k * 8))) ∧ Hid (wr.ownsRow (w2.alloc (.map #[] 0)).heap.size 183 1 (.slice (some ⟨g, 0, none⟩) n0 n0) n0 (zs.map (ptM M))) ∧ Hid (Below w.heap.size w wr)) (fun i _ => n0 - (intOf i).toNat)
    case atStart => exact ⟨0, Nat.zero_le _, rfl, R3, P3, B3⟩
    case round =>
      obtain ⟨k, hk, rfl, RK, PK, BK⟩ := hrel
      clear R3 P3 B3
      by_cases hlt : k < n0
      · obtain ⟨z, hz⟩ : ∃ z, zs[k]? = some z := ⟨_, List.getElem?_eq_getElem (by rw [HN.out]; exact hlt)⟩
        have hp : wr.cell? ⟨g, k, none⟩ = some (ptM M z) := by
          have := PK.out.cellAt k (by show k < n0 * 1; omega)
          rw [List.getElem?_map, hz, Option.map_some] at this
          exact this
        have hw9 := (HH.out.2 k z hz).1
        obtain ⟨y0, y1, y2, y3, y4, y5, y6, y7⟩ := dls_get (zs := List.replicate n0 d0) (k := k) (by rw [List.getElem?_replicate, if_pos hlt])
        have HY := Lib.hid (⟨y0, y1, y2, y3, y4, y5, y6, y7⟩ : _ ∧ _ ∧ _ ∧ _ ∧ _ ∧ _ ∧ _ ∧ _)
        have hm : (zs.map (mvD t9 0 0))[k]? = some (mvD t9 0 0 z) := by rw [List.getElem?_map, hz]; rfl
        clear y0 y1 y2 y3 y4 y5 y6 y7 hz
        have NE := Lib.hid (ne_own RK.out PK.out)
        obtain ⟨n, q, l, x, y, h, t, m⟩ := z
        have hk3 := dB_kinds hw9
        unfold ptM at hp
        simp only [] at hp hk3
        generalize (lk M l).getD 0 = c at hp
        by_cases q1 : q = 1
        · subst q1
          rw [show pt n 1 l x y h t m c = .iface 200 (va n 1 l x y h t m) from rfl] at hp
          have CT := Lib.hid (fun W => turnedP n l x y h t m t9 W)
          rw [mvD_1 rfl] at hm
          obtain ⟨z0, z1, z2, z3, z4, z5, z6, z7⟩ := dls_get (n := n) (q := 1) (l := l) (x := x) (y := y) (h := h) (t := t) (m := m) hm
          have Z0 := Lib.hid (mixed_put HLN.out z0)
          have Z1 := Lib.hid (mixed_put HLN.out z1)
          have Z2 := Lib.hid (mixed_put HLN.out z2)
          have Z3 := Lib.hid (mixed_put HLN.out z3)
          have Z4 := Lib.hid (mixed_put HLN.out z4)
          have Z5 := Lib.hid (mixed_put HLN.out z5)
          have Z6 := Lib.hid (mixed_put HLN.out z6)
          have Z7 := Lib.hid (mixed_put HLN.out z7)
          clear z0 z1 z2 z3 z4 z5 z6 z7 hm hw9 hk3
          go_wp2_with fail
          refine (CT.out _).mono ?_
          rintro e u ⟨rfl, hb1⟩
          have R1 := owns_below RK.out hb1
          have P1 := owns_below PK.out hb1
          have BU := BK.out.trans (hb1.mono BK.out.size)
          have hL := HLN.out
          have hl8 : (dls (zs.map (mvD t9 0 0))).length = n0 * 8 := by rw [dls_len, List.length_map, HN.out]
          have e0 : u.cell? ⟨w1.heap.size, k * 8, none⟩ = some (.string ⟨#[]⟩) := (R1.cellAt (k * 8) (by omega)).trans (mixed_at hL (by omega) HY.out.1)
          have f0 := R1.frozenAt (k * 8)
          have e1 : u.cell? ⟨w1.heap.size, k * 8 + 1, none⟩ = some (.int .i64 0) := (R1.cellAt (k * 8 + 1) (by omega)).trans (mixed_at hL (by omega) HY.out.2.1)
          have f1 := R1.frozenAt (k * 8 + 1)
          have e2 : u.cell? ⟨w1.heap.size, k * 8 + 2, none⟩ = some (.string ⟨#[]⟩) := (R1.cellAt (k * 8 + 2) (by omega)).trans (mixed_at hL (by omega) HY.out.2.2.1)
          have f2 := R1.frozenAt (k * 8 + 2)
          have e3 : u.cell? ⟨w1.heap.size, k * 8 + 3, none⟩ = some (.int .i64 0) := (R1.cellAt (k * 8 + 3) (by omega)).trans (mixed_at hL (by omega) HY.out.2.2.2.1)
          have f3 := R1.frozenAt (k * 8 + 3)
          have e4 : u.cell? ⟨w1.heap.size, k * 8 + 4, none⟩ = some (.int .i64 0) := (R1.cellAt (k * 8 + 4) (by omega)).trans (mixed_at hL (by omega) HY.out.2.2.2.2.1)
          have f4 := R1.frozenAt (k * 8 + 4)
          have e5 : u.cell? ⟨w1.heap.size, k * 8 + 5, none⟩ = some (.int .i64 0) := (R1.cellAt (k * 8 + 5) (by omega)).trans (mixed_at hL (by omega) HY.out.2.2.2.2.2.1)
          have f5 := R1.frozenAt (k * 8 + 5)
          have e6 : u.cell? ⟨w1.heap.size, k * 8 + 6, none⟩ = some (.int .i64 0) := (R1.cellAt (k * 8 + 6) (by omega)).trans (mixed_at hL (by omega) HY.out.2.2.2.2.2.2.1)
          have f6 := R1.frozenAt (k * 8 + 6)
          have e7 : u.cell? ⟨w1.heap.size, k * 8 + 7, none⟩ = some (.int .i64 0) := (R1.cellAt (k * 8 + 7) (by omega)).trans (mixed_at hL (by omega) HY.out.2.2.2.2.2.2.2)
          have f7 := R1.frozenAt (k * 8 + 7)
          obtain ⟨r0, g0⟩ := R1.stored (k * 8) (.string n)
          rw [Z0.out] at r0
          obtain ⟨r1, g1⟩ := r0.stored (k * 8 + 1) (.int .i64 1)
          rw [Z1.out] at r1
          obtain ⟨r2, g2⟩ := r1.stored (k * 8 + 1 + 1) (.string l)
          rw [Z2.out] at r2
          obtain ⟨r3, g3⟩ := r2.stored (k * 8 + 1 + 1 + 1) (.int .i64 x)
          rw [Z3.out] at r3
          obtain ⟨r4, g4⟩ := r3.stored (k * 8 + 1 + 1 + 1 + 1) (.int .i64 y)
          rw [Z4.out] at r4
          obtain ⟨r5, g5⟩ := r4.stored (k * 8 + 1 + 1 + 1 + 1 + 1) (.int .i64 h)
          rw [Z5.out] at r5
          obtain ⟨r6, g6⟩ := r5.stored (k * 8 + 1 + 1 + 1 + 1 + 1 + 1) (.int .i64 t)
          rw [Z6.out] at r6
          obtain ⟨r7, g7⟩ := r6.stored (k * 8 + 1 + 1 + 1 + 1 + 1 + 1 + 1) (.int .i64 m)
          rw [Z7.out] at r7
          have RR := Lib.hid r7
          have b0 := BU.grown g0 BU.size (fun g hg => by cases hg; exact B1.out.size)
          have p0 := owns_grown P1 g0 (fun u hu e => by cases hu; exact NE.out (Option.some.inj e))
          have b1 := b0.grown g1 b0.size (fun g hg => by cases hg; exact B1.out.size)
          have p1 := owns_grown p0 g1 (fun u hu e => by cases hu; exact NE.out (Option.some.inj e))
          have b2 := b1.grown g2 b1.size (fun g hg => by cases hg; exact B1.out.size)
          have p2 := owns_grown p1 g2 (fun u hu e => by cases hu; exact NE.out (Option.some.inj e))
          have b3 := b2.grown g3 b2.size (fun g hg => by cases hg; exact B1.out.size)
          have p3 := owns_grown p2 g3 (fun u hu e => by cases hu; exact NE.out (Option.some.inj e))
          have b4 := b3.grown g4 b3.size (fun g hg => by cases hg; exact B1.out.size)
          have p4 := owns_grown p3 g4 (fun u hu e => by cases hu; exact NE.out (Option.some.inj e))
          have b5 := b4.grown g5 b4.size (fun g hg => by cases hg; exact B1.out.size)
          have p5 := owns_grown p4 g5 (fun u hu e => by cases hu; exact NE.out (Option.some.inj e))
          have b6 := b5.grown g6 b5.size (fun g hg => by cases hg; exact B1.out.size)
          have p6 := owns_grown p5 g6 (fun u hu e => by cases hu; exact NE.out (Option.some.inj e))
          have b7 := b6.grown g7 b6.size (fun g hg => by cases hg; exact B1.out.size)
          have p7 := owns_grown p6 g7 (fun u hu e => by cases hu; exact NE.out (Option.some.inj e))
          have BB := Lib.hid b7
          have PP := Lib.hid p7
          clear r0 g0 b0 p0 Z0 r1 g1 b1 p1 Z1 r2 g2 b2 p2 Z2 r3 g3 b3 p3 Z3 r4 g4 b4 p4 Z4 r5 g5 b5 p5 Z5 r6 g6 b6 p6 Z6 r7 g7 b7 p7 Z7 hb1 RK BK PK R1 BU P1 hL hl8 HY CT hp
          go_wp2_with fail
          go_roundw
          case rel => exact ⟨k + 1, by omega, by go_num, by rw [show (k + 1) * 8 = k * 8 + 1 + 1 + 1 + 1 + 1 + 1 + 1 + 1 by omega]; exact RR, PP, BB⟩
          case measure => simp [intOf]; omega
        by_cases q2 : q = 2
        · subst q2
          rw [show pt n 2 l x y h t m c = .iface 206 (hv n 2 l x y h t m c) from rfl] at hp
          have hj : jt x y h t 1 = true := by
            unfold dB devB at hw9
            rw [Bool.and_eq_true, if_neg (by show (2 : Int) ≠ 1; decide), if_pos rfl] at hw9
            have := hw9.2
            unfold nozB at this
            rw [Bool.and_eq_true, Bool.and_eq_true] at this
            exact this.2.1
          have CT := Lib.hid (fun W => turnedN n l x y h t m c t9 hj W)
          rw [mvD_o (by show (2 : Int) ≠ 1; decide)] at hm
          simp only [Int.add_zero, if_true] at hm
          clear hj
          generalize tx (t9 % 4).toNat x y = X at *
          generalize ty (t9 % 4).toNat x y = Y at *
          generalize th h t9 = Q at *
          obtain ⟨z0, z1, z2, z3, z4, z5, z6, z7⟩ := dls_get (n := n) (q := 2) (l := l) (x := X) (y := Y) (h := Q) (t := t) (m := m) hm
          have Z0 := Lib.hid (mixed_put HLN.out z0)
          have Z1 := Lib.hid (mixed_put HLN.out z1)
          have Z2 := Lib.hid (mixed_put HLN.out z2)
          have Z3 := Lib.hid (mixed_put HLN.out z3)
          have Z4 := Lib.hid (mixed_put HLN.out z4)
          have Z5 := Lib.hid (mixed_put HLN.out z5)
          have Z6 := Lib.hid (mixed_put HLN.out z6)
          have Z7 := Lib.hid (mixed_put HLN.out z7)
          clear z0 z1 z2 z3 z4 z5 z6 z7 hm hw9 hk3
          go_wp2_with fail
          refine (CT.out _).mono ?_
          rintro e u ⟨rfl, hb1⟩
          have R1 := owns_below RK.out hb1
          have P1 := owns_below PK.out hb1
          have BU := BK.out.trans (hb1.mono BK.out.size)
          have hL := HLN.out
          have hl8 : (dls (zs.map (mvD t9 0 0))).length = n0 * 8 := by rw [dls_len, List.length_map, HN.out]
          have e0 : u.cell? ⟨w1.heap.size, k * 8, none⟩ = some (.string ⟨#[]⟩) := (R1.cellAt (k * 8) (by omega)).trans (mixed_at hL (by omega) HY.out.1)
          have f0 := R1.frozenAt (k * 8)
          have e1 : u.cell? ⟨w1.heap.size, k * 8 + 1, none⟩ = some (.int .i64 0) := (R1.cellAt (k * 8 + 1) (by omega)).trans (mixed_at hL (by omega) HY.out.2.1)
          have f1 := R1.frozenAt (k * 8 + 1)
          have e2 : u.cell? ⟨w1.heap.size, k * 8 + 2, none⟩ = some (.string ⟨#[]⟩) := (R1.cellAt (k * 8 + 2) (by omega)).trans (mixed_at hL (by omega) HY.out.2.2.1)
          have f2 := R1.frozenAt (k * 8 + 2)
          have e3 : u.cell? ⟨w1.heap.size, k * 8 + 3, none⟩ = some (.int .i64 0) := (R1.cellAt (k * 8 + 3) (by omega)).trans (mixed_at hL (by omega) HY.out.2.2.2.1)
          have f3 := R1.frozenAt (k * 8 + 3)
          have e4 : u.cell? ⟨w1.heap.size, k * 8 + 4, none⟩ = some (.int .i64 0) := (R1.cellAt (k * 8 + 4) (by omega)).trans (mixed_at hL (by omega) HY.out.2.2.2.2.1)
          have f4 := R1.frozenAt (k * 8 + 4)
          have e5 : u.cell? ⟨w1.heap.size, k * 8 + 5, none⟩ = some (.int .i64 0) := (R1.cellAt (k * 8 + 5) (by omega)).trans (mixed_at hL (by omega) HY.out.2.2.2.2.2.1)
          have f5 := R1.frozenAt (k * 8 + 5)
          have e6 : u.cell? ⟨w1.heap.size, k * 8 + 6, none⟩ = some (.int .i64 0) := (R1.cellAt (k * 8 + 6) (by omega)).trans (mixed_at hL (by omega) HY.out.2.2.2.2.2.2.1)
          have f6 := R1.frozenAt (k * 8 + 6)
          have e7 : u.cell? ⟨w1.heap.size, k * 8 + 7, none⟩ = some (.int .i64 0) := (R1.cellAt (k * 8 + 7) (by omega)).trans (mixed_at hL (by omega) HY.out.2.2.2.2.2.2.2)
          have f7 := R1.frozenAt (k * 8 + 7)
          obtain ⟨r0, g0⟩ := R1.stored (k * 8) (.string n)
          rw [Z0.out] at r0
          obtain ⟨r1, g1⟩ := r0.stored (k * 8 + 1) (.int .i64 2)
          rw [Z1.out] at r1
          obtain ⟨r2, g2⟩ := r1.stored (k * 8 + 1 + 1) (.string l)
          rw [Z2.out] at r2
          obtain ⟨r3, g3⟩ := r2.stored (k * 8 + 1 + 1 + 1) (.int .i64 X)
          rw [Z3.out] at r3
          obtain ⟨r4, g4⟩ := r3.stored (k * 8 + 1 + 1 + 1 + 1) (.int .i64 Y)
          rw [Z4.out] at r4
          obtain ⟨r5, g5⟩ := r4.stored (k * 8 + 1 + 1 + 1 + 1 + 1) (.int .i64 Q)
          rw [Z5.out] at r5
          obtain ⟨r6, g6⟩ := r5.stored (k * 8 + 1 + 1 + 1 + 1 + 1 + 1) (.int .i64 t)
          rw [Z6.out] at r6
          obtain ⟨r7, g7⟩ := r6.stored (k * 8 + 1 + 1 + 1 + 1 + 1 + 1 + 1) (.int .i64 m)
          rw [Z7.out] at r7
          have RR := Lib.hid r7
          have b0 := BU.grown g0 BU.size (fun g hg => by cases hg; exact B1.out.size)
          have p0 := owns_grown P1 g0 (fun u hu e => by cases hu; exact NE.out (Option.some.inj e))
          have b1 := b0.grown g1 b0.size (fun g hg => by cases hg; exact B1.out.size)
          have p1 := owns_grown p0 g1 (fun u hu e => by cases hu; exact NE.out (Option.some.inj e))
          have b2 := b1.grown g2 b1.size (fun g hg => by cases hg; exact B1.out.size)
          have p2 := owns_grown p1 g2 (fun u hu e => by cases hu; exact NE.out (Option.some.inj e))
          have b3 := b2.grown g3 b2.size (fun g hg => by cases hg; exact B1.out.size)
          have p3 := owns_grown p2 g3 (fun u hu e => by cases hu; exact NE.out (Option.some.inj e))
          have b4 := b3.grown g4 b3.size (fun g hg => by cases hg; exact B1.out.size)
          have p4 := owns_grown p3 g4 (fun u hu e => by cases hu; exact NE.out (Option.some.inj e))
          have b5 := b4.grown g5 b4.size (fun g hg => by cases hg; exact B1.out.size)
          have p5 := owns_grown p4 g5 (fun u hu e => by cases hu; exact NE.out (Option.some.inj e))
          have b6 := b5.grown g6 b5.size (fun g hg => by cases hg; exact B1.out.size)
          have p6 := owns_grown p5 g6 (fun u hu e => by cases hu; exact NE.out (Option.some.inj e))
          have b7 := b6.grown g7 b6.size (fun g hg => by cases hg; exact B1.out.size)
          have p7 := owns_grown p6 g7 (fun u hu e => by cases hu; exact NE.out (Option.some.inj e))
          have BB := Lib.hid b7
          have PP := Lib.hid p7
          clear r0 g0 b0 p0 Z0 r1 g1 b1 p1 Z1 r2 g2 b2 p2 Z2 r3 g3 b3 p3 Z3 r4 g4 b4 p4 Z4 r5 g5 b5 p5 Z5 r6 g6 b6 p6 Z6 r7 g7 b7 p7 Z7 hb1 RK BK PK R1 BU P1 hL hl8 HY CT hp
          go_wp2_with fail
          go_roundw
          case rel => exact ⟨k + 1, by omega, by go_num, by rw [show (k + 1) * 8 = k * 8 + 1 + 1 + 1 + 1 + 1 + 1 + 1 + 1 by omega]; exact RR, PP, BB⟩
          case measure => simp [intOf]; omega
        have q3 : q = 3 := by omega
        subst q3
        rw [show pt n 3 l x y h t m c = .iface 207 (hv n 3 l x y h t m c) from rfl] at hp
        have hj : (ms x && ms y) = true := by
          unfold dB devB at hw9
          rw [Bool.and_eq_true, if_neg (by show (3 : Int) ≠ 1; decide), if_neg (by show (3 : Int) ≠ 2; decide), if_pos rfl] at hw9
          have := hw9.2
          unfold lampB at this
          rw [Bool.and_eq_true, Bool.and_eq_true] at this
          exact this.2.1
        have CT := Lib.hid (fun W => turnedL n l x y h t m c t9 hj W)
        rw [mvD_o (by show (3 : Int) ≠ 1; decide)] at hm
        simp only [Int.add_zero, show ((3 : Int) = 2) = False by decide, if_false] at hm
        clear hj
        generalize tx (t9 % 4).toNat x y = X at *
        generalize ty (t9 % 4).toNat x y = Y at *
        obtain ⟨z0, z1, z2, z3, z4, z5, z6, z7⟩ := dls_get (n := n) (q := 3) (l := l) (x := X) (y := Y) (h := h) (t := t) (m := m) hm
        have Z0 := Lib.hid (mixed_put HLN.out z0)
        have Z1 := Lib.hid (mixed_put HLN.out z1)
        have Z2 := Lib.hid (mixed_put HLN.out z2)
        have Z3 := Lib.hid (mixed_put HLN.out z3)
        have Z4 := Lib.hid (mixed_put HLN.out z4)
        have Z5 := Lib.hid (mixed_put HLN.out z5)
        have Z6 := Lib.hid (mixed_put HLN.out z6)
        have Z7 := Lib.hid (mixed_put HLN.out z7)
        clear z0 z1 z2 z3 z4 z5 z6 z7 hm hw9 hk3
        go_wp2_with fail
        refine (CT.out _).mono ?_
        rintro e u ⟨rfl, hb1⟩
        have R1 := owns_below RK.out hb1
        have P1 := owns_below PK.out hb1
        have BU := BK.out.trans (hb1.mono BK.out.size)
        have hL := HLN.out
        have hl8 : (dls (zs.map (mvD t9 0 0))).length = n0 * 8 := by rw [dls_len, List.length_map, HN.out]
        have e0 : u.cell? ⟨w1.heap.size, k * 8, none⟩ = some (.string ⟨#[]⟩) := (R1.cellAt (k * 8) (by omega)).trans (mixed_at hL (by omega) HY.out.1)
        have f0 := R1.frozenAt (k * 8)
        have e1 : u.cell? ⟨w1.heap.size, k * 8 + 1, none⟩ = some (.int .i64 0) := (R1.cellAt (k * 8 + 1) (by omega)).trans (mixed_at hL (by omega) HY.out.2.1)
        have f1 := R1.frozenAt (k * 8 + 1)
        have e2 : u.cell? ⟨w1.heap.size, k * 8 + 2, none⟩ = some (.string ⟨#[]⟩) := (R1.cellAt (k * 8 + 2) (by omega)).trans (mixed_at hL (by omega) HY.out.2.2.1)
        have f2 := R1.frozenAt (k * 8 + 2)
        have e3 : u.cell? ⟨w1.heap.size, k * 8 + 3, none⟩ = some (.int .i64 0) := (R1.cellAt (k * 8 + 3) (by omega)).trans (mixed_at hL (by omega) HY.out.2.2.2.1)
        have f3 := R1.frozenAt (k * 8 + 3)
        have e4 : u.cell? ⟨w1.heap.size, k * 8 + 4, none⟩ = some (.int .i64 0) := (R1.cellAt (k * 8 + 4) (by omega)).trans (mixed_at hL (by omega) HY.out.2.2.2.2.1)
        have f4 := R1.frozenAt (k * 8 + 4)
        have e5 : u.cell? ⟨w1.heap.size, k * 8 + 5, none⟩ = some (.int .i64 0) := (R1.cellAt (k * 8 + 5) (by omega)).trans (mixed_at hL (by omega) HY.out.2.2.2.2.2.1)
        have f5 := R1.frozenAt (k * 8 + 5)
        have e6 : u.cell? ⟨w1.heap.size, k * 8 + 6, none⟩ = some (.int .i64 0) := (R1.cellAt (k * 8 + 6) (by omega)).trans (mixed_at hL (by omega) HY.out.2.2.2.2.2.2.1)
        have f6 := R1.frozenAt (k * 8 + 6)
        have e7 : u.cell? ⟨w1.heap.size, k * 8 + 7, none⟩ = some (.int .i64 0) := (R1.cellAt (k * 8 + 7) (by omega)).trans (mixed_at hL (by omega) HY.out.2.2.2.2.2.2.2)
        have f7 := R1.frozenAt (k * 8 + 7)
        obtain ⟨r0, g0⟩ := R1.stored (k * 8) (.string n)
        rw [Z0.out] at r0
        obtain ⟨r1, g1⟩ := r0.stored (k * 8 + 1) (.int .i64 3)
        rw [Z1.out] at r1
        obtain ⟨r2, g2⟩ := r1.stored (k * 8 + 1 + 1) (.string l)
        rw [Z2.out] at r2
        obtain ⟨r3, g3⟩ := r2.stored (k * 8 + 1 + 1 + 1) (.int .i64 X)
        rw [Z3.out] at r3
        obtain ⟨r4, g4⟩ := r3.stored (k * 8 + 1 + 1 + 1 + 1) (.int .i64 Y)
        rw [Z4.out] at r4
        obtain ⟨r5, g5⟩ := r4.stored (k * 8 + 1 + 1 + 1 + 1 + 1) (.int .i64 h)
        rw [Z5.out] at r5
        obtain ⟨r6, g6⟩ := r5.stored (k * 8 + 1 + 1 + 1 + 1 + 1 + 1) (.int .i64 t)
        rw [Z6.out] at r6
        obtain ⟨r7, g7⟩ := r6.stored (k * 8 + 1 + 1 + 1 + 1 + 1 + 1 + 1) (.int .i64 m)
        rw [Z7.out] at r7
        have RR := Lib.hid r7
        have b0 := BU.grown g0 BU.size (fun g hg => by cases hg; exact B1.out.size)
        have p0 := owns_grown P1 g0 (fun u hu e => by cases hu; exact NE.out (Option.some.inj e))
        have b1 := b0.grown g1 b0.size (fun g hg => by cases hg; exact B1.out.size)
        have p1 := owns_grown p0 g1 (fun u hu e => by cases hu; exact NE.out (Option.some.inj e))
        have b2 := b1.grown g2 b1.size (fun g hg => by cases hg; exact B1.out.size)
        have p2 := owns_grown p1 g2 (fun u hu e => by cases hu; exact NE.out (Option.some.inj e))
        have b3 := b2.grown g3 b2.size (fun g hg => by cases hg; exact B1.out.size)
        have p3 := owns_grown p2 g3 (fun u hu e => by cases hu; exact NE.out (Option.some.inj e))
        have b4 := b3.grown g4 b3.size (fun g hg => by cases hg; exact B1.out.size)
        have p4 := owns_grown p3 g4 (fun u hu e => by cases hu; exact NE.out (Option.some.inj e))
        have b5 := b4.grown g5 b4.size (fun g hg => by cases hg; exact B1.out.size)
        have p5 := owns_grown p4 g5 (fun u hu e => by cases hu; exact NE.out (Option.some.inj e))
        have b6 := b5.grown g6 b5.size (fun g hg => by cases hg; exact B1.out.size)
        have p6 := owns_grown p5 g6 (fun u hu e => by cases hu; exact NE.out (Option.some.inj e))
        have b7 := b6.grown g7 b6.size (fun g hg => by cases hg; exact B1.out.size)
        have p7 := owns_grown p6 g7 (fun u hu e => by cases hu; exact NE.out (Option.some.inj e))
        have BB := Lib.hid b7
        have PP := Lib.hid p7
        clear r0 g0 b0 p0 Z0 r1 g1 b1 p1 Z1 r2 g2 b2 p2 Z2 r3 g3 b3 p3 Z3 r4 g4 b4 p4 Z4 r5 g5 b5 p5 Z5 r6 g6 b6 p6 Z6 r7 g7 b7 p7 Z7 hb1 RK BK PK R1 BU P1 hL hl8 HY CT hp
        go_wp2_with fail
        go_roundw
        case rel => exact ⟨k + 1, by omega, by go_num, by rw [show (k + 1) * 8 = k * 8 + 1 + 1 + 1 + 1 + 1 + 1 + 1 + 1 by omega]; exact RR, PP, BB⟩
        case measure => simp [intOf]; omega
      · obtain rfl : k = n0 := by omega
        have F9 := Lib.hid (show wr.ownsRow w1.heap.size 102 8 (.slice (some ⟨w1.heap.size, 0, none⟩) k k) k (dls (zs.map (mvD t9 0 0))) by
          have := RK.out
          rw [show k * 8 = (dls (zs.map (mvD t9 0 0))).length by rw [dls_len, List.length_map, HN.out], mixed_all HLN.out] at this
          exact this)
        have Q9 := Lib.hid (show (zs.map (mvD t9 0 0)).length = k by rw [List.length_map, HN.out])
        go_wp2_with fail
        go_ret
        rw [HL.out]
        exact ⟨w1.heap.size, k, by rw [Q9.out]; rfl, by rw [Q9.out]; exact Rw.owns_base F9.out B1.out.size, BK.out⟩
  · have hf : rig zs = false := by simpa using hrig
    have HL := Lib.hid (show trV zs t9 = [] by unfold trV; rw [if_neg hrig])
    rw [hf] at CR
    clear hf hrig hmm
    go_enter Tryz.func113, Tryz.ntmps113
    go_wp2_with fail
    refine CR.out.mono ?_
    rintro e w1 ⟨rfl, hb1⟩
    have B1 := Lib.hid hb1
    clear hb1 CR
    go_wp2_with fail
    go_returns
    rw [HL.out]
    exact ⟨_, _, rfl, World.ownsRow_lit (base := w.heap.size) (e := 102) (size := 8) w1 #[] 0 B1.out.size (Nat.zero_le _) rfl, B1.out.alloc B1.out.size _⟩

end Go.Proofs.YtejeikfgmiadhabGreat.Tq
namespace Go.Proofs.YtejeikfgmiadhabGreat.Wa
open Go.RowKit Go.Proofs.YtejeikfgmiadhabGreat.Mem Go.Proofs.YtejeikfgmiadhabGreat.Rw Go.Proofs.YtejeikfgmiadhabGreat.Bk Go.Proofs.YtejeikfgmiadhabGreat.Jt Go.Proofs.YtejeikfgmiadhabGreat.Pw Go.Proofs.YtejeikfgmiadhabGreat.P2 Go.Proofs.YtejeikfgmiadhabGreat.Gs Go.Proofs.YtejeikfgmiadhabGreat.Wm Go.Proofs.YtejeikfgmiadhabGreat.Wi
set_option linter.unusedVariables false
set_option linter.unusedSimpArgs false

abbrev pq (p : Int × Int) : Value := .agg #[.int .i64 p.1, .int .i64 p.2]
abbrev pc (x y : Int) : Array Value := #[.int .i64 x, .int .i64 y]

theorem infoPlace : (Tryz.prog.info? 31).map (fun i => (i.zero, i.size, i.bytes)) = some (some (.agg #[.int .i64 0, .int .i64 0]), 2, 16) := by kernel_rfl
/-- A row of one's own with these gusts; what was there is as it was. -/
def Row3 (w : World) (zs : List G) (e : Ending) (w' : World) : Prop :=
  ∃ g c, e = .returned (.slice (some ⟨g, 0, none⟩) zs.length c) ∧ w'.ownsRow w.heap.size 96 3 (.slice (some ⟨g, 0, none⟩) zs.length c) zs.length (gls zs) ∧ Below w.heap.size w w'
theorem own_base {w : World} {base n : Nat} {e : TypeId} {s : Nat} {v : Value} {xs : List Value} (h : w.ownsRow base e s v n xs) : ∀ k, v.ownBlock = some k → base ≤ k := fun k e => (h.lt k e).1

end Go.Proofs.YtejeikfgmiadhabGreat.Wa
