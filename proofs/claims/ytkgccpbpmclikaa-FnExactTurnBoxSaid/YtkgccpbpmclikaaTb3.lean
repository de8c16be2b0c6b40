/- A box that is none is turned into nothing. -/
import Derived.Test.YtkgccpbpmclikaaTb
namespace Go.Proofs.Ytkgccpbpmclikaa.Tb
open Go.RowKit Go.Proofs.Ytkgccpbpmclikaa.Cm Go.Proofs.Ytkgccpbpmclikaa.Pl Go.Proofs.Ytkgccpbpmclikaa.Str Go.Proofs.Ytkgccpbpmclikaa.Pw Go.Proofs.Ytkgccpbpmclikaa.P2 Go.Proofs.Ytkgccpbpmclikaa.Bx
set_option linter.unusedVariables false

set_option maxHeartbeats 2000000 in
theorem turnBoxI_no {x y z u : Int} (n : Int) (h : bx x y z u = false) (w : World) :
    Calls Try.prog 45 #[box4 x y z u, .int .i64 n] w fun e w' => e = .returned (box4 0 0 0 0) ∧ Below w.heap.size w w' := by
  have B := Lib.hid (show ∀ w, Calls Try.prog 35 #[box4 x y z u] w fun e w' => e = .returned (.bool false) ∧ Below w.heap.size w w' from h ▸ isBoxI x y z u)
  clear h
  go_enter Try.func45, Try.ntmps45
  go_wp2_with fail
  refine (B.out _).mono ?_
  rintro e v ⟨rfl, hb⟩
  have hB : Below w.heap.size w v := Below.trans (by go_grown) (hb.mono (by go_size))
  have x0 : v.cell? ⟨w.heap.size + 1, 0, none⟩ = some (.int .i64 0) := cell_below hb (by simp [go_sem])
  have z0 : v.frozen? ⟨w.heap.size + 1, 0, none⟩ = false := by rw [hb.frozen (by simp)]; simp [go_sem]
  have x1 : v.cell? ⟨w.heap.size + 1, 1, none⟩ = some (.int .i64 0) := cell_below hb (by simp [go_sem])
  have z1 : v.frozen? ⟨w.heap.size + 1, 1, none⟩ = false := by rw [hb.frozen (by simp)]; simp [go_sem]
  have x2 : v.cell? ⟨w.heap.size + 1, 2, none⟩ = some (.int .i64 0) := cell_below hb (by simp [go_sem])
  have z2 : v.frozen? ⟨w.heap.size + 1, 2, none⟩ = false := by rw [hb.frozen (by simp)]; simp [go_sem]
  have x3 : v.cell? ⟨w.heap.size + 1, 3, none⟩ = some (.int .i64 0) := cell_below hb (by simp [go_sem])
  have z3 : v.frozen? ⟨w.heap.size + 1, 3, none⟩ = false := by rw [hb.frozen (by simp)]; simp [go_sem]
  have HR := Lib.hid (set4 (a := .int .i64 0) (b := .int .i64 0) (c := .int .i64 0) (d := .int .i64 0) x0 x1 x2 x3)
  clear hb
  go_wp2_with fail
  have r0 := HR.out.1
  have r1 := HR.out.2.1
  have r2 := HR.out.2.2.1
  have r3 := HR.out.2.2.2
  (try simp only [Exit.inBlock, Exit.then])
  refine bodyPost_ret (by simp [results, Try.results45, go_sem, r0, r1, r2, r3]; try rfl) rfl ?_
  exact ⟨rfl, by have h9 := hB.size; go_grown⟩

set_option maxHeartbeats 2000000 in
theorem turnBoxS_no {x y z u : Int} (n : Int) (h : bx x y z u = false) (w : World) :
    Calls Try.prog 44 #[box4 x y z u, .int .i64 n] w fun e w' => e = .returned (box4 0 0 0 0) ∧ Below w.heap.size w w' := by
  have B := Lib.hid (show ∀ w, Calls Try.prog 33 #[box4 x y z u] w fun e w' => e = .returned (.bool false) ∧ Below w.heap.size w w' from h ▸ isBoxS x y z u)
  clear h
  go_enter Try.func44, Try.ntmps44
  go_wp2_with fail
  refine (B.out _).mono ?_
  rintro e v ⟨rfl, hb⟩
  have hB : Below w.heap.size w v := Below.trans (by go_grown) (hb.mono (by go_size))
  have x0 : v.cell? ⟨w.heap.size + 1, 0, none⟩ = some (.int .i64 0) := cell_below hb (by simp [go_sem])
  have z0 : v.frozen? ⟨w.heap.size + 1, 0, none⟩ = false := by rw [hb.frozen (by simp)]; simp [go_sem]
  have x1 : v.cell? ⟨w.heap.size + 1, 1, none⟩ = some (.int .i64 0) := cell_below hb (by simp [go_sem])
  have z1 : v.frozen? ⟨w.heap.size + 1, 1, none⟩ = false := by rw [hb.frozen (by simp)]; simp [go_sem]
  have x2 : v.cell? ⟨w.heap.size + 1, 2, none⟩ = some (.int .i64 0) := cell_below hb (by simp [go_sem])
  have z2 : v.frozen? ⟨w.heap.size + 1, 2, none⟩ = false := by rw [hb.frozen (by simp)]; simp [go_sem]
  have x3 : v.cell? ⟨w.heap.size + 1, 3, none⟩ = some (.int .i64 0) := cell_below hb (by simp [go_sem])
  have z3 : v.frozen? ⟨w.heap.size + 1, 3, none⟩ = false := by rw [hb.frozen (by simp)]; simp [go_sem]
  have HR := Lib.hid (set4 (a := .int .i64 0) (b := .int .i64 0) (c := .int .i64 0) (d := .int .i64 0) x0 x1 x2 x3)
  clear hb
  go_wp2_with fail
  have r0 := HR.out.1
  have r1 := HR.out.2.1
  have r2 := HR.out.2.2.1
  have r3 := HR.out.2.2.2
  (try simp only [Exit.inBlock, Exit.then])
  refine bodyPost_ret (by simp [results, Try.results44, go_sem, r0, r1, r2, r3]; try rfl) rfl ?_
  exact ⟨rfl, by have h9 := hB.size; go_grown⟩

end Go.Proofs.Ytkgccpbpmclikaa.Tb
