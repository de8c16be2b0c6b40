/- What the model answers for a box that is turned. -/
import Derived.Test.YtkgccpbpmclikaaBo
namespace Go.Proofs.Ytkgccpbpmclikaa.Tb
open Go.RowKit Go.Proofs.Ytkgccpbpmclikaa.Mem Go.Proofs.Ytkgccpbpmclikaa.Cx Go.Proofs.Ytkgccpbpmclikaa.Cm Go.Proofs.Ytkgccpbpmclikaa.Pl Go.Proofs.Ytkgccpbpmclikaa.Str Go.Proofs.Ytkgccpbpmclikaa.Pw Go.Proofs.Ytkgccpbpmclikaa.P2 Go.Proofs.Ytkgccpbpmclikaa.Bx Go.Proofs.Ytkgccpbpmclikaa.Pls Go.Proofs.Ytkgccpbpmclikaa.Bo
set_option linter.unusedVariables false

theorem boxOf2 {a b c d : Int} (hp : (ms a && ms b) = true) (hq : (ms c && ms d) = true) (g : Nat) (w : World)
    (c0 : w.cell? ⟨g, 0, none⟩ = some (.int .i64 a)) (c1 : w.cell? ⟨g, 1, none⟩ = some (.int .i64 b)) (c2 : w.cell? ⟨g, 2, none⟩ = some (.int .i64 c)) (c3 : w.cell? ⟨g, 3, none⟩ = some (.int .i64 d)) :
    Calls Try.prog 39 #[.slice (some ⟨g, 0, none⟩) 2 2] w fun e w' => e = .returned (.tuple #[box4 (min a c) (min b d) (max a c) (max b d), .bool true]) ∧ Below w.heap.size w w' := by
  have h := boxOfS (some ⟨g, 0, none⟩) 2 2 [(a, b), (c, d)] w rfl (by decide) (Or.inr ⟨g, 0, rfl, World.block_lt_of_cell? w _ c0, fun j v hv => by
    rw [Nat.zero_add]
    match j, hv with
    | 0, hv => injection hv with hv; subst hv; exact c0
    | 1, hv => injection hv with hv; subst hv; exact c1
    | 2, hv => injection hv with hv; subst hv; exact c2
    | 3, hv => injection hv with hv; subst hv; exact c3
    | j + 4, hv => cases hv⟩)
  have e1 : good [(a, b), (c, d)] = true := by simp only [good, List.all_cons, List.all_nil, hp, hq]; rfl
  have e2 : val [(a, b), (c, d)] = (min a c, min b d, max a c, max b d) := by unfold val; rw [e1]; rfl
  have e3 : okB [(a, b), (c, d)] = true := by unfold okB; rw [e1]; rfl
  rw [e2, e3] at h
  exact h

theorem ms_box {n x y z u : Int} (hp : (ms x && ms y) = true) (hq : (ms z && ms u) = true) :
    (ms (tx (n % 4).toNat x y) && ms (ty (n % 4).toNat x y)) = true ∧ (ms (tx (n % 4).toNat z u) && ms (ty (n % 4).toNat z u)) = true := by
  obtain ⟨hx, hy⟩ := pl_yes hp
  obtain ⟨hz, hu⟩ := pl_yes hq
  have t1 := txle (k := (n % 4).toNat) hx hy
  have t2 := tyle (k := (n % 4).toNat) hx hy
  have t3 := txle (k := (n % 4).toNat) hz hu
  have t4 := tyle (k := (n % 4).toNat) hz hu
  rw [ms_yes t1.1 t1.2, ms_yes t2.1 t2.2, ms_yes t3.1 t3.2, ms_yes t4.1 t4.2]
  exact ⟨rfl, rfl⟩

/-- Block b holds these four. -/
structure C4 (w : World) (b : Nat) (x y z u : Int) : Prop where
  c0 : w.cell? ⟨b, 0, none⟩ = some (.int .i64 x)
  c1 : w.cell? ⟨b, 1, none⟩ = some (.int .i64 y)
  c2 : w.cell? ⟨b, 2, none⟩ = some (.int .i64 z)
  c3 : w.cell? ⟨b, 3, none⟩ = some (.int .i64 u)
theorem C4.of4 {W : World} {g : Nat} {a b c d : Int} {p q r s : Value} (h0 : W.cell? ⟨g, 0, none⟩ = some p) (h1 : W.cell? ⟨g, 1, none⟩ = some q) (h2 : W.cell? ⟨g, 2, none⟩ = some r) (h3 : W.cell? ⟨g, 3, none⟩ = some s) :
    C4 ((((W.setCell ⟨g, 0, none⟩ (.int .i64 a)).setCell ⟨g, 1, none⟩ (.int .i64 b)).setCell ⟨g, 2, none⟩ (.int .i64 c)).setCell ⟨g, 3, none⟩ (.int .i64 d)) g a b c d :=
  ⟨(set4 h0 h1 h2 h3).1, (set4 h0 h1 h2 h3).2.1, (set4 h0 h1 h2 h3).2.2.1, (set4 h0 h1 h2 h3).2.2.2⟩

set_option maxHeartbeats 4000000 in
set_option maxRecDepth 100000 in
theorem turnBoxS {x y z u : Int} (n : Int) (hp : (ms x && ms y) = true) (hq : (ms z && ms u) = true) (h : bx x y z u = true) (w : World) :
    Calls Try.prog 44 #[box4 x y z u, .int .i64 n] w fun e w' => e = .returned (box4 (tb n x y z u).1 (tb n x y z u).2.1 (tb n x y z u).2.2.1 (tb n x y z u).2.2.2) ∧ Below w.heap.size w w' := by
  obtain ⟨hx, hy⟩ := pl_yes hp
  obtain ⟨hz, hu⟩ := pl_yes hq
  have B := Lib.hid (show ∀ w, Calls Try.prog 33 #[box4 x y z u] w fun e w' => e = .returned (.bool true) ∧ Below w.heap.size w w' from h ▸ isBoxS x y z u)
  obtain ⟨v1, v2⟩ := ms_box (n := n) hp hq
  have T1 := Lib.hid (l2Turn n (x := x) (y := y) (by omega) (by omega))
  have T2 := Lib.hid (l2Turn n (x := z) (y := u) (by omega) (by omega))
  have BB := Lib.hid (boxOf2 v1 v2)
  simp only [tb]
  generalize tx (n % 4).toNat x y = X1 at *
  generalize ty (n % 4).toNat x y = X2 at *
  generalize tx (n % 4).toNat z u = X3 at *
  generalize ty (n % 4).toNat z u = X4 at *
  generalize min X1 X3 = A1 at *
  generalize min X2 X4 = A2 at *
  generalize max X1 X3 = A3 at *
  generalize max X2 X4 = A4 at *
  clear hp hq h hx hy hz hu v1 v2
  go_enter Try.func44, Try.ntmps44
  go_wp2_with fail
  refine (B.out _).mono ?_
  rintro e v ⟨rfl, hb⟩
  have m1 : v.cell? ⟨w.heap.size, 0, none⟩ = some (.int .i64 x) := cell_below hb (by simp [go_sem])
  have m2 : v.cell? ⟨w.heap.size, 1, none⟩ = some (.int .i64 y) := cell_below hb (by simp [go_sem])
  have m3 : v.cell? ⟨w.heap.size, 2, none⟩ = some (.int .i64 z) := cell_below hb (by simp [go_sem])
  have m4 : v.cell? ⟨w.heap.size, 3, none⟩ = some (.int .i64 u) := cell_below hb (by simp [go_sem])
  have hB : Below w.heap.size w v := Below.trans (by go_grown) (hb.mono (by go_size))
  have R0 := Lib.hid ((show B4 ((w.alloc (.cells #[.int .i64 x, .int .i64 y, .int .i64 z, .int .i64 u] 46)).alloc (.cells #[.int .i64 0, .int .i64 0, .int .i64 0, .int .i64 0] 46)) (w.heap.size + 1) 0 0 0 0 by constructor <;> simp [go_sem]).below hb)
  have hsz := hB.size
  have q1 : w.heap.size < v.heap.size := World.block_lt_of_cell? v _ m1
  have q2 : ∀ j, w.heap.size < v.heap.size + j := fun j => by omega
  clear hb
  have l7 : w.heap.size + 1 < v.heap.size := World.block_lt_of_cell? _ _ R0.out.c0
  go_upto_region 3 with fail
  go_cut [5] (fun s wx => ∃ k, s = .pointer (some ⟨k, 0, none⟩) ∧ Hid (C4 wx k A1 A2 A3 A4) ∧ Hid (B4 wx (w.heap.size + 1) 0 0 0 0) ∧ Hid (Below w.heap.size w wx))
  case first =>
    go_region_held3 (fun w' => w'.cell? ⟨w.heap.size, 0, none⟩ = some (.int .i64 x) ∧ w'.cell? ⟨w.heap.size, 1, none⟩ = some (.int .i64 y) ∧ w'.cell? ⟨w.heap.size, 2, none⟩ = some (.int .i64 z) ∧ w'.cell? ⟨w.heap.size, 3, none⟩ = some (.int .i64 u)) (simp [go_sem, *])
      (first
        | (go_at_call_of 50 x; refine (T1.out _).mono ?_; rintro e w' ⟨rfl, rfl⟩)
        | (go_at_call_of 50 z; refine (T2.out _).mono ?_; rintro e w' ⟨rfl, rfl⟩)
        | (go_at_call 39; refine (BB.out _ _ (by simp [go_sem]) (by simp [go_sem]) (by simp [go_sem]) (by simp [go_sem])).mono ?_; rintro e w' ⟨rfl, hb⟩; have hb2 : Below v.heap.size v w' := (Below.trans (by go_grown) (hb.mono (by go_size))); obtain ⟨hc, hf, l1, l2, n1, n2, n3, n4⟩ := open_below hb; clear hb;
            have y1 := cell_below hb2 m1;
            have y2 := cell_below hb2 m2;
            have y3 := cell_below hb2 m3;
            have y4 := cell_below hb2 m4;
            have y5 : w.heap.size < w'.heap.size := World.block_lt_of_cell? _ _ y1;
            have y6 : ∀ j, w.heap.size < w'.heap.size + j := (fun j => by omega);
            have HB2 := Lib.hid (hB.trans (hb2.mono hB.size)); have R1 := Lib.hid (R0.out.below hb2); clear hb2))
    all_goals have HC := Lib.hid hc
    all_goals clear hc hf l1 l2 n1 n2 n3 n4
    all_goals go_wp2_with fail
    all_goals go_meet
    all_goals have hc := HC.out
    all_goals have h9 := HB2.out.size
    · exact ⟨_, rfl, Lib.hid (by constructor <;> simp [go_sem]), Lib.hid (R1.out.below (by go_grown)), Lib.hid (HB2.out.trans (by go_grown))⟩
    all_goals refine ⟨_, rfl, Lib.hid (C4.of4 (p := .int .i64 0) (q := .int .i64 0) (r := .int .i64 0) (s := .int .i64 0) ?_ ?_ ?_ ?_), Lib.hid (B4.far (by omega) (B4.far (by omega) (B4.far (by omega) (B4.far (by omega) R1.out)))), Lib.hid (HB2.out.trans (by go_grown))⟩
    all_goals rw [hc _ (by first | (simp; done) | (simp; omega))]
    all_goals simp [go_sem]
  case rest =>
    obtain ⟨k, rfl, C, R, HB⟩ := hcut
    have a0 := C.out.c0
    have a1 := C.out.c1
    have a2 := C.out.c2
    have a3 := C.out.c3
    have z0 := R.out.c0
    have z1 := R.out.c1
    have z2 := R.out.c2
    have z3 := R.out.c3
    have f0 := R.out.f0
    have f1 := R.out.f1
    have f2 := R.out.f2
    have f3 := R.out.f3
    have HS := Lib.hid (set4 (a := .int .i64 A1) (b := .int .i64 A2) (c := .int .i64 A3) (d := .int .i64 A4) z0 z1 z2 z3)
    clear R m1 m2 m3 m4 hB q1 q2 l7 hsz
    go_wp2_with fail
    have r0 := HS.out.1
    have r1 := HS.out.2.1
    have r2 := HS.out.2.2.1
    have r3 := HS.out.2.2.2
    (try simp only [Exit.inBlock, Exit.then])
    refine bodyPost_ret (v := box4 A1 A2 A3 A4) (by simp [results, Try.results44, go_sem, r0, r1, r2, r3]; try rfl) rfl ?_
    exact ⟨rfl, HB.out.trans (by have h9 := HB.out.size; go_grown)⟩

end Go.Proofs.Ytkgccpbpmclikaa.Tb
