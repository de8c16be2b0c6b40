/- The box of the sums of a rose, of the program and of the model. -/
import Derived.Test.YtejeikfgmiadhabGreatM31
import Derived.Test.YtejeikfgmiadhabGreatM30
set_option linter.unusedVariables false
set_option linter.unusedSimpArgs false
namespace Go.Proofs.YtejeikfgmiadhabGreat.Wy
open Go.RowKit Go.Proofs.YtejeikfgmiadhabGreat.Flt Go.Proofs.YtejeikfgmiadhabGreat.Meas Go.Proofs.YtejeikfgmiadhabGreat.Mem Go.Proofs.YtejeikfgmiadhabGreat.Rw Go.Proofs.YtejeikfgmiadhabGreat.Bk Go.Proofs.YtejeikfgmiadhabGreat.Cx Go.Proofs.YtejeikfgmiadhabGreat.Cm Go.Proofs.YtejeikfgmiadhabGreat.Jt Go.Proofs.YtejeikfgmiadhabGreat.Pl Go.Proofs.YtejeikfgmiadhabGreat.Str Go.Proofs.YtejeikfgmiadhabGreat.Pw Go.Proofs.YtejeikfgmiadhabGreat.P2 Go.Proofs.YtejeikfgmiadhabGreat.Gs Go.Proofs.YtejeikfgmiadhabGreat.Wm Go.Proofs.YtejeikfgmiadhabGreat.Wi Go.Proofs.YtejeikfgmiadhabGreat.Wa Go.Proofs.YtejeikfgmiadhabGreat.Wb Go.Proofs.YtejeikfgmiadhabGreat.Wc Go.Proofs.YtejeikfgmiadhabGreat.We Go.Proofs.YtejeikfgmiadhabGreat.Pls Go.Proofs.YtejeikfgmiadhabGreat.Bi Go.Proofs.YtejeikfgmiadhabGreat.Bo Go.Proofs.YtejeikfgmiadhabGreat.Bx Go.Proofs.YtejeikfgmiadhabGreat.Tb Go.Proofs.YtejeikfgmiadhabGreat.Wr Go.Proofs.YtejeikfgmiadhabGreat.Wx
set_option linter.unusedVariables false
set_option linter.unusedSimpArgs false

/-- Words that tell these places. -/
def Wo (zs : List (Int × Int)) (ws : List (Nat × Nat)) : Prop := ws.length = zs.length ∧ ∀ (k : Nat) x y, zs[k]? = some (x, y) → ∃ a b, ws[k]? = some (a, b) ∧ I32 x a ∧ I32 y b
theorem Wo.set {zs : List (Int × Int)} {ws : List (Nat × Nat)} (h : Wo zs ws) (k : Nat) {x y : Int} {a b : Nat} (hx : I32 x a) (hy : I32 y b) : Wo (zs.set k (x, y)) (ws.set k (a, b)) := by
  refine ⟨by rw [List.length_set, List.length_set]; exact h.1, fun j u v hj => ?_⟩
  rw [List.getElem?_set] at hj
  by_cases e : k = j
  · subst e
    rw [if_pos rfl] at hj
    by_cases hl : k < zs.length
    · rw [if_pos hl] at hj
      injection hj with hj
      injection hj with e1 e2
      subst e1 e2
      exact ⟨a, b, by rw [List.getElem?_set, if_pos rfl, if_pos (by rw [h.1]; exact hl)], hx, hy⟩
    · rw [if_neg hl] at hj; cases hj
  · rw [if_neg e] at hj
    obtain ⟨a', b', h1, h2⟩ := h.2 j u v hj
    exact ⟨a', b', by rw [List.getElem?_set, if_neg e]; exact h1, h2⟩

def sc (t : Int) (p : Int × Int) : Int × Int := (t * p.1, t * p.2)
def sq (t : Int) (q : Q4) : Q4 := (t * q.1, t * q.2.1, t * q.2.2.1, t * q.2.2.2)
theorem mul_bound {t a : Int} (ht : 0 ≤ t ∧ t ≤ 128) (ha : -8 ≤ a ∧ a ≤ 8) : -1024 ≤ t * a ∧ t * a ≤ 1024 := by
  have h1 := Int.mul_le_mul_of_nonneg_left ha.1 ht.1
  have h2 := Int.mul_le_mul_of_nonneg_left ha.2 ht.1
  omega
def inB (D : Int) (q : Q4) : Prop := (-D ≤ q.1 ∧ q.1 ≤ D) ∧ (-D ≤ q.2.1 ∧ q.2.1 ≤ D) ∧ (-D ≤ q.2.2.1 ∧ q.2.2.1 ≤ D) ∧ (-D ≤ q.2.2.2 ∧ q.2.2.2 ≤ D)
theorem box_near {D : Int} (h0 : 0 ≤ D) {zs : List (Int × Int)} (h : Near D zs) : inB D (boxA zs) := by
  cases zs with
  | nil => unfold inB boxA; simp only; omega
  | cons p ps =>
    have key : ∀ (ps : List (Int × Int)) (q : Q4), inB D q → (∀ p ∈ ps, (-D ≤ p.1 ∧ p.1 ≤ D) ∧ (-D ≤ p.2 ∧ p.2 ≤ D)) → inB D (ps.foldl Bo.step q) := by
      intro ps
      induction ps with
      | nil => intro q hq _; exact hq
      | cons r rs ih =>
        intro q hq hp
        rw [List.foldl_cons]
        refine ih _ ?_ (fun p hp' => hp p (List.mem_cons_of_mem _ hp'))
        have := hp r (List.mem_cons_self ..)
        unfold inB at hq ⊢
        unfold Bo.step
        simp only
        omega
    refine key ps (one p) ?_ (fun q hq => h q (List.mem_cons_of_mem _ hq))
    have := h p (List.mem_cons_self ..)
    unfold inB one
    simp only
    omega
def rB (ps : List (Int × Int)) (t : Int) : Bool := rs ps && decide (0 ≤ t) && decide (t ≤ 128)
def rQ (ps : List (Int × Int)) (t : Int) : Q4 := if rB ps t = true then sq t (boxA ps) else (0, 0, 0, 0)
theorem r_no {ps : List (Int × Int)} {t : Int} (h : rs ps = false ∨ t < 0 ∨ 128 < t) : rB ps t = false ∧ rQ ps t = (0, 0, 0, 0) := by
  have : rB ps t = false := by
    unfold rB
    rcases h with h | h | h
    · rw [h]; rfl
    · rw [decide_eq_false (p := 0 ≤ t) (by omega)]; simp
    · rw [decide_eq_false (p := t ≤ 128) (by omega)]; simp
  exact ⟨this, by unfold rQ; rw [this]; rfl⟩
theorem r_yes {ps : List (Int × Int)} {t : Int} (h : rs ps = true) (ht : 0 ≤ t ∧ t ≤ 128) : rB ps t = true ∧ rQ ps t = sq t (boxA ps) := by
  have : rB ps t = true := by unfold rB; rw [h, decide_eq_true ht.1, decide_eq_true ht.2]; rfl
  exact ⟨this, by unfold rQ; rw [this, if_pos rfl]⟩
theorem r_cases (ps : List (Int × Int)) (t : Int) : rs ps = false ∨ rs ps = true ∧ t < 0 ∨ rs ps = true ∧ 0 ≤ t ∧ 128 < t ∨ rs ps = true ∧ 0 ≤ t ∧ t ≤ 128 := by
  cases rs ps
  · exact Or.inl rfl
  by_cases h : t < 0
  · exact Or.inr (Or.inl ⟨rfl, h⟩)
  by_cases h2 : 128 < t
  · exact Or.inr (Or.inr (Or.inl ⟨rfl, by omega, h2⟩))
  · exact Or.inr (Or.inr (Or.inr ⟨rfl, by omega, by omega⟩))
abbrev z4 : Array Value := #[.int .i64 0, .int .i64 0, .int .i64 0, .int .i64 0]

set_option maxRecDepth 100000 in
set_option maxHeartbeats 2000000 in
theorem roseBoxS (A : Option Addr) (n c : Nat) (ps : List (Int × Int)) (t : Int) (w : World) (hn : ps.length = n) (hb : n ≤ 1048576) (hr : Rd w w.heap.size A (pls ps)) :
    Calls Tryz.prog 77 #[.slice A n c, .int .i64 t] w fun e w' => e = .returned (.tuple #[bq (rQ ps t), .bool (rB ps t)]) ∧ Below w.heap.size w w' := by
  have HR := Lib.hid ((rd_alloc (o := .cells z4 33) hr (Nat.le_refl _)).more (B' := (w.alloc (.cells z4 33)).heap.size) (by simp))
  have R0 := Bk.new w z4 33
  have HR0 := Lib.hid hr
  have BX := Lib.hid (fun W h => boxOfS A n c ps W hn hb h)
  rcases r_cases ps t with hx | ⟨hx, ht⟩ | ⟨hx, ht0, ht⟩ | ⟨hx, ht0, ht⟩
  · obtain ⟨e1, e2⟩ := r_no (ps := ps) (t := t) (Or.inl hx)
    rw [e1, e2]
    obtain ⟨⟨q1, q2, q3, q4⟩, hq⟩ : ∃ q, val ps = q := ⟨_, rfl⟩
    obtain ⟨bb, hbb⟩ : ∃ b, okB ps = b := ⟨_, rfl⟩
    rw [hq, hbb] at BX
    have E := Lib.hid (roseS (A := A) (c := c) (H := w.heap.size) hn hb hx)
    clear hx hr hn e1 e2 hq hbb
    unfold bq at BX
    go_enter Tryz.func77, Tryz.ntmps77
    go_wp2_with fail
    refine (BX.out _ HR.out).mono ?_
    rintro e u ⟨rfl, b1⟩
    have Ru := Lib.hid (R0.below b1)
    have HR1 := Lib.hid (rd_alloc (o := .cells #[.int .i64 q1, .int .i64 q2, .int .i64 q3, .int .i64 q4] 33) (HR.out.below b1) b1.size)
    have B1 := Lib.hid (show Below w.heap.size w u from Below.trans (by go_grown) (b1.mono (by simp)))
    have HR9 := Lib.hid (show Rd (u.alloc (.cells #[.int .i64 q1, .int .i64 q2, .int .i64 q3, .int .i64 q4] 33)) w.heap.size A (pls ps) from (HR0.out.below (B1.out.alloc B1.out.size _)))
    have Pu := Bk.new u #[.int .i64 q1, .int .i64 q2, .int .i64 q3, .int .i64 q4] 33
    clear b1 R0
    go_wp2_with fail
    refine (E.out _ (by have := B1.out.size; simp; omega) HR9.out).mono ?_
    rintro e v ⟨rfl, b2⟩
    have R := Lib.hid ((Ru.out.alloc).below b2)
    have P := Lib.hid (Pu.below b2)
    have B2 := Lib.hid (show Below w.heap.size w v from B1.out.trans (Below.mono (Below.trans (B := u.heap.size) (by go_grown) (b2.mono (by simp))) B1.out.size))
    clear b2 Pu
    have z0 := R.out.cell (i := 0) rfl
    have z1 := R.out.cell (i := 1) rfl
    have z2 := R.out.cell (i := 2) rfl
    have z3 := R.out.cell (i := 3) rfl
    have y0 := R.out.frozen 0
    have y1 := R.out.frozen 1
    have y2 := R.out.frozen 2
    have y3 := R.out.frozen 3
    have HS4 := Lib.hid (set4 (a := .int .i64 (0)) (b := .int .i64 (0)) (c := .int .i64 (0)) (d := .int .i64 (0)) z0 z1 z2 z3)
    go_wp2_with fail
    have r0 := HS4.out.1
    have r1 := HS4.out.2.1
    have r2 := HS4.out.2.2.1
    have r3 := HS4.out.2.2.2
    (try simp only [Exit.inBlock, Exit.then])
    refine bodyPost_ret (v := .tuple #[box4 (0) (0) (0) (0), .bool false]) (by simp [results, Tryz.results77, go_sem, r0, r1, r2, r3]; try rfl) rfl ?_
    exact ⟨rfl, B2.out.trans (by have h9 := B2.out.size; go_grown)⟩
  · obtain ⟨e1, e2⟩ := r_no (ps := ps) (t := t) (Or.inr (Or.inl ht))
    rw [e1, e2]
    obtain ⟨⟨q1, q2, q3, q4⟩, hq⟩ : ∃ q, val ps = q := ⟨_, rfl⟩
    obtain ⟨bb, hbb⟩ : ∃ b, okB ps = b := ⟨_, rfl⟩
    rw [hq, hbb] at BX
    have E := Lib.hid (roseS (A := A) (c := c) (H := w.heap.size) hn hb hx)
    clear hx hr hn e1 e2 hq hbb
    unfold bq at BX
    go_enter Tryz.func77, Tryz.ntmps77
    go_wp2_with fail
    refine (BX.out _ HR.out).mono ?_
    rintro e u ⟨rfl, b1⟩
    have Ru := Lib.hid (R0.below b1)
    have HR1 := Lib.hid (rd_alloc (o := .cells #[.int .i64 q1, .int .i64 q2, .int .i64 q3, .int .i64 q4] 33) (HR.out.below b1) b1.size)
    have B1 := Lib.hid (show Below w.heap.size w u from Below.trans (by go_grown) (b1.mono (by simp)))
    have HR9 := Lib.hid (show Rd (u.alloc (.cells #[.int .i64 q1, .int .i64 q2, .int .i64 q3, .int .i64 q4] 33)) w.heap.size A (pls ps) from (HR0.out.below (B1.out.alloc B1.out.size _)))
    have Pu := Bk.new u #[.int .i64 q1, .int .i64 q2, .int .i64 q3, .int .i64 q4] 33
    clear b1 R0
    go_wp2_with fail
    refine (E.out _ (by have := B1.out.size; simp; omega) HR9.out).mono ?_
    rintro e v ⟨rfl, b2⟩
    have R := Lib.hid ((Ru.out.alloc).below b2)
    have P := Lib.hid (Pu.below b2)
    have B2 := Lib.hid (show Below w.heap.size w v from B1.out.trans (Below.mono (Below.trans (B := u.heap.size) (by go_grown) (b2.mono (by simp))) B1.out.size))
    clear b2 Pu
    have z0 := R.out.cell (i := 0) rfl
    have z1 := R.out.cell (i := 1) rfl
    have z2 := R.out.cell (i := 2) rfl
    have z3 := R.out.cell (i := 3) rfl
    have y0 := R.out.frozen 0
    have y1 := R.out.frozen 1
    have y2 := R.out.frozen 2
    have y3 := R.out.frozen 3
    have HS4 := Lib.hid (set4 (a := .int .i64 (0)) (b := .int .i64 (0)) (c := .int .i64 (0)) (d := .int .i64 (0)) z0 z1 z2 z3)
    go_wp2_with fail
    have r0 := HS4.out.1
    have r1 := HS4.out.2.1
    have r2 := HS4.out.2.2.1
    have r3 := HS4.out.2.2.2
    (try simp only [Exit.inBlock, Exit.then])
    refine bodyPost_ret (v := .tuple #[box4 (0) (0) (0) (0), .bool false]) (by simp [results, Tryz.results77, go_sem, r0, r1, r2, r3]; try rfl) rfl ?_
    exact ⟨rfl, B2.out.trans (by have h9 := B2.out.size; go_grown)⟩
  · obtain ⟨e1, e2⟩ := r_no (ps := ps) (t := t) (Or.inr (Or.inr ht))
    rw [e1, e2]
    obtain ⟨⟨q1, q2, q3, q4⟩, hq⟩ : ∃ q, val ps = q := ⟨_, rfl⟩
    obtain ⟨bb, hbb⟩ : ∃ b, okB ps = b := ⟨_, rfl⟩
    rw [hq, hbb] at BX
    have h1 : ¬ t < 0 := by omega
    have E := Lib.hid (roseS (A := A) (c := c) (H := w.heap.size) hn hb hx)
    clear hx hr hn e1 e2 hq hbb
    unfold bq at BX
    go_enter Tryz.func77, Tryz.ntmps77
    go_wp2_with fail
    refine (BX.out _ HR.out).mono ?_
    rintro e u ⟨rfl, b1⟩
    have Ru := Lib.hid (R0.below b1)
    have HR1 := Lib.hid (rd_alloc (o := .cells #[.int .i64 q1, .int .i64 q2, .int .i64 q3, .int .i64 q4] 33) (HR.out.below b1) b1.size)
    have B1 := Lib.hid (show Below w.heap.size w u from Below.trans (by go_grown) (b1.mono (by simp)))
    have HR9 := Lib.hid (show Rd (u.alloc (.cells #[.int .i64 q1, .int .i64 q2, .int .i64 q3, .int .i64 q4] 33)) w.heap.size A (pls ps) from (HR0.out.below (B1.out.alloc B1.out.size _)))
    have Pu := Bk.new u #[.int .i64 q1, .int .i64 q2, .int .i64 q3, .int .i64 q4] 33
    clear b1 R0
    go_wp2_with fail
    refine (E.out _ (by have := B1.out.size; simp; omega) HR9.out).mono ?_
    rintro e v ⟨rfl, b2⟩
    have R := Lib.hid ((Ru.out.alloc).below b2)
    have P := Lib.hid (Pu.below b2)
    have B2 := Lib.hid (show Below w.heap.size w v from B1.out.trans (Below.mono (Below.trans (B := u.heap.size) (by go_grown) (b2.mono (by simp))) B1.out.size))
    clear b2 Pu
    have z0 := R.out.cell (i := 0) rfl
    have z1 := R.out.cell (i := 1) rfl
    have z2 := R.out.cell (i := 2) rfl
    have z3 := R.out.cell (i := 3) rfl
    have y0 := R.out.frozen 0
    have y1 := R.out.frozen 1
    have y2 := R.out.frozen 2
    have y3 := R.out.frozen 3
    have HS4 := Lib.hid (set4 (a := .int .i64 (0)) (b := .int .i64 (0)) (c := .int .i64 (0)) (d := .int .i64 (0)) z0 z1 z2 z3)
    go_wp2_with fail
    have r0 := HS4.out.1
    have r1 := HS4.out.2.1
    have r2 := HS4.out.2.2.1
    have r3 := HS4.out.2.2.2
    (try simp only [Exit.inBlock, Exit.then])
    refine bodyPost_ret (v := .tuple #[box4 (0) (0) (0) (0), .bool false]) (by simp [results, Tryz.results77, go_sem, r0, r1, r2, r3]; try rfl) rfl ?_
    exact ⟨rfl, B2.out.trans (by have h9 := B2.out.size; go_grown)⟩
  · obtain ⟨e1, e2⟩ := r_yes hx ⟨ht0, ht⟩
    obtain ⟨⟨q1, q2, q3, q4⟩, hq⟩ : ∃ q, val ps = q := ⟨_, rfl⟩
    obtain ⟨bb, hbb⟩ : ∃ b, okB ps = b := ⟨_, rfl⟩
    rw [hq, hbb] at BX
    have hqb := box_near (D := 8) (by decide) (near_rs hx)
    have hqv : boxA ps = (q1, q2, q3, q4) := by rw [← hq]; unfold val; rw [good_rs hx, if_pos rfl]
    rw [hqv] at e2 hqb
    unfold inB at hqb
    simp only at hqb
    rw [e1, e2]
    have m1 : wrap64 (t * q1) = t * q1 := IntWalk.wrap64_in _ (by have := mul_bound ⟨ht0, ht⟩ hqb.1; omega)
    have m2 : wrap64 (t * q2) = t * q2 := IntWalk.wrap64_in _ (by have := mul_bound ⟨ht0, ht⟩ hqb.2.1; omega)
    have m3 : wrap64 (t * q3) = t * q3 := IntWalk.wrap64_in _ (by have := mul_bound ⟨ht0, ht⟩ hqb.2.2.1; omega)
    have m4 : wrap64 (t * q4) = t * q4 := IntWalk.wrap64_in _ (by have := mul_bound ⟨ht0, ht⟩ hqb.2.2.2; omega)
    have h1 : ¬ t < 0 := by omega
    have h2 : ¬ 128 < t := by omega
    clear hqb hqv
    have E := Lib.hid (roseS (A := A) (c := c) (H := w.heap.size) hn hb hx)
    clear hx hr hn e1 e2 hq hbb
    unfold bq at BX
    go_enter Tryz.func77, Tryz.ntmps77
    go_wp2_with fail
    refine (BX.out _ HR.out).mono ?_
    rintro e u ⟨rfl, b1⟩
    have Ru := Lib.hid (R0.below b1)
    have HR1 := Lib.hid (rd_alloc (o := .cells #[.int .i64 q1, .int .i64 q2, .int .i64 q3, .int .i64 q4] 33) (HR.out.below b1) b1.size)
    have B1 := Lib.hid (show Below w.heap.size w u from Below.trans (by go_grown) (b1.mono (by simp)))
    have HR9 := Lib.hid (show Rd (u.alloc (.cells #[.int .i64 q1, .int .i64 q2, .int .i64 q3, .int .i64 q4] 33)) w.heap.size A (pls ps) from (HR0.out.below (B1.out.alloc B1.out.size _)))
    have Pu := Bk.new u #[.int .i64 q1, .int .i64 q2, .int .i64 q3, .int .i64 q4] 33
    clear b1 R0
    go_wp2_with fail
    refine (E.out _ (by have := B1.out.size; simp; omega) HR9.out).mono ?_
    rintro e v ⟨rfl, b2⟩
    have R := Lib.hid ((Ru.out.alloc).below b2)
    have P := Lib.hid (Pu.below b2)
    have B2 := Lib.hid (show Below w.heap.size w v from B1.out.trans (Below.mono (Below.trans (B := u.heap.size) (by go_grown) (b2.mono (by simp))) B1.out.size))
    clear b2 Pu
    have x0 := P.out.cell (i := 0) rfl
    have x1 := P.out.cell (i := 1) rfl
    have x2 := P.out.cell (i := 2) rfl
    have x3 := P.out.cell (i := 3) rfl
    have z0 := R.out.cell (i := 0) rfl
    have z1 := R.out.cell (i := 1) rfl
    have z2 := R.out.cell (i := 2) rfl
    have z3 := R.out.cell (i := 3) rfl
    have y0 := R.out.frozen 0
    have y1 := R.out.frozen 1
    have y2 := R.out.frozen 2
    have y3 := R.out.frozen 3
    have HS4 := Lib.hid (set4 (a := .int .i64 (t * q1)) (b := .int .i64 (t * q2)) (c := .int .i64 (t * q3)) (d := .int .i64 (t * q4)) z0 z1 z2 z3)
    go_wp2_with fail
    have r0 := HS4.out.1
    have r1 := HS4.out.2.1
    have r2 := HS4.out.2.2.1
    have r3 := HS4.out.2.2.2
    (try simp only [Exit.inBlock, Exit.then])
    refine bodyPost_ret (v := .tuple #[box4 (t * q1) (t * q2) (t * q3) (t * q4), .bool true]) (by simp [results, Tryz.results77, go_sem, r0, r1, r2, r3]; try rfl) rfl ?_
    exact ⟨rfl, B2.out.trans (by have h9 := B2.out.size; go_grown)⟩

end Go.Proofs.YtejeikfgmiadhabGreat.Wy
namespace Go.Proofs.YtejeikfgmiadhabGreat.Bxi
open Go.RowKit Go.Proofs.YtejeikfgmiadhabGreat.Cm Go.Proofs.YtejeikfgmiadhabGreat.Pl Go.Proofs.YtejeikfgmiadhabGreat.Str Go.Proofs.YtejeikfgmiadhabGreat.Pw Go.Proofs.YtejeikfgmiadhabGreat.P2
set_option linter.unusedVariables false

def bx (x y z u : Int) : Bool := (ms x && ms y) && (ms z && ms u) && decide (x ≤ z) && decide (y ≤ u)
def ib (x y z u a b : Int) : Bool := bx x y z u && decide (x ≤ a) && decide (a ≤ z) && decide (y ≤ b) && decide (b ≤ u)

theorem isBoxI (x y z u : Int) (w : World) : Calls Tryz.prog 99 #[.agg #[.int .i64 x, .int .i64 y, .int .i64 z, .int .i64 u]] w fun e w' => e = .returned (.bool (bx x y z u)) ∧ Below w.heap.size w w' := by
  unfold bx
  cases p : (ms x && ms y)
  · have C1 := Lib.hid (isPlaceI_of p)
    clear p
    go_enter Tryz.func99, Tryz.ntmps99
    go_wp2_with fail
    refine (C1.out _).mono ?_
    rintro e w' ⟨rfl, rfl⟩
    go_wp2_with fail
    go_returns
    exact ⟨rfl, by go_grown⟩
  cases q : (ms z && ms u)
  · have C1 := Lib.hid (isPlaceI_of p)
    have C2 := Lib.hid (isPlaceI_of q)
    clear p q
    go_enter Tryz.func99, Tryz.ntmps99
    go_wp2_with fail
    refine (C1.out _).mono ?_
    rintro e w' ⟨rfl, rfl⟩
    go_wp2_with fail
    refine (C2.out _).mono ?_
    rintro e w' ⟨rfl, rfl⟩
    go_wp2_with fail
    go_returns
    exact ⟨rfl, by go_grown⟩
  · have C1 := Lib.hid (isPlaceI_of p)
    have C2 := Lib.hid (isPlaceI_of q)
    clear p q
    by_cases h1 : x ≤ z <;> by_cases h2 : y ≤ u
    all_goals
      go_enter Tryz.func99, Tryz.ntmps99
      go_wp2_with fail
      refine (C1.out _).mono ?_
      rintro e w' ⟨rfl, rfl⟩
      go_wp2_with fail
      refine (C2.out _).mono ?_
      rintro e w' ⟨rfl, rfl⟩
      go_wp2_with fail
      all_goals first | omega | skip
      all_goals go_returns
      all_goals refine ⟨?_, by go_grown⟩
      all_goals first | (simp [*]; done) | (simp [*]; omega)

end Go.Proofs.YtejeikfgmiadhabGreat.Bxi
