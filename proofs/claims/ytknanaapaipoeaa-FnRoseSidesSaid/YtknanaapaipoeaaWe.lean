/- What the functions on winds answer, of the program and of the model. -/
import Derived.Test.YtknanaapaipoeaaWd
import Derived.Deep.DeepCutAuto
import Derived.Handy
namespace Go.Proofs.Ytknanaapaipoeaa.We
open Go.RowKit Go.Proofs.Ytknanaapaipoeaa.Mem Go.Proofs.Ytknanaapaipoeaa.Rw Go.Proofs.Ytknanaapaipoeaa.Bk Go.Proofs.Ytknanaapaipoeaa.Cx Go.Proofs.Ytknanaapaipoeaa.Cm Go.Proofs.Ytknanaapaipoeaa.Jt Go.Proofs.Ytknanaapaipoeaa.Pl Go.Proofs.Ytknanaapaipoeaa.Str Go.Proofs.Ytknanaapaipoeaa.Pw Go.Proofs.Ytknanaapaipoeaa.P2 Go.Proofs.Ytknanaapaipoeaa.Gs Go.Proofs.Ytknanaapaipoeaa.Wm Go.Proofs.Ytknanaapaipoeaa.Wi Go.Proofs.Ytknanaapaipoeaa.Wa Go.Proofs.Ytknanaapaipoeaa.Wb Go.Proofs.Ytknanaapaipoeaa.Wc
set_option linter.unusedVariables false
set_option linter.unusedSimpArgs false

/-- The drift that is told: none of a list that is no wind. -/
def dv (zs : List G) (t : Int) : Int × Int := if wd zs = true then dr zs t else (0, 0)
theorem dv_no {zs : List G} {t : Int} (h : wd zs = false) : dv zs t = (0, 0) := by unfold dv; rw [h]; rfl
theorem dv_yes {zs : List G} {t : Int} (h : wd zs = true) : dv zs t = dr zs t := by unfold dv; rw [h]; rfl

theorem windI {A : Option Addr} {n c : Nat} {zs : List G} {H : Nat} {r : Bool} (hn : zs.length = n) (hb : n ≤ 1048576) (h : wd zs = r) (w : World) (hH : H ≤ w.heap.size) (hr : Rd w H A (gls zs)) :
    Calls Try.prog 23 #[.slice A n c] w fun e w' => e = .returned (.bool r) ∧ Below w.heap.size w w' := h ▸ isWindI A n c zs H w hn hb hH hr
theorem windS {A : Option Addr} {n c : Nat} {zs : List G} {H : Nat} {r : Bool} (hn : zs.length = n) (hb : n ≤ 1048576) (h : wd zs = r) (w : World) (hH : H ≤ w.heap.size) (hr : Rd w H A (gls zs)) :
    Calls Try.prog 63 #[.slice A n c] w fun e w' => e = .returned (.bool r) ∧ Below w.heap.size w w' := h ▸ isWindS A n c zs H w hn hb hH hr

set_option maxRecDepth 100000 in
set_option maxHeartbeats 2000000 in
theorem driftAtI (A : Option Addr) (n c : Nat) (zs : List G) (H : Nat) (t : Int) (w : World) (hn : zs.length = n) (hb : n ≤ 1048576) (hH : H ≤ w.heap.size) (hr : Rd w H A (gls zs)) :
    Calls Try.prog 19 #[.slice A n c, .int .i64 t] w fun e w' => e = .returned (pq (dv zs t)) ∧ Below w.heap.size w w' := by
  have HR := Lib.hid (rd_alloc (o := .cells (pc 0 0) 28) hr hH)
  have R0 := Bk.new w (pc 0 0) 28
  have hbad : wd zs = false ∨ wd zs = true ∧ t < 0 ∨ wd zs = true ∧ 0 ≤ t := by
    cases wd zs
    · exact Or.inl rfl
    · by_cases h : t < 0
      · exact Or.inr (Or.inl ⟨rfl, h⟩)
      · exact Or.inr (Or.inr ⟨rfl, by omega⟩)
  rcases hbad with hw | ⟨hw, ht⟩ | ⟨hw, ht⟩
  · rw [dv_no hw]
    have C := Lib.hid (windI (A := A) (c := c) (H := H) hn hb hw)
    clear hw hr hn
    go_enter Try.func19, Try.ntmps19
    go_wp2_with fail
    refine (C.out _ (by simp; omega) HR.out).mono ?_
    rintro e u ⟨rfl, b1⟩
    have R := Lib.hid (R0.below b1)
    have B1 := Lib.hid (show Below w.heap.size w u from Below.trans (by go_grown) (b1.mono (by simp)))
    clear b1 R0
    have r0 := R.out.cell (i := 0) rfl
    have r1 := R.out.cell (i := 1) rfl
    have y0 := R.out.frozen 0
    have y1 := R.out.frozen 1
    have HS0 := Lib.hid (set2_0 (P := .int .i64 (0)) (Q := .int .i64 (0)) (by rw [r0]; rfl))
    have HS1 := Lib.hid (set2_1 (P := .int .i64 (0)) (Q := .int .i64 (0)) (by rw [r1]; rfl))
    go_wp2_with fail
    have s0 := HS0.out
    have s1 := HS1.out
    (try simp only [Exit.inBlock, Exit.then])
    refine bodyPost_ret (v := pq (0, 0)) (by simp [results, Try.results19, go_sem, s0, s1]; try rfl) rfl ?_
    exact ⟨rfl, B1.out.trans (by have h9 := B1.out.size; go_grown)⟩
  · rw [dv_yes hw, dr_neg hw ht]
    have C := Lib.hid (windI (A := A) (c := c) (H := H) hn hb hw)
    clear hw hr hn
    go_enter Try.func19, Try.ntmps19
    go_wp2_with fail
    refine (C.out _ (by simp; omega) HR.out).mono ?_
    rintro e u ⟨rfl, b1⟩
    have R := Lib.hid (R0.below b1)
    have B1 := Lib.hid (show Below w.heap.size w u from Below.trans (by go_grown) (b1.mono (by simp)))
    clear b1 R0
    have r0 := R.out.cell (i := 0) rfl
    have r1 := R.out.cell (i := 1) rfl
    have y0 := R.out.frozen 0
    have y1 := R.out.frozen 1
    have HS0 := Lib.hid (set2_0 (P := .int .i64 (0)) (Q := .int .i64 (0)) (by rw [r0]; rfl))
    have HS1 := Lib.hid (set2_1 (P := .int .i64 (0)) (Q := .int .i64 (0)) (by rw [r1]; rfl))
    go_wp2_with fail
    have s0 := HS0.out
    have s1 := HS1.out
    (try simp only [Exit.inBlock, Exit.then])
    refine bodyPost_ret (v := pq (0, 0)) (by simp [results, Try.results19, go_sem, s0, s1]; try rfl) rfl ?_
    exact ⟨rfl, B1.out.trans (by have h9 := B1.out.size; go_grown)⟩
  · rw [dv_yes hw]
    have C := Lib.hid (windI (A := A) (c := c) (H := H) hn hb hw)
    have D := Lib.hid (fun W h1 h2 => spreadOut A n c zs H W hn hb h1 h2 hw)
    have hk : ∃ k : Nat, k ≤ 64 ∧ dr zs t = dr zs (k : Int) ∧ (t = (k : Int) ∧ k ≤ 64 ∨ 64 < t ∧ k = 64) := by
      by_cases h : t ≤ 64
      · exact ⟨t.toNat, by omega, by rw [show ((t.toNat : Nat) : Int) = t by omega], Or.inl ⟨by omega, by omega⟩⟩
      · exact ⟨64, by omega, dr_late hw (by omega), Or.inr ⟨by omega, rfl⟩⟩
    obtain ⟨k, hk, hkd, hmin⟩ := hk
    have bd := dr_bound hw (k : Int)
    have G0 := Lib.hid (show (zs2 (drs zs 0 128))[k]? = some (zv (dr zs (k : Int))) by rw [zs2_get (drs_get (by omega)), Nat.zero_add])
    rw [hkd]
    obtain ⟨⟨dx, dy⟩, hd⟩ : ∃ d, dr zs (k : Int) = d := ⟨_, rfl⟩
    rw [hd] at G0 bd
    rw [hd]
    simp only at bd
    have T := Lib.hid (toldYes (a := dx) (b := dy) (by omega) (by omega) (i32_f32 dx) (i32_f32 dy))
    have hnt : ¬ t < 0 := by omega
    have hk8 : (k : Int) < 128 := by omega
    clear hw hr hn hd hkd bd
    rcases hmin with ⟨rfl, hk6⟩ | ⟨h64, rfl⟩
    all_goals
      go_enter Try.func19, Try.ntmps19
      go_wp2_with fail
      refine (C.out _ (by simp; omega) HR.out).mono ?_
      rintro e u ⟨rfl, b1⟩
      have R := Lib.hid (R0.below b1)
      have B1 := Lib.hid (show Below w.heap.size w u from Below.trans (by go_grown) (b1.mono (by simp)))
      have HR1 := Lib.hid (HR.out.below (b1.mono (by simp; omega)))
      clear b1 R0
      go_wp2_with fail
      refine (D.out _ (by have := B1.out.size; omega) HR1.out).mono ?_
      rintro e v ⟨g, rfl, o2, b2⟩
      have R2 := Lib.hid (R.out.below b2)
      have B2 := Lib.hid (below_in B1.out b2)
      rw [drs_len] at o2 ⊢
      have c5 := (o2.cellAt _ (by omega)).trans G0.out
      have g1 : g < v.heap.size := World.block_lt_of_cell? v _ c5
      clear b2 R B1 o2
      have r0 := R2.out.cell (i := 0) rfl
      have r1 := R2.out.cell (i := 1) rfl
      have y0 := R2.out.frozen 0
      have y1 := R2.out.frozen 1
      have HS0 := Lib.hid (set2_0 (P := .int .i64 (dx)) (Q := .int .i64 (dy)) (by rw [r0]; rfl))
      have HS1 := Lib.hid (set2_1 (P := .int .i64 (dx)) (Q := .int .i64 (dy)) (by rw [r1]; rfl))
      have rl := R2.out.lt
      have rl2 : ∀ j, w.heap.size < v.heap.size + j := fun j => by omega
      go_wp2_with fail
      refine (T.out _).mono ?_
      rintro e v' ⟨rfl, rfl⟩
      go_wp2_with fail
      have s0 := HS0.out
      have s1 := HS1.out
      (try simp only [Exit.inBlock, Exit.then])
      refine bodyPost_ret (v := pq (dx, dy)) (by simp [results, Try.results19, go_sem, s0, s1, rl, rl2]; try rfl) rfl ?_
      exact ⟨rfl, B2.out.trans (by have h9 := B2.out.size; go_grown)⟩


end Go.Proofs.Ytknanaapaipoeaa.We
