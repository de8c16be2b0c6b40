/- The drift over some ticks, of the program and of the model. -/
import Derived.Test.YtknanaapaipoeaaWe
import Derived.Deep.RegionWith
import Derived.ProofKit
namespace Go.Proofs.Ytknanaapaipoeaa.We
open Go.RowKit Go.Proofs.Ytknanaapaipoeaa.Mem Go.Proofs.Ytknanaapaipoeaa.Rw Go.Proofs.Ytknanaapaipoeaa.Bk Go.Proofs.Ytknanaapaipoeaa.Cx Go.Proofs.Ytknanaapaipoeaa.Cm Go.Proofs.Ytknanaapaipoeaa.Jt Go.Proofs.Ytknanaapaipoeaa.Pl Go.Proofs.Ytknanaapaipoeaa.Str Go.Proofs.Ytknanaapaipoeaa.Pw Go.Proofs.Ytknanaapaipoeaa.P2 Go.Proofs.Ytknanaapaipoeaa.Gs Go.Proofs.Ytknanaapaipoeaa.Wm Go.Proofs.Ytknanaapaipoeaa.Wi Go.Proofs.Ytknanaapaipoeaa.Wa Go.Proofs.Ytknanaapaipoeaa.Wb Go.Proofs.Ytknanaapaipoeaa.Wc
set_option linter.unusedVariables false
set_option linter.unusedSimpArgs false

def overB (zs : List G) (a b : Int) : Bool := wd zs && decide (0 ≤ a) && decide (a ≤ b) && decide (b ≤ 128)
def overP (zs : List G) (a b : Int) : Int × Int := if overB zs a b = true then sum2 (drs zs a.toNat (b - a).toNat) else (0, 0)
abbrev overV (zs : List G) (a b : Int) : Value := .tuple #[pq (overP zs a b), .bool (overB zs a b)]
theorem over_no {zs : List G} {a b : Int} (h : overB zs a b = false) : overV zs a b = .tuple #[pq (0, 0), .bool false] := by unfold overV overP; rw [h]; rfl
theorem over_yes {zs : List G} {a m : Nat} (h : wd zs = true) (hm : a + m ≤ 128) : overV zs (a : Int) ((a : Int) + (m : Int)) = .tuple #[pq (sum2 (drs zs a m)), .bool true] := by
  have : overB zs (a : Int) ((a : Int) + (m : Int)) = true := by
    unfold overB; rw [h, decide_eq_true (show (0 : Int) ≤ (a : Int) by omega), decide_eq_true (show (a : Int) ≤ (a : Int) + (m : Int) by omega), decide_eq_true (show (a : Int) + (m : Int) ≤ 128 by omega)]; rfl
  unfold overV overP
  rw [this, if_pos rfl, show (a : Int).toNat = a by omega, show ((a : Int) + (m : Int) - (a : Int)).toNat = m by omega]
theorem over_cases (zs : List G) (a b : Int) : overB zs a b = false ∧ (wd zs = false ∨ wd zs = true ∧ a < 0 ∨ wd zs = true ∧ 0 ≤ a ∧ b < a ∨ wd zs = true ∧ 0 ≤ a ∧ a ≤ b ∧ 128 < b) ∨
    wd zs = true ∧ ∃ a' m : Nat, a = (a' : Int) ∧ b = (a' : Int) + (m : Int) ∧ a' + m ≤ 128 := by
  unfold overB
  cases wd zs
  · exact Or.inl ⟨rfl, Or.inl rfl⟩
  by_cases h1 : a < 0
  · exact Or.inl ⟨by rw [decide_eq_false (by omega)]; rfl, Or.inr (Or.inl ⟨rfl, h1⟩)⟩
  by_cases h2 : b < a
  · exact Or.inl ⟨by rw [decide_eq_false (p := a ≤ b) (by omega)]; simp, Or.inr (Or.inr (Or.inl ⟨rfl, by omega, h2⟩))⟩
  by_cases h3 : 128 < b
  · exact Or.inl ⟨by rw [decide_eq_false (p := b ≤ 128) (by omega)]; simp, Or.inr (Or.inr (Or.inr ⟨rfl, by omega, by omega, h3⟩))⟩
  · exact Or.inr ⟨rfl, a.toNat, (b - a).toNat, by omega, by omega, by omega⟩
theorem sum_near {zs : List G} (h : wd zs = true) (a m k : Nat) (hk : k ≤ m) (hm : m ≤ 128) : (-1024 ≤ (sum2 ((drs zs a m).take k)).1 ∧ (sum2 ((drs zs a m).take k)).1 ≤ 1024) ∧ (-1024 ≤ (sum2 ((drs zs a m).take k)).2 ∧ (sum2 ((drs zs a m).take k)).2 ≤ 1024) := by
  have := sum2_bound (D := 8) (by decide) (near_drs h a m) k (by rw [drs_len]; exact hk)
  omega

set_option maxRecDepth 100000 in
set_option maxHeartbeats 2000000 in
theorem driftOverI (A : Option Addr) (n c : Nat) (zs : List G) (H : Nat) (a b : Int) (w : World) (hn : zs.length = n) (hb : n ≤ 1048576) (hH : H ≤ w.heap.size) (hr : Rd w H A (gls zs)) :
    Calls Try.prog 17 #[.slice A n c, .int .i64 a, .int .i64 b] w fun e w' => e = .returned (overV zs a b) ∧ Below w.heap.size w w' := by
  have HR := Lib.hid (rd_alloc (o := .cells (pc 0 0) 28) hr hH)
  have R0 := Bk.new w (pc 0 0) 28
  rcases over_cases zs a b with ⟨hno, hc⟩ | ⟨hw, a', m, rfl, rfl, hm⟩
  · rw [over_no hno]
    clear hno
    rcases hc with hw | ⟨hw, h1⟩ | ⟨hw, h1, h2⟩ | ⟨hw, h1, h2, h3⟩
    all_goals
      have C := Lib.hid (windI (A := A) (c := c) (H := H) hn hb hw)
      clear hw hr hn
      go_enter Try.func17, Try.ntmps17
      go_wp2_with fail
      refine (C.out _ (by simp; omega) HR.out).mono ?_
      rintro e u ⟨rfl, b1⟩
      have R := Lib.hid (R0.below b1)
      have B1 := Lib.hid (show Below w.heap.size w u from Below.trans (by go_grown) (b1.mono (by first | (simp; done) | (simp; omega))))
      clear b1 R0
      have r0 := R.out.cell (i := 0) rfl
      have r1 := R.out.cell (i := 1) rfl
      have y0 := R.out.frozen 0
      have y1 := R.out.frozen 1
      have HS0 := Lib.hid (set2_0 (P := .int .i64 (0)) (Q := .int .i64 (0)) (by rw [r0]; rfl))
      have HS1 := Lib.hid (set2_1 (P := .int .i64 (0)) (Q := .int .i64 (0)) (by rw [r1]; rfl))
      go_wp2_with fail
      have s0 := HS0.out
      have s1 := HS1.out
      (try simp only [Exit.inBlock, Exit.then])
      refine bodyPost_ret (v := .tuple #[pq (0, 0), .bool false]) (by simp [results, Try.results17, go_sem, s0, s1]; try rfl) rfl ?_
      exact ⟨rfl, B1.out.trans (by have h9 := B1.out.size; go_grown)⟩
  · rw [over_yes hw hm]
    have C := Lib.hid (windI (A := A) (c := c) (H := H) hn hb hw)
    have D := Lib.hid (fun W h1 h2 => driftsIn A n c zs H a' m W hn hb h1 h2 hw hm)
    have SN := Lib.hid (sum_near hw a' m m (Nat.le_refl _) (by omega))
    have NR := Lib.hid (near_drs hw a' m)
    obtain ⟨q, hq⟩ : ∃ q : Nat, q = a' + m := ⟨_, rfl⟩
    rw [show (a' : Int) + (m : Int) = (q : Int) by omega] at *
    have h1 : ¬ (a' : Int) < 0 := by omega
    have h2 : ¬ (q : Int) < (a' : Int) := by omega
    have h3 : ¬ (128 : Int) < (q : Int) := by omega
    have h4 : ¬ q < a' := by omega
    have h5 : a' ≤ q := by omega
    have hm8 : m ≤ 128 := by omega
    clear hw hr hn hq hm
    go_enter Try.func17, Try.ntmps17
    go_wp2_with fail
    refine (C.out _ (by simp; omega) HR.out).mono ?_
    rintro e u ⟨rfl, b1⟩
    have R := Lib.hid (R0.below b1)
    have B1 := Lib.hid (show Below w.heap.size w u from Below.trans (by go_grown) (b1.mono (by simp)))
    have HR1 := Lib.hid (HR.out.below (b1.mono (by simp; omega)))
    clear b1 R0
    go_wp2_with fail
    refine (D.out _ (by have := B1.out.size; omega) HR1.out).mono ?_
    rintro e v ⟨g, o, rfl, rd2, b2⟩
    have R2 := Lib.hid (R.out.below b2)
    have B2 := Lib.hid (below_in B1.out b2)
    have RD := Lib.hid rd2
    clear b2 R B1 rd2
    rw [drs_len]
    go_wp2_with fail
    refine (sumOf _ m m (drs zs a' m) _ _ (drs_len _ _ _) hm8 RD.out NR.out).mono ?_
    rintro e v' ⟨r1', r2', rfl, i1, i2, rfl⟩
    have sn := SN.out
    rw [show (drs zs a' m).take m = drs zs a' m from drs_take (Nat.le_refl _)] at sn
    obtain ⟨⟨dx, dy⟩, hd⟩ : ∃ d, sum2 (drs zs a' m) = d := ⟨_, rfl⟩
    have HD := Lib.hid hd
    rw [hd] at i1 i2 sn
    simp only at i1 i2 sn
    have T := Lib.hid (toldYes (a := dx) (b := dy) (by omega) (by omega) i1 i2)
    clear i1 i2 sn hd
    have r0 := R2.out.cell (i := 0) rfl
    have r1 := R2.out.cell (i := 1) rfl
    have y0 := R2.out.frozen 0
    have y1 := R2.out.frozen 1
    have HS0 := Lib.hid (set2_0 (P := .int .i64 (dx)) (Q := .int .i64 (dy)) (by rw [r0]; rfl))
    have HS1 := Lib.hid (set2_1 (P := .int .i64 (dx)) (Q := .int .i64 (dy)) (by rw [r1]; rfl))
    have rl := R2.out.lt
    have rl2 : ∀ j, w.heap.size < v.heap.size + j := fun j => by omega
    go_wp2_with fail
    refine (T.out _).mono ?_
    rintro e v' ⟨rfl, rfl⟩
    go_wp2_with fail
    have s0 := HS0.out
    have s1 := HS1.out
    (try simp only [Exit.inBlock, Exit.then])
    refine bodyPost_ret (v := .tuple #[pq (dx, dy), .bool true]) (by simp [results, Try.results17, go_sem, s0, s1, rl, rl2]; try rfl) rfl ?_
    exact ⟨by rw [HD.out], B2.out.trans (by have h9 := B2.out.size; go_grown)⟩

end Go.Proofs.Ytknanaapaipoeaa.We
