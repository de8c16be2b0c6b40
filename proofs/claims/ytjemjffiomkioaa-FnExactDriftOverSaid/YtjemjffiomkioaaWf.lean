/- The drift over some ticks, of the program and of the model. -/
import Derived.Test.YtjemjffiomkioaaWe
import Derived.Deep.RegionWith
import Derived.ProofKit
namespace Go.Proofs.Ytjemjffiomkioaa.We
open Go.RowKit Go.Proofs.Ytjemjffiomkioaa.Mem Go.Proofs.Ytjemjffiomkioaa.Rw Go.Proofs.Ytjemjffiomkioaa.Bk Go.Proofs.Ytjemjffiomkioaa.Cx Go.Proofs.Ytjemjffiomkioaa.Cm Go.Proofs.Ytjemjffiomkioaa.Jt Go.Proofs.Ytjemjffiomkioaa.Pl Go.Proofs.Ytjemjffiomkioaa.Str Go.Proofs.Ytjemjffiomkioaa.Pw Go.Proofs.Ytjemjffiomkioaa.P2 Go.Proofs.Ytjemjffiomkioaa.Gs Go.Proofs.Ytjemjffiomkioaa.Wm Go.Proofs.Ytjemjffiomkioaa.Wi Go.Proofs.Ytjemjffiomkioaa.Wa Go.Proofs.Ytjemjffiomkioaa.Wb Go.Proofs.Ytjemjffiomkioaa.Wc
set_option linter.unusedVariables false
set_option linter.unusedSimpArgs false

def overB (zs : List G) (a b : Int) : Bool := wd zs && decide (0 ≤ a) && decide (a ≤ b) && decide (b ≤ 128)
def overP (zs : List G) (a b : Int) : Int × Int := if overB zs a b = true then sum2 (drs zs a.toNat (b - a).toNat) else (0, 0)
abbrev overV (zs : List G) (a b : Int) : Value := .tuple #[pq (overP zs a b), .bool (overB zs a b)]
theorem over_no {zs : List G} {a b : Int} (h : overB zs a b = false) : overV zs a b = .tuple #[pq (0, 0), .bool false] := by unfold overV overP; rw [h]; rfl
theorem over_yes {zs : List G} {a m : Nat} (h : wd zs = true) (hm : a + m ≤ 128) : overV zs (a : Int) ((a : Int) + (m : Int)) = .tuple #[pq (sum2 (drs zs a m)), .bool true] := by
  have : overB zs (a : Int) ((a : Int) + (m : Int)) = true := by
    unfold overB; rw [h, decide_eq_true (show (0 : Int) ≤ (a : Int) by omega), decide_eq_true (show (a : Int) ≤ (a : Int) + (m : Int) by omega), decide_eq_true (show (a : Int) + (m : Int) ≤ 128 by omega)]; rfl
  unfold overV overP
  rw [this, if_pos rfl, show (a : Int).toNat = a by omega, show ((a : Int) + (m : Int) - (a : Int)).toNat = m by omega]
theorem over_cases (zs : List G) (a b : Int) : overB zs a b = false ∧ (wd zs = false ∨ wd zs = true ∧ a < 0 ∨ wd zs = true ∧ 0 ≤ a ∧ b < a ∨ wd zs = true ∧ 0 ≤ a ∧ a ≤ b ∧ 128 < b) ∨
    wd zs = true ∧ ∃ a' m : Nat, a = (a' : Int) ∧ b = (a' : Int) + (m : Int) ∧ a' + m ≤ 128 := by
  unfold overB
  cases wd zs
  · exact Or.inl ⟨rfl, Or.inl rfl⟩
  by_cases h1 : a < 0
  · exact Or.inl ⟨by rw [decide_eq_false (by omega)]; rfl, Or.inr (Or.inl ⟨rfl, h1⟩)⟩
  by_cases h2 : b < a
  · exact Or.inl ⟨by rw [decide_eq_false (p := a ≤ b) (by omega)]; simp, Or.inr (Or.inr (Or.inl ⟨rfl, by omega, h2⟩))⟩
  by_cases h3 : 128 < b
  · exact Or.inl ⟨by rw [decide_eq_false (p := b ≤ 128) (by omega)]; simp, Or.inr (Or.inr (Or.inr ⟨rfl, by omega, by omega, h3⟩))⟩
  · exact Or.inr ⟨rfl, a.toNat, (b - a).toNat, by omega, by omega, by omega⟩
theorem sum_near {zs : List G} (h : wd zs = true) (a m k : Nat) (hk : k ≤ m) (hm : m ≤ 128) : (-1024 ≤ (sum2 ((drs zs a m).take k)).1 ∧ (sum2 ((drs zs a m).take k)).1 ≤ 1024) ∧ (-1024 ≤ (sum2 ((drs zs a m).take k)).2 ∧ (sum2 ((drs zs a m).take k)).2 ≤ 1024) := by
  have := sum2_bound (D := 8) (by decide) (near_drs h a m) k (by rw [drs_len]; exact hk)
  omega

set_option maxRecDepth 100000 in
set_option maxHeartbeats 2000000 in
theorem driftOverI (A : Option Addr) (n c : Nat) (zs : List G) (H : Nat) (a b : Int) (w : World) (hn : zs.length = n) (hb : n ≤ 1048576) (hH : H ≤ w.heap.size) (hr : Rd w H A (gls zs)) :
    Calls Try.prog 23 #[.slice A n c, .int .i64 a, .int .i64 b] w fun e w' => e = .returned (overV zs a b) ∧ Below w.heap.size w w' := by
  have HR := Lib.hid (rd_alloc (o := .cells (pc 0 0) 30) hr hH)
  have R0 := Bk.new w (pc 0 0) 30
  rcases over_cases zs a b with ⟨hno, hc⟩ | ⟨hw, a', m, rfl, rfl, hm⟩
  · rw [over_no hno]
    clear hno
    rcases hc with hw | ⟨hw, h1⟩ | ⟨hw, h1, h2⟩ | ⟨hw, h1, h2, h3⟩
    all_goals
      have C := Lib.hid (windI (A := A) (c := c) (H := H) hn hb hw)
      clear hw hr hn
      go_enter Try.func23, Try.ntmps23
      go_wp2_with fail
      refine (C.out _ (by simp; omega) HR.out).mono ?_
      rintro e u ⟨rfl, b1⟩
      have R := Lib.hid (R0.below b1)
      have B1 := Lib.hid (show Below w.heap.size w u from Below.trans (by go_grown) (b1.mono (by first | (simp; done) | (simp; omega))))
      clear b1 R0
      have r0 := R.out.cell (i := 0) rfl
      have r1 := R.out.cell (i := 1) rfl
      have y0 := R.out.frozen 0
      have y1 := R.out.frozen 1
      have HS0 := Lib.hid (set2_0 (P := .int .i64 (0)) (Q := .int .i64 (0)) (by rw [r0]; rfl))
      have HS1 := Lib.hid (set2_1 (P := .int .i64 (0)) (Q := .int .i64 (0)) (by rw [r1]; rfl))
      go_wp2_with fail
      have s0 := HS0.out
      have s1 := HS1.out
      (try simp only [Exit.inBlock, Exit.then])
      refine bodyPost_ret (v := .tuple #[pq (0, 0), .bool false]) (by simp [results, Try.results23, go_sem, s0, s1]; try rfl) rfl ?_
      exact ⟨rfl, B1.out.trans (by have h9 := B1.out.size; go_grown)⟩
  · rw [over_yes hw hm]
    have C := Lib.hid (windI (A := A) (c := c) (H := H) hn hb hw)
    have D := Lib.hid (fun W h1 h2 => driftsIn A n c zs H a' m W hn hb h1 h2 hw hm)
    have SN := Lib.hid (sum_near hw a' m m (Nat.le_refl _) (by omega))
    have NR := Lib.hid (near_drs hw a' m)
    obtain ⟨q, hq⟩ : ∃ q : Nat, q = a' + m := ⟨_, rfl⟩
    rw [show (a' : Int) + (m : Int) = (q : Int) by omega] at *
    have h1 : ¬ (a' : Int) < 0 := by omega
    have h2 : ¬ (q : Int) < (a' : Int) := by omega
    have h3 : ¬ (128 : Int) < (q : Int) := by omega
    have h4 : ¬ q < a' := by omega
    have h5 : a' ≤ q := by omega
    have hm8 : m ≤ 128 := by omega
    clear hw hr hn hq hm
    go_enter Try.func23, Try.ntmps23
    go_wp2_with fail
    refine (C.out _ (by simp; omega) HR.out).mono ?_
    rintro e u ⟨rfl, b1⟩
    have R := Lib.hid (R0.below b1)
    have B1 := Lib.hid (show Below w.heap.size w u from Below.trans (by go_grown) (b1.mono (by simp)))
    have HR1 := Lib.hid (HR.out.below (b1.mono (by simp; omega)))
    clear b1 R0
    go_wp2_with fail
    refine (D.out _ (by have := B1.out.size; omega) HR1.out).mono ?_
    rintro e v ⟨g, o, rfl, rd2, b2⟩
    have R2 := Lib.hid (R.out.below b2)
    have B2 := Lib.hid (below_in B1.out b2)
    have RD := Lib.hid rd2
    clear b2 R B1 rd2
    rw [drs_len]
    go_wp2_with fail
    refine (sumOf _ m m (drs zs a' m) _ _ (drs_len _ _ _) hm8 RD.out NR.out).mono ?_
    rintro e v' ⟨r1', r2', rfl, i1, i2, rfl⟩
    have sn := SN.out
    rw [show (drs zs a' m).take m = drs zs a' m from drs_take (Nat.le_refl _)] at sn
    obtain ⟨⟨dx, dy⟩, hd⟩ : ∃ d, sum2 (drs zs a' m) = d := ⟨_, rfl⟩
    have HD := Lib.hid hd
    rw [hd] at i1 i2 sn
    simp only at i1 i2 sn
    have T := Lib.hid (toldYes (a := dx) (b := dy) (by omega) (by omega) i1 i2)
    clear i1 i2 sn hd
    have r0 := R2.out.cell (i := 0) rfl
    have r1 := R2.out.cell (i := 1) rfl
    have y0 := R2.out.frozen 0
    have y1 := R2.out.frozen 1
    have HS0 := Lib.hid (set2_0 (P := .int .i64 (dx)) (Q := .int .i64 (dy)) (by rw [r0]; rfl))
    have HS1 := Lib.hid (set2_1 (P := .int .i64 (dx)) (Q := .int .i64 (dy)) (by rw [r1]; rfl))
    have rl := R2.out.lt
    have rl2 : ∀ j, w.heap.size < v.heap.size + j := fun j => by omega
    go_wp2_with fail
    refine (T.out _).mono ?_
    rintro e v' ⟨rfl, rfl⟩
    go_wp2_with fail
    have s0 := HS0.out
    have s1 := HS1.out
    (try simp only [Exit.inBlock, Exit.then])
    refine bodyPost_ret (v := .tuple #[pq (dx, dy), .bool true]) (by simp [results, Try.results23, go_sem, s0, s1, rl, rl2]; try rfl) rfl ?_
    exact ⟨by rw [HD.out], B2.out.trans (by have h9 := B2.out.size; go_grown)⟩

set_option maxRecDepth 100000 in
set_option maxHeartbeats 4000000 in
theorem driftOverS (A : Option Addr) (n c : Nat) (zs : List G) (H : Nat) (a b : Int) (w : World) (hn : zs.length = n) (hb : n ≤ 1048576) (hH : H ≤ w.heap.size) (hr : Rd w H A (gls zs)) :
    Calls Try.prog 22 #[.slice A n c, .int .i64 a, .int .i64 b] w fun e w' => e = .returned (overV zs a b) ∧ Below w.heap.size w w' := by
  have HR := Lib.hid (rd_alloc (o := .cells (pc 0 0) 30) (rd_alloc (o := .cells (pc 0 0) 30) hr hH) (by simp; omega))
  have R0 := (Bk.new w (pc 0 0) 30).alloc (o := .cells (pc 0 0) 30)
  have Q0 : Bk ((w.alloc (.cells (pc 0 0) 30)).alloc (.cells (pc 0 0) 30)) (w.heap.size + 1) (pc 0 0) 30 := by simpa using Bk.new (w.alloc (.cells (pc 0 0) 30)) (pc 0 0) 30
  rcases over_cases zs a b with ⟨hno, hc⟩ | ⟨hw, a', m, rfl, rfl, hm⟩
  · rw [over_no hno]
    clear hno
    rcases hc with hw | ⟨hw, h1⟩ | ⟨hw, h1, h2⟩ | ⟨hw, h1, h2, h3⟩
    all_goals
      have C := Lib.hid (windS (A := A) (c := c) (H := H) hn hb hw)
      clear hw hr hn
      go_enter Try.func22, Try.ntmps22
      go_wp2_with fail
      refine (C.out _ (by simp; omega) HR.out).mono ?_
      rintro e u ⟨rfl, b1⟩
      have R := Lib.hid (R0.below b1)
      have B1 := Lib.hid (show Below w.heap.size w u from Below.trans (by go_grown) (b1.mono (by first | (simp; done) | (simp; omega))))
      have P := Lib.hid (Q0.below b1)
      have q0 := P.out.cell (i := 0) rfl
      have q1 := P.out.cell (i := 1) rfl
      clear b1 R0 Q0
      have r0 := R.out.cell (i := 0) rfl
      have r1 := R.out.cell (i := 1) rfl
      have y0 := R.out.frozen 0
      have y1 := R.out.frozen 1
      have HS0 := Lib.hid (set2_0 (P := .int .i64 (0)) (Q := .int .i64 (0)) (by rw [r0]; rfl))
      have HS1 := Lib.hid (set2_1 (P := .int .i64 (0)) (Q := .int .i64 (0)) (by rw [r1]; rfl))
      go_wp2_with fail
      have s0 := HS0.out
      have s1 := HS1.out
      (try simp only [Exit.inBlock, Exit.then])
      refine bodyPost_ret (v := .tuple #[pq (0, 0), .bool false]) (by simp [results, Try.results22, go_sem, s0, s1]; try rfl) rfl ?_
      exact ⟨rfl, B1.out.trans (by have h9 := B1.out.size; go_grown)⟩
  · rw [over_yes hw hm]
    have C := Lib.hid (windS (A := A) (c := c) (H := H) hn hb hw)
    have D := Lib.hid (fun W (t : Int) h1 h2 => l4At A n c zs H t W hn hb h1 h2)
    have SN := Lib.hid (fun k (hk : k ≤ m) => sum_near hw a' m k hk (by omega))
    obtain ⟨q, hq⟩ : ∃ q : Nat, q = a' + m := ⟨_, rfl⟩
    rw [show (a' : Int) + (m : Int) = (q : Int) by omega] at *
    have h1 : ¬ (a' : Int) < 0 := by omega
    have h2 : ¬ (q : Int) < (a' : Int) := by omega
    have h3 : ¬ (128 : Int) < (q : Int) := by omega
    have h4 : ¬ q < a' := by omega
    have hq8 : q ≤ 128 := by omega
    have DB := Lib.hid (fun (t : Int) => dr_bound hw t)
    have HQ := Lib.hid hq
    clear hw hr hn hq hm
    go_enter Try.func22, Try.ntmps22
    go_wp2_with fail
    refine (C.out _ (by simp; omega) HR.out).mono ?_
    rintro e u ⟨rfl, b1⟩
    have R := Lib.hid (R0.below b1)
    have P := Lib.hid (Q0.below b1)
    have B1 := Lib.hid (show Below w.heap.size w u from Below.trans (by go_grown) (b1.mono (by first | (simp; done) | (simp; omega))))
    have HR1 := Lib.hid (HR.out.below (b1.mono (by simp; omega)))
    have P0 := Lib.hid (show Bk u (w.heap.size + 1) (pc (sum2 ((drs zs a' m).take 0)).1 (sum2 ((drs zs a' m).take 0)).2) 30 from P.out)
    clear b1 R0 Q0
    go_wp2_with fail
    go_loopw [9] (fun i wr => ∃ k : Nat, k ≤ m ∧ i = .int .i64 ((a' + k : Nat) : Int) ∧ Hid (Bk wr w.heap.size (pc 0 0) 30) ∧ Hid (Bk wr (w.heap.size + 1) (pc (sum2 ((drs zs a' m).take k)).1 (sum2 ((drs zs a' m).take k)).2) 30) ∧ Hid (Below w.heap.size w wr) ∧ Hid (Below u.heap.size u wr ∨ True) ∧ Hid (Rd wr H A (gls zs))) (fun i _ => q - (intOf i).toNat)
    case atStart => exact ⟨0, Nat.zero_le _, rfl, R, P0, B1, Lib.hid (Or.inr trivial), HR1⟩
    case round =>
      obtain ⟨k, hk, rfl, RK, PK, BK, _, HK⟩ := hrel
      have hbs := BK.out.size
      obtain ⟨j, hj⟩ : ∃ j : Nat, j = a' + k := ⟨_, rfl⟩
      rw [← hj]
      have HJ := Lib.hid hj
      by_cases hlt : k < m
      · have hjq : (j : Int) < (q : Int) := by have := HQ.out; omega
        have hjq2 : j < q := by omega
        have hp : (drs zs a' m)[k]? = some (dr zs (j : Int)) := by rw [drs_get hlt, hj]
        have E := Lib.hid (sum2_take hp)
        have b0 := SN.out k (by omega)
        have b1 := DB.out (j : Int)
        have P1 := PK.out
        obtain ⟨⟨sx, sy⟩, hs⟩ : ∃ s, sum2 ((drs zs a' m).take k) = s := ⟨_, rfl⟩
        obtain ⟨⟨dx, dy⟩, hd⟩ : ∃ d, dr zs (j : Int) = d := ⟨_, rfl⟩
        have D1 := Lib.hid (fun W h1 h2 => by have := D.out W (j : Int) h1 h2; rw [hd] at this; exact this)
        rw [hs] at P1 b0
        rw [hd] at b1
        simp only at b0 b1
        have E2 := Lib.hid (show sum2 ((drs zs a' m).take (k + 1)) = (sx + dx, sy + dy) by rw [E.out, hs, hd]; rfl)
        have A1 := Lib.hid (l2Add sx sy dx dy (IntWalk.wrap64_in _ (by omega)) (IntWalk.wrap64_in _ (by omega)))
        have c0 := P1.cell (i := 0) rfl
        have c1 := P1.cell (i := 1) rfl
        have f0 := P1.frozen 0
        have f1 := P1.frozen 1
        have l1 := P1.lt
        have l2 : ∀ j, w.heap.size + 1 < wr.heap.size + j := fun j => by omega
        have P2 := Lib.hid P1
        have nf : w.heap.size + 1 ≠ w.heap.size := by omega
        have HH : H ≤ wr.heap.size := by omega
        clear hp b0 b1 P1 hs hd E hj PK
        have p1 : w.heap.size + 1 < wr.heap.size := l1
        have D2 := Lib.hid (D1.out wr.drew HH HK.out)
        go_wp2_with fail
        go_region_with (first
          | (go_at_call 52; ((with_reducible refine (D2.out).mono ?_); rintro e v ⟨rfl, hb1⟩; have z0 : v.cell? ⟨w.heap.size + 1, 0, none⟩ = some (.int .i64 sx) := cell_below hb1 c0; have z1 : v.cell? ⟨w.heap.size + 1, 1, none⟩ = some (.int .i64 sy) := cell_below hb1 c1; have y0 : v.frozen? ⟨w.heap.size + 1, 0, none⟩ = false := (hb1.frozen (p := ⟨w.heap.size + 1, 0, none⟩) p1).trans f0; have y1 : v.frozen? ⟨w.heap.size + 1, 1, none⟩ = false := (hb1.frozen (p := ⟨w.heap.size + 1, 1, none⟩) p1).trans f1; have x1 : w.heap.size + 1 < v.heap.size := Nat.lt_of_lt_of_le p1 hb1.size; have x2 : ∀ j, w.heap.size + 1 < v.heap.size + j := fun j => Nat.lt_of_lt_of_le x1 (Nat.le_add_right _ j); have x3 : w.heap.size < v.heap.size := Nat.lt_of_succ_lt x1; have x4 : ∀ j, w.heap.size < v.heap.size + j := fun j => Nat.lt_of_lt_of_le x3 (Nat.le_add_right _ j)))
          | (go_at_call 55; ((with_reducible refine (A1.out _).mono ?_); rintro e v' ⟨rfl, rfl⟩)))
        all_goals
          have P3 := (Bk.drew P2.out).below hb1
          have R3 := (Bk.drew RK.out).below hb1
          have B3 := (BK.out.drew).trans (hb1.mono hbs)
          have H3 := Lib.hid ((rd_drew HK.out).below (hb1.mono HH))
          have P4 := Lib.hid (show Bk _ (w.heap.size + 1) (pc (sum2 ((drs zs a' m).take (k + 1))).1 (sum2 ((drs zs a' m).take (k + 1))).2) 30 by
            rw [E2.out]; exact ((((P3.set (i := 0) (v := .int .i64 (sx + dx))).set (i := 1) (v := .int .i64 (sy + dy))).alloc (o := .cells (pc sx sy) 30)).alloc (o := .cells (pc dx dy) 30)).alloc (o := .cells (pc (sx + dx) (sy + dy)) 30))
          have R4 := Lib.hid (((((R3.far (i := 0) (v := .int .i64 (sx + dx)) nf).far (i := 1) (v := .int .i64 (sy + dy)) nf).alloc (o := .cells (pc sx sy) 30)).alloc (o := .cells (pc dx dy) 30)).alloc (o := .cells (pc (sx + dx) (sy + dy)) 30))
          have B4 := Lib.hid B3
          clear P3 R3 B3 P2 RK
          go_wp2_with fail
          go_roundw
          case rel => exact ⟨k + 1, by omega, by rw [show a' + (k + 1) = j + 1 by have := HJ.out; omega]; go_num, R4, P4, Lib.hid (by have h7 := B4.out; have h8 := h7.size; go_grown), Lib.hid (Or.inr trivial), Lib.hid (H3.out.below (by have h8 := B4.out.size; go_grown))⟩
          case measure => simp [intOf]; omega
      · obtain rfl : k = m := by omega
        have hjq : ¬ (j : Int) < (q : Int) := by have := HQ.out; omega
        have hjq2 : ¬ j < q := by omega
        have F := PK.out
        rw [show (drs zs a' k).take k = drs zs a' k from drs_take (Nat.le_refl _)] at F
        obtain ⟨⟨dx, dy⟩, hd⟩ : ∃ d, sum2 (drs zs a' k) = d := ⟨_, rfl⟩
        have HD := Lib.hid hd
        rw [hd] at F
        have q0 := F.cell (i := 0) rfl
        have q1 := F.cell (i := 1) rfl
        clear hd F hj
        have r0 := RK.out.cell (i := 0) rfl
        have r1 := RK.out.cell (i := 1) rfl
        have y0 := RK.out.frozen 0
        have y1 := RK.out.frozen 1
        have HS0 := Lib.hid (set2_0 (P := .int .i64 (dx)) (Q := .int .i64 (dy)) (by rw [r0]; rfl))
        have HS1 := Lib.hid (set2_1 (P := .int .i64 (dx)) (Q := .int .i64 (dy)) (by rw [r1]; rfl))
        go_wp2_with fail
        have s0 := HS0.out
        have s1 := HS1.out
        (try simp only [Exit.inBlock, Exit.then])
        refine bodyPost_ret (v := .tuple #[pq (dx, dy), .bool true]) (by simp [results, Try.results22, go_sem, s0, s1]; try rfl) rfl ?_
        exact ⟨by rw [HD.out], BK.out.trans (by have h9 := BK.out.size; go_grown)⟩


end Go.Proofs.Ytjemjffiomkioaa.We
