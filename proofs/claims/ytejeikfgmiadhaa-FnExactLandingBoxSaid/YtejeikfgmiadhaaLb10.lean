/- The box of all places where a drop can land. -/
import Derived.Test.YtejeikfgmiadhaaFa10
import Derived.Test.YtejeikfgmiadhaaNd
import Derived.Test.YtejeikfgmiadhaaFf
import Derived.Test.YtejeikfgmiadhaaFm
import Derived.Test.YtejeikfgmiadhaaPb
import Derived.Deep.RegionHeld3
set_option linter.unusedVariables false
set_option linter.unusedSimpArgs false
namespace Go.Proofs.Ytejeikfgmiadhaa.Lb10
open Go.RowKit Go.ChangeShapes Go.WideShapes Go.WideElems Go.Deep Go.Proofs.Ytejeikfgmiadhaa.Mem Go.Proofs.Ytejeikfgmiadhaa.Rw Go.Proofs.Ytejeikfgmiadhaa.P2 Go.Proofs.Ytejeikfgmiadhaa.Bk Go.Proofs.Ytejeikfgmiadhaa.Jt Go.Proofs.Ytejeikfgmiadhaa.Cm Go.Proofs.Ytejeikfgmiadhaa.Cx Go.Proofs.Ytejeikfgmiadhaa.Pl Go.Proofs.Ytejeikfgmiadhaa.Hd Go.Proofs.Ytejeikfgmiadhaa.Str
open Go.Proofs.Ytejeikfgmiadhaa.Wz Go.Proofs.Ytejeikfgmiadhaa.Fw10 Go.Proofs.Ytejeikfgmiadhaa.Fa10 Go.Proofs.Ytejeikfgmiadhaa.Wy
open Go.Proofs.Ytejeikfgmiadhaa.Wr (rs)
open Go.Proofs.Ytejeikfgmiadhaa.Pls (pls)
open Go.Proofs.Ytejeikfgmiadhaa.Bo (boxA Q4 bq)
open Go.Proofs.Ytejeikfgmiadhaa.Tb (box4 set4)
open Go.Proofs.Ytejeikfgmiadhaa.Bxi (bx ib)
open Go.Proofs.Ytejeikfgmiadhaa.Dp (landV landI flightI fl_yes inF_iff told2_yes told2_no)
set_option linter.unusedVariables false
set_option linter.unusedSimpArgs false

theorem step_store_row {ops : Array Oper} {o : Oper} {a : Act} {w : World} {K : Act → World → Prop} {Q : Exit → Act → World → Prop} {E : Prop} (hgd : o.guard = none) (ty : TypeId) (x y : Operand) (ho : o.op = .store ty x y)
    (g : Nat) (cells : Array Value) (hx : a.eval x = .pointer (some ⟨g, 0, none⟩)) (hy : a.eval y = .agg cells) (t : TypeId) (old : Array Value) (hg : Bk w g old t) (hi : (Try.prog.info? ty).map (·.size) = some cells.size)
    (hold : old.size = cells.size) (h1 : cells.all (·.oneCell') = true) (h : K (a.put o.dst undef) (w.setRow g cells)) : if Region.wanted o (yielded ops a.tmps) = true then Oper.wp Try.prog o a w K Q else E := by
  have hw : Region.wanted o (yielded ops a.tmps) = true := by simp [Region.wanted, hgd]
  rw [if_pos hw]
  exact wp_store_row ty x y ho g cells hx hy t old hg hi hold h1 h
theorem row_grown (w : World) (g : Nat) (cells : Array Value) : w.grownBy (w.setRow g cells) (some g) := ⟨rfl, rfl, rfl, by simp, fun k _ hk => setRow_other w g k _ (fun e => hk (by rw [e]))⟩
theorem row_bk {w : World} {g : Nat} {old : Array Value} {T : TypeId} (cells : Array Value) (h : Bk w g old T) : Bk (w.setRow g cells) g cells T := setRow_heap w g old cells T (0, 0) h
def lbB (x y h t l : Int) (ps : List (Int × Int)) : Bool := jt x y h t l && rs ps
/-- The box of all places where a drop can land; zeros if there is none. -/
def lbQ (x y h t l : Int) (ps : List (Int × Int)) : Q4 := if lbB x y h t l ps = true then lbox x y h t l ps else (0, 0, 0, 0)
theorem lb_no {x y h t l : Int} {ps : List (Int × Int)} (e : jt x y h t l = false ∨ rs ps = false) : lbB x y h t l ps = false ∧ lbQ x y h t l ps = (0, 0, 0, 0) := by
  have : lbB x y h t l ps = false := by unfold lbB; rcases e with e | e <;> rw [e] <;> simp
  exact ⟨this, by unfold lbQ; rw [this]; rfl⟩
theorem lb_yes {x y h t l : Int} {ps : List (Int × Int)} (hj : jt x y h t l = true) (hp : rs ps = true) : lbB x y h t l ps = true ∧ lbQ x y h t l ps = lbox x y h t l ps := by
  have : lbB x y h t l ps = true := by unfold lbB; rw [hj, hp]; rfl
  exact ⟨this, by unfold lbQ; rw [this]; rfl⟩
theorem jetI {x y h t l : Int} {b : Bool} (e : jt x y h t l = b) (w : World) : Calls Try.prog 16 #[jv x y h t l] w fun e w' => e = .returned (.bool b) ∧ Below w.heap.size w w' :=
  (isJetI_of e w).mono fun _ _ k => ⟨k.1, by rw [k.2]; exact (Below.refl _ _).alloc (Nat.le_refl _) _⟩
theorem l2AddB (x y a b : Int) (h1 : wrap64 (x + a) = x + a) (h2 : wrap64 (y + b) = y + b) (w : World) :
    Calls Try.prog 14 #[.agg #[.int .i64 x, .int .i64 y], .agg #[.int .i64 a, .int .i64 b]] w fun e w' => e = .returned (.agg #[.int .i64 (x + a), .int .i64 (y + b)]) ∧ Below w.heap.size w w' := by
  go_enter Try.func14, Try.ntmps14
  go_wp2
  go_returns
  exact ⟨rfl, by go_grown⟩

set_option maxRecDepth 100000 in
set_option maxHeartbeats 4000000 in
theorem landBoxI (x y h t l : Int) (A : Option Addr) (n c : Nat) (ps : List (Int × Int)) (w : World) (hn : ps.length = n) (hb : n ≤ 1048576) (hr : Rd w w.heap.size A (pls ps)) :
    Calls Try.prog 8 #[jv x y h t l, .slice A n c] w fun e w' => e = .returned (.tuple #[bq (lbQ x y h t l ps), .bool (lbB x y h t l ps)]) ∧ Below w.heap.size w w' := by
  have hz1 : (w.alloc (.cells #[.int .i64 x, .int .i64 y, .int .i64 h, .int .i64 t, .int .i64 l] 34)).heap.size = w.heap.size + 1 := by simp [go_sem]
  have b0a := (Below.refl w.heap.size w).alloc (Nat.le_refl _) (.cells #[.int .i64 x, .int .i64 y, .int .i64 h, .int .i64 t, .int .i64 l] 34)
  have B0 := Lib.hid (b0a.alloc b0a.size (.cells #[.int .i64 0, .int .i64 0, .int .i64 0, .int .i64 0] 30))
  have KJ := Lib.hid ((Bk.new w #[.int .i64 x, .int .i64 y, .int .i64 h, .int .i64 t, .int .i64 l] 34).alloc (o := .cells #[.int .i64 0, .int .i64 0, .int .i64 0, .int .i64 0] 30))
  have KB := Bk.new (w.alloc (.cells #[.int .i64 x, .int .i64 y, .int .i64 h, .int .i64 t, .int .i64 l] 34)) #[.int .i64 0, .int .i64 0, .int .i64 0, .int .i64 0] 30
  rw [hz1] at KB
  have KB := Lib.hid KB
  have c0 := KJ.out.cell (i := 0) rfl
  have c1 := KJ.out.cell (i := 1) rfl
  have c2 := KJ.out.cell (i := 2) rfl
  have c3 := KJ.out.cell (i := 3) rfl
  have c4 := KJ.out.cell (i := 4) rfl
  obtain ⟨bj, hj⟩ : ∃ b, jt x y h t l = b := ⟨_, rfl⟩
  obtain ⟨br, hp⟩ : ∃ b, rs ps = b := ⟨_, rfl⟩
  have CJ := Lib.hid (fun (W : World) => jetI hj W)
  have CR := Lib.hid (fun (W : World) (h9 : Below w.heap.size w W) => Wx.roseI (A := A) (c := c) (H := w.heap.size) hn hb hp W h9.size (hr.below h9))
  cases bj
  · obtain ⟨e1, e2⟩ := lb_no (Or.inl hj : _ ∨ rs ps = false)
    rw [e1, e2]
    clear hn hb hr hz1 b0a hj hp e1 e2 CR
    go_enter Try.func8, Try.ntmps8
    go_wp2_with fail
    refine (CJ.out _).mono ?_
    rintro e v ⟨rfl, b1⟩
    have R := Lib.hid (KB.out.below b1)
    have B9 := Lib.hid (B0.out.trans (b1.mono B0.out.size))
    clear b1 KB KJ c0 c1 c2 c3 c4 CJ B0
    have z0 := R.out.cell (i := 0) rfl
    have z1 := R.out.cell (i := 1) rfl
    have z2 := R.out.cell (i := 2) rfl
    have z3 := R.out.cell (i := 3) rfl
    have y0 := R.out.frozen 0
    have y1 := R.out.frozen 1
    have y2 := R.out.frozen 2
    have y3 := R.out.frozen 3
    have l9 := R.out.lt
    have HS4 := Lib.hid (set4 (a := .int .i64 (0)) (b := .int .i64 (0)) (c := .int .i64 (0)) (d := .int .i64 (0)) z0 z1 z2 z3)
    go_wp2_with fail
    have r0 := HS4.out.1
    have r1 := HS4.out.2.1
    have r2 := HS4.out.2.2.1
    have r3 := HS4.out.2.2.2
    (try simp only [Exit.inBlock, Exit.then])
    refine bodyPost_ret (v := .tuple #[box4 (0) (0) (0) (0), .bool false]) (by simp [results, Try.results8, go_sem, r0, r1, r2, r3]; try rfl) rfl ?_
    exact ⟨rfl, B9.out.trans (by have h9 := B9.out.size; go_grown)⟩
  have E0 : True := trivial
  cases br
  · obtain ⟨e1, e2⟩ := lb_no (Or.inr hp : jt x y h t l = false ∨ _)
    rw [e1, e2]
    clear hn hb hr hz1 b0a hj hp e1 e2
    go_enter Try.func8, Try.ntmps8
    go_wp2_with fail
    refine (CJ.out _).mono ?_
    rintro e v1 ⟨rfl, b1⟩
    have K1 := Lib.hid (KB.out.below b1)
    have B1 := Lib.hid (B0.out.trans (b1.mono B0.out.size))
    clear b1 KB KJ c0 c1 c2 c3 c4 CJ B0
    go_wp2_with fail
    refine (CR.out _ B1.out).mono ?_
    rintro e v ⟨rfl, b1⟩
    have R := Lib.hid (K1.out.below b1)
    have B9 := Lib.hid (B1.out.trans (b1.mono B1.out.size))
    clear b1 K1 B1 CR
    have z0 := R.out.cell (i := 0) rfl
    have z1 := R.out.cell (i := 1) rfl
    have z2 := R.out.cell (i := 2) rfl
    have z3 := R.out.cell (i := 3) rfl
    have y0 := R.out.frozen 0
    have y1 := R.out.frozen 1
    have y2 := R.out.frozen 2
    have y3 := R.out.frozen 3
    have l9 := R.out.lt
    have HS4 := Lib.hid (set4 (a := .int .i64 (0)) (b := .int .i64 (0)) (c := .int .i64 (0)) (d := .int .i64 (0)) z0 z1 z2 z3)
    go_wp2_with fail
    have r0 := HS4.out.1
    have r1 := HS4.out.2.1
    have r2 := HS4.out.2.2.1
    have r3 := HS4.out.2.2.2
    (try simp only [Exit.inBlock, Exit.then])
    refine bodyPost_ret (v := .tuple #[box4 (0) (0) (0) (0), .bool false]) (by simp [results, Try.results8, go_sem, r0, r1, r2, r3]; try rfl) rfl ?_
    exact ⟨rfl, B9.out.trans (by have h9 := B9.out.size; go_grown)⟩
  obtain ⟨e1, e2⟩ := lb_yes hj hp
  rw [e1, e2]
  obtain ⟨⟨q1, q2, q3, q4⟩, hq⟩ : ∃ q, lbox x y h t l ps = q := ⟨_, rfl⟩
  rw [hq]
  have HB := Lib.hid ((far_box (x := x) (y := y) (h := h) (t := t) (l := l) hp).trans hq)
  clear hq
  have CF := Lib.hid (fun (k : Nat) (hk : k < 4) (W : World) (h9 : Below w.heap.size w W) => farthest A n c ps hj hp (hd_nat hk) W hn hb ((hr.below h9).more h9.size))
  have GG := Lib.hid (show Bo.good [far x y h t l ps 0, far x y h t l ps 1, far x y h t l ps 2, far x y h t l ps 3] = true by
    have f0 := far_le hj hp 0
    have f1 := far_le hj hp 1
    have f2 := far_le hj hp 2
    have f3 := far_le hj hp 3
    have key : ∀ p : Int × Int, (-1816 ≤ p.1 ∧ p.1 ≤ 1816) ∧ (-1816 ≤ p.2 ∧ p.2 ≤ 1816) → (ms p.1 && ms p.2) = true := fun p hp => by
      unfold ms; simp only [Bool.and_eq_true, decide_eq_true_eq]; omega
    unfold Bo.good
    simp only [List.all_cons, List.all_nil, Bool.and_true, key _ f0, key _ f1, key _ f2, key _ f3])
  obtain ⟨i0, hi, hi0, hi1, hi2⟩ := info_of Wc.infoC
  clear hn hb hr hz1 b0a hj hp e1 e2
  go_enter Try.func8, Try.ntmps8
  go_wp2_with fail
  refine (CJ.out _).mono ?_
  rintro e v1 ⟨rfl, b1⟩
  have K1 := Lib.hid (KB.out.below b1)
  have J1 := Lib.hid (KJ.out.below b1)
  have B1 := Lib.hid (B0.out.trans (b1.mono B0.out.size))
  clear b1 KB KJ c0 c1 c2 c3 c4 CJ B0
  go_wp2_with fail
  refine (CR.out _ B1.out).mono ?_
  rintro e v2 ⟨rfl, b1⟩
  have K2 := Lib.hid (K1.out.below b1)
  have J2 := Lib.hid (J1.out.below b1)
  have B2 := Lib.hid (B1.out.trans (b1.mono B1.out.size))
  have hs2 : w.heap.size + 1 < v2.heap.size := K2.out.lt
  clear b1 K1 J1 B1 CR
  go_wp2_with (at_make; refine wpList_make_full _ rfl _ _ 49 rfl v2.heap.size 50 i0 (.complex .f32 0 0) 1 Try.underlying49 hi hi0 hi1 .i64 .i64 4 4 4 rfl rfl rfl rfl (by rw [hi2]; omega) (by unfold maxLen; omega) (Nat.le_refl _) ?_; intro w1 hown hgrow; clear hi hi0 hi1 hi2)
  have R0 := Lib.hid (show w1.ownsRow v2.heap.size 50 1 (.slice (some ⟨v2.heap.size, 0, none⟩) 4 4) 4 (ww (List.replicate 4 (0, 0))) by
    rw [Wc.made_c] at hown
    rw [show ww (List.replicate 4 (0, 0)) = List.replicate 4 (.complex .f32 0 0) by unfold ww; rw [List.map_replicate]]
    exact hown)
  have K3 := Lib.hid (K2.out.grown hgrow (by intro e9; cases e9))
  have J3 := Lib.hid (J2.out.grown hgrow (by intro e9; cases e9))
  have B3 := Lib.hid (B2.out.grown hgrow B2.out.size (fun k hk => by cases hk))
  have W0 := Lib.hid (show ∀ j : Nat, j < 0 → ∃ a b, (List.replicate 4 ((0 : Nat), (0 : Nat)))[j]? = some (a, b) ∧ I32 (far x y h t l ps (j : Int)).1 a ∧ I32 (far x y h t l ps (j : Int)).2 b from fun j h => by omega)
  clear hown hgrow K2 J2 B2
  go_loopw [20] (fun i wr => ∃ (k : Nat) (ws : List (Nat × Nat)), k ≤ 4 ∧ i = .int .i64 k ∧ Hid (ws.length = 4) ∧ Hid (∀ j, j < k → ∃ a b, ws[j]? = some (a, b) ∧ I32 (far x y h t l ps (j : Int)).1 a ∧ I32 (far x y h t l ps (j : Int)).2 b) ∧ Hid (wr.ownsRow v2.heap.size 50 1 (.slice (some ⟨v2.heap.size, 0, none⟩) 4 4) 4 (ww ws)) ∧ Hid (Bk wr w.heap.size #[.int .i64 x, .int .i64 y, .int .i64 h, .int .i64 t, .int .i64 l] 34) ∧ Hid (Bk wr (w.heap.size + 1) #[.int .i64 0, .int .i64 0, .int .i64 0, .int .i64 0] 30) ∧ Hid (Below w.heap.size w wr)) (fun i _ => 4 - (intOf i).toNat)
  case atStart => exact ⟨0, _, Nat.zero_le _, rfl, Lib.hid (by simp), W0, R0, J3, K3, B3⟩
  case round =>
    obtain ⟨k, ws, hk, rfl, HL, WK, RK, JK, KK, BK⟩ := hrel
    clear W0 R0 J3 K3 B3
    by_cases hlt : k < 4
    · have c0 := JK.out.cell (i := 0) rfl
      have c1 := JK.out.cell (i := 1) rfl
      have c2 := JK.out.cell (i := 2) rfl
      have c3 := JK.out.cell (i := 3) rfl
      have c4 := JK.out.cell (i := 4) rfl
      have hk4 : (k : Int) < 4 := by omega
      have CF9 := Lib.hid (CF.out k hlt wr BK.out)
      go_wp2_with fail
      refine CF9.out.mono ?_
      rintro e v5 ⟨⟨a, b, rfl, ja, jb⟩, b5⟩
      have R5 := owns_below RK.out b5
      have J5 := JK.out.below b5
      have K5 := KK.out.below b5
      have B5 := BK.out.trans (b5.mono BK.out.size)
      obtain ⟨⟨pa, pb⟩, hpw⟩ : ∃ p, ws[k]? = some p := ⟨_, List.getElem?_eq_getElem (by rw [HL.out]; exact hlt)⟩
      have x0 : v5.cell? ⟨v2.heap.size, k, none⟩ = some (.complex .f32 pa pb) := (R5.cellAt k (by omega)).trans (ww_get hpw)
      have f0 := R5.frozenAt k
      obtain ⟨r6, g6⟩ := R5.stored k (.complex .f32 a b)
      rw [ww_set] at r6
      have R6 := Lib.hid r6
      have hne1 : w.heap.size ≠ v2.heap.size := by omega
      have hne2 : w.heap.size + 1 ≠ v2.heap.size := by omega
      have J6 := Lib.hid (J5.grown g6 (fun e9 => hne1 (Option.some.inj e9).symm))
      have K6 := Lib.hid (K5.grown g6 (fun e9 => hne2 (Option.some.inj e9).symm))
      have B6 := Lib.hid (B5.grown g6 B5.size (fun q9 e9 => by have e9 := Option.some.inj e9; omega))
      have L6 := Lib.hid (show (ws.set k (a, b)).length = 4 by rw [List.length_set]; exact HL.out)
      have W6 := Lib.hid (show ∀ j, j < k + 1 → ∃ a' b', (ws.set k (a, b))[j]? = some (a', b') ∧ I32 (far x y h t l ps (j : Int)).1 a' ∧ I32 (far x y h t l ps (j : Int)).2 b' from fun j hj => by
        by_cases e : j = k
        · subst e; exact ⟨a, b, by rw [List.getElem?_set_self (by rw [HL.out]; exact hlt)], ja, jb⟩
        · obtain ⟨a', b', h1, h2⟩ := WK.out j (by omega)
          exact ⟨a', b', by rw [List.getElem?_set_ne (fun e' => e e'.symm)]; exact h1, h2⟩)
      clear hpw b5 R5 J5 K5 B5 r6 g6 ja jb CF9 WK RK JK KK BK HL c0 c1 c2 c3 c4
      go_wp2_with fail
      go_roundw
      case rel => first | exact ⟨k + 1, _, by omega, by go_num, L6, W6, R6, J6, K6, B6⟩ | ((repeat apply Exists.intro); exact ⟨⟨k + 1, _, by omega, by go_num, L6, W6, R6, J6, K6, B6⟩, rfl⟩)
      case measure => simp [intOf]; omega
    · obtain rfl : k = 4 := by omega
      have WO := Lib.hid (show Wo [far x y h t l ps 0, far x y h t l ps 1, far x y h t l ps 2, far x y h t l ps 3] ws from ⟨by rw [HL.out]; rfl, fun j a b hj => by
        match j, hj with
        | 0, hj => (simp only [List.getElem?_cons_zero, Option.some.injEq] at hj; have := WK.out 0 (by omega); simp only [Int.natCast_zero] at this; rw [hj] at this; exact this)
        | 1, hj => (simp only [List.getElem?_cons_succ, List.getElem?_cons_zero, Option.some.injEq] at hj; have := WK.out 1 (by omega); simp only [show ((1 : Nat) : Int) = 1 from rfl] at this; rw [hj] at this; exact this)
        | 2, hj => (simp only [List.getElem?_cons_succ, List.getElem?_cons_zero, Option.some.injEq] at hj; have := WK.out 2 (by omega); simp only [show ((2 : Nat) : Int) = 2 from rfl] at this; rw [hj] at this; exact this)
        | 3, hj => (simp only [List.getElem?_cons_succ, List.getElem?_cons_zero, Option.some.injEq] at hj; have := WK.out 3 (by omega); simp only [show ((3 : Nat) : Int) = 3 from rfl] at this; rw [hj] at this; exact this)
        | j + 4, hj => simp at hj⟩)
      have CL := Lib.hid (leastBoxW (some ⟨v2.heap.size, 0, none⟩) 4 4 _ _ wr rfl (by decide) (by decide) GG.out (Nat.le_refl _) ws WO.out (Rd.own RK.out))
      rw [HB.out] at CL
      unfold Bo.bq at CL
      clear WK JK RK HL GG CF
      go_wp2_with fail
      refine CL.out.mono ?_
      rintro e v9 ⟨rfl, b9⟩
      have R := Lib.hid (KK.out.below b9)
      have B9 := Lib.hid (BK.out.trans (b9.mono BK.out.size))
      clear b9 CL KK BK
      have z0 := R.out.cell (i := 0) rfl
      have z1 := R.out.cell (i := 1) rfl
      have z2 := R.out.cell (i := 2) rfl
      have z3 := R.out.cell (i := 3) rfl
      have y0 := R.out.frozen 0
      have y1 := R.out.frozen 1
      have y2 := R.out.frozen 2
      have y3 := R.out.frozen 3
      have l9 := R.out.lt
      have HS4 := Lib.hid (set4 (a := .int .i64 (q1)) (b := .int .i64 (q2)) (c := .int .i64 (q3)) (d := .int .i64 (q4)) z0 z1 z2 z3)
      go_wp2_with fail
      have r0 := HS4.out.1
      have r1 := HS4.out.2.1
      have r2 := HS4.out.2.2.1
      have r3 := HS4.out.2.2.2
      (try simp only [Exit.inBlock, Exit.then])
      refine bodyPost_ret (v := .tuple #[box4 (q1) (q2) (q3) (q4), .bool true]) (by simp [results, Try.results8, go_sem, r0, r1, r2, r3]; try rfl) rfl ?_
      exact ⟨rfl, B9.out.trans (by have h9 := B9.out.size; go_grown)⟩

theorem landV_no {x y h t l : Int} (hj : jt x y h t l = false) : landV x y h t l = .tuple #[.agg #[.int .i64 0, .int .i64 0], .bool false] := by
  unfold landV
  exact told2_no (by rw [← Bool.not_eq_true, inF_iff]; rintro ⟨h1, _⟩; rw [hj] at h1; cases h1)

set_option maxRecDepth 100000 in
set_option maxHeartbeats 4000000 in
theorem landBoxS (x y h t l : Int) (A : Option Addr) (n c : Nat) (ps : List (Int × Int)) (w : World) (hn : ps.length = n) (hb : n ≤ 1048576) (hr : Rd w w.heap.size A (pls ps)) :
    Calls Try.prog 5 #[jv x y h t l, .slice A n c] w fun e w' => e = .returned (.tuple #[bq (lbQ x y h t l ps), .bool (lbB x y h t l ps)]) ∧ Below w.heap.size w w' := by
  have hz1 : (w.alloc (.cells #[.int .i64 x, .int .i64 y, .int .i64 h, .int .i64 t, .int .i64 l] 34)).heap.size = w.heap.size + 1 := by simp [go_sem]
  have b0a := (Below.refl w.heap.size w).alloc (Nat.le_refl _) (.cells #[.int .i64 x, .int .i64 y, .int .i64 h, .int .i64 t, .int .i64 l] 34)
  have B0 := Lib.hid (b0a.alloc b0a.size (.cells #[.int .i64 0, .int .i64 0, .int .i64 0, .int .i64 0] 30))
  have KJ := Lib.hid ((Bk.new w #[.int .i64 x, .int .i64 y, .int .i64 h, .int .i64 t, .int .i64 l] 34).alloc (o := .cells #[.int .i64 0, .int .i64 0, .int .i64 0, .int .i64 0] 30))
  have KB := Bk.new (w.alloc (.cells #[.int .i64 x, .int .i64 y, .int .i64 h, .int .i64 t, .int .i64 l] 34)) #[.int .i64 0, .int .i64 0, .int .i64 0, .int .i64 0] 30
  rw [hz1] at KB
  have KB := Lib.hid KB
  have c0 := KJ.out.cell (i := 0) rfl
  have c1 := KJ.out.cell (i := 1) rfl
  have c2 := KJ.out.cell (i := 2) rfl
  have c3 := KJ.out.cell (i := 3) rfl
  have c4 := KJ.out.cell (i := 4) rfl
  cases hj : jt x y h t l
  · obtain ⟨e1, e2⟩ := lb_no (Or.inl hj : _ ∨ rs ps = false)
    rw [e1, e2]
    obtain ⟨⟨q1, q2, q3, q4⟩, hq⟩ : ∃ q, rQ ps 0 = q := ⟨_, rfl⟩
    obtain ⟨bb, hbb⟩ : ∃ b, rB ps 0 = b := ⟨_, rfl⟩
    have CL := Lib.hid (fun (W : World) => (by have := Dp.landS x y h t l W; rw [landV_no hj] at this; exact this : Calls Try.prog 11 #[jv x y h t l] W fun e w' => e = .returned (.tuple #[.agg #[.int .i64 0, .int .i64 0], .bool false]) ∧ Below W.heap.size W w'))
    have CF := Lib.hid (fun (W : World) => (by have := Dp.flightS x y h t l W; rw [Dp.fl_no hj] at this; exact this : Calls Try.prog 13 #[jv x y h t l] W fun e w' => e = .returned (.int .i64 0) ∧ Below W.heap.size W w'))
    have CR := Lib.hid (fun (W : World) (h9 : Below w.heap.size w W) => (by have := roseBoxS A n c ps 0 W hn hb ((hr.below h9).more h9.size); rw [hq, hbb] at this; unfold Bo.bq at this; exact this : Calls Try.prog 12 #[.slice A n c, .int .i64 0] W fun e w' => e = .returned (.tuple #[box4 q1 q2 q3 q4, .bool bb]) ∧ Below W.heap.size W w'))
    clear hn hb hr hz1 b0a hj e1 e2 hq hbb
    go_enter Try.func5, Try.ntmps5
    go_wp2_with fail
    refine (CL.out _).mono ?_
    rintro e w1 ⟨rfl, hb1⟩
    have J1 := Lib.hid ((KJ.out.below hb1).alloc (o := .cells #[.int .i64 0, .int .i64 0] 28))
    have K1 := Lib.hid ((KB.out.below hb1).alloc (o := .cells #[.int .i64 0, .int .i64 0] 28))
    have P1 := Lib.hid (Bk.new w1 #[.int .i64 0, .int .i64 0] 28)
    have B1a := B0.out.trans (hb1.mono B0.out.size)
    have hl1 : w.heap.size + 1 < w1.heap.size := (KB.out.below hb1).lt
    have B1 := Lib.hid (B1a.alloc B1a.size (.cells #[.int .i64 0, .int .i64 0] 28))
    clear hb1 B1a KJ KB B0 c0 c1 c2 c3 c4 CL
    have c0 := J1.out.cell (i := 0) rfl
    have c1 := J1.out.cell (i := 1) rfl
    have c2 := J1.out.cell (i := 2) rfl
    have c3 := J1.out.cell (i := 3) rfl
    have c4 := J1.out.cell (i := 4) rfl
    go_wp2_with fail
    refine (CF.out _).mono ?_
    rintro e w2 ⟨rfl, hb2⟩
    have K2 := Lib.hid (K1.out.below hb2)
    have P2 := Lib.hid (P1.out.below hb2)
    have B2 := Lib.hid (B1.out.trans (hb2.mono B1.out.size))
    have CR2 := Lib.hid (CR.out _ B2.out)
    clear hb2 K1 P1 J1 B1 c0 c1 c2 c3 c4 CF CR
    go_wp2_with fail
    refine CR2.out.mono ?_
    rintro e w3 ⟨rfl, hb3⟩
    have K3 := Lib.hid ((K2.out.below hb3).alloc (o := .cells #[.int .i64 q1, .int .i64 q2, .int .i64 q3, .int .i64 q4] 30))
    have P3 := Lib.hid ((P2.out.below hb3).alloc (o := .cells #[.int .i64 q1, .int .i64 q2, .int .i64 q3, .int .i64 q4] 30))
    have KR3 := Lib.hid (K2.out.below hb3)
    have Q3 := Lib.hid (Bk.new w3 #[.int .i64 q1, .int .i64 q2, .int .i64 q3, .int .i64 q4] 30)
    have B3a := B2.out.trans (hb3.mono B2.out.size)
    have B3 := Lib.hid (B3a.alloc B3a.size (.cells #[.int .i64 q1, .int .i64 q2, .int .i64 q3, .int .i64 q4] 30))
    have BA3 := Lib.hid B3a
    have hl3 : w.heap.size + 1 < w3.heap.size := (K2.out.below hb3).lt
    have hp3 : w1.heap.size < w3.heap.size := (P2.out.below hb3).lt
    clear hb3 B3a K2 P2 B2 CR2
    have e0 := K3.out.cell (i := 0) rfl
    have e1 := K3.out.cell (i := 1) rfl
    have e2 := K3.out.cell (i := 2) rfl
    have e3 := K3.out.cell (i := 3) rfl
    have v0 := K3.out.frozen 0
    have v1 := K3.out.frozen 1
    have v2 := K3.out.frozen 2
    have v3 := K3.out.frozen 3
    have z0 := KR3.out.cell (i := 0) rfl
    have z1 := KR3.out.cell (i := 1) rfl
    have z2 := KR3.out.cell (i := 2) rfl
    have z3 := KR3.out.cell (i := 3) rfl
    have y0 := KR3.out.frozen 0
    have y1 := KR3.out.frozen 1
    have y2 := KR3.out.frozen 2
    have y3 := KR3.out.frozen 3
    have l9 := KR3.out.lt
    have HS4 := Lib.hid (set4 (a := .int .i64 (0)) (b := .int .i64 (0)) (c := .int .i64 (0)) (d := .int .i64 (0)) z0 z1 z2 z3)
    go_wp2_with fail
    have r0 := cell_alloc (o := .cells #[.int .i64 q1, .int .i64 q2, .int .i64 q3, .int .i64 q4] 30) HS4.out.1
    have r1 := cell_alloc (o := .cells #[.int .i64 q1, .int .i64 q2, .int .i64 q3, .int .i64 q4] 30) HS4.out.2.1
    have r2 := cell_alloc (o := .cells #[.int .i64 q1, .int .i64 q2, .int .i64 q3, .int .i64 q4] 30) HS4.out.2.2.1
    have r3 := cell_alloc (o := .cells #[.int .i64 q1, .int .i64 q2, .int .i64 q3, .int .i64 q4] 30) HS4.out.2.2.2
    (try simp only [Exit.inBlock, Exit.then])
    refine bodyPost_ret (v := .tuple #[box4 (0) (0) (0) (0), .bool false]) (by simp [results, Try.results5, go_sem, r0, r1, r2, r3]; try rfl) rfl ?_
    exact ⟨rfl, BA3.out.trans (by have h9 := BA3.out.size; go_grown)⟩
  cases hp : rs ps
  · obtain ⟨e1, e2⟩ := lb_no (Or.inr hp : jt x y h t l = false ∨ _)
    rw [e1, e2]
    obtain ⟨r1, r2⟩ := r_no (ps := ps) (t := l + 1) (Or.inl hp)
    obtain ⟨lx, hlx⟩ : ∃ a, (land x y h t l).1 = a := ⟨_, rfl⟩
    obtain ⟨ly, hly⟩ : ∃ a, (land x y h t l).2 = a := ⟨_, rfl⟩
    have CL := Lib.hid (fun (W : World) => (by have := Dp.landS x y h t l W; rw [landV_yes hj, hlx, hly] at this; exact this : Calls Try.prog 11 #[jv x y h t l] W fun e w' => e = .returned (.tuple #[.agg #[.int .i64 lx, .int .i64 ly], .bool true]) ∧ Below W.heap.size W w'))
    have CF := Lib.hid (fun (W : World) => (by have := Dp.flightS x y h t l W; rw [Dp.fl_yes hj] at this; exact this : Calls Try.prog 13 #[jv x y h t l] W fun e w' => e = .returned (.int .i64 (l + 1)) ∧ Below W.heap.size W w'))
    have CR := Lib.hid (fun (W : World) (h9 : Below w.heap.size w W) => (by have := roseBoxS A n c ps (l + 1) W hn hb ((hr.below h9).more h9.size); rw [r1, r2] at this; unfold Bo.bq at this; exact this : Calls Try.prog 12 #[.slice A n c, .int .i64 (l + 1)] W fun e w' => e = .returned (.tuple #[box4 0 0 0 0, .bool false]) ∧ Below W.heap.size W w'))
    clear hn hb hr hz1 b0a hj hp e1 e2 r1 r2 hlx hly
    go_enter Try.func5, Try.ntmps5
    go_wp2_with fail
    refine (CL.out _).mono ?_
    rintro e w1 ⟨rfl, hb1⟩
    have J1 := Lib.hid ((KJ.out.below hb1).alloc (o := .cells #[.int .i64 lx, .int .i64 ly] 28))
    have K1 := Lib.hid ((KB.out.below hb1).alloc (o := .cells #[.int .i64 lx, .int .i64 ly] 28))
    have P1 := Lib.hid (Bk.new w1 #[.int .i64 lx, .int .i64 ly] 28)
    have B1a := B0.out.trans (hb1.mono B0.out.size)
    have hl1 : w.heap.size + 1 < w1.heap.size := (KB.out.below hb1).lt
    have B1 := Lib.hid (B1a.alloc B1a.size (.cells #[.int .i64 lx, .int .i64 ly] 28))
    clear hb1 B1a KJ KB B0 c0 c1 c2 c3 c4 CL
    have c0 := J1.out.cell (i := 0) rfl
    have c1 := J1.out.cell (i := 1) rfl
    have c2 := J1.out.cell (i := 2) rfl
    have c3 := J1.out.cell (i := 3) rfl
    have c4 := J1.out.cell (i := 4) rfl
    go_wp2_with fail
    refine (CF.out _).mono ?_
    rintro e w2 ⟨rfl, hb2⟩
    have K2 := Lib.hid (K1.out.below hb2)
    have P2 := Lib.hid (P1.out.below hb2)
    have B2 := Lib.hid (B1.out.trans (hb2.mono B1.out.size))
    have CR2 := Lib.hid (CR.out _ B2.out)
    clear hb2 K1 P1 J1 B1 c0 c1 c2 c3 c4 CF CR
    go_wp2_with fail
    refine CR2.out.mono ?_
    rintro e w3 ⟨rfl, hb3⟩
    have K3 := Lib.hid ((K2.out.below hb3).alloc (o := .cells #[.int .i64 0, .int .i64 0, .int .i64 0, .int .i64 0] 30))
    have P3 := Lib.hid ((P2.out.below hb3).alloc (o := .cells #[.int .i64 0, .int .i64 0, .int .i64 0, .int .i64 0] 30))
    have KR3 := Lib.hid (K2.out.below hb3)
    have Q3 := Lib.hid (Bk.new w3 #[.int .i64 0, .int .i64 0, .int .i64 0, .int .i64 0] 30)
    have B3a := B2.out.trans (hb3.mono B2.out.size)
    have B3 := Lib.hid (B3a.alloc B3a.size (.cells #[.int .i64 0, .int .i64 0, .int .i64 0, .int .i64 0] 30))
    have BA3 := Lib.hid B3a
    have hl3 : w.heap.size + 1 < w3.heap.size := (K2.out.below hb3).lt
    have hp3 : w1.heap.size < w3.heap.size := (P2.out.below hb3).lt
    clear hb3 B3a K2 P2 B2 CR2
    have e0 := K3.out.cell (i := 0) rfl
    have e1 := K3.out.cell (i := 1) rfl
    have e2 := K3.out.cell (i := 2) rfl
    have e3 := K3.out.cell (i := 3) rfl
    have v0 := K3.out.frozen 0
    have v1 := K3.out.frozen 1
    have v2 := K3.out.frozen 2
    have v3 := K3.out.frozen 3
    have z0 := KR3.out.cell (i := 0) rfl
    have z1 := KR3.out.cell (i := 1) rfl
    have z2 := KR3.out.cell (i := 2) rfl
    have z3 := KR3.out.cell (i := 3) rfl
    have y0 := KR3.out.frozen 0
    have y1 := KR3.out.frozen 1
    have y2 := KR3.out.frozen 2
    have y3 := KR3.out.frozen 3
    have l9 := KR3.out.lt
    have HS4 := Lib.hid (set4 (a := .int .i64 (0)) (b := .int .i64 (0)) (c := .int .i64 (0)) (d := .int .i64 (0)) z0 z1 z2 z3)
    go_wp2_with fail
    have r0 := cell_alloc (o := .cells #[.int .i64 0, .int .i64 0, .int .i64 0, .int .i64 0] 30) HS4.out.1
    have r1 := cell_alloc (o := .cells #[.int .i64 0, .int .i64 0, .int .i64 0, .int .i64 0] 30) HS4.out.2.1
    have r2 := cell_alloc (o := .cells #[.int .i64 0, .int .i64 0, .int .i64 0, .int .i64 0] 30) HS4.out.2.2.1
    have r3 := cell_alloc (o := .cells #[.int .i64 0, .int .i64 0, .int .i64 0, .int .i64 0] 30) HS4.out.2.2.2
    (try simp only [Exit.inBlock, Exit.then])
    refine bodyPost_ret (v := .tuple #[box4 (0) (0) (0) (0), .bool false]) (by simp [results, Try.results5, go_sem, r0, r1, r2, r3]; try rfl) rfl ?_
    exact ⟨rfl, BA3.out.trans (by have h9 := BA3.out.size; go_grown)⟩
  obtain ⟨e1, e2⟩ := lb_yes hj hp
  rw [e1, e2]
  have hl := (jt_iff.1 hj).2.2.2.2
  obtain ⟨r1, r2⟩ := r_yes hp (t := l + 1) (by omega)
  have hN := (nN_le hj).1
  have hla := land_le hj
  have hlb := lbox_le hj hp
  obtain ⟨lx, hlx⟩ : ∃ a, (land x y h t l).1 = a := ⟨_, rfl⟩
  obtain ⟨ly, hly⟩ : ∃ a, (land x y h t l).2 = a := ⟨_, rfl⟩
  obtain ⟨q1, hq1⟩ : ∃ a, (l + 1) * (boxA ps).1 = a := ⟨_, rfl⟩
  obtain ⟨q2, hq2⟩ : ∃ a, (l + 1) * (boxA ps).2.1 = a := ⟨_, rfl⟩
  obtain ⟨q3, hq3⟩ : ∃ a, (l + 1) * (boxA ps).2.2.1 = a := ⟨_, rfl⟩
  obtain ⟨q4, hq4⟩ : ∃ a, (l + 1) * (boxA ps).2.2.2 = a := ⟨_, rfl⟩
  have hsq : sq (l + 1) (boxA ps) = (q1, q2, q3, q4) := by unfold sq; rw [hq1, hq2, hq3, hq4]
  have hlq : lbox x y h t l ps = (lx + q1, ly + q2, lx + q3, ly + q4) := by unfold lbox; rw [hN, hlx, hly, hq1, hq2, hq3, hq4]
  rw [hlq] at hlb ⊢
  rw [hlx, hly] at hla
  simp only at hlb
  have CL := Lib.hid (fun (W : World) => (by have := Dp.landS x y h t l W; rw [landV_yes hj, hlx, hly] at this; exact this : Calls Try.prog 11 #[jv x y h t l] W fun e w' => e = .returned (.tuple #[.agg #[.int .i64 lx, .int .i64 ly], .bool true]) ∧ Below W.heap.size W w'))
  have CF := Lib.hid (fun (W : World) => (by have := Dp.flightS x y h t l W; rw [Dp.fl_yes hj] at this; exact this : Calls Try.prog 13 #[jv x y h t l] W fun e w' => e = .returned (.int .i64 (l + 1)) ∧ Below W.heap.size W w'))
  have CR := Lib.hid (fun (W : World) (h9 : Below w.heap.size w W) => (by have := roseBoxS A n c ps (l + 1) W hn hb ((hr.below h9).more h9.size); rw [r1, r2, hsq] at this; unfold Bo.bq at this; exact this : Calls Try.prog 12 #[.slice A n c, .int .i64 (l + 1)] W fun e w' => e = .returned (.tuple #[box4 q1 q2 q3 q4, .bool true]) ∧ Below W.heap.size W w'))
  have A1 := Lib.hid (fun (W : World) => l2AddB lx ly q1 q2 (IntWalk.wrap64_in _ (by omega)) (IntWalk.wrap64_in _ (by omega)) W)
  have A2 := Lib.hid (fun (W : World) => l2AddB lx ly q3 q4 (IntWalk.wrap64_in _ (by omega)) (IntWalk.wrap64_in _ (by omega)) W)
  have hu : undef = Value.tuple #[] := rfl
  unfold Bo.bq
  clear hn hb hr hz1 b0a hj hp e1 e2 r1 r2 hN hla hlb hlx hly hq1 hq2 hq3 hq4 hsq hlq hl
  go_enter Try.func5, Try.ntmps5
  go_wp2_with fail
  refine (CL.out _).mono ?_
  rintro e w1 ⟨rfl, hb1⟩
  have J1 := Lib.hid ((KJ.out.below hb1).alloc (o := .cells #[.int .i64 lx, .int .i64 ly] 28))
  have K1 := Lib.hid ((KB.out.below hb1).alloc (o := .cells #[.int .i64 lx, .int .i64 ly] 28))
  have P1 := Lib.hid (Bk.new w1 #[.int .i64 lx, .int .i64 ly] 28)
  have B1a := B0.out.trans (hb1.mono B0.out.size)
  have hl1 : w.heap.size + 1 < w1.heap.size := (KB.out.below hb1).lt
  have B1 := Lib.hid (B1a.alloc B1a.size (.cells #[.int .i64 lx, .int .i64 ly] 28))
  clear hb1 B1a KJ KB B0 c0 c1 c2 c3 c4 CL
  have c0 := J1.out.cell (i := 0) rfl
  have c1 := J1.out.cell (i := 1) rfl
  have c2 := J1.out.cell (i := 2) rfl
  have c3 := J1.out.cell (i := 3) rfl
  have c4 := J1.out.cell (i := 4) rfl
  go_wp2_with fail
  refine (CF.out _).mono ?_
  rintro e w2 ⟨rfl, hb2⟩
  have K2 := Lib.hid (K1.out.below hb2)
  have P2 := Lib.hid (P1.out.below hb2)
  have B2 := Lib.hid (B1.out.trans (hb2.mono B1.out.size))
  have CR2 := Lib.hid (CR.out _ B2.out)
  clear hb2 K1 P1 J1 B1 c0 c1 c2 c3 c4 CF CR
  go_wp2_with fail
  refine CR2.out.mono ?_
  rintro e w3 ⟨rfl, hb3⟩
  have K3 := Lib.hid ((K2.out.below hb3).alloc (o := .cells #[.int .i64 q1, .int .i64 q2, .int .i64 q3, .int .i64 q4] 30))
  have P3 := Lib.hid ((P2.out.below hb3).alloc (o := .cells #[.int .i64 q1, .int .i64 q2, .int .i64 q3, .int .i64 q4] 30))
  have KR3 := Lib.hid (K2.out.below hb3)
  have Q3 := Lib.hid (Bk.new w3 #[.int .i64 q1, .int .i64 q2, .int .i64 q3, .int .i64 q4] 30)
  have B3a := B2.out.trans (hb3.mono B2.out.size)
  have B3 := Lib.hid (B3a.alloc B3a.size (.cells #[.int .i64 q1, .int .i64 q2, .int .i64 q3, .int .i64 q4] 30))
  have BA3 := Lib.hid B3a
  have hl3 : w.heap.size + 1 < w3.heap.size := (K2.out.below hb3).lt
  have hp3 : w1.heap.size < w3.heap.size := (P2.out.below hb3).lt
  clear hb3 B3a K2 P2 B2 CR2
  have hs3 : (w3.alloc (.cells #[.int .i64 q1, .int .i64 q2, .int .i64 q3, .int .i64 q4] 30)).heap.size = w3.heap.size + 1 := by simp [go_sem]
  go_upto_region 5 with fail
  refine wp_region_noPanic ?_
  refine wp_region_held_drew (S := (fun w' => w'.cell? ⟨w1.heap.size, 0, none⟩ = some (.int .i64 lx) ∧ w'.cell? ⟨w1.heap.size, 1, none⟩ = some (.int .i64 ly) ∧ w'.cell? ⟨w3.heap.size, 0, none⟩ = some (.int .i64 q1) ∧ w'.cell? ⟨w3.heap.size, 1, none⟩ = some (.int .i64 q2) ∧ w'.cell? ⟨w3.heap.size, 2, none⟩ = some (.int .i64 q3) ∧ w'.cell? ⟨w3.heap.size, 3, none⟩ = some (.int .i64 q4) ∧ Below w.heap.size w w')) (by kernel_rfl) ?_ (fun hH => ?_)
  · exact ⟨P3.out.drew.cell (i := 0) rfl, P3.out.drew.cell (i := 1) rfl, Q3.out.drew.cell (i := 0) rfl, Q3.out.drew.cell (i := 1) rfl, Q3.out.drew.cell (i := 2) rfl, Q3.out.drew.cell (i := 3) rfl, B3.out.drew⟩
  refine wpAnyH_take (i := 0) (oi := { dst := some 29, op := _, type := _, pos := _, after := _, guard := _ }) (v := ?_) rfl (by kernel_rfl) (by kernel_rfl) (by kernel_rfl) (fun _ _ _ h => h) (Or.inl ⟨by rfl, ?_⟩) hH ?_
  rotate_left 1
  · intro W hSw
    (try dsimp only at hSw)
    go_simp
    (try with_reducible rfl)
  try simp only [Act.put, List.setIfInBounds_toArray, List.set_cons_zero, List.set_cons_succ]
  refine wpAnyH_take (i := 1) (oi := { dst := some 30, op := _, type := _, pos := _, after := _, guard := _ }) (v := ?_) rfl (by kernel_rfl) (by kernel_rfl) (by kernel_rfl) (fun _ _ _ h => h) (Or.inl ⟨by rfl, ?_⟩) hH ?_
  rotate_left 1
  · intro W hSw
    (try dsimp only at hSw)
    go_simp
    (try with_reducible rfl)
  try simp only [Act.put, List.setIfInBounds_toArray, List.set_cons_zero, List.set_cons_succ]
  refine wpAnyH_take (i := 2) (oi := { dst := some 31, op := _, type := _, pos := _, after := _, guard := _ }) (v := ?_) rfl (by kernel_rfl) (by kernel_rfl) (by kernel_rfl) (fun _ _ _ h => h) (Or.inl ⟨by rfl, ?_⟩) hH ?_
  rotate_left 1
  · intro W hSw
    (try dsimp only at hSw)
    go_simp
    (try with_reducible rfl)
  try simp only [Act.put, List.setIfInBounds_toArray, List.set_cons_zero, List.set_cons_succ]
  refine wpAnyH_take (i := 4) (oi := { dst := some 33, op := _, type := _, pos := _, after := _, guard := _ }) (v := ?_) rfl (by kernel_rfl) (by kernel_rfl) (by kernel_rfl) (fun _ _ _ h => h) (Or.inl ⟨by rfl, ?_⟩) hH ?_
  rotate_left 1
  · intro W hSw
    (try dsimp only at hSw)
    go_simp
    (try with_reducible rfl)
  try simp only [Act.put, List.setIfInBounds_toArray, List.set_cons_zero, List.set_cons_succ]
  refine wpAnyH_take (i := 5) (oi := { dst := some 34, op := _, type := _, pos := _, after := _, guard := _ }) (v := ?_) rfl (by kernel_rfl) (by kernel_rfl) (by kernel_rfl) (fun _ _ _ h => h) (Or.inl ⟨by rfl, ?_⟩) hH ?_
  rotate_left 1
  · intro W hSw
    (try dsimp only at hSw)
    go_simp
    (try with_reducible rfl)
  try simp only [Act.put, List.setIfInBounds_toArray, List.set_cons_zero, List.set_cons_succ]
  refine wpAnyH_take (i := 6) (oi := { dst := some 35, op := _, type := _, pos := _, after := _, guard := _ }) (v := ?_) rfl (by kernel_rfl) (by kernel_rfl) (by kernel_rfl) (fun _ _ _ h => h) (Or.inl ⟨by rfl, ?_⟩) hH ?_
  rotate_left 1
  · intro W hSw
    (try dsimp only at hSw)
    go_simp
    (try with_reducible rfl)
  try simp only [Act.put, List.setIfInBounds_toArray, List.set_cons_zero, List.set_cons_succ]
  refine wpAnyH_ready (rs := [3]) (by kernel_rfl) (by simp) (AllReadyH.cons rfl (fun K hK => ?_) AllReadyH.nil)
  go_simp
  go_at_call 14; ((with_reducible refine (A1.out _).mono ?_); rintro e9 r1 ⟨rfl, hb1⟩); have R1 := K3.out.drew.below hb1; go_wp2_with fail
  refine hK.out _ _ ?_ (fun hG => ?_)
  · exact ⟨cell_below hb1 hH.1, cell_below hb1 hH.2.1, cell_below hb1 hH.2.2.1, cell_below hb1 hH.2.2.2.1, cell_below hb1 hH.2.2.2.2.1, cell_below hb1 hH.2.2.2.2.2.1, hH.2.2.2.2.2.2.trans (hb1.mono hH.2.2.2.2.2.2.size)⟩
  replace hH := hG
  clear hK K hG
  try simp only [Act.put, List.setIfInBounds_toArray, List.set_cons_zero, List.set_cons_succ]
  refine wpAnyH_ready (rs := [7]) (by kernel_rfl) (by simp) (AllReadyH.cons rfl (fun K hK => ?_) AllReadyH.nil)
  go_simp
  go_at_call 14; ((with_reducible refine (A2.out _).mono ?_); rintro e9 r2 ⟨rfl, hb2⟩); have R2 := R1.below hb2; go_wp2_with fail
  refine hK.out _ _ ?_ (fun hG => ?_)
  · exact ⟨cell_below hb2 hH.1, cell_below hb2 hH.2.1, cell_below hb2 hH.2.2.1, cell_below hb2 hH.2.2.2.1, cell_below hb2 hH.2.2.2.2.1, cell_below hb2 hH.2.2.2.2.2.1, hH.2.2.2.2.2.2.trans (hb2.mono hH.2.2.2.2.2.2.size)⟩
  replace hH := hG
  clear hK K hG
  try simp only [Act.put, List.setIfInBounds_toArray, List.set_cons_zero, List.set_cons_succ]
  refine wpAnyH_take (i := 8) (oi := { dst := some 37, op := _, type := _, pos := _, after := _, guard := _ }) (v := ?_) rfl (by kernel_rfl) (by kernel_rfl) (by kernel_rfl) (fun _ _ _ h => h) (Or.inl ⟨by rfl, ?_⟩) hH ?_
  rotate_left 1
  · intro W hSw
    (try dsimp only at hSw)
    go_simp
    (try with_reducible rfl)
  try simp only [Act.put, List.setIfInBounds_toArray, List.set_cons_zero, List.set_cons_succ]
  refine wpAnyH_ready (rs := [9]) (by kernel_rfl) (by simp) (AllReadyH.cons rfl (fun K hK => ?_) AllReadyH.nil)
  (refine step_store_row rfl 30 (.tmp 4) (.tmp 37) rfl (w.heap.size + 1) #[.int .i64 (lx + q1), .int .i64 (ly + q2), .int .i64 (lx + q3), .int .i64 (ly + q4)] (by simp [Act.eval, Act.put]) (by simp [Act.eval, Act.put]) 30 #[.int .i64 0, .int .i64 0, .int .i64 0, .int .i64 0] R2 (by kernel_rfl) rfl (by simp [Value.oneCell']) ?_; refine (show K (Act.put _ none _) _ from ?_); have hgR := row_grown r2 (w.heap.size + 1) #[.int .i64 (lx + q1), .int .i64 (ly + q2), .int .i64 (lx + q3), .int .i64 (ly + q4)])
  refine hK.out _ _ ?_ (fun hG => ?_)
  · exact ⟨hgR.cell hH.1 (fun e => by have e := Option.some.inj e; (have e9 : w1.heap.size = w.heap.size + 1 := e); omega), hgR.cell hH.2.1 (fun e => by have e := Option.some.inj e; (have e9 : w1.heap.size = w.heap.size + 1 := e); omega), hgR.cell hH.2.2.1 (fun e => by have e := Option.some.inj e; (have e9 : w3.heap.size = w.heap.size + 1 := e); omega), hgR.cell hH.2.2.2.1 (fun e => by have e := Option.some.inj e; (have e9 : w3.heap.size = w.heap.size + 1 := e); omega), hgR.cell hH.2.2.2.2.1 (fun e => by have e := Option.some.inj e; (have e9 : w3.heap.size = w.heap.size + 1 := e); omega), hgR.cell hH.2.2.2.2.2.1 (fun e => by have e := Option.some.inj e; (have e9 : w3.heap.size = w.heap.size + 1 := e); omega), hH.2.2.2.2.2.2.grown hgR hH.2.2.2.2.2.2.size (fun z9 e9 => by have e9 := Option.some.inj e9; omega)⟩
  replace hH := hG
  clear hK K hG
  try simp only [Act.put, List.setIfInBounds_toArray, List.set_cons_zero, List.set_cons_succ]
  refine wpAnyH_take (i := 10) (oi := { dst := some 5, op := _, type := _, pos := _, after := _, guard := _ }) (v := ?_) rfl (by kernel_rfl) (by kernel_rfl) (by kernel_rfl) (fun _ _ _ h => h) (Or.inl ⟨by rfl, ?_⟩) hH ?_
  rotate_left 1
  · intro W hSw
    (try dsimp only at hSw)
    go_simp
    (try with_reducible rfl)
  try simp only [Act.put, List.setIfInBounds_toArray, List.set_cons_zero, List.set_cons_succ]
  refine wpAnyH_done (by kernel_rfl) ?_ _
  refine NoPanic.normal ?_
  have KX := row_bk #[.int .i64 (lx + q1), .int .i64 (ly + q2), .int .i64 (lx + q3), .int .i64 (ly + q4)] R2
  have r0 := KX.cell (i := 0) rfl
  have r1' := KX.cell (i := 1) rfl
  have r2' := KX.cell (i := 2) rfl
  have r3' := KX.cell (i := 3) rfl
  have BX := hH.2.2.2.2.2.2
  clear hH
  go_wp2_with fail
  (try simp only [Exit.inBlock, Exit.then])
  refine bodyPost_ret (v := .tuple #[box4 (lx + q1) (ly + q2) (lx + q3) (ly + q4), .bool true]) (by simp [results, Try.results5, go_sem, r0, r1', r2', r3']; try rfl) rfl ?_
  exact ⟨rfl, BX⟩
end Go.Proofs.Ytejeikfgmiadhaa.Lb10
