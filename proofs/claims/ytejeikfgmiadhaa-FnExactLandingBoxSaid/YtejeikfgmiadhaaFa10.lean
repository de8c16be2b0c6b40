/- How far a drop goes to each side, of the program. -/
import Derived.Test.YtejeikfgmiadhaaFw10
import Derived.Test.YtejeikfgmiadhaaFr
import Derived.Deep.RegionHeld3
set_option linter.unusedVariables false
set_option linter.unusedSimpArgs false
namespace Go.Proofs.Ytejeikfgmiadhaa.Fa10
open Go.RowKit Go.ChangeShapes Go.WideShapes Go.WideElems Go.Deep Go.Proofs.Ytejeikfgmiadhaa.Mem Go.Proofs.Ytejeikfgmiadhaa.Rw Go.Proofs.Ytejeikfgmiadhaa.P2 Go.Proofs.Ytejeikfgmiadhaa.Bk Go.Proofs.Ytejeikfgmiadhaa.Jt Go.Proofs.Ytejeikfgmiadhaa.Cm Go.Proofs.Ytejeikfgmiadhaa.Cx Go.Proofs.Ytejeikfgmiadhaa.Pl Go.Proofs.Ytejeikfgmiadhaa.Hd Go.Proofs.Ytejeikfgmiadhaa.Str
open Go.Proofs.Ytejeikfgmiadhaa.Wz Go.Proofs.Ytejeikfgmiadhaa.Fw10
open Go.Proofs.Ytejeikfgmiadhaa.Wr (rs)
open Go.Proofs.Ytejeikfgmiadhaa.Pls (pls)
open Go.Proofs.Ytejeikfgmiadhaa.Bo (boxA)
open Go.Proofs.Ytejeikfgmiadhaa.Bxi (bx ib)
open Go.Proofs.Ytejeikfgmiadhaa.Dp (landV landI flightI fl_yes inF_iff told2_yes told2_no)
set_option linter.unusedVariables false
set_option linter.unusedSimpArgs false

theorem complexW (x y : Int) (hx : x.natAbs < 16777216) (hy : y.natAbs < 16777216) (w : World) : Calls Try.prog 30 #[.agg #[.int .i64 x, .int .i64 y]] w fun e w' => e = .returned (.complex .f32 (Meas.f32 x) (Meas.f32 y)) ∧ Below w.heap.size w w' :=
  (Pw.complexOf x y hx hy w).mono fun e w9 ⟨h1, h2⟩ => ⟨h1, by rw [h2]; exact ((Below.refl _ _).alloc (Nat.le_refl _) _).drew⟩
theorem gt_w {V U : Int} {b : Bool} (hb : b = decide (U < V)) (hV : -8192 ≤ V ∧ V ≤ 8192) (hU : -8192 ≤ U ∧ U ≤ 8192) {r s : Nat} (h1 : I32 V r) (h2 : I32 U s) : (FloatKind.f32.format.order r s == some Ordering.gt) = b := by
  subst hb
  have : FloatKind.f32.format.order r s = some (compare V U) := order_is (s32 V (by omega)) (s32 U (by omega)) h1 h2
  rw [this]
  by_cases h : U < V
  · rw [decide_eq_true h]
    have e : compare V U = .gt := Meas.cmp_gt h
    rw [e]; rfl
  · rw [decide_eq_false h]
    rcases Int.lt_or_eq_of_le (Int.not_lt.1 h) with h | h
    · rw [Meas.cmp_lt h]; rfl
    · subst h; rw [Meas.cmp_eq rfl]; rfl
set_option maxRecDepth 100000 in
set_option maxHeartbeats 2000000 in
theorem wayW {x y h : Int} {p q : Nat} (hh : hd h = true) (hx : (-8192 ≤ x ∧ x ≤ 8192) ∧ (-8192 ≤ y ∧ y ≤ 8192)) (hp : I32 x p) (hq : I32 y q) (w : World) :
    Calls Try.prog 46 #[.complex .f32 p q, .int .i64 h] w fun e w' => (∃ r, e = .returned (.float .f32 r) ∧ I32 (wv h (x, y)) r) ∧ Below w.heap.size w w' := by
  obtain ⟨h0, h3⟩ := hd_yes hh
  have U := Lib.hid units
  have n0 : ∀ W, (Op.unary .neg (.float .f32 0)).run Try.prog W = .ok (.float .f32 2147483648) W := fun W => by rfl
  have n1 : ∀ W, (Op.unary .neg (.float .f32 1065353216)).run Try.prog W = .ok (.float .f32 3212836864) W := fun W => by rfl
  have n2 : ∀ W, (Op.unary .neg (.float .f32 3212836864)).run Try.prog W = .ok (.float .f32 1065353216) W := fun W => by rfl
  obtain ⟨r0, i0, M0, j0, k0⟩ := cmul (P := Try.prog) (a := x) (b := y) (c := 1) (d := 0) (by omega) (by omega) (by decide) (by decide) hp hq u32_1 u32_m0
  obtain ⟨r1, i1, M1, j1, k1⟩ := cmul (P := Try.prog) (a := x) (b := y) (c := 0) (d := -1) (by omega) (by omega) (by decide) (by decide) hp hq u32_0 u32_m1
  obtain ⟨r2, i2, M2, j2, k2⟩ := cmul (P := Try.prog) (a := x) (b := y) (c := -1) (d := 0) (by omega) (by omega) (by decide) (by decide) hp hq u32_m1 u32_m0
  obtain ⟨r3, i3, M3, j3, k3⟩ := cmul (P := Try.prog) (a := x) (b := y) (c := 0) (d := 1) (by omega) (by omega) (by decide) (by decide) hp hq u32_0 u32_1
  have J0 := Lib.hid (show I32 (wv 0 (x, y)) r0 by show I32 x r0; rw [show x = x * 1 - y * 0 by omega]; exact j0)
  have J1 := Lib.hid (show I32 (wv 1 (x, y)) r1 by show I32 y r1; rw [show y = x * 0 - y * -1 by omega]; exact j1)
  have J2 := Lib.hid (show I32 (wv 2 (x, y)) r2 by show I32 (-x) r2; rw [show -x = x * -1 - y * 0 by omega]; exact j2)
  have J3 := Lib.hid (show I32 (wv 3 (x, y)) r3 by show I32 (-y) r3; rw [show -y = x * 0 - y * 1 by omega]; exact j3)
  clear j0 j1 j2 j3 k0 k1 k2 k3 hx hh hp hq
  have hc : h = 0 ∨ h = 1 ∨ h = 2 ∨ h = 3 := by omega
  clear h0 h3
  rcases hc with rfl | rfl | rfl | rfl
  · go_enter Try.func46, Try.ntmps46
    go_wp2_with fail
    refine (U.out _).mono ?_
    rintro e w' ⟨rfl, rfl⟩
    go_wp2_with fail
    go_ret
    exact ⟨⟨_, rfl, J0.out⟩, by go_grown⟩
  · go_enter Try.func46, Try.ntmps46
    go_wp2_with fail
    refine (U.out _).mono ?_
    rintro e w' ⟨rfl, rfl⟩
    go_wp2_with fail
    go_ret
    exact ⟨⟨_, rfl, J1.out⟩, by go_grown⟩
  · go_enter Try.func46, Try.ntmps46
    go_wp2_with fail
    refine (U.out _).mono ?_
    rintro e w' ⟨rfl, rfl⟩
    go_wp2_with fail
    go_ret
    exact ⟨⟨_, rfl, J2.out⟩, by go_grown⟩
  · go_enter Try.func46, Try.ntmps46
    go_wp2_with fail
    refine (U.out _).mono ?_
    rintro e w' ⟨rfl, rfl⟩
    go_wp2_with fail
    go_ret
    exact ⟨⟨_, rfl, J3.out⟩, by go_grown⟩
theorem wv_le {h x y B : Int} (hx : -B ≤ x ∧ x ≤ B) (hy : -B ≤ y ∧ y ≤ B) : -B ≤ wv h (x, y) ∧ wv h (x, y) ≤ B := Pw.txle hx hy
theorem ms_le {x : Int} (h : ms x = true) : -4096 ≤ x ∧ x ≤ 4096 := by
  unfold ms at h
  simp only [Bool.and_eq_true, decide_eq_true_eq] at h
  exact h
theorem bx_le {x y z u : Int} (h : bx x y z u = true) : ((-4096 ≤ x ∧ x ≤ 4096) ∧ (-4096 ≤ y ∧ y ≤ 4096)) ∧ (-4096 ≤ z ∧ z ≤ 4096) ∧ (-4096 ≤ u ∧ u ≤ 4096) := by
  unfold bx at h
  simp only [Bool.and_eq_true] at h
  exact ⟨⟨ms_le h.1.1.1.1, ms_le h.1.1.1.2⟩, ms_le h.1.1.2.1, ms_le h.1.1.2.2⟩
theorem hd_nat {k : Nat} (h : k < 4) : hd (k : Int) = true := by
  match k, h with
  | 0, _ => rfl
  | 1, _ => rfl
  | 2, _ => rfl
  | 3, _ => rfl
theorem landV_yes {x y h t l : Int} (hj : jt x y h t l = true) : landV x y h t l = .tuple #[.agg #[.int .i64 (land x y h t l).1, .int .i64 (land x y h t l).2], .bool true] := by
  have hl := (jt_iff.1 hj).2.2.2.2
  unfold landV
  rw [fl_yes hj, told2_yes (inF_iff.2 ⟨hj, by omega, by omega⟩)]
  rfl

set_option maxRecDepth 100000 in
set_option maxHeartbeats 4000000 in
theorem farthest {x y h t l k : Int} (A : Option Addr) (n c : Nat) (ps : List (Int × Int)) (hj : jt x y h t l = true) (hp : rs ps = true) (hk : hd k = true) (w : World) (hn : ps.length = n) (hb : n ≤ 1048576) (hr : Rd w w.heap.size A (pls ps)) :
    Calls Try.prog 18 #[jv x y h t l, .slice A n c, .int .i64 k] w fun e w' => (∃ a b, e = .returned (.complex .f32 a b) ∧ I32 (far x y h t l ps k).1 a ∧ I32 (far x y h t l ps k).2 b) ∧ Below w.heap.size w w' := by
  have hl := land_le hj
  have hwo := wor_le hp k
  obtain ⟨lx, hlx⟩ : ∃ a, (land x y h t l).1 = a := ⟨_, rfl⟩
  obtain ⟨ly, hly⟩ : ∃ a, (land x y h t l).2 = a := ⟨_, rfl⟩
  obtain ⟨dx, hdx⟩ : ∃ a, (wor k ps).1 = a := ⟨_, rfl⟩
  obtain ⟨dy, hdy⟩ : ∃ a, (wor k ps).2 = a := ⟨_, rfl⟩
  obtain ⟨hN, hN2⟩ := nN_le hj
  obtain ⟨N, hN9⟩ : ∃ a, nN l = a := ⟨_, rfl⟩
  have HV := Lib.hid (show far x y h t l ps k = (lx + (N : Int) * dx, ly + (N : Int) * dy) by unfold far; rw [hlx, hly, hdx, hdy, hN9])
  rw [HV.out]
  have CL := Lib.hid (fun (W : World) => (by have := landI x y h t l W; rw [landV_yes hj, hlx, hly] at this; exact this : Calls Try.prog 29 #[jv x y h t l] W fun e w' => e = .returned (.tuple #[.agg #[.int .i64 lx, .int .i64 ly], .bool true]) ∧ Below W.heap.size W w'))
  have CF := Lib.hid (fun (W : World) => (by have := flightI x y h t l W; rw [fl_yes hj, ← hN, hN9] at this; exact this : Calls Try.prog 32 #[jv x y h t l] W fun e w' => e = .returned (.int .i64 (N : Int)) ∧ Below W.heap.size W w'))
  have CW := Lib.hid (fun (W : World) (h : Below w.heap.size w W) => (by have := worstI A n c ps k W hn hb ((hr.below h).more h.size); rw [w_yes hp hk] at this; unfold Wa.pq at this; rw [hdx, hdy] at this; exact this : Calls Try.prog 31 #[.slice A n c, .int .i64 k] W fun e w' => e = .returned (.agg #[.int .i64 dx, .int .i64 dy]) ∧ Below W.heap.size W w'))
  rw [hlx, hly] at hl
  rw [hdx, hdy] at hwo
  rw [hN9] at hN2
  have CA := Lib.hid (fun (W : World) => complexW lx ly (by omega) (by omega) W)
  have CB := Lib.hid (fun (W : World) => complexW dx dy (by omega) (by omega) W)
  have K0 := Lib.hid (Bk.new w #[.int .i64 x, .int .i64 y, .int .i64 h, .int .i64 t, .int .i64 l] 34)
  have B0 := Lib.hid ((Below.refl w.heap.size w).alloc (Nat.le_refl _) (.cells #[.int .i64 x, .int .i64 y, .int .i64 h, .int .i64 t, .int .i64 l] 34))
  have c0 := K0.out.cell (i := 0) rfl
  have c1 := K0.out.cell (i := 1) rfl
  have c2 := K0.out.cell (i := 2) rfl
  have c3 := K0.out.cell (i := 3) rfl
  have c4 := K0.out.cell (i := 4) rfl
  clear hlx hly hdx hdy hN9 hN hr hn hb hj hp hk HV
  go_enter Try.func18, Try.ntmps18
  go_wp2_with fail
  refine (CL.out _).mono ?_
  rintro e w1 ⟨rfl, hb1⟩
  have K1 := Lib.hid ((K0.out.below hb1).alloc (o := .cells #[.int .i64 lx, .int .i64 ly] 28))
  have B1a := B0.out.trans (hb1.mono B0.out.size)
  have KP := Bk.new w1 #[.int .i64 lx, .int .i64 ly] 28
  have p0 := KP.cell (i := 0) rfl
  have p1 := KP.cell (i := 1) rfl
  have B1 := Lib.hid (B1a.alloc B1a.size (.cells #[.int .i64 lx, .int .i64 ly] 28))
  clear hb1 K0 B0 CL c0 c1 c2 c3 c4 B1a KP
  go_wp2_with fail
  refine (CA.out _).mono ?_
  rintro e w2 ⟨rfl, hb2⟩
  have K2 := Lib.hid (K1.out.below hb2)
  have B2 := Lib.hid (B1.out.trans (hb2.mono B1.out.size))
  have CW2 := Lib.hid (CW.out _ B2.out)
  clear hb2 K1 B1 CA CW p0 p1
  go_wp2_with fail
  refine CW2.out.mono ?_
  rintro e w3 ⟨rfl, hb3⟩
  have K3 := Lib.hid (K2.out.below hb3)
  have B3 := Lib.hid (B2.out.trans (hb3.mono B2.out.size))
  clear hb3 K2 B2 CW2
  go_wp2_with fail
  refine (CB.out _).mono ?_
  rintro e w4 ⟨rfl, hb4⟩
  have K4 := Lib.hid (K3.out.below hb4)
  have B4 := Lib.hid (B3.out.trans (hb4.mono B3.out.size))
  have c0 := K4.out.cell (i := 0) rfl
  have c1 := K4.out.cell (i := 1) rfl
  have c2 := K4.out.cell (i := 2) rfl
  have c3 := K4.out.cell (i := 3) rfl
  have c4 := K4.out.cell (i := 4) rfl
  clear hb4 K3 B3 CB K4
  go_wp2_with fail
  refine (CF.out _).mono ?_
  rintro e w5 ⟨rfl, hb5⟩
  have B5 := Lib.hid (B4.out.trans (hb5.mono B4.out.size))
  clear hb5 B4 CF c0 c1 c2 c3 c4
  obtain ⟨d1, hd1⟩ : ∃ a, Meas.f32 dx = a := ⟨_, rfl⟩
  obtain ⟨d2, hd2⟩ : ∃ a, Meas.f32 dy = a := ⟨_, rfl⟩
  have ID := Lib.hid (show I32 dx d1 ∧ I32 dy d2 by rw [← hd1, ← hd2]; exact ⟨i32_f32 _, i32_f32 _⟩)
  obtain ⟨z1, hz1⟩ : ∃ a, Meas.f32 lx = a := ⟨_, rfl⟩
  obtain ⟨z2, hz2⟩ : ∃ a, Meas.f32 ly = a := ⟨_, rfl⟩
  have IZ := Lib.hid (show I32 (lx + ((0 : Nat) : Int) * dx) z1 ∧ I32 (ly + ((0 : Nat) : Int) * dy) z2 by rw [← hz1, ← hz2]; simp only [Int.natCast_zero, Int.zero_mul, Int.add_zero]; exact ⟨i32_f32 _, i32_f32 _⟩)
  simp only [hd1, hd2, hz1, hz2]
  clear hd1 hd2 hz1 hz2
  go_wp2_with fail
  go_loopw [9, 24] (fun v i wr => ∃ q : Nat, q ≤ N ∧ i = .int .i64 q ∧ (∃ a b, v = .complex .f32 a b ∧ Hid (I32 (lx + (q : Int) * dx) a ∧ I32 (ly + (q : Int) * dy) b)) ∧ Hid (Below w.heap.size w wr)) (fun _ i _ => N - (intOf i).toNat)
  case atStart => exact ⟨0, Nat.zero_le _, rfl, ⟨z1, z2, rfl, IZ⟩, B5⟩
  case round =>
    obtain ⟨q, hq, rfl, ⟨a, b, rfl, IK⟩, BK⟩ := hrel
    clear IZ B5
    by_cases hlt : q < N
    · have m1 := mul33 (n := q) (by omega) hwo.1
      have m2 := mul33 (n := q) (by omega) hwo.2
      obtain ⟨r1, r2, e2, k1, k2⟩ := csum (P := Try.prog) .add 1 (Or.inl ⟨rfl, rfl⟩) (a := lx + (q : Int) * dx) (b := ly + (q : Int) * dy) (c := dx) (d := dy) (by omega) (by omega) (by omega) (by omega) IK.out.1 IK.out.2 ID.out.1 ID.out.2
      have IN := Lib.hid (show I32 (lx + ((q + 1 : Nat) : Int) * dx) r1 ∧ I32 (ly + ((q + 1 : Nat) : Int) * dy) r2 by
        rw [show ((q + 1 : Nat) : Int) = (q : Int) + 1 by omega, Int.add_mul, Int.add_mul, ← Int.add_assoc, ← Int.add_assoc]
        exact ⟨k1, k2⟩)
      clear k1 k2 m1 m2 IK
      go_wp2_with fail
      go_roundw
      case rel => exact ⟨q + 1, by omega, by go_num, ⟨r1, r2, rfl, IN⟩, BK⟩
      case measure => simp [intOf]; omega
    · obtain rfl : N = q := by omega
      go_wp2_with fail
      go_ret
      exact ⟨⟨a, b, rfl, IK.out.1, IK.out.2⟩, BK.out⟩

/-- What wetHeading tells. -/
def wetHV : Option Nat → Value
  | some k => .tuple #[.int .i64 (k : Int), .bool true]
  | none => .tuple #[.int .i64 0, .bool false]
theorem find_at {f : Nat → Bool} {k : Nat} (hk : k < 4) (hf : f k = true) (h : ∀ j, j < k → f j = false) : [0, 1, 2, 3].find? f = some k := by
  match k, hk with
  | 0, _ => simp [List.find?, hf]
  | 1, _ => simp [List.find?, hf, h 0 (by omega)]
  | 2, _ => simp [List.find?, hf, h 0 (by omega), h 1 (by omega)]
  | 3, _ => simp [List.find?, hf, h 0 (by omega), h 1 (by omega), h 2 (by omega)]
theorem find_no {f : Nat → Bool} (h : ∀ j, j < 4 → f j = false) : [0, 1, 2, 3].find? f = none := by
  simp [List.find?, h 0 (by omega), h 1 (by omega), h 2 (by omega), h 3 (by omega)]

end Go.Proofs.Ytejeikfgmiadhaa.Fa10
