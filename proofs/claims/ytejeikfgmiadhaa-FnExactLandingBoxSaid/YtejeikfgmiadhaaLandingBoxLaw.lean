/- The law FnExactLandingBox holds at every input. The step from the walk to the row follows the guide's own template. -/
import Derived.Test.YtejeikfgmiadhaaMem
import Derived.Test.YtejeikfgmiadhaaPls4
import Derived.Test.YtejeikfgmiadhaaBxq
import Derived.Test.YtejeikfgmiadhaaJl
import Derived.Test.YtejeikfgmiadhaaLb10
import Derived.Test.YtejeikfgmiadhaaTj
set_option linter.unusedVariables false
set_option linter.unusedSimpArgs false
namespace Go.Proofs.Ytejeikfgmiadhaa.fnExactLandingBox
open Go.ChangeShapes Go.WideShapes Go.ChangeAt Go.RowKit Go.WideMaps Go.WideElems Go.Proofs.Ytejeikfgmiadhaa.Mem
open Go.ChangeMaps (open_string shut_string)
set_option linter.unusedVariables false
set_option linter.unusedSimpArgs false

theorem own : ownKnob Try.prog.godebug = none := by kernel_rfl
theorem laidOut : laidOutB Try.prog = true := by kernel_rfl

open Go.Proofs.Ytejeikfgmiadhaa.Rw (owns_below owns_grown owns_base)
open Go.Proofs.Ytejeikfgmiadhaa.Bk Go.Proofs.Ytejeikfgmiadhaa.P2 Go.Proofs.Ytejeikfgmiadhaa.Jt Go.Proofs.Ytejeikfgmiadhaa.Dp
open Go.Proofs.Ytejeikfgmiadhaa.Tb (box4)
open Go.Proofs.Ytejeikfgmiadhaa.Pls (pls)
open Go.Proofs.Ytejeikfgmiadhaa.Lb10

theorem szP_yes (A : Option Addr) (n c : Nat) (L : Int) (hL2 : IntKind.i64.wrap (L - (n : Int)) = L - n) (hL : wrap64 (L - (n : Int)) = L - n) (h : ¬ L - (n : Int) < 0) (w : World) :
    Calls Try.prog 4 #[.slice A n c, .int .i64 L] w fun e w' => e = .returned (.int .i64 (L - (n : Int))) ∧ Below w.heap.size w w' := by
  go_enter Try.func4, Try.ntmps4
  go_wp2
  go_ret
  exact ⟨rfl, Below.refl _ _⟩
theorem szP_no (A : Option Addr) (n c : Nat) (L : Int) (hL2 : IntKind.i64.wrap (L - (n : Int)) = L - n) (hL : wrap64 (L - (n : Int)) = L - n) (h : L - (n : Int) < 0) (w : World) :
    Calls Try.prog 4 #[.slice A n c, .int .i64 L] w fun e w' => e = .returned (.int .i64 (-1)) ∧ Below w.heap.size w w' := by
  go_enter Try.func4, Try.ntmps4
  go_wp2
  go_ret
  exact ⟨rfl, Below.refl _ _⟩

set_option maxRecDepth 100000 in
set_option maxHeartbeats 8000000 in
theorem walk (jx0 jy0 jh0 jt0 jl0 : Int) (wx0 : (Lit.int .i64 jx0).wf = true) (wy0 : (Lit.int .i64 jy0).wf = true) (wh0 : (Lit.int .i64 jh0).wf = true) (wt0 : (Lit.int .i64 jt0).wf = true) (wl0 : (Lit.int .i64 jl0).wf = true) (A9 : Option Addr) (n9 c9 : Nat) (ps : List (Int × Int)) (hn9 : ps.length = n9) (hm9 : n9 ≤ maxLen) (w : World) (hr9 : Rd w w.heap.size A9 (pls ps)) (hw9 : ∀ z ∈ ps, (Lit.int .i64 z.1).wf = true ∧ (Lit.int .i64 z.2).wf = true) :
    Calls Try.prog 3 #[jv jx0 jy0 jh0 jt0 jl0, .slice A9 n9 c9] w fun e w' => e = .returned (.bool true) ∧ Below w.heap.size w w' := by
  unfold maxLen at hm9
  clear hw9 wx0 wy0 wh0 wt0 wl0
  have B0 := (Below.refl w.heap.size w).alloc (Nat.le_refl _) (.cells #[.int .i64 jx0, .int .i64 jy0, .int .i64 jh0, .int .i64 jt0, .int .i64 jl0] 25)
  have K0 := Lib.hid (Bk.new w #[.int .i64 jx0, .int .i64 jy0, .int .i64 jh0, .int .i64 jt0, .int .i64 jl0] 25)
  have hL9 : wrap64 ((1048576 : Int) - (n9 : Int)) = 1048576 - n9 := IntWalk.wrap64_in _ (by omega)
  have hL8 : IntKind.i64.wrap ((1048576 : Int) - (n9 : Int)) = 1048576 - n9 := IntWalk.i64_in _ (by omega)
  by_cases hz9 : (1048576 : Int) - (n9 : Int) < 0
  · have BB := Lib.hid B0
    have SP := Lib.hid (fun (W : World) => szP_no A9 n9 c9 1048576 hL8 hL9 hz9 W)
    clear hn9 hm9 hr9 hL8 hL9 B0 K0
    go_enter Try.func3, Try.ntmps3
    go_wp2_with fail
    refine (SP.out _).mono ?_
    rintro e w2 ⟨rfl, hb⟩
    have B3 := BB.out.trans (hb.mono BB.out.size)
    clear hb SP BB
    go_wp2_with fail
    go_returns
    exact ⟨rfl, B3⟩
  have SP := Lib.hid (fun (W : World) => szP_yes A9 n9 c9 1048576 hL8 hL9 hz9 W)
  have HN9 := Lib.hid (show ps.length = n9 ∧ n9 ≤ 1048576 from ⟨hn9, by omega⟩)
  have HR9 := Lib.hid hr9
  have TJ := Lib.hid (toJet jx0 jy0 jh0 jt0 jl0)
  obtain ⟨⟨q1, q2, q3, q4⟩, hq⟩ : ∃ q, lbQ jx0 jy0 jh0 jt0 jl0 ps = q := ⟨_, rfl⟩
  obtain ⟨r, hrr⟩ : ∃ r : Bool, lbB jx0 jy0 jh0 jt0 jl0 ps = r := ⟨_, rfl⟩
  have CS := Lib.hid (show ∀ (g9 : Nat) (W : World) (h9 : Rd W W.heap.size (some ⟨g9, 0, none⟩) (pls ps)), Calls Try.prog 5 #[jv jx0 jy0 jh0 jt0 jl0, .slice (some ⟨g9, 0, none⟩) n9 n9] W (fun e w' => e = .returned (.tuple #[box4 q1 q2 q3 q4, .bool r]) ∧ Below W.heap.size W w') from fun g9 W h9 => by have := landBoxS jx0 jy0 jh0 jt0 jl0 _ n9 n9 ps W HN9.out.1 HN9.out.2 h9; rw [hq, hrr] at this; unfold Bo.bq at this; exact this)
  have CI := Lib.hid (show ∀ (g9 : Nat) (W : World) (h9 : Rd W W.heap.size (some ⟨g9, 0, none⟩) (pls ps)), Calls Try.prog 8 #[jv jx0 jy0 jh0 jt0 jl0, .slice (some ⟨g9, 0, none⟩) n9 n9] W (fun e w' => e = .returned (.tuple #[box4 q1 q2 q3 q4, .bool r]) ∧ Below W.heap.size W w') from fun g9 W h9 => by have := landBoxI jx0 jy0 jh0 jt0 jl0 _ n9 n9 ps W HN9.out.1 HN9.out.2 h9; rw [hq, hrr] at this; unfold Bo.bq at this; exact this)
  have BB := Lib.hid B0
  have hu : undef = Value.tuple #[] := rfl
  clear hn9 hm9 hr9 hL8 hL9 B0 hq hrr
  cases r
  all_goals
    go_enter Try.func3, Try.ntmps3
    have fK0_0 := K0.out.cell (i := 0) rfl
    have fK0_1 := K0.out.cell (i := 1) rfl
    have fK0_2 := K0.out.cell (i := 2) rfl
    have fK0_3 := K0.out.cell (i := 3) rfl
    have fK0_4 := K0.out.cell (i := 4) rfl
    go_wp2_with fail
    clear fK0_0 fK0_1 fK0_2 fK0_3 fK0_4
    refine (SP.out _).mono ?_
    rintro e V1 ⟨rfl, hb⟩
    have K01 := Lib.hid (K0.out.below hb)
    have B2 := Lib.hid (BB.out.trans (hb.mono BB.out.size))
    clear hb K0 BB
    have K0 := K01
    clear K01
    have BB := B2
    clear B2
    have fK0_0 := K0.out.cell (i := 0) rfl
    have fK0_1 := K0.out.cell (i := 1) rfl
    have fK0_2 := K0.out.cell (i := 2) rfl
    have fK0_3 := K0.out.cell (i := 3) rfl
    have fK0_4 := K0.out.cell (i := 4) rfl
    clear SP
    go_wp2_with fail
    clear fK0_0 fK0_1 fK0_2 fK0_3 fK0_4
    refine (TJ.out _).mono ?_
    rintro e V2 ⟨rfl, hb⟩
    have K01 := Lib.hid (K0.out.below hb)
    have B2 := Lib.hid (BB.out.trans (hb.mono BB.out.size))
    clear hb K0 BB
    have K0 := K01
    clear K01
    have BB := B2
    clear B2
    have fK0_0 := K0.out.cell (i := 0) rfl
    have fK0_1 := K0.out.cell (i := 1) rfl
    have fK0_2 := K0.out.cell (i := 2) rfl
    have fK0_3 := K0.out.cell (i := 3) rfl
    have fK0_4 := K0.out.cell (i := 4) rfl
    go_wp2_with fail
    clear fK0_0 fK0_1 fK0_2 fK0_3 fK0_4
    refine (Pls.toPlaceS A9 n9 c9 ps _ HN9.out.1 HN9.out.2 ((HR9.out.below BB.out).more BB.out.size)).mono ?_
    rintro e V3 ⟨gp, rfl, _, ho, hb⟩
    have XN_p := Lib.hid ho
    clear ho
    have K01 := Lib.hid (K0.out.below hb)
    have B2 := Lib.hid (BB.out.trans (hb.mono BB.out.size))
    clear hb K0 BB
    have K0 := K01
    clear K01
    have BB := B2
    clear B2
    have p := XN_p
    clear XN_p
    have fK0_0 := K0.out.cell (i := 0) rfl
    have fK0_1 := K0.out.cell (i := 1) rfl
    have fK0_2 := K0.out.cell (i := 2) rfl
    have fK0_3 := K0.out.cell (i := 3) rfl
    have fK0_4 := K0.out.cell (i := 4) rfl
    go_wp2_with fail
    clear fK0_0 fK0_1 fK0_2 fK0_3 fK0_4
    refine (CS.out _ _ (Rd.own p.out)).mono ?_
    rintro e V4 ⟨rfl, hb⟩
    have K01 := Lib.hid (K0.out.below hb)
    have B2 := Lib.hid (BB.out.trans (hb.mono BB.out.size))
    have pn := Lib.hid (owns_below p.out hb)
    clear hb K0 BB
    clear p
    have K0 := K01
    clear K01
    have BB := B2
    clear B2
    have p := pn
    clear pn
    clear p
    have hb := (Below.refl V4.heap.size V4).alloc (Nat.le_refl _) (.cells (#[.int .i64 q1, .int .i64 q2, .int .i64 q3, .int .i64 q4]) 30)
    have L0n := Lib.hid (Bk.new V4 (#[.int .i64 q1, .int .i64 q2, .int .i64 q3, .int .i64 q4]) 30)
    have K01 := Lib.hid (K0.out.below hb)
    have B2 := Lib.hid (BB.out.trans (hb.mono BB.out.size))
    clear hb K0 BB
    have K0 := K01
    clear K01
    have BB := B2
    clear B2
    have L0 := L0n
    clear L0n
    have fK0_0 := K0.out.cell (i := 0) rfl
    have fK0_1 := K0.out.cell (i := 1) rfl
    have fK0_2 := K0.out.cell (i := 2) rfl
    have fK0_3 := K0.out.cell (i := 3) rfl
    have fK0_4 := K0.out.cell (i := 4) rfl
    have fL0_0 := L0.out.cell (i := 0) rfl
    have fL0_1 := L0.out.cell (i := 1) rfl
    have fL0_2 := L0.out.cell (i := 2) rfl
    have fL0_3 := L0.out.cell (i := 3) rfl
    go_wp2_with fail
    clear fK0_0 fK0_1 fK0_2 fK0_3 fK0_4 fL0_0 fL0_1 fL0_2 fL0_3
    refine (Pls.toPlaceS A9 n9 c9 ps _ HN9.out.1 HN9.out.2 ((HR9.out.below BB.out).more BB.out.size)).mono ?_
    rintro e V5 ⟨gx, rfl, _, ho, hb⟩
    have XN_x := Lib.hid ho
    clear ho
    have K01 := Lib.hid (K0.out.below hb)
    have L01 := Lib.hid (L0.out.below hb)
    have B2 := Lib.hid (BB.out.trans (hb.mono BB.out.size))
    clear hb K0 L0 BB
    have K0 := K01
    clear K01
    have L0 := L01
    clear L01
    have BB := B2
    clear B2
    have x := XN_x
    clear XN_x
    have fK0_0 := K0.out.cell (i := 0) rfl
    have fK0_1 := K0.out.cell (i := 1) rfl
    have fK0_2 := K0.out.cell (i := 2) rfl
    have fK0_3 := K0.out.cell (i := 3) rfl
    have fK0_4 := K0.out.cell (i := 4) rfl
    have fL0_0 := L0.out.cell (i := 0) rfl
    have fL0_1 := L0.out.cell (i := 1) rfl
    have fL0_2 := L0.out.cell (i := 2) rfl
    have fL0_3 := L0.out.cell (i := 3) rfl
    go_wp2_with fail
    clear fK0_0 fK0_1 fK0_2 fK0_3 fK0_4 fL0_0 fL0_1 fL0_2 fL0_3
    refine (TJ.out _).mono ?_
    rintro e V6 ⟨rfl, hb⟩
    have K01 := Lib.hid (K0.out.below hb)
    have L01 := Lib.hid (L0.out.below hb)
    have B2 := Lib.hid (BB.out.trans (hb.mono BB.out.size))
    have xn := Lib.hid (owns_below x.out hb)
    clear hb K0 L0 BB
    clear x
    have K0 := K01
    clear K01
    have L0 := L01
    clear L01
    have BB := B2
    clear B2
    have x := xn
    clear xn
    have fK0_0 := K0.out.cell (i := 0) rfl
    have fK0_1 := K0.out.cell (i := 1) rfl
    have fK0_2 := K0.out.cell (i := 2) rfl
    have fK0_3 := K0.out.cell (i := 3) rfl
    have fK0_4 := K0.out.cell (i := 4) rfl
    have fL0_0 := L0.out.cell (i := 0) rfl
    have fL0_1 := L0.out.cell (i := 1) rfl
    have fL0_2 := L0.out.cell (i := 2) rfl
    have fL0_3 := L0.out.cell (i := 3) rfl
    go_wp2_with fail
    clear fK0_0 fK0_1 fK0_2 fK0_3 fK0_4 fL0_0 fL0_1 fL0_2 fL0_3
    refine (CI.out _ _ (Rd.own x.out)).mono ?_
    rintro e V7 ⟨rfl, hb⟩
    have K01 := Lib.hid (K0.out.below hb)
    have L01 := Lib.hid (L0.out.below hb)
    have B2 := Lib.hid (BB.out.trans (hb.mono BB.out.size))
    have xn := Lib.hid (owns_below x.out hb)
    clear hb K0 L0 BB
    clear x
    have K0 := K01
    clear K01
    have L0 := L01
    clear L01
    have BB := B2
    clear B2
    have x := xn
    clear xn
    have hb := (Below.refl V7.heap.size V7).alloc (Nat.le_refl _) (.cells (#[.int .i64 q1, .int .i64 q2, .int .i64 q3, .int .i64 q4]) 30)
    have L1n := Lib.hid (Bk.new V7 (#[.int .i64 q1, .int .i64 q2, .int .i64 q3, .int .i64 q4]) 30)
    have K01 := Lib.hid (K0.out.below hb)
    have L01 := Lib.hid (L0.out.below hb)
    have B2 := Lib.hid (BB.out.trans (hb.mono BB.out.size))
    have xn := Lib.hid (owns_below x.out hb)
    clear hb K0 L0 BB
    clear x
    have K0 := K01
    clear K01
    have L0 := L01
    clear L01
    have BB := B2
    clear B2
    have x := xn
    clear xn
    have L1 := L1n
    clear L1n
    have fK0_0 := K0.out.cell (i := 0) rfl
    have fK0_1 := K0.out.cell (i := 1) rfl
    have fK0_2 := K0.out.cell (i := 2) rfl
    have fK0_3 := K0.out.cell (i := 3) rfl
    have fK0_4 := K0.out.cell (i := 4) rfl
    have fL0_0 := L0.out.cell (i := 0) rfl
    have fL0_1 := L0.out.cell (i := 1) rfl
    have fL0_2 := L0.out.cell (i := 2) rfl
    have fL0_3 := L0.out.cell (i := 3) rfl
    have fL1_0 := L1.out.cell (i := 0) rfl
    have fL1_1 := L1.out.cell (i := 1) rfl
    have fL1_2 := L1.out.cell (i := 2) rfl
    have fL1_3 := L1.out.cell (i := 3) rfl
    go_wp2_with fail
    clear fK0_0 fK0_1 fK0_2 fK0_3 fK0_4 fL0_0 fL0_1 fL0_2 fL0_3 fL1_0 fL1_1 fL1_2 fL1_3
    refine (Bx.eqBox _ _ _ _ _).mono ?_
    rintro e V8 ⟨rfl, hb⟩
    have K01 := Lib.hid (K0.out.below hb)
    have L01 := Lib.hid (L0.out.below hb)
    have L11 := Lib.hid (L1.out.below hb)
    have B2 := Lib.hid (BB.out.trans (hb.mono BB.out.size))
    have xn := Lib.hid (owns_below x.out hb)
    clear hb K0 L0 L1 BB
    clear x
    have K0 := K01
    clear K01
    have L0 := L01
    clear L01
    have L1 := L11
    clear L11
    have BB := B2
    clear B2
    have x := xn
    clear xn
    have fK0_0 := K0.out.cell (i := 0) rfl
    have fK0_1 := K0.out.cell (i := 1) rfl
    have fK0_2 := K0.out.cell (i := 2) rfl
    have fK0_3 := K0.out.cell (i := 3) rfl
    have fK0_4 := K0.out.cell (i := 4) rfl
    have fL0_0 := L0.out.cell (i := 0) rfl
    have fL0_1 := L0.out.cell (i := 1) rfl
    have fL0_2 := L0.out.cell (i := 2) rfl
    have fL0_3 := L0.out.cell (i := 3) rfl
    have fL1_0 := L1.out.cell (i := 0) rfl
    have fL1_1 := L1.out.cell (i := 1) rfl
    have fL1_2 := L1.out.cell (i := 2) rfl
    have fL1_3 := L1.out.cell (i := 3) rfl
    clear fK0_0 fK0_1 fK0_2 fK0_3 fK0_4 fL0_0 fL0_1 fL0_2 fL0_3 fL1_0 fL1_1 fL1_2 fL1_3
    clear L0
    clear L1
    have fK0_0 := K0.out.cell (i := 0) rfl
    have fK0_1 := K0.out.cell (i := 1) rfl
    have fK0_2 := K0.out.cell (i := 2) rfl
    have fK0_3 := K0.out.cell (i := 3) rfl
    have fK0_4 := K0.out.cell (i := 4) rfl
    go_wp2_with fail
    clear fK0_0 fK0_1 fK0_2 fK0_3 fK0_4
    refine (Pls.toPlaceS A9 n9 c9 ps _ HN9.out.1 HN9.out.2 ((HR9.out.below BB.out).more BB.out.size)).mono ?_
    rintro e V9 ⟨gy, rfl, _, ho, hb⟩
    have XN_y := Lib.hid ho
    clear ho
    have K01 := Lib.hid (K0.out.below hb)
    have B2 := Lib.hid (BB.out.trans (hb.mono BB.out.size))
    have xn := Lib.hid (owns_below x.out hb)
    clear hb K0 BB
    clear x
    have K0 := K01
    clear K01
    have BB := B2
    clear B2
    have x := xn
    clear xn
    have y := XN_y
    clear XN_y
    have fK0_0 := K0.out.cell (i := 0) rfl
    have fK0_1 := K0.out.cell (i := 1) rfl
    have fK0_2 := K0.out.cell (i := 2) rfl
    have fK0_3 := K0.out.cell (i := 3) rfl
    have fK0_4 := K0.out.cell (i := 4) rfl
    go_wp2_with fail
    clear fK0_0 fK0_1 fK0_2 fK0_3 fK0_4
    refine (Pls.eqPlaceS _ _ n9 n9 n9 ps _ _ HN9.out.1 HN9.out.2 (Nat.le_refl _) (Rd.own x.out) (Rd.own y.out)).mono ?_
    rintro e V10 ⟨rfl, hb⟩
    have K01 := Lib.hid (K0.out.below hb)
    have B2 := Lib.hid (BB.out.trans (hb.mono BB.out.size))
    have xn := Lib.hid (owns_below x.out hb)
    have yn := Lib.hid (owns_below y.out hb)
    clear hb K0 BB
    clear x y
    have K0 := K01
    clear K01
    have BB := B2
    clear B2
    have x := xn
    clear xn
    have y := yn
    clear yn
    have fK0_0 := K0.out.cell (i := 0) rfl
    have fK0_1 := K0.out.cell (i := 1) rfl
    have fK0_2 := K0.out.cell (i := 2) rfl
    have fK0_3 := K0.out.cell (i := 3) rfl
    have fK0_4 := K0.out.cell (i := 4) rfl
    go_wp2_with fail
    go_ret
    exact ⟨rfl, BB.out⟩

set_option maxRecDepth 100000 in
theorem lifted (os : Os) (started : os.Started) (H : Type) (enc : TypeId × Value → H) :
    ReturnsInHanded {} Try.checked os 3 .any (Rows.fnExactLandingBoxSpec.pre6 enc Try.prog Try.f3 Rows.fnExactLandingBoxRow.domain false) (Rows.fnExactLandingBoxSpec.post enc Try.prog Try.f3 false true false false) := by
  refine returnsInHanded_of_change (C := Try.checked) own started (by kernel_rfl) Try.func3
    (ChangeSpec.witness6 (enc := enc) (C := Try.checked) false ⟨#[], #[.agg #[.int .i64 0, .int .i64 0, .int .i64 0, .int .i64 0, .int .i64 0], .slice none 0 0], []⟩ 8 (by kernel_rfl) (by kernel_rfl) (by kernel_rfl) (by kernel_rfl)) ?_
  intro W base args ds gs before hval0 hW hcnd hsz
  have hval : ∀ (j : Nat) t v, Try.f3.params[j]? = some t → args[j]? = some v → Value.okWide Try.prog W .any base t v := hval0
  have hW' := hW
  obtain ⟨p, q, hA0, hV, rfl, hfz, hnd⟩ := hW
  have hA1 := hA0
  have hA : DataW.TrodAll enc Try.prog W 0 (fun _ => true) true Try.f3.params.toList args.toList ds p := hA0
  rw [Try.params3] at hA hval
  obtain ⟨v0, vs0, d0, ds0, p0, q0, hargs, rfl, rfl, h0, r0⟩ := trodAll_cons hA
  obtain ⟨v1, vs1, d1, ds1, p1, q1, rfl, rfl, rfl, h1, r1⟩ := trodAll_cons r0
  obtain ⟨rfl, rfl, rfl⟩ := trodAll_nil r1
  obtain rfl : args = #[v0, v1] := by cases args; simp_all
  obtain ⟨rfl, rfl⟩ := trodVars_none hV
  obtain ⟨jx0, jy0, jh0, jt0, jl0, rfl, wx0, wy0, wh0, wt0, wl0⟩ := Str.take_jet Try.underlying25 (by kernel_rfl) rfl rfl rfl rfl rfl (by kernel_rfl) (by kernel_rfl) (by kernel_rfl) Try.underlying3 Try.underlying3 Try.underlying3 Try.underlying23 (by kernel_rfl) (by kernel_rfl) Try.underlying3 Try.underlying3 (hval 0 25 v0 rfl rfl) h0
  obtain ⟨A9, n9, c9, a9, rfl, l9, m9, g9, w9⟩ := Pls.take_places Try.underlying26 Try.underlying23 (by kernel_rfl) rfl rfl (by kernel_rfl) (by kernel_rfl) Try.underlying3 Try.underlying3 (hval 1 26 v1 rfl rfl) h1
  clear hA0 hval0
  rw [List.append_nil] at hW'
  refine (walk jx0 jy0 jh0 jt0 jl0 wx0 wy0 wh0 wt0 wl0 A9 n9 c9 a9 l9 m9 W g9 w9).mono fun e W' ⟨he, hb⟩ => ?_
  subst he
  exact ⟨_, rfl, post_law rfl hW' hA1 laidOut (by rw [Try.params3]; exact of_decide_eq_true (by kernel_rfl)) 4 (by kernel_rfl) Try.underlying4 rfl hb⟩

theorem over : Rows.fnExactLandingBoxRow.holds Try.pinned (OpenSpec.ofChange Rows.fnExactLandingBoxSpec) :=
  OpenClaim.holds_of_wide 3 Try.f3 rfl rfl rfl rfl rfl rfl rfl ⟨rfl, rfl, rfl, rfl, rfl⟩ rfl rfl rfl rfl rfl (by kernel_rfl) Try.func3 (by kernel_rfl)
    (of_decide_eq_true (by kernel_rfl)) (by unfold Func.isWrapper; first | (rw [if_pos (by decide +kernel)]; kernel_rfl) | (rw [if_neg (by decide +kernel)]; exact ⟨rfl, rfl⟩))
    (fun os started H enc _ => lifted os started H enc)

/-- The statement. -/
theorem proved : Rows.FnExactLandingBoxSaid :=
  over
#print axioms proved
end Go.Proofs.Ytejeikfgmiadhaa.fnExactLandingBox
