/- The law FnExactNewDesk holds at every input. The step from the walk to the row follows the guide's own template. -/
import Derived.Test.YtokncfhpmjohdaeM1
import Derived.Test.YtokncfhpmjohdaeNd11
import Derived.Test.YtokncfhpmjohdaeM5
import Derived.Test.YtokncfhpmjohdaeM4
set_option linter.unusedVariables false
set_option linter.unusedSimpArgs false
namespace Go.Proofs.Ytokncfhpmjohdae.fnExactNewDesk
open Go.ChangeShapes Go.WideShapes Go.ChangeAt Go.RowKit Go.WideMaps Go.WideElems Go.Proofs.Ytokncfhpmjohdae.Mem
open Go.ChangeMaps (open_string shut_string)
set_option linter.unusedVariables false
set_option linter.unusedSimpArgs false

theorem own : ownKnob Try.prog.godebug = none := by kernel_rfl
theorem laidOut : laidOutB Try.prog = true := by kernel_rfl

open Go.Proofs.Ytokncfhpmjohdae.P2 Go.Proofs.Ytokncfhpmjohdae.Bk Go.Proofs.Ytokncfhpmjohdae.Sp Go.Proofs.Ytokncfhpmjohdae.Sq Go.Proofs.Ytokncfhpmjohdae.St9
open Go.Proofs.Ytokncfhpmjohdae.Rw (owns_below owns_grown owns_base)

set_option maxRecDepth 100000 in
set_option maxHeartbeats 8000000 in
theorem walk (w : World) : Calls Try.prog 4 #[] w fun e w' => e = .returned (.bool true) ∧ Below w.heap.size w w' := by
  have BB := Lib.hid (Below.refl w.heap.size w)
  have hu : undef = Value.tuple #[] := rfl
  go_enter Try.func4, Try.ntmps4
  go_wp2_with fail
  refine (Nd11.newS _).mono ?_
  rintro e V1 ⟨gW0, cW0, rfl, ho, hb⟩
  have lw_W0 : w.heap.size ≤ gW0 := own_at ho
  have XN_W0 := Lib.hid ho
  have hl9 := own_lt ho
  clear ho
  have B2 := Lib.hid (BB.out.trans (hb.mono BB.out.size))
  clear hb BB
  have BB := B2
  clear B2
  have W0 := XN_W0
  clear XN_W0
  have hb := (Below.refl V1.heap.size V1).alloc (Nat.le_refl _) (.cells (#[.slice none 0 0, .slice none 0 0, .slice none 0 0, .int .i64 0, .slice (some ⟨gW0, 0, none⟩) 1 cW0, .int .i64 0, .int .i64 0, .int .i64 0, .int .i64 0]) 48)
  have K0n := Lib.hid (Bk.new V1 (#[.slice none 0 0, .slice none 0 0, .slice none 0 0, .int .i64 0, .slice (some ⟨gW0, 0, none⟩) 1 cW0, .int .i64 0, .int .i64 0, .int .i64 0, .int .i64 0]) 48)
  have ch_K0 : gW0 < V1.heap.size := hl9
  clear hl9
  have B2 := Lib.hid (BB.out.trans (hb.mono BB.out.size))
  have W0n := Lib.hid (owns_below W0.out hb)
  clear hb BB
  clear W0
  have BB := B2
  clear B2
  have W0 := W0n
  clear W0n
  have K0 := K0n
  clear K0n
  have fK0_0 := K0.out.cell (i := 0) rfl
  have fK0_1 := K0.out.cell (i := 1) rfl
  have fK0_2 := K0.out.cell (i := 2) rfl
  have fK0_3 := K0.out.cell (i := 3) rfl
  have fK0_4 := K0.out.cell (i := 4) rfl
  have fK0_5 := K0.out.cell (i := 5) rfl
  have fK0_6 := K0.out.cell (i := 6) rfl
  have fK0_7 := K0.out.cell (i := 7) rfl
  have fK0_8 := K0.out.cell (i := 8) rfl
  go_wp2_with fail
  clear fK0_0 fK0_1 fK0_2 fK0_3 fK0_4 fK0_5 fK0_6 fK0_7 fK0_8
  refine (Nd11.newI _).mono ?_
  rintro e V2 ⟨gG0, cG0, rfl, ho, hb⟩
  have ch_G0 : V1.heap.size < gG0 := Nat.lt_of_lt_of_le K0.out.lt (own_at ho)
  have XN_G0 := Lib.hid (owns_base ho (by omega : w.heap.size ≤ gG0))
  have hl9 := own_lt ho
  clear ho
  have K01 := Lib.hid (K0.out.below hb)
  have B2 := Lib.hid (BB.out.trans (hb.mono BB.out.size))
  have W0n := Lib.hid (owns_below W0.out hb)
  clear hb BB
  clear K0
  clear W0
  have K0 := K01
  clear K01
  have BB := B2
  clear B2
  have W0 := W0n
  clear W0n
  have G0 := XN_G0
  clear XN_G0
  have hb := (Below.refl V2.heap.size V2).alloc (Nat.le_refl _) (.cells (#[.slice none 0 0, .slice none 0 0, .slice none 0 0, .int .i64 0, .slice (some ⟨gG0, 0, none⟩) 1 cG0, .int .i64 0, .int .i64 0, .int .i64 0, .int .i64 0]) 48)
  have K1n := Lib.hid (Bk.new V2 (#[.slice none 0 0, .slice none 0 0, .slice none 0 0, .int .i64 0, .slice (some ⟨gG0, 0, none⟩) 1 cG0, .int .i64 0, .int .i64 0, .int .i64 0, .int .i64 0]) 48)
  have ch_K1 : gG0 < V2.heap.size := hl9
  clear hl9
  have K01 := Lib.hid (K0.out.below hb)
  have B2 := Lib.hid (BB.out.trans (hb.mono BB.out.size))
  have W0n := Lib.hid (owns_below W0.out hb)
  have G0n := Lib.hid (owns_below G0.out hb)
  clear hb BB
  clear K0
  clear W0 G0
  have K0 := K01
  clear K01
  have BB := B2
  clear B2
  have W0 := W0n
  clear W0n
  have G0 := G0n
  clear G0n
  have K1 := K1n
  clear K1n
  have fK0_0 := K0.out.cell (i := 0) rfl
  have fK0_1 := K0.out.cell (i := 1) rfl
  have fK0_2 := K0.out.cell (i := 2) rfl
  have fK0_3 := K0.out.cell (i := 3) rfl
  have fK0_4 := K0.out.cell (i := 4) rfl
  have fK0_5 := K0.out.cell (i := 5) rfl
  have fK0_6 := K0.out.cell (i := 6) rfl
  have fK0_7 := K0.out.cell (i := 7) rfl
  have fK0_8 := K0.out.cell (i := 8) rfl
  have fK1_0 := K1.out.cell (i := 0) rfl
  have fK1_1 := K1.out.cell (i := 1) rfl
  have fK1_2 := K1.out.cell (i := 2) rfl
  have fK1_3 := K1.out.cell (i := 3) rfl
  have fK1_4 := K1.out.cell (i := 4) rfl
  have fK1_5 := K1.out.cell (i := 5) rfl
  have fK1_6 := K1.out.cell (i := 6) rfl
  have fK1_7 := K1.out.cell (i := 7) rfl
  have fK1_8 := K1.out.cell (i := 8) rfl
  go_wp2_with fail
  clear fK0_0 fK0_1 fK0_2 fK0_3 fK0_4 fK0_5 fK0_6 fK0_7 fK0_8 fK1_0 fK1_1 fK1_2 fK1_3 fK1_4 fK1_5 fK1_6 fK1_7 fK1_8
  refine (Nd11.eqDesk _ _ _ _ _ (Rd.own G0.out) (Rd.own W0.out)).mono ?_
  rintro e V3 ⟨rfl, hb⟩
  have K01 := Lib.hid (K0.out.below hb)
  have K11 := Lib.hid (K1.out.below hb)
  have B2 := Lib.hid (BB.out.trans (hb.mono BB.out.size))
  have W0n := Lib.hid (owns_below W0.out hb)
  have G0n := Lib.hid (owns_below G0.out hb)
  clear hb BB
  clear K0 K1
  clear W0 G0
  have K0 := K01
  clear K01
  have K1 := K11
  clear K11
  have BB := B2
  clear B2
  have W0 := W0n
  clear W0n
  have G0 := G0n
  clear G0n
  have fK0_0 := K0.out.cell (i := 0) rfl
  have fK0_1 := K0.out.cell (i := 1) rfl
  have fK0_2 := K0.out.cell (i := 2) rfl
  have fK0_3 := K0.out.cell (i := 3) rfl
  have fK0_4 := K0.out.cell (i := 4) rfl
  have fK0_5 := K0.out.cell (i := 5) rfl
  have fK0_6 := K0.out.cell (i := 6) rfl
  have fK0_7 := K0.out.cell (i := 7) rfl
  have fK0_8 := K0.out.cell (i := 8) rfl
  have fK1_0 := K1.out.cell (i := 0) rfl
  have fK1_1 := K1.out.cell (i := 1) rfl
  have fK1_2 := K1.out.cell (i := 2) rfl
  have fK1_3 := K1.out.cell (i := 3) rfl
  have fK1_4 := K1.out.cell (i := 4) rfl
  have fK1_5 := K1.out.cell (i := 5) rfl
  have fK1_6 := K1.out.cell (i := 6) rfl
  have fK1_7 := K1.out.cell (i := 7) rfl
  have fK1_8 := K1.out.cell (i := 8) rfl
  go_wp2_with fail
  clear fK0_0 fK0_1 fK0_2 fK0_3 fK0_4 fK0_5 fK0_6 fK0_7 fK0_8 fK1_0 fK1_1 fK1_2 fK1_3 fK1_4 fK1_5 fK1_6 fK1_7 fK1_8
  refine (Nd11.markDesk w.heap.size _ _ _ BB.out.size G0.out).mono ?_
  rintro e V4 ⟨rfl, ho, hg⟩
  have XN := Lib.hid ho
  have K01 := Lib.hid (K0.out.grown hg (fun e => by have e := Option.some.inj e; omega))
  have K11 := Lib.hid (K1.out.grown hg (fun e => by have e := Option.some.inj e; omega))
  have B2 := Lib.hid (BB.out.grown hg BB.out.size (fun k e => by have e := Option.some.inj e; omega))
  have W0n := Lib.hid (owns_grown W0.out hg (Mk9.ne_blk (by omega)))
  clear hg ho G0 BB
  clear K0 K1
  clear W0
  have K0 := K01
  clear K01
  have K1 := K11
  clear K11
  have BB := B2
  clear B2
  have W0 := W0n
  clear W0n
  have G0 := XN
  clear XN
  have fK0_0 := K0.out.cell (i := 0) rfl
  have fK0_1 := K0.out.cell (i := 1) rfl
  have fK0_2 := K0.out.cell (i := 2) rfl
  have fK0_3 := K0.out.cell (i := 3) rfl
  have fK0_4 := K0.out.cell (i := 4) rfl
  have fK0_5 := K0.out.cell (i := 5) rfl
  have fK0_6 := K0.out.cell (i := 6) rfl
  have fK0_7 := K0.out.cell (i := 7) rfl
  have fK0_8 := K0.out.cell (i := 8) rfl
  have fK1_0 := K1.out.cell (i := 0) rfl
  have fK1_1 := K1.out.cell (i := 1) rfl
  have fK1_2 := K1.out.cell (i := 2) rfl
  have fK1_3 := K1.out.cell (i := 3) rfl
  have fK1_4 := K1.out.cell (i := 4) rfl
  have fK1_5 := K1.out.cell (i := 5) rfl
  have fK1_6 := K1.out.cell (i := 6) rfl
  have fK1_7 := K1.out.cell (i := 7) rfl
  have fK1_8 := K1.out.cell (i := 8) rfl
  go_wp2_with fail
  clear fK0_0 fK0_1 fK0_2 fK0_3 fK0_4 fK0_5 fK0_6 fK0_7 fK0_8 fK1_0 fK1_1 fK1_2 fK1_3 fK1_4 fK1_5 fK1_6 fK1_7 fK1_8
  refine (Nd11.heldDesk _ _ _ (Rd.own G0.out)).mono ?_
  rintro e V5 ⟨rfl, hb⟩
  have K01 := Lib.hid (K0.out.below hb)
  have K11 := Lib.hid (K1.out.below hb)
  have B2 := Lib.hid (BB.out.trans (hb.mono BB.out.size))
  have W0n := Lib.hid (owns_below W0.out hb)
  have G0n := Lib.hid (owns_below G0.out hb)
  clear hb BB
  clear K0 K1
  clear W0 G0
  have K0 := K01
  clear K01
  have K1 := K11
  clear K11
  have BB := B2
  clear B2
  have W0 := W0n
  clear W0n
  have G0 := G0n
  clear G0n
  have fK0_0 := K0.out.cell (i := 0) rfl
  have fK0_1 := K0.out.cell (i := 1) rfl
  have fK0_2 := K0.out.cell (i := 2) rfl
  have fK0_3 := K0.out.cell (i := 3) rfl
  have fK0_4 := K0.out.cell (i := 4) rfl
  have fK0_5 := K0.out.cell (i := 5) rfl
  have fK0_6 := K0.out.cell (i := 6) rfl
  have fK0_7 := K0.out.cell (i := 7) rfl
  have fK0_8 := K0.out.cell (i := 8) rfl
  have fK1_0 := K1.out.cell (i := 0) rfl
  have fK1_1 := K1.out.cell (i := 1) rfl
  have fK1_2 := K1.out.cell (i := 2) rfl
  have fK1_3 := K1.out.cell (i := 3) rfl
  have fK1_4 := K1.out.cell (i := 4) rfl
  have fK1_5 := K1.out.cell (i := 5) rfl
  have fK1_6 := K1.out.cell (i := 6) rfl
  have fK1_7 := K1.out.cell (i := 7) rfl
  have fK1_8 := K1.out.cell (i := 8) rfl
  go_wp2_with fail
  clear fK0_0 fK0_1 fK0_2 fK0_3 fK0_4 fK0_5 fK0_6 fK0_7 fK0_8 fK1_0 fK1_1 fK1_2 fK1_3 fK1_4 fK1_5 fK1_6 fK1_7 fK1_8
  refine (Nd11.newI _).mono ?_
  rintro e V6 ⟨gH0, cH0, rfl, ho, hb⟩
  have ch_H0 : V2.heap.size < gH0 := Nat.lt_of_lt_of_le K1.out.lt (own_at ho)
  have XN_H0 := Lib.hid (owns_base ho (by omega : w.heap.size ≤ gH0))
  have hl9 := own_lt ho
  clear ho
  have K01 := Lib.hid (K0.out.below hb)
  have K11 := Lib.hid (K1.out.below hb)
  have B2 := Lib.hid (BB.out.trans (hb.mono BB.out.size))
  have W0n := Lib.hid (owns_below W0.out hb)
  have G0n := Lib.hid (owns_below G0.out hb)
  clear hb BB
  clear K0 K1
  clear W0 G0
  have K0 := K01
  clear K01
  have K1 := K11
  clear K11
  have BB := B2
  clear B2
  have W0 := W0n
  clear W0n
  have G0 := G0n
  clear G0n
  have H0 := XN_H0
  clear XN_H0
  have hb := (Below.refl V6.heap.size V6).alloc (Nat.le_refl _) (.cells (#[.slice none 0 0, .slice none 0 0, .slice none 0 0, .int .i64 0, .slice (some ⟨gH0, 0, none⟩) 1 cH0, .int .i64 0, .int .i64 0, .int .i64 0, .int .i64 0]) 48)
  have K2n := Lib.hid (Bk.new V6 (#[.slice none 0 0, .slice none 0 0, .slice none 0 0, .int .i64 0, .slice (some ⟨gH0, 0, none⟩) 1 cH0, .int .i64 0, .int .i64 0, .int .i64 0, .int .i64 0]) 48)
  have ch_K2 : gH0 < V6.heap.size := hl9
  clear hl9
  have K01 := Lib.hid (K0.out.below hb)
  have K11 := Lib.hid (K1.out.below hb)
  have B2 := Lib.hid (BB.out.trans (hb.mono BB.out.size))
  have W0n := Lib.hid (owns_below W0.out hb)
  have G0n := Lib.hid (owns_below G0.out hb)
  have H0n := Lib.hid (owns_below H0.out hb)
  clear hb BB
  clear K0 K1
  clear W0 G0 H0
  have K0 := K01
  clear K01
  have K1 := K11
  clear K11
  have BB := B2
  clear B2
  have W0 := W0n
  clear W0n
  have G0 := G0n
  clear G0n
  have H0 := H0n
  clear H0n
  have K2 := K2n
  clear K2n
  have fK0_0 := K0.out.cell (i := 0) rfl
  have fK0_1 := K0.out.cell (i := 1) rfl
  have fK0_2 := K0.out.cell (i := 2) rfl
  have fK0_3 := K0.out.cell (i := 3) rfl
  have fK0_4 := K0.out.cell (i := 4) rfl
  have fK0_5 := K0.out.cell (i := 5) rfl
  have fK0_6 := K0.out.cell (i := 6) rfl
  have fK0_7 := K0.out.cell (i := 7) rfl
  have fK0_8 := K0.out.cell (i := 8) rfl
  have fK1_0 := K1.out.cell (i := 0) rfl
  have fK1_1 := K1.out.cell (i := 1) rfl
  have fK1_2 := K1.out.cell (i := 2) rfl
  have fK1_3 := K1.out.cell (i := 3) rfl
  have fK1_4 := K1.out.cell (i := 4) rfl
  have fK1_5 := K1.out.cell (i := 5) rfl
  have fK1_6 := K1.out.cell (i := 6) rfl
  have fK1_7 := K1.out.cell (i := 7) rfl
  have fK1_8 := K1.out.cell (i := 8) rfl
  have fK2_0 := K2.out.cell (i := 0) rfl
  have fK2_1 := K2.out.cell (i := 1) rfl
  have fK2_2 := K2.out.cell (i := 2) rfl
  have fK2_3 := K2.out.cell (i := 3) rfl
  have fK2_4 := K2.out.cell (i := 4) rfl
  have fK2_5 := K2.out.cell (i := 5) rfl
  have fK2_6 := K2.out.cell (i := 6) rfl
  have fK2_7 := K2.out.cell (i := 7) rfl
  have fK2_8 := K2.out.cell (i := 8) rfl
  go_wp2_with fail
  clear fK0_0 fK0_1 fK0_2 fK0_3 fK0_4 fK0_5 fK0_6 fK0_7 fK0_8 fK1_0 fK1_1 fK1_2 fK1_3 fK1_4 fK1_5 fK1_6 fK1_7 fK1_8 fK2_0 fK2_1 fK2_2 fK2_3 fK2_4 fK2_5 fK2_6 fK2_7 fK2_8
  refine (Nd11.eqDesk _ _ _ _ _ (Rd.own H0.out) (Rd.own W0.out)).mono ?_
  rintro e V7 ⟨rfl, hb⟩
  have K01 := Lib.hid (K0.out.below hb)
  have K11 := Lib.hid (K1.out.below hb)
  have K21 := Lib.hid (K2.out.below hb)
  have B2 := Lib.hid (BB.out.trans (hb.mono BB.out.size))
  have W0n := Lib.hid (owns_below W0.out hb)
  have G0n := Lib.hid (owns_below G0.out hb)
  have H0n := Lib.hid (owns_below H0.out hb)
  clear hb BB
  clear K0 K1 K2
  clear W0 G0 H0
  have K0 := K01
  clear K01
  have K1 := K11
  clear K11
  have K2 := K21
  clear K21
  have BB := B2
  clear B2
  have W0 := W0n
  clear W0n
  have G0 := G0n
  clear G0n
  have H0 := H0n
  clear H0n
  have fK0_0 := K0.out.cell (i := 0) rfl
  have fK0_1 := K0.out.cell (i := 1) rfl
  have fK0_2 := K0.out.cell (i := 2) rfl
  have fK0_3 := K0.out.cell (i := 3) rfl
  have fK0_4 := K0.out.cell (i := 4) rfl
  have fK0_5 := K0.out.cell (i := 5) rfl
  have fK0_6 := K0.out.cell (i := 6) rfl
  have fK0_7 := K0.out.cell (i := 7) rfl
  have fK0_8 := K0.out.cell (i := 8) rfl
  have fK1_0 := K1.out.cell (i := 0) rfl
  have fK1_1 := K1.out.cell (i := 1) rfl
  have fK1_2 := K1.out.cell (i := 2) rfl
  have fK1_3 := K1.out.cell (i := 3) rfl
  have fK1_4 := K1.out.cell (i := 4) rfl
  have fK1_5 := K1.out.cell (i := 5) rfl
  have fK1_6 := K1.out.cell (i := 6) rfl
  have fK1_7 := K1.out.cell (i := 7) rfl
  have fK1_8 := K1.out.cell (i := 8) rfl
  have fK2_0 := K2.out.cell (i := 0) rfl
  have fK2_1 := K2.out.cell (i := 1) rfl
  have fK2_2 := K2.out.cell (i := 2) rfl
  have fK2_3 := K2.out.cell (i := 3) rfl
  have fK2_4 := K2.out.cell (i := 4) rfl
  have fK2_5 := K2.out.cell (i := 5) rfl
  have fK2_6 := K2.out.cell (i := 6) rfl
  have fK2_7 := K2.out.cell (i := 7) rfl
  have fK2_8 := K2.out.cell (i := 8) rfl
  go_wp2_with fail
  clear fK0_0 fK0_1 fK0_2 fK0_3 fK0_4 fK0_5 fK0_6 fK0_7 fK0_8 fK1_0 fK1_1 fK1_2 fK1_3 fK1_4 fK1_5 fK1_6 fK1_7 fK1_8 fK2_0 fK2_1 fK2_2 fK2_3 fK2_4 fK2_5 fK2_6 fK2_7 fK2_8
  refine (Nd11.heldDesk _ _ _ (Rd.own G0.out)).mono ?_
  rintro e V8 ⟨rfl, hb⟩
  have K01 := Lib.hid (K0.out.below hb)
  have K11 := Lib.hid (K1.out.below hb)
  have K21 := Lib.hid (K2.out.below hb)
  have B2 := Lib.hid (BB.out.trans (hb.mono BB.out.size))
  have W0n := Lib.hid (owns_below W0.out hb)
  have G0n := Lib.hid (owns_below G0.out hb)
  have H0n := Lib.hid (owns_below H0.out hb)
  clear hb BB
  clear K0 K1 K2
  clear W0 G0 H0
  have K0 := K01
  clear K01
  have K1 := K11
  clear K11
  have K2 := K21
  clear K21
  have BB := B2
  clear B2
  have W0 := W0n
  clear W0n
  have G0 := G0n
  clear G0n
  have H0 := H0n
  clear H0n
  have fK0_0 := K0.out.cell (i := 0) rfl
  have fK0_1 := K0.out.cell (i := 1) rfl
  have fK0_2 := K0.out.cell (i := 2) rfl
  have fK0_3 := K0.out.cell (i := 3) rfl
  have fK0_4 := K0.out.cell (i := 4) rfl
  have fK0_5 := K0.out.cell (i := 5) rfl
  have fK0_6 := K0.out.cell (i := 6) rfl
  have fK0_7 := K0.out.cell (i := 7) rfl
  have fK0_8 := K0.out.cell (i := 8) rfl
  have fK1_0 := K1.out.cell (i := 0) rfl
  have fK1_1 := K1.out.cell (i := 1) rfl
  have fK1_2 := K1.out.cell (i := 2) rfl
  have fK1_3 := K1.out.cell (i := 3) rfl
  have fK1_4 := K1.out.cell (i := 4) rfl
  have fK1_5 := K1.out.cell (i := 5) rfl
  have fK1_6 := K1.out.cell (i := 6) rfl
  have fK1_7 := K1.out.cell (i := 7) rfl
  have fK1_8 := K1.out.cell (i := 8) rfl
  have fK2_0 := K2.out.cell (i := 0) rfl
  have fK2_1 := K2.out.cell (i := 1) rfl
  have fK2_2 := K2.out.cell (i := 2) rfl
  have fK2_3 := K2.out.cell (i := 3) rfl
  have fK2_4 := K2.out.cell (i := 4) rfl
  have fK2_5 := K2.out.cell (i := 5) rfl
  have fK2_6 := K2.out.cell (i := 6) rfl
  have fK2_7 := K2.out.cell (i := 7) rfl
  have fK2_8 := K2.out.cell (i := 8) rfl
  go_wp2_with fail
  go_ret
  exact ⟨rfl, BB.out⟩

set_option maxRecDepth 100000 in
theorem lifted (os : Os) (started : os.Started) (H : Type) (enc : TypeId × Value → H) :
    ReturnsInHanded {} Try.checked os 4 .any (Rows.fnExactNewDeskSpec.pre6 enc Try.prog Try.f4 Rows.fnExactNewDeskRow.domain false) (Rows.fnExactNewDeskSpec.post enc Try.prog Try.f4 false true false false) := by
  refine returnsInHanded_of_change (C := Try.checked) own started (by kernel_rfl) Try.func4
    (ChangeSpec.witness6 (enc := enc) (C := Try.checked) false ⟨#[], #[], []⟩ 8 (by kernel_rfl) (by kernel_rfl) (by kernel_rfl) (by kernel_rfl)) ?_
  intro W base args ds gs before hval0 hW hcnd hsz
  have hval : ∀ (j : Nat) t v, Try.f4.params[j]? = some t → args[j]? = some v → Value.okWide Try.prog W .any base t v := hval0
  have hW' := hW
  obtain ⟨p, q, hA0, hV, rfl, hfz, hnd⟩ := hW
  have hA1 := hA0
  have hA : DataW.TrodAll enc Try.prog W 0 (fun _ => true) true Try.f4.params.toList args.toList ds p := hA0
  rw [Try.params4] at hA hval
  obtain ⟨hargs, rfl, rfl⟩ := trodAll_nil hA
  obtain rfl : args = #[] := by cases args; simp_all
  obtain ⟨rfl, rfl⟩ := trodVars_none hV
  clear hA0 hval0
  rw [List.append_nil] at hW'
  refine (walk W).mono fun e W' ⟨he, hb⟩ => ?_
  subst he
  exact ⟨_, rfl, post_law rfl hW' hA1 laidOut (by rw [Try.params4]; exact of_decide_eq_true (by kernel_rfl)) 4 (by kernel_rfl) Try.underlying4 rfl hb⟩

theorem over : Rows.fnExactNewDeskRow.holds Try.pinned (OpenSpec.ofChange Rows.fnExactNewDeskSpec) :=
  OpenClaim.holds_of_wide 4 Try.f4 rfl rfl rfl rfl rfl rfl rfl ⟨rfl, rfl, rfl, rfl, rfl⟩ rfl rfl rfl rfl rfl (by kernel_rfl) Try.func4 (by kernel_rfl)
    (of_decide_eq_true (by kernel_rfl)) (by unfold Func.isWrapper; first | (rw [if_pos (by decide +kernel)]; kernel_rfl) | (rw [if_neg (by decide +kernel)]; exact ⟨rfl, rfl⟩))
    (fun os started H enc _ => lifted os started H enc)

/-- The statement. -/
theorem proved : Rows.FnExactNewDeskSaid :=
  over
#print axioms proved
end Go.Proofs.Ytokncfhpmjohdae.fnExactNewDesk
