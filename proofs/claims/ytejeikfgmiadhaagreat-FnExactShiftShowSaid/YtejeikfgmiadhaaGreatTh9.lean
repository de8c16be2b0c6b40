/- ShiftShow of the program. -/
import Derived.Test.YtejeikfgmiadhaaGreatTa9
import Derived.Test.YtejeikfgmiadhaaGreatSk
namespace Go.Proofs.YtejeikfgmiadhaaGreat.Th9
open Go.RowKit Go.ChangeShapes Go.WideShapes Go.WideElems Go.Deep Go.Proofs.YtejeikfgmiadhaaGreat.Mem Go.Proofs.YtejeikfgmiadhaaGreat.Rw Go.Proofs.YtejeikfgmiadhaaGreat.P2 Go.Proofs.YtejeikfgmiadhaaGreat.Bk Go.Proofs.YtejeikfgmiadhaaGreat.Sp Go.Proofs.YtejeikfgmiadhaaGreat.Sq Go.Proofs.YtejeikfgmiadhaaGreat.Jt Go.Proofs.YtejeikfgmiadhaaGreat.St9 Go.Proofs.YtejeikfgmiadhaaGreat.Ta9
open Go.Proofs.YtejeikfgmiadhaaGreat.Sv hiding D C G
open Go.Proofs.YtejeikfgmiadhaaGreat.Ds (sb)
open Go.Proofs.YtejeikfgmiadhaaGreat.Ig (rig)
set_option linter.unusedVariables false
set_option linter.unusedSimpArgs false

open Go.Proofs.YtejeikfgmiadhaaGreat.Sk (shZ shR)
/-- What comes back: a show of the call's own, and that it could be moved. -/
def RowX (w : World) (n0 n1 n2 : Nat) (T : Int) (ds : List D) (cs : List C) (gs : List G) (e : Ending) (w' : World) : Prop :=
  ∃ g0 c0 g1 c1 g2 c2, e = .returned (.tuple #[sv (some ⟨g0, 0, none⟩) n0 c0 (some ⟨g1, 0, none⟩) n1 c1 (some ⟨g2, 0, none⟩) n2 c2 T, .bool true]) ∧
    w'.ownsRow w.heap.size 117 8 (.slice (some ⟨g0, 0, none⟩) n0 c0) n0 (Dd.dls ds) ∧ w'.ownsRow w.heap.size 97 4 (.slice (some ⟨g1, 0, none⟩) n1 c1) n1 (Cd.dls cs) ∧ w'.ownsRow w.heap.size 100 3 (.slice (some ⟨g2, 0, none⟩) n2 c2) n2 (Gs.gls gs) ∧ g0 < g1 ∧ g1 < g2 ∧ Below w.heap.size w w'
theorem sh_len {ds : List D} {a b : Int} (h : shR ds a b = true) : (shZ ds a b).length = ds.length := by
  unfold shR at h
  rw [Bool.and_eq_true] at h
  unfold shZ
  rw [if_pos h.1]
  unfold Mo.mvL
  rw [if_pos h.2, List.length_map]

set_option maxRecDepth 100000 in
set_option maxHeartbeats 4000000 in
theorem shiftNoI1 (a0 : Addr) (n0 c0 : Nat) (a1 : Addr) (n1 c1 : Nat) (a2 : Addr) (n2 c2 : Nat) (T : Int) (ds : List D) (cs : List C) (gs : List G) (x1 y1 : Int) (w : World) (hf : Fit n0 n1 n2 ds cs gs) (hr : SR w (some a0) (some a1) (some a2) ds cs gs) (hr1 : shR ds x1 y1 = false) :
    Calls Tryz.prog 21 #[sv (some a0) n0 c0 (some a1) n1 c1 (some a2) n2 c2 T, .agg #[.int .i64 x1, .int .i64 y1]] w (fun e w' => e = .returned (.tuple #[nilShow, .bool false]) ∧ Below w.heap.size w w') := by
  have HS := Lib.hid hr
  have hu : undef = Value.tuple #[] := rfl
  have CR := Lib.hid (fun (W : World) (h : SR W (some a0) (some a1) (some a2) ds cs gs) => (by have := Sk.shiftI a0 n0 c0 ds x1 y1 W hf.1.1 hf.1.2 h.r0; unfold Mo.RowB at this; rw [hr1] at this; exact this : Calls Tryz.prog 53 #[.slice (some a0) n0 c0, .agg #[.int .i64 x1, .int .i64 y1]] W fun e w' => ∃ g c, e = .returned (.tuple #[.slice (some ⟨g, 0, none⟩) (shZ ds x1 y1).length c, .bool false]) ∧ w'.ownsRow W.heap.size 117 8 (.slice (some ⟨g, 0, none⟩) (shZ ds x1 y1).length c) (shZ ds x1 y1).length (Dd.dls (shZ ds x1 y1)) ∧ Below W.heap.size W w'))
  have hz1 : (w.alloc (.cells (sc (some a0) n0 c0 (some a1) n1 c1 (some a2) n2 c2 T) 34)).heap.size = w.heap.size + 1 := by simp [go_sem]
  have hz2 : ((w.alloc (.cells (sc (some a0) n0 c0 (some a1) n1 c1 (some a2) n2 c2 T) 34)).alloc (.cells #[.int .i64 x1, .int .i64 y1] 47)).heap.size = w.heap.size + 1 + 1 := by simp [go_sem]
  have B0a := (Below.refl w.heap.size w).alloc (Nat.le_refl _) (.cells (sc (some a0) n0 c0 (some a1) n1 c1 (some a2) n2 c2 T) 34)
  have B0b := B0a.alloc B0a.size (.cells #[.int .i64 x1, .int .i64 y1] 47)
  have B0 := Lib.hid (B0b.alloc B0b.size (.cells zc 34))
  have K0 := Lib.hid (((Bk.new w (sc (some a0) n0 c0 (some a1) n1 c1 (some a2) n2 c2 T) 34).alloc (o := (.cells #[.int .i64 x1, .int .i64 y1] 47))).alloc (o := .cells zc 34))
  have KP0 := Bk.new (w.alloc (.cells (sc (some a0) n0 c0 (some a1) n1 c1 (some a2) n2 c2 T) 34)) #[.int .i64 x1, .int .i64 y1] 47
  rw [hz1] at KP0
  have KP := Lib.hid (KP0.alloc (o := .cells zc 34))
  have KR0 := Bk.new ((w.alloc (.cells (sc (some a0) n0 c0 (some a1) n1 c1 (some a2) n2 c2 T) 34)).alloc (.cells #[.int .i64 x1, .int .i64 y1] 47)) zc 34
  rw [hz2] at KR0
  have KR := Lib.hid KR0
  have hb9 : w.heap.size < w.heap.size + 1 := by omega
  have hb8 : w.heap.size < w.heap.size + 1 + 1 := by omega
  have hb7 : w.heap.size + 1 < w.heap.size + 1 + 1 := by omega
  have b0 := K0.out.cell (i := 0) rfl
  have b1 := K0.out.cell (i := 1) rfl
  have b2 := K0.out.cell (i := 2) rfl
  have b3 := K0.out.cell (i := 3) rfl
  have p0 := KP.out.cell (i := 0) rfl
  have p1 := KP.out.cell (i := 1) rfl
  clear hf hr hz1 hz2 B0a B0b KP0 KR0 hr1
  go_enter Tryz.func21, Tryz.ntmps21
  go_wp2_with fail
  refine (CR.out _ (HS.out.below B0.out)).mono ?_
  rintro e w1 ⟨g0, d0, rfl, o0, hb⟩
  have K1 := Lib.hid (K0.out.below hb)
  have KR1 := Lib.hid (KR.out.below hb)
  have B1 := Lib.hid (B0.out.trans (hb.mono B0.out.size))
  have O0 := Lib.hid (owns_base o0 (Nat.le_trans B0.out.size (own_at o0)))
  clear hb o0 CR K0 KR KP B0 b0 b1 b2 b3 p0 p1 hb9 hb8 hb7
  have KU := KR1.out
  have BU := B1.out
  have r0 := KU.cell (i := 0) rfl
  have q0 := KU.frozen 0
  have r1 := KU.cell (i := 1) rfl
  have q1 := KU.frozen 1
  have r2 := KU.cell (i := 2) rfl
  have q2 := KU.frozen 2
  have r3 := KU.cell (i := 3) rfl
  have q3 := KU.frozen 3
  clear HS K1 KR1 B1 O0
  go_wp2_with fail
  have KX := ((((KU.set (i := 0) (v := .slice none 0 0)).set (i := 1) (v := .slice none 0 0)).set (i := 2) (v := .slice none 0 0)).set (i := 3) (v := .int .i64 0))
  have s0 := KX.cell (i := 0) rfl
  have s1 := KX.cell (i := 1) rfl
  have s2 := KX.cell (i := 2) rfl
  have s3 := KX.cell (i := 3) rfl
  have GX := (grown_trans (grown_trans (grown_trans (Bk.setG w1 (w.heap.size + 1 + 1) 0 (.slice none 0 0)) (Bk.setG _ (w.heap.size + 1 + 1) 1 (.slice none 0 0))) (Bk.setG _ (w.heap.size + 1 + 1) 2 (.slice none 0 0))) (Bk.setG _ (w.heap.size + 1 + 1) 3 (.int .i64 0)))
  have BX := BU.grown GX BU.size (fun z9 e9 => by have e9 := Option.some.inj e9; omega)
  refine bodyPost_ret (v := .tuple #[nilShow, .bool false]) (by simp [results, Tryz.results21, go_sem, s0, s1, s2, s3]; try rfl) rfl ?_
  exact ⟨rfl, BX⟩

set_option maxRecDepth 100000 in
set_option maxHeartbeats 4000000 in
theorem shiftNoI2 (a0 : Addr) (n0 c0 : Nat) (a1 : Addr) (n1 c1 : Nat) (a2 : Addr) (n2 c2 : Nat) (T : Int) (ds : List D) (cs : List C) (gs : List G) (x1 y1 : Int) (w : World) (hf : Fit n0 n1 n2 ds cs gs) (hr : SR w (some a0) (some a1) (some a2) ds cs gs) (hr1 : shR ds x1 y1 = true) (hr2 : show9 ds cs gs T = false) :
    Calls Tryz.prog 21 #[sv (some a0) n0 c0 (some a1) n1 c1 (some a2) n2 c2 T, .agg #[.int .i64 x1, .int .i64 y1]] w (fun e w' => e = .returned (.tuple #[nilShow, .bool false]) ∧ Below w.heap.size w w') := by
  have HS := Lib.hid hr
  have hu : undef = Value.tuple #[] := rfl
  have CR := Lib.hid (fun (W : World) (h : SR W (some a0) (some a1) (some a2) ds cs gs) => (by have := Sk.shiftI a0 n0 c0 ds x1 y1 W hf.1.1 hf.1.2 h.r0; unfold Mo.RowB at this; rw [hr1] at this; exact this : Calls Tryz.prog 53 #[.slice (some a0) n0 c0, .agg #[.int .i64 x1, .int .i64 y1]] W fun e w' => ∃ g c, e = .returned (.tuple #[.slice (some ⟨g, 0, none⟩) (shZ ds x1 y1).length c, .bool true]) ∧ w'.ownsRow W.heap.size 117 8 (.slice (some ⟨g, 0, none⟩) (shZ ds x1 y1).length c) (shZ ds x1 y1).length (Dd.dls (shZ ds x1 y1)) ∧ Below W.heap.size W w'))
  have CS := Lib.hid (fun (W : World) (h : SR W (some a0) (some a1) (some a2) ds cs gs) => (by have := Sw9.isShowI (some a0) n0 c0 (some a1) n1 c1 (some a2) n2 c2 T ds cs gs W hf h; rw [hr2] at this; exact this : Calls Tryz.prog 54 #[sv (some a0) n0 c0 (some a1) n1 c1 (some a2) n2 c2 T] W fun e w' => e = .returned (.bool false) ∧ Below W.heap.size W w'))
  have hz1 : (w.alloc (.cells (sc (some a0) n0 c0 (some a1) n1 c1 (some a2) n2 c2 T) 34)).heap.size = w.heap.size + 1 := by simp [go_sem]
  have hz2 : ((w.alloc (.cells (sc (some a0) n0 c0 (some a1) n1 c1 (some a2) n2 c2 T) 34)).alloc (.cells #[.int .i64 x1, .int .i64 y1] 47)).heap.size = w.heap.size + 1 + 1 := by simp [go_sem]
  have B0a := (Below.refl w.heap.size w).alloc (Nat.le_refl _) (.cells (sc (some a0) n0 c0 (some a1) n1 c1 (some a2) n2 c2 T) 34)
  have B0b := B0a.alloc B0a.size (.cells #[.int .i64 x1, .int .i64 y1] 47)
  have B0 := Lib.hid (B0b.alloc B0b.size (.cells zc 34))
  have K0 := Lib.hid (((Bk.new w (sc (some a0) n0 c0 (some a1) n1 c1 (some a2) n2 c2 T) 34).alloc (o := (.cells #[.int .i64 x1, .int .i64 y1] 47))).alloc (o := .cells zc 34))
  have KP0 := Bk.new (w.alloc (.cells (sc (some a0) n0 c0 (some a1) n1 c1 (some a2) n2 c2 T) 34)) #[.int .i64 x1, .int .i64 y1] 47
  rw [hz1] at KP0
  have KP := Lib.hid (KP0.alloc (o := .cells zc 34))
  have KR0 := Bk.new ((w.alloc (.cells (sc (some a0) n0 c0 (some a1) n1 c1 (some a2) n2 c2 T) 34)).alloc (.cells #[.int .i64 x1, .int .i64 y1] 47)) zc 34
  rw [hz2] at KR0
  have KR := Lib.hid KR0
  have hb9 : w.heap.size < w.heap.size + 1 := by omega
  have hb8 : w.heap.size < w.heap.size + 1 + 1 := by omega
  have hb7 : w.heap.size + 1 < w.heap.size + 1 + 1 := by omega
  have b0 := K0.out.cell (i := 0) rfl
  have b1 := K0.out.cell (i := 1) rfl
  have b2 := K0.out.cell (i := 2) rfl
  have b3 := K0.out.cell (i := 3) rfl
  have p0 := KP.out.cell (i := 0) rfl
  have p1 := KP.out.cell (i := 1) rfl
  clear hf hr hz1 hz2 B0a B0b KP0 KR0 hr1 hr2
  go_enter Tryz.func21, Tryz.ntmps21
  go_wp2_with fail
  refine (CR.out _ (HS.out.below B0.out)).mono ?_
  rintro e w1 ⟨g0, d0, rfl, o0, hb⟩
  have K1 := Lib.hid (K0.out.below hb)
  have KR1 := Lib.hid (KR.out.below hb)
  have B1 := Lib.hid (B0.out.trans (hb.mono B0.out.size))
  have O0 := Lib.hid (owns_base o0 (Nat.le_trans B0.out.size (own_at o0)))
  clear hb o0 CR K0 KR KP B0 b0 b1 b2 b3 p0 p1 hb9 hb8 hb7
  have b0 := K1.out.cell (i := 0) rfl
  have b1 := K1.out.cell (i := 1) rfl
  have b2 := K1.out.cell (i := 2) rfl
  have b3 := K1.out.cell (i := 3) rfl
  go_wp2_with fail
  refine (CS.out _ (HS.out.below B1.out)).mono ?_
  rintro e u0 ⟨rfl, hb⟩
  have KKn := Lib.hid (K1.out.below hb)
  have KRn := Lib.hid (KR1.out.below hb)
  have Bn := Lib.hid (B1.out.trans (hb.mono B1.out.size))
  have O0n := Lib.hid (owns_below O0.out hb)
  clear hb CS K1 KR1 B1 O0 b0 b1 b2 b3
  have KU := KRn.out
  have BU := Bn.out
  have r0 := KU.cell (i := 0) rfl
  have q0 := KU.frozen 0
  have r1 := KU.cell (i := 1) rfl
  have q1 := KU.frozen 1
  have r2 := KU.cell (i := 2) rfl
  have q2 := KU.frozen 2
  have r3 := KU.cell (i := 3) rfl
  have q3 := KU.frozen 3
  clear HS KKn KRn Bn O0n
  go_wp2_with fail
  have KX := ((((KU.set (i := 0) (v := .slice none 0 0)).set (i := 1) (v := .slice none 0 0)).set (i := 2) (v := .slice none 0 0)).set (i := 3) (v := .int .i64 0))
  have s0 := KX.cell (i := 0) rfl
  have s1 := KX.cell (i := 1) rfl
  have s2 := KX.cell (i := 2) rfl
  have s3 := KX.cell (i := 3) rfl
  have GX := (grown_trans (grown_trans (grown_trans (Bk.setG u0 (w.heap.size + 1 + 1) 0 (.slice none 0 0)) (Bk.setG _ (w.heap.size + 1 + 1) 1 (.slice none 0 0))) (Bk.setG _ (w.heap.size + 1 + 1) 2 (.slice none 0 0))) (Bk.setG _ (w.heap.size + 1 + 1) 3 (.int .i64 0)))
  have BX := BU.grown GX BU.size (fun z9 e9 => by have e9 := Option.some.inj e9; omega)
  refine bodyPost_ret (v := .tuple #[nilShow, .bool false]) (by simp [results, Tryz.results21, go_sem, s0, s1, s2, s3]; try rfl) rfl ?_
  exact ⟨rfl, BX⟩

set_option maxRecDepth 100000 in
set_option maxHeartbeats 4000000 in
theorem shiftShowI (a0 : Addr) (n0 c0 : Nat) (a1 : Addr) (n1 c1 : Nat) (a2 : Addr) (n2 c2 : Nat) (T : Int) (ds : List D) (cs : List C) (gs : List G) (x1 y1 : Int) (w : World) (hf : Fit n0 n1 n2 ds cs gs) (hr : SR w (some a0) (some a1) (some a2) ds cs gs) (hr1 : shR ds x1 y1 = true) (hr2 : show9 ds cs gs T = true) :
    Calls Tryz.prog 21 #[sv (some a0) n0 c0 (some a1) n1 c1 (some a2) n2 c2 T, .agg #[.int .i64 x1, .int .i64 y1]] w (RowX w n0 n1 n2 T (shZ ds x1 y1) cs gs) := by
  have HS := Lib.hid hr
  have hu : undef = Value.tuple #[] := rfl
  have hl0 : (shZ ds x1 y1).length = n0 := (sh_len hr1).trans hf.1.1
  have CR := Lib.hid (fun (W : World) (h : SR W (some a0) (some a1) (some a2) ds cs gs) => (by have := Sk.shiftI a0 n0 c0 ds x1 y1 W hf.1.1 hf.1.2 h.r0; unfold Mo.RowB at this; rw [hr1, hl0] at this; exact this : Calls Tryz.prog 53 #[.slice (some a0) n0 c0, .agg #[.int .i64 x1, .int .i64 y1]] W fun e w' => ∃ g c, e = .returned (.tuple #[.slice (some ⟨g, 0, none⟩) n0 c, .bool true]) ∧ w'.ownsRow W.heap.size 117 8 (.slice (some ⟨g, 0, none⟩) n0 c) n0 (Dd.dls (shZ ds x1 y1)) ∧ Below W.heap.size W w'))
  have CS := Lib.hid (fun (W : World) (h : SR W (some a0) (some a1) (some a2) ds cs gs) => (by have := Sw9.isShowI (some a0) n0 c0 (some a1) n1 c1 (some a2) n2 c2 T ds cs gs W hf h; rw [hr2] at this; exact this : Calls Tryz.prog 54 #[sv (some a0) n0 c0 (some a1) n1 c1 (some a2) n2 c2 T] W fun e w' => e = .returned (.bool true) ∧ Below W.heap.size W w'))
  have P1 := Lib.hid (fun (W : World) (h : SR W (some a0) (some a1) (some a2) ds cs gs) => (by
    have := Cr.cloneC a1 n1 c1 cs W hf.2.1.1 hf.2.1.2 h.r1; unfold Oc.RowC at this; rw [hf.2.1.1] at this; exact this :
    Calls Tryz.prog 55 #[.slice (some a1) n1 c1] W (fun e w' => ∃ g c, e = .returned (.slice (some ⟨g, 0, none⟩) n1 c) ∧ w'.ownsRow W.heap.size 97 4 (.slice (some ⟨g, 0, none⟩) n1 c) n1 (Cd.dls cs) ∧ Below W.heap.size W w')))
  have P2 := Lib.hid (fun (W : World) (h : SR W (some a0) (some a1) (some a2) ds cs gs) => (by
    have := Wt.clone a2 n2 c2 gs W hf.2.2.1 hf.2.2.2 h.r2; unfold Wa.Row3 at this; rw [hf.2.2.1] at this; exact this :
    Calls Tryz.prog 56 #[.slice (some a2) n2 c2] W (fun e w' => ∃ g c, e = .returned (.slice (some ⟨g, 0, none⟩) n2 c) ∧ w'.ownsRow W.heap.size 100 3 (.slice (some ⟨g, 0, none⟩) n2 c) n2 (Gs.gls gs) ∧ Below W.heap.size W w')))
  have hz1 : (w.alloc (.cells (sc (some a0) n0 c0 (some a1) n1 c1 (some a2) n2 c2 T) 34)).heap.size = w.heap.size + 1 := by simp [go_sem]
  have hz2 : ((w.alloc (.cells (sc (some a0) n0 c0 (some a1) n1 c1 (some a2) n2 c2 T) 34)).alloc (.cells #[.int .i64 x1, .int .i64 y1] 47)).heap.size = w.heap.size + 1 + 1 := by simp [go_sem]
  have B0a := (Below.refl w.heap.size w).alloc (Nat.le_refl _) (.cells (sc (some a0) n0 c0 (some a1) n1 c1 (some a2) n2 c2 T) 34)
  have B0b := B0a.alloc B0a.size (.cells #[.int .i64 x1, .int .i64 y1] 47)
  have B0 := Lib.hid (B0b.alloc B0b.size (.cells zc 34))
  have K0 := Lib.hid (((Bk.new w (sc (some a0) n0 c0 (some a1) n1 c1 (some a2) n2 c2 T) 34).alloc (o := (.cells #[.int .i64 x1, .int .i64 y1] 47))).alloc (o := .cells zc 34))
  have KP0 := Bk.new (w.alloc (.cells (sc (some a0) n0 c0 (some a1) n1 c1 (some a2) n2 c2 T) 34)) #[.int .i64 x1, .int .i64 y1] 47
  rw [hz1] at KP0
  have KP := Lib.hid (KP0.alloc (o := .cells zc 34))
  have KR0 := Bk.new ((w.alloc (.cells (sc (some a0) n0 c0 (some a1) n1 c1 (some a2) n2 c2 T) 34)).alloc (.cells #[.int .i64 x1, .int .i64 y1] 47)) zc 34
  rw [hz2] at KR0
  have KR := Lib.hid KR0
  have hb9 : w.heap.size < w.heap.size + 1 := by omega
  have hb8 : w.heap.size < w.heap.size + 1 + 1 := by omega
  have hb7 : w.heap.size + 1 < w.heap.size + 1 + 1 := by omega
  have b0 := K0.out.cell (i := 0) rfl
  have b1 := K0.out.cell (i := 1) rfl
  have b2 := K0.out.cell (i := 2) rfl
  have b3 := K0.out.cell (i := 3) rfl
  have p0 := KP.out.cell (i := 0) rfl
  have p1 := KP.out.cell (i := 1) rfl
  clear hf hr hz1 hz2 B0a B0b KP0 KR0 hr1 hl0 hr2
  go_enter Tryz.func21, Tryz.ntmps21
  go_wp2_with fail
  refine (CR.out _ (HS.out.below B0.out)).mono ?_
  rintro e w1 ⟨g0, d0, rfl, o0, hb⟩
  have K1 := Lib.hid (K0.out.below hb)
  have KR1 := Lib.hid (KR.out.below hb)
  have B1 := Lib.hid (B0.out.trans (hb.mono B0.out.size))
  have O0 := Lib.hid (owns_base o0 (Nat.le_trans B0.out.size (own_at o0)))
  clear hb o0 CR K0 KR KP B0 b0 b1 b2 b3 p0 p1 hb9 hb8 hb7
  have b0 := K1.out.cell (i := 0) rfl
  have b1 := K1.out.cell (i := 1) rfl
  have b2 := K1.out.cell (i := 2) rfl
  have b3 := K1.out.cell (i := 3) rfl
  go_wp2_with fail
  refine (CS.out _ (HS.out.below B1.out)).mono ?_
  rintro e u0 ⟨rfl, hb⟩
  have KKn := Lib.hid (K1.out.below hb)
  have KRn := Lib.hid (KR1.out.below hb)
  have Bn := Lib.hid (B1.out.trans (hb.mono B1.out.size))
  have O0n := Lib.hid (owns_below O0.out hb)
  clear hb CS K1 KR1 B1 O0 b0 b1 b2 b3
  have z0 := KKn.out.cell (i := 0) rfl
  have f0 := KKn.out.frozen 0
  have Gs := Bk.setG u0 w.heap.size 0 (.slice (some ⟨g0, 0, none⟩) n0 d0)
  have K1 := Lib.hid (KKn.out.set (i := 0) (v := .slice (some ⟨g0, 0, none⟩) n0 d0))
  have KR1 := Lib.hid (KRn.out.far (b' := w.heap.size) (i := 0) (v := .slice (some ⟨g0, 0, none⟩) n0 d0) (by omega))
  have B1 := Lib.hid (Bn.out.grown Gs Bn.out.size (fun k hk => by have hk := Option.some.inj hk; omega))
  have O0 := Lib.hid (owns_grown O0n.out Gs (fun k hk => by have := own_ne O0n.out KKn.out (by decide); exact fun e => this (hk.trans e.symm)))
  clear O0n
  have y1 := KKn.out.cell (i := 1) rfl
  clear KKn KRn Bn Gs
  go_wp2_with fail
  refine (P1.out _ (HS.out.below B1.out)).mono ?_
  rintro e u1 ⟨g1, d1, rfl, o1, hb⟩
  have l01 : g0 < g1 := Nat.lt_of_lt_of_le (own_lt O0.out) (own_at o1)
  have O1n := Lib.hid (owns_base o1 (Nat.le_trans B1.out.size (own_at o1)))
  have O0n := Lib.hid (owns_below O0.out hb)
  clear O0
  have KKn := Lib.hid (K1.out.below hb)
  have KRn := Lib.hid (KR1.out.below hb)
  have Bn := Lib.hid (B1.out.trans (hb.mono B1.out.size))
  clear hb o1 K1 KR1 B1 P1
  have z1 := KKn.out.cell (i := 1) rfl
  have f1 := KKn.out.frozen 1
  have Gs := Bk.setG u1 w.heap.size 1 (.slice (some ⟨g1, 0, none⟩) n1 d1)
  have K1 := Lib.hid (KKn.out.set (i := 1) (v := .slice (some ⟨g1, 0, none⟩) n1 d1))
  have KR1 := Lib.hid (KRn.out.far (b' := w.heap.size) (i := 1) (v := .slice (some ⟨g1, 0, none⟩) n1 d1) (by omega))
  have B1 := Lib.hid (Bn.out.grown Gs Bn.out.size (fun k hk => by have hk := Option.some.inj hk; omega))
  have O0 := Lib.hid (owns_grown O0n.out Gs (fun k hk => by have := own_ne O0n.out KKn.out (by decide); exact fun e => this (hk.trans e.symm)))
  have O1 := Lib.hid (owns_grown O1n.out Gs (fun k hk => by have := own_ne O1n.out KKn.out (by decide); exact fun e => this (hk.trans e.symm)))
  clear O0n
  clear O1n
  have y2 := KKn.out.cell (i := 2) rfl
  clear KKn KRn Bn Gs
  go_wp2_with fail
  refine (P2.out _ (HS.out.below B1.out)).mono ?_
  rintro e u2 ⟨g2, d2, rfl, o2, hb⟩
  have l12 : g1 < g2 := Nat.lt_of_lt_of_le (own_lt O1.out) (own_at o2)
  have O2n := Lib.hid (owns_base o2 (Nat.le_trans B1.out.size (own_at o2)))
  have O0n := Lib.hid (owns_below O0.out hb)
  clear O0
  have O1n := Lib.hid (owns_below O1.out hb)
  clear O1
  have KKn := Lib.hid (K1.out.below hb)
  have KRn := Lib.hid (KR1.out.below hb)
  have Bn := Lib.hid (B1.out.trans (hb.mono B1.out.size))
  clear hb o2 K1 KR1 B1 P2
  have z2 := KKn.out.cell (i := 2) rfl
  have f2 := KKn.out.frozen 2
  have Gs := Bk.setG u2 w.heap.size 2 (.slice (some ⟨g2, 0, none⟩) n2 d2)
  have K1 := Lib.hid (KKn.out.set (i := 2) (v := .slice (some ⟨g2, 0, none⟩) n2 d2))
  have KR1 := Lib.hid (KRn.out.far (b' := w.heap.size) (i := 2) (v := .slice (some ⟨g2, 0, none⟩) n2 d2) (by omega))
  have B1 := Lib.hid (Bn.out.grown Gs Bn.out.size (fun k hk => by have hk := Option.some.inj hk; omega))
  have O0 := Lib.hid (owns_grown O0n.out Gs (fun k hk => by have := own_ne O0n.out KKn.out (by decide); exact fun e => this (hk.trans e.symm)))
  have O1 := Lib.hid (owns_grown O1n.out Gs (fun k hk => by have := own_ne O1n.out KKn.out (by decide); exact fun e => this (hk.trans e.symm)))
  have O2 := Lib.hid (owns_grown O2n.out Gs (fun k hk => by have := own_ne O2n.out KKn.out (by decide); exact fun e => this (hk.trans e.symm)))
  clear O0n
  clear O1n
  clear O2n
  clear KKn KRn Bn Gs
  go_upto_region 7 with fail
  generalize u2.setCell ⟨w.heap.size, 2, none⟩ (.slice (some ⟨g2, 0, none⟩) n2 d2) = V at *
  have b0 := K1.out.cell (i := 0) rfl
  have b1 := K1.out.cell (i := 1) rfl
  have b2 := K1.out.cell (i := 2) rfl
  have b3 := K1.out.cell (i := 3) rfl
  have KU := KR1.out
  have BU := B1.out
  have r0 := KU.cell (i := 0) rfl
  have q0 := KU.frozen 0
  have r1 := KU.cell (i := 1) rfl
  have q1 := KU.frozen 1
  have r2 := KU.cell (i := 2) rfl
  have q2 := KU.frozen 2
  have r3 := KU.cell (i := 3) rfl
  have q3 := KU.frozen 3
  go_wp2_with fail
  have KX := ((((KU.set (i := 0) (v := .slice (some ⟨g0, 0, none⟩) n0 d0)).set (i := 1) (v := .slice (some ⟨g1, 0, none⟩) n1 d1)).set (i := 2) (v := .slice (some ⟨g2, 0, none⟩) n2 d2)).set (i := 3) (v := .int .i64 T))
  have s0 := KX.cell (i := 0) rfl
  have s1 := KX.cell (i := 1) rfl
  have s2 := KX.cell (i := 2) rfl
  have s3 := KX.cell (i := 3) rfl
  have GX := (grown_trans (grown_trans (grown_trans (Bk.setG V (w.heap.size + 1 + 1) 0 (.slice (some ⟨g0, 0, none⟩) n0 d0)) (Bk.setG _ (w.heap.size + 1 + 1) 1 (.slice (some ⟨g1, 0, none⟩) n1 d1))) (Bk.setG _ (w.heap.size + 1 + 1) 2 (.slice (some ⟨g2, 0, none⟩) n2 d2))) (Bk.setG _ (w.heap.size + 1 + 1) 3 (.int .i64 T)))
  have BX := BU.grown GX BU.size (fun z9 e9 => by have e9 := Option.some.inj e9; omega)
  refine bodyPost_ret (v := .tuple #[sv (some ⟨g0, 0, none⟩) n0 d0 (some ⟨g1, 0, none⟩) n1 d1 (some ⟨g2, 0, none⟩) n2 d2 T, .bool true]) (by simp [results, Tryz.results21, go_sem, s0, s1, s2, s3]; try rfl) rfl ?_
  exact ⟨g0, d0, g1, d1, g2, d2, rfl, owns_grown O0.out GX (fun k hk => by have := own_ne O0.out KU (by decide); exact fun e => this (hk.trans e.symm)), owns_grown O1.out GX (fun k hk => by have := own_ne O1.out KU (by decide); exact fun e => this (hk.trans e.symm)), owns_grown O2.out GX (fun k hk => by have := own_ne O2.out KU (by decide); exact fun e => this (hk.trans e.symm)), l01, l12, BX⟩
end Go.Proofs.YtejeikfgmiadhaaGreat.Th9
