/- ShiftShow of the model. -/
import Derived.Test.YtejeikfgmiadhaaGreatCy9
namespace Go.Proofs.YtejeikfgmiadhaaGreat.Tv9
open Go.RowKit Go.ChangeShapes Go.WideShapes Go.WideElems Go.Deep Go.Proofs.YtejeikfgmiadhaaGreat.Mem Go.Proofs.YtejeikfgmiadhaaGreat.Rw Go.Proofs.YtejeikfgmiadhaaGreat.P2 Go.Proofs.YtejeikfgmiadhaaGreat.Bk Go.Proofs.YtejeikfgmiadhaaGreat.Sp Go.Proofs.YtejeikfgmiadhaaGreat.Sq Go.Proofs.YtejeikfgmiadhaaGreat.Jt Go.Proofs.YtejeikfgmiadhaaGreat.St9 Go.Proofs.YtejeikfgmiadhaaGreat.Ta9 Go.Proofs.YtejeikfgmiadhaaGreat.Th9
open Go.Proofs.YtejeikfgmiadhaaGreat.Sv hiding D C G
open Go.Proofs.YtejeikfgmiadhaaGreat.Ds (sb)
open Go.Proofs.YtejeikfgmiadhaaGreat.Ig (rig)
set_option linter.unusedVariables false
set_option linter.unusedSimpArgs false

open Go.Proofs.YtejeikfgmiadhaaGreat.Sk (shZ shR)
/-- What comes back of the model: rows of the call's own, in no order. -/
def RowZ (w : World) (n0 n1 n2 : Nat) (T : Int) (ds : List D) (cs : List C) (gs : List G) (e : Ending) (w' : World) : Prop :=
  ∃ g0 c0 g1 c1 g2 c2, e = .returned (.tuple #[sv (some ⟨g0, 0, none⟩) n0 c0 (some ⟨g1, 0, none⟩) n1 c1 (some ⟨g2, 0, none⟩) n2 c2 T, .bool true]) ∧
    w'.ownsRow w.heap.size 117 8 (.slice (some ⟨g0, 0, none⟩) n0 c0) n0 (Dd.dls ds) ∧ w'.ownsRow w.heap.size 97 4 (.slice (some ⟨g1, 0, none⟩) n1 c1) n1 (Cd.dls cs) ∧ w'.ownsRow w.heap.size 100 3 (.slice (some ⟨g2, 0, none⟩) n2 c2) n2 (Gs.gls gs) ∧ Below w.heap.size w w'

set_option maxRecDepth 100000 in
set_option maxHeartbeats 4000000 in
theorem shiftNoS1 (a0 : Addr) (n0 c0 : Nat) (a1 : Addr) (n1 c1 : Nat) (a2 : Addr) (n2 c2 : Nat) (T : Int) (ds : List D) (cs : List C) (gs : List G) (x1 y1 : Int) (w : World) (hf : Fit n0 n1 n2 ds cs gs) (hr : SR w (some a0) (some a1) (some a2) ds cs gs) (hsz : ∀ z ∈ ds, z.nm.size ≤ 1048576 ∧ z.ln.size ≤ 1048576) (hsc : ∀ z ∈ cs, z.nm.size ≤ 1048576) (hr1 : shR ds x1 y1 = false) (hr2 : show9 ds cs gs T = true) :
    Calls Tryz.prog 19 #[sv (some a0) n0 c0 (some a1) n1 c1 (some a2) n2 c2 T, .agg #[.int .i64 x1, .int .i64 y1]] w (fun e w' => e = .returned (.tuple #[nilShow, .bool false]) ∧ Below w.heap.size w w') := by
  have HS := Lib.hid hr
  have hu : undef = Value.tuple #[] := rfl
  have CR := Lib.hid (fun (W : World) (h : SR W (some a0) (some a1) (some a2) ds cs gs) => (by have := Sk.shiftS (some a0) n0 c0 ds x1 y1 W hf.1.1 hf.1.2 hsz h.r0; unfold Mo.RowB at this; rw [hr1] at this; exact this : Calls Tryz.prog 51 #[.slice (some a0) n0 c0, .agg #[.int .i64 x1, .int .i64 y1]] W fun e w' => ∃ g c, e = .returned (.tuple #[.slice (some ⟨g, 0, none⟩) (shZ ds x1 y1).length c, .bool false]) ∧ w'.ownsRow W.heap.size 117 8 (.slice (some ⟨g, 0, none⟩) (shZ ds x1 y1).length c) (shZ ds x1 y1).length (Dd.dls (shZ ds x1 y1)) ∧ Below W.heap.size W w'))
  have CS := Lib.hid (fun (W : World) (h : SR W (some a0) (some a1) (some a2) ds cs gs) => (by have := Sw9.isShowS (some a0) n0 c0 (some a1) n1 c1 (some a2) n2 c2 T ds cs gs W hf h hsz hsc; rw [hr2] at this; exact this : Calls Tryz.prog 31 #[sv (some a0) n0 c0 (some a1) n1 c1 (some a2) n2 c2 T] W fun e w' => e = .returned (.bool true) ∧ Below W.heap.size W w'))
  have hz1 : (w.alloc (.cells (sc (some a0) n0 c0 (some a1) n1 c1 (some a2) n2 c2 T) 34)).heap.size = w.heap.size + 1 := by simp [go_sem]
  have hz2 : ((w.alloc (.cells (sc (some a0) n0 c0 (some a1) n1 c1 (some a2) n2 c2 T) 34)).alloc (.cells #[.int .i64 x1, .int .i64 y1] 47)).heap.size = w.heap.size + 1 + 1 := by simp [go_sem]
  have B0a := (Below.refl w.heap.size w).alloc (Nat.le_refl _) (.cells (sc (some a0) n0 c0 (some a1) n1 c1 (some a2) n2 c2 T) 34)
  have B0b := B0a.alloc B0a.size (.cells #[.int .i64 x1, .int .i64 y1] 47)
  have B0 := Lib.hid (B0b.alloc B0b.size (.cells zc 34))
  have K0 := Lib.hid (((Bk.new w (sc (some a0) n0 c0 (some a1) n1 c1 (some a2) n2 c2 T) 34).alloc (o := (.cells #[.int .i64 x1, .int .i64 y1] 47))).alloc (o := .cells zc 34))
  have KP0 := Bk.new (w.alloc (.cells (sc (some a0) n0 c0 (some a1) n1 c1 (some a2) n2 c2 T) 34)) #[.int .i64 x1, .int .i64 y1] 47
  rw [hz1] at KP0
  have KP := Lib.hid (KP0.alloc (o := .cells zc 34))
  have KR0 := Bk.new ((w.alloc (.cells (sc (some a0) n0 c0 (some a1) n1 c1 (some a2) n2 c2 T) 34)).alloc (.cells #[.int .i64 x1, .int .i64 y1] 47)) zc 34
  rw [hz2] at KR0
  have KR := Lib.hid KR0
  have hb9 : w.heap.size < w.heap.size + 1 := by omega
  have hb8 : w.heap.size < w.heap.size + 1 + 1 := by omega
  have hb7 : w.heap.size + 1 < w.heap.size + 1 + 1 := by omega
  have b0 := K0.out.cell (i := 0) rfl
  have b1 := K0.out.cell (i := 1) rfl
  have b2 := K0.out.cell (i := 2) rfl
  have b3 := K0.out.cell (i := 3) rfl
  have p0 := KP.out.cell (i := 0) rfl
  have p1 := KP.out.cell (i := 1) rfl
  clear hf hr hz1 hz2 B0a B0b KP0 KR0 hr1 hsz hsc hr2
  go_enter Tryz.func19, Tryz.ntmps19
  go_wp2_with fail
  refine (CR.out _ (HS.out.below B0.out)).mono ?_
  rintro e w1 ⟨g0, d0, rfl, o0, hb⟩
  have K1 := Lib.hid (K0.out.below hb)
  have KR1 := Lib.hid (KR.out.below hb)
  have B1 := Lib.hid (B0.out.trans (hb.mono B0.out.size))
  have O0 := Lib.hid (owns_base o0 (Nat.le_trans B0.out.size (own_at o0)))
  clear hb o0 CR K0 KR KP B0 b0 b1 b2 b3 p0 p1 hb9 hb8 hb7
  have b0 := K1.out.cell (i := 0) rfl
  have b1 := K1.out.cell (i := 1) rfl
  have b2 := K1.out.cell (i := 2) rfl
  have b3 := K1.out.cell (i := 3) rfl
  go_wp2_with fail
  refine (CS.out _ (HS.out.below B1.out)).mono ?_
  rintro e u0 ⟨rfl, hb⟩
  have KKn := Lib.hid (K1.out.below hb)
  have KRn := Lib.hid (KR1.out.below hb)
  have Bn := Lib.hid (B1.out.trans (hb.mono B1.out.size))
  have O0n := Lib.hid (owns_below O0.out hb)
  clear hb CS K1 KR1 B1 O0 b0 b1 b2 b3
  have KU := KRn.out
  have BU := Bn.out
  have r0 := KU.cell (i := 0) rfl
  have q0 := KU.frozen 0
  have r1 := KU.cell (i := 1) rfl
  have q1 := KU.frozen 1
  have r2 := KU.cell (i := 2) rfl
  have q2 := KU.frozen 2
  have r3 := KU.cell (i := 3) rfl
  have q3 := KU.frozen 3
  clear HS KKn KRn Bn O0n
  go_wp2_with fail
  have KX := ((((KU.set (i := 0) (v := .slice none 0 0)).set (i := 1) (v := .slice none 0 0)).set (i := 2) (v := .slice none 0 0)).set (i := 3) (v := .int .i64 0))
  have s0 := KX.cell (i := 0) rfl
  have s1 := KX.cell (i := 1) rfl
  have s2 := KX.cell (i := 2) rfl
  have s3 := KX.cell (i := 3) rfl
  have GX := (grown_trans (grown_trans (grown_trans (Bk.setG u0 (w.heap.size + 1 + 1) 0 (.slice none 0 0)) (Bk.setG _ (w.heap.size + 1 + 1) 1 (.slice none 0 0))) (Bk.setG _ (w.heap.size + 1 + 1) 2 (.slice none 0 0))) (Bk.setG _ (w.heap.size + 1 + 1) 3 (.int .i64 0)))
  have BX := BU.grown GX BU.size (fun z9 e9 => by have e9 := Option.some.inj e9; omega)
  refine bodyPost_ret (v := .tuple #[nilShow, .bool false]) (by simp [results, Tryz.results19, go_sem, s0, s1, s2, s3]; try rfl) rfl ?_
  exact ⟨rfl, BX⟩

set_option maxRecDepth 100000 in
set_option maxHeartbeats 4000000 in
theorem shiftNoS2 (a0 : Addr) (n0 c0 : Nat) (a1 : Addr) (n1 c1 : Nat) (a2 : Addr) (n2 c2 : Nat) (T : Int) (ds : List D) (cs : List C) (gs : List G) (x1 y1 : Int) (w : World) (hf : Fit n0 n1 n2 ds cs gs) (hr : SR w (some a0) (some a1) (some a2) ds cs gs) (hsz : ∀ z ∈ ds, z.nm.size ≤ 1048576 ∧ z.ln.size ≤ 1048576) (hsc : ∀ z ∈ cs, z.nm.size ≤ 1048576) (hr1 : shR ds x1 y1 = true) (hr2 : show9 ds cs gs T = false) :
    Calls Tryz.prog 19 #[sv (some a0) n0 c0 (some a1) n1 c1 (some a2) n2 c2 T, .agg #[.int .i64 x1, .int .i64 y1]] w (fun e w' => e = .returned (.tuple #[nilShow, .bool false]) ∧ Below w.heap.size w w') := by
  have HS := Lib.hid hr
  have hu : undef = Value.tuple #[] := rfl
  have CR := Lib.hid (fun (W : World) (h : SR W (some a0) (some a1) (some a2) ds cs gs) => (by have := Sk.shiftS (some a0) n0 c0 ds x1 y1 W hf.1.1 hf.1.2 hsz h.r0; unfold Mo.RowB at this; rw [hr1] at this; exact this : Calls Tryz.prog 51 #[.slice (some a0) n0 c0, .agg #[.int .i64 x1, .int .i64 y1]] W fun e w' => ∃ g c, e = .returned (.tuple #[.slice (some ⟨g, 0, none⟩) (shZ ds x1 y1).length c, .bool true]) ∧ w'.ownsRow W.heap.size 117 8 (.slice (some ⟨g, 0, none⟩) (shZ ds x1 y1).length c) (shZ ds x1 y1).length (Dd.dls (shZ ds x1 y1)) ∧ Below W.heap.size W w'))
  have CS := Lib.hid (fun (W : World) (h : SR W (some a0) (some a1) (some a2) ds cs gs) => (by have := Sw9.isShowS (some a0) n0 c0 (some a1) n1 c1 (some a2) n2 c2 T ds cs gs W hf h hsz hsc; rw [hr2] at this; exact this : Calls Tryz.prog 31 #[sv (some a0) n0 c0 (some a1) n1 c1 (some a2) n2 c2 T] W fun e w' => e = .returned (.bool false) ∧ Below W.heap.size W w'))
  have hz1 : (w.alloc (.cells (sc (some a0) n0 c0 (some a1) n1 c1 (some a2) n2 c2 T) 34)).heap.size = w.heap.size + 1 := by simp [go_sem]
  have hz2 : ((w.alloc (.cells (sc (some a0) n0 c0 (some a1) n1 c1 (some a2) n2 c2 T) 34)).alloc (.cells #[.int .i64 x1, .int .i64 y1] 47)).heap.size = w.heap.size + 1 + 1 := by simp [go_sem]
  have B0a := (Below.refl w.heap.size w).alloc (Nat.le_refl _) (.cells (sc (some a0) n0 c0 (some a1) n1 c1 (some a2) n2 c2 T) 34)
  have B0b := B0a.alloc B0a.size (.cells #[.int .i64 x1, .int .i64 y1] 47)
  have B0 := Lib.hid (B0b.alloc B0b.size (.cells zc 34))
  have K0 := Lib.hid (((Bk.new w (sc (some a0) n0 c0 (some a1) n1 c1 (some a2) n2 c2 T) 34).alloc (o := (.cells #[.int .i64 x1, .int .i64 y1] 47))).alloc (o := .cells zc 34))
  have KP0 := Bk.new (w.alloc (.cells (sc (some a0) n0 c0 (some a1) n1 c1 (some a2) n2 c2 T) 34)) #[.int .i64 x1, .int .i64 y1] 47
  rw [hz1] at KP0
  have KP := Lib.hid (KP0.alloc (o := .cells zc 34))
  have KR0 := Bk.new ((w.alloc (.cells (sc (some a0) n0 c0 (some a1) n1 c1 (some a2) n2 c2 T) 34)).alloc (.cells #[.int .i64 x1, .int .i64 y1] 47)) zc 34
  rw [hz2] at KR0
  have KR := Lib.hid KR0
  have hb9 : w.heap.size < w.heap.size + 1 := by omega
  have hb8 : w.heap.size < w.heap.size + 1 + 1 := by omega
  have hb7 : w.heap.size + 1 < w.heap.size + 1 + 1 := by omega
  have b0 := K0.out.cell (i := 0) rfl
  have b1 := K0.out.cell (i := 1) rfl
  have b2 := K0.out.cell (i := 2) rfl
  have b3 := K0.out.cell (i := 3) rfl
  have p0 := KP.out.cell (i := 0) rfl
  have p1 := KP.out.cell (i := 1) rfl
  clear hf hr hz1 hz2 B0a B0b KP0 KR0 hr1 hsz hsc hr2
  go_enter Tryz.func19, Tryz.ntmps19
  go_wp2_with fail
  refine (CR.out _ (HS.out.below B0.out)).mono ?_
  rintro e w1 ⟨g0, d0, rfl, o0, hb⟩
  have K1 := Lib.hid (K0.out.below hb)
  have KR1 := Lib.hid (KR.out.below hb)
  have B1 := Lib.hid (B0.out.trans (hb.mono B0.out.size))
  have O0 := Lib.hid (owns_base o0 (Nat.le_trans B0.out.size (own_at o0)))
  clear hb o0 CR K0 KR KP B0 b0 b1 b2 b3 p0 p1 hb9 hb8 hb7
  have b0 := K1.out.cell (i := 0) rfl
  have b1 := K1.out.cell (i := 1) rfl
  have b2 := K1.out.cell (i := 2) rfl
  have b3 := K1.out.cell (i := 3) rfl
  go_wp2_with fail
  refine (CS.out _ (HS.out.below B1.out)).mono ?_
  rintro e u0 ⟨rfl, hb⟩
  have KKn := Lib.hid (K1.out.below hb)
  have KRn := Lib.hid (KR1.out.below hb)
  have Bn := Lib.hid (B1.out.trans (hb.mono B1.out.size))
  have O0n := Lib.hid (owns_below O0.out hb)
  clear hb CS K1 KR1 B1 O0 b0 b1 b2 b3
  have KU := KRn.out
  have BU := Bn.out
  have r0 := KU.cell (i := 0) rfl
  have q0 := KU.frozen 0
  have r1 := KU.cell (i := 1) rfl
  have q1 := KU.frozen 1
  have r2 := KU.cell (i := 2) rfl
  have q2 := KU.frozen 2
  have r3 := KU.cell (i := 3) rfl
  have q3 := KU.frozen 3
  clear HS KKn KRn Bn O0n
  go_wp2_with fail
  have KX := ((((KU.set (i := 0) (v := .slice none 0 0)).set (i := 1) (v := .slice none 0 0)).set (i := 2) (v := .slice none 0 0)).set (i := 3) (v := .int .i64 0))
  have s0 := KX.cell (i := 0) rfl
  have s1 := KX.cell (i := 1) rfl
  have s2 := KX.cell (i := 2) rfl
  have s3 := KX.cell (i := 3) rfl
  have GX := (grown_trans (grown_trans (grown_trans (Bk.setG u0 (w.heap.size + 1 + 1) 0 (.slice none 0 0)) (Bk.setG _ (w.heap.size + 1 + 1) 1 (.slice none 0 0))) (Bk.setG _ (w.heap.size + 1 + 1) 2 (.slice none 0 0))) (Bk.setG _ (w.heap.size + 1 + 1) 3 (.int .i64 0)))
  have BX := BU.grown GX BU.size (fun z9 e9 => by have e9 := Option.some.inj e9; omega)
  refine bodyPost_ret (v := .tuple #[nilShow, .bool false]) (by simp [results, Tryz.results19, go_sem, s0, s1, s2, s3]; try rfl) rfl ?_
  exact ⟨rfl, BX⟩

set_option maxRecDepth 100000 in
set_option maxHeartbeats 4000000 in
theorem shiftNoS3 (a0 : Addr) (n0 c0 : Nat) (a1 : Addr) (n1 c1 : Nat) (a2 : Addr) (n2 c2 : Nat) (T : Int) (ds : List D) (cs : List C) (gs : List G) (x1 y1 : Int) (w : World) (hf : Fit n0 n1 n2 ds cs gs) (hr : SR w (some a0) (some a1) (some a2) ds cs gs) (hsz : ∀ z ∈ ds, z.nm.size ≤ 1048576 ∧ z.ln.size ≤ 1048576) (hsc : ∀ z ∈ cs, z.nm.size ≤ 1048576) (hr1 : shR ds x1 y1 = false) (hr2 : show9 ds cs gs T = false) :
    Calls Tryz.prog 19 #[sv (some a0) n0 c0 (some a1) n1 c1 (some a2) n2 c2 T, .agg #[.int .i64 x1, .int .i64 y1]] w (fun e w' => e = .returned (.tuple #[nilShow, .bool false]) ∧ Below w.heap.size w w') := by
  have HS := Lib.hid hr
  have hu : undef = Value.tuple #[] := rfl
  have CR := Lib.hid (fun (W : World) (h : SR W (some a0) (some a1) (some a2) ds cs gs) => (by have := Sk.shiftS (some a0) n0 c0 ds x1 y1 W hf.1.1 hf.1.2 hsz h.r0; unfold Mo.RowB at this; rw [hr1] at this; exact this : Calls Tryz.prog 51 #[.slice (some a0) n0 c0, .agg #[.int .i64 x1, .int .i64 y1]] W fun e w' => ∃ g c, e = .returned (.tuple #[.slice (some ⟨g, 0, none⟩) (shZ ds x1 y1).length c, .bool false]) ∧ w'.ownsRow W.heap.size 117 8 (.slice (some ⟨g, 0, none⟩) (shZ ds x1 y1).length c) (shZ ds x1 y1).length (Dd.dls (shZ ds x1 y1)) ∧ Below W.heap.size W w'))
  have CS := Lib.hid (fun (W : World) (h : SR W (some a0) (some a1) (some a2) ds cs gs) => (by have := Sw9.isShowS (some a0) n0 c0 (some a1) n1 c1 (some a2) n2 c2 T ds cs gs W hf h hsz hsc; rw [hr2] at this; exact this : Calls Tryz.prog 31 #[sv (some a0) n0 c0 (some a1) n1 c1 (some a2) n2 c2 T] W fun e w' => e = .returned (.bool false) ∧ Below W.heap.size W w'))
  have hz1 : (w.alloc (.cells (sc (some a0) n0 c0 (some a1) n1 c1 (some a2) n2 c2 T) 34)).heap.size = w.heap.size + 1 := by simp [go_sem]
  have hz2 : ((w.alloc (.cells (sc (some a0) n0 c0 (some a1) n1 c1 (some a2) n2 c2 T) 34)).alloc (.cells #[.int .i64 x1, .int .i64 y1] 47)).heap.size = w.heap.size + 1 + 1 := by simp [go_sem]
  have B0a := (Below.refl w.heap.size w).alloc (Nat.le_refl _) (.cells (sc (some a0) n0 c0 (some a1) n1 c1 (some a2) n2 c2 T) 34)
  have B0b := B0a.alloc B0a.size (.cells #[.int .i64 x1, .int .i64 y1] 47)
  have B0 := Lib.hid (B0b.alloc B0b.size (.cells zc 34))
  have K0 := Lib.hid (((Bk.new w (sc (some a0) n0 c0 (some a1) n1 c1 (some a2) n2 c2 T) 34).alloc (o := (.cells #[.int .i64 x1, .int .i64 y1] 47))).alloc (o := .cells zc 34))
  have KP0 := Bk.new (w.alloc (.cells (sc (some a0) n0 c0 (some a1) n1 c1 (some a2) n2 c2 T) 34)) #[.int .i64 x1, .int .i64 y1] 47
  rw [hz1] at KP0
  have KP := Lib.hid (KP0.alloc (o := .cells zc 34))
  have KR0 := Bk.new ((w.alloc (.cells (sc (some a0) n0 c0 (some a1) n1 c1 (some a2) n2 c2 T) 34)).alloc (.cells #[.int .i64 x1, .int .i64 y1] 47)) zc 34
  rw [hz2] at KR0
  have KR := Lib.hid KR0
  have hb9 : w.heap.size < w.heap.size + 1 := by omega
  have hb8 : w.heap.size < w.heap.size + 1 + 1 := by omega
  have hb7 : w.heap.size + 1 < w.heap.size + 1 + 1 := by omega
  have b0 := K0.out.cell (i := 0) rfl
  have b1 := K0.out.cell (i := 1) rfl
  have b2 := K0.out.cell (i := 2) rfl
  have b3 := K0.out.cell (i := 3) rfl
  have p0 := KP.out.cell (i := 0) rfl
  have p1 := KP.out.cell (i := 1) rfl
  clear hf hr hz1 hz2 B0a B0b KP0 KR0 hr1 hsz hsc hr2
  go_enter Tryz.func19, Tryz.ntmps19
  go_wp2_with fail
  refine (CR.out _ (HS.out.below B0.out)).mono ?_
  rintro e w1 ⟨g0, d0, rfl, o0, hb⟩
  have K1 := Lib.hid (K0.out.below hb)
  have KR1 := Lib.hid (KR.out.below hb)
  have B1 := Lib.hid (B0.out.trans (hb.mono B0.out.size))
  have O0 := Lib.hid (owns_base o0 (Nat.le_trans B0.out.size (own_at o0)))
  clear hb o0 CR K0 KR KP B0 b0 b1 b2 b3 p0 p1 hb9 hb8 hb7
  have b0 := K1.out.cell (i := 0) rfl
  have b1 := K1.out.cell (i := 1) rfl
  have b2 := K1.out.cell (i := 2) rfl
  have b3 := K1.out.cell (i := 3) rfl
  go_wp2_with fail
  refine (CS.out _ (HS.out.below B1.out)).mono ?_
  rintro e u0 ⟨rfl, hb⟩
  have KKn := Lib.hid (K1.out.below hb)
  have KRn := Lib.hid (KR1.out.below hb)
  have Bn := Lib.hid (B1.out.trans (hb.mono B1.out.size))
  have O0n := Lib.hid (owns_below O0.out hb)
  clear hb CS K1 KR1 B1 O0 b0 b1 b2 b3
  have KU := KRn.out
  have BU := Bn.out
  have r0 := KU.cell (i := 0) rfl
  have q0 := KU.frozen 0
  have r1 := KU.cell (i := 1) rfl
  have q1 := KU.frozen 1
  have r2 := KU.cell (i := 2) rfl
  have q2 := KU.frozen 2
  have r3 := KU.cell (i := 3) rfl
  have q3 := KU.frozen 3
  clear HS KKn KRn Bn O0n
  go_wp2_with fail
  have KX := ((((KU.set (i := 0) (v := .slice none 0 0)).set (i := 1) (v := .slice none 0 0)).set (i := 2) (v := .slice none 0 0)).set (i := 3) (v := .int .i64 0))
  have s0 := KX.cell (i := 0) rfl
  have s1 := KX.cell (i := 1) rfl
  have s2 := KX.cell (i := 2) rfl
  have s3 := KX.cell (i := 3) rfl
  have GX := (grown_trans (grown_trans (grown_trans (Bk.setG u0 (w.heap.size + 1 + 1) 0 (.slice none 0 0)) (Bk.setG _ (w.heap.size + 1 + 1) 1 (.slice none 0 0))) (Bk.setG _ (w.heap.size + 1 + 1) 2 (.slice none 0 0))) (Bk.setG _ (w.heap.size + 1 + 1) 3 (.int .i64 0)))
  have BX := BU.grown GX BU.size (fun z9 e9 => by have e9 := Option.some.inj e9; omega)
  refine bodyPost_ret (v := .tuple #[nilShow, .bool false]) (by simp [results, Tryz.results19, go_sem, s0, s1, s2, s3]; try rfl) rfl ?_
  exact ⟨rfl, BX⟩

set_option maxRecDepth 100000 in
set_option maxHeartbeats 4000000 in
theorem shiftShowS (a0 : Addr) (n0 c0 : Nat) (a1 : Addr) (n1 c1 : Nat) (a2 : Addr) (n2 c2 : Nat) (T : Int) (ds : List D) (cs : List C) (gs : List G) (x1 y1 : Int) (w : World) (hf : Fit n0 n1 n2 ds cs gs) (hr : SR w (some a0) (some a1) (some a2) ds cs gs) (hsz : ∀ z ∈ ds, z.nm.size ≤ 1048576 ∧ z.ln.size ≤ 1048576) (hsc : ∀ z ∈ cs, z.nm.size ≤ 1048576) (hr1 : shR ds x1 y1 = true) (hr2 : show9 ds cs gs T = true) :
    Calls Tryz.prog 19 #[sv (some a0) n0 c0 (some a1) n1 c1 (some a2) n2 c2 T, .agg #[.int .i64 x1, .int .i64 y1]] w (RowZ w n0 n1 n2 T (shZ ds x1 y1) cs gs) := by
  have HS := Lib.hid hr
  have hu : undef = Value.tuple #[] := rfl
  have hl0 : (shZ ds x1 y1).length = n0 := (sh_len hr1).trans hf.1.1
  have CR := Lib.hid (fun (W : World) (h : SR W (some a0) (some a1) (some a2) ds cs gs) => (by have := Sk.shiftS (some a0) n0 c0 ds x1 y1 W hf.1.1 hf.1.2 hsz h.r0; unfold Mo.RowB at this; rw [hr1, hl0] at this; exact this : Calls Tryz.prog 51 #[.slice (some a0) n0 c0, .agg #[.int .i64 x1, .int .i64 y1]] W fun e w' => ∃ g c, e = .returned (.tuple #[.slice (some ⟨g, 0, none⟩) n0 c, .bool true]) ∧ w'.ownsRow W.heap.size 117 8 (.slice (some ⟨g, 0, none⟩) n0 c) n0 (Dd.dls (shZ ds x1 y1)) ∧ Below W.heap.size W w'))
  have CS := Lib.hid (fun (W : World) (h : SR W (some a0) (some a1) (some a2) ds cs gs) => (by have := Sw9.isShowS (some a0) n0 c0 (some a1) n1 c1 (some a2) n2 c2 T ds cs gs W hf h hsz hsc; rw [hr2] at this; exact this : Calls Tryz.prog 31 #[sv (some a0) n0 c0 (some a1) n1 c1 (some a2) n2 c2 T] W fun e w' => e = .returned (.bool true) ∧ Below W.heap.size W w'))
  have CC := Lib.hid (fun (W : World) (h : SR W (some a0) (some a1) (some a2) ds cs gs) => Cy9.l9Copy a0 n0 c0 a1 n1 c1 a2 n2 c2 T ds cs gs W hf h)
  have hz1 : (w.alloc (.cells (sc (some a0) n0 c0 (some a1) n1 c1 (some a2) n2 c2 T) 34)).heap.size = w.heap.size + 1 := by simp [go_sem]
  have hz2 : ((w.alloc (.cells (sc (some a0) n0 c0 (some a1) n1 c1 (some a2) n2 c2 T) 34)).alloc (.cells #[.int .i64 x1, .int .i64 y1] 47)).heap.size = w.heap.size + 1 + 1 := by simp [go_sem]
  have B0a := (Below.refl w.heap.size w).alloc (Nat.le_refl _) (.cells (sc (some a0) n0 c0 (some a1) n1 c1 (some a2) n2 c2 T) 34)
  have B0b := B0a.alloc B0a.size (.cells #[.int .i64 x1, .int .i64 y1] 47)
  have B0 := Lib.hid (B0b.alloc B0b.size (.cells zc 34))
  have K0 := Lib.hid (((Bk.new w (sc (some a0) n0 c0 (some a1) n1 c1 (some a2) n2 c2 T) 34).alloc (o := (.cells #[.int .i64 x1, .int .i64 y1] 47))).alloc (o := .cells zc 34))
  have KP0 := Bk.new (w.alloc (.cells (sc (some a0) n0 c0 (some a1) n1 c1 (some a2) n2 c2 T) 34)) #[.int .i64 x1, .int .i64 y1] 47
  rw [hz1] at KP0
  have KP := Lib.hid (KP0.alloc (o := .cells zc 34))
  have KR0 := Bk.new ((w.alloc (.cells (sc (some a0) n0 c0 (some a1) n1 c1 (some a2) n2 c2 T) 34)).alloc (.cells #[.int .i64 x1, .int .i64 y1] 47)) zc 34
  rw [hz2] at KR0
  have KR := Lib.hid KR0
  have hb9 : w.heap.size < w.heap.size + 1 := by omega
  have hb8 : w.heap.size < w.heap.size + 1 + 1 := by omega
  have hb7 : w.heap.size + 1 < w.heap.size + 1 + 1 := by omega
  have b0 := K0.out.cell (i := 0) rfl
  have b1 := K0.out.cell (i := 1) rfl
  have b2 := K0.out.cell (i := 2) rfl
  have b3 := K0.out.cell (i := 3) rfl
  have p0 := KP.out.cell (i := 0) rfl
  have p1 := KP.out.cell (i := 1) rfl
  clear hf hr hz1 hz2 B0a B0b KP0 KR0 hr1 hl0 hsz hsc hr2
  go_enter Tryz.func19, Tryz.ntmps19
  go_wp2_with fail
  refine (CR.out _ (HS.out.below B0.out)).mono ?_
  rintro e w1 ⟨g0, d0, rfl, o0, hb⟩
  have K1 := Lib.hid (K0.out.below hb)
  have KR1 := Lib.hid (KR.out.below hb)
  have B1 := Lib.hid (B0.out.trans (hb.mono B0.out.size))
  have O0 := Lib.hid (owns_base o0 (Nat.le_trans B0.out.size (own_at o0)))
  clear hb o0 CR K0 KR KP B0 b0 b1 b2 b3 p0 p1 hb9 hb8 hb7
  have b0 := K1.out.cell (i := 0) rfl
  have b1 := K1.out.cell (i := 1) rfl
  have b2 := K1.out.cell (i := 2) rfl
  have b3 := K1.out.cell (i := 3) rfl
  go_wp2_with fail
  refine (CS.out _ (HS.out.below B1.out)).mono ?_
  rintro e u0 ⟨rfl, hb⟩
  have KKn := Lib.hid (K1.out.below hb)
  have KRn := Lib.hid (KR1.out.below hb)
  have Bn := Lib.hid (B1.out.trans (hb.mono B1.out.size))
  have O0n := Lib.hid (owns_below O0.out hb)
  clear hb CS K1 KR1 B1 O0 b0 b1 b2 b3
  have b0 := KKn.out.cell (i := 0) rfl
  have b1 := KKn.out.cell (i := 1) rfl
  have b2 := KKn.out.cell (i := 2) rfl
  have b3 := KKn.out.cell (i := 3) rfl
  go_wp2_with fail
  refine (CC.out _ (HS.out.below Bn.out)).mono ?_
  rintro e u1 ⟨k0, e0, g1, d1, g2, d2, rfl, o0, o1, o2, hb⟩
  have hbA := hb.alloc hb.size (.cells #[.slice (some ⟨k0, 0, none⟩) n0 e0, .slice (some ⟨g1, 0, none⟩) n1 d1, .slice (some ⟨g2, 0, none⟩) n2 d2, .int .i64 T] 34)
  have O0 := Lib.hid (owns_below O0n.out hbA)
  have hbB := (Below.refl u1.heap.size u1).alloc (Nat.le_refl _) (.cells #[.slice (some ⟨k0, 0, none⟩) n0 e0, .slice (some ⟨g1, 0, none⟩) n1 d1, .slice (some ⟨g2, 0, none⟩) n2 d2, .int .i64 T] 34)
  have O1 := Lib.hid (owns_below (owns_base o1 (Nat.le_trans Bn.out.size (own_at o1))) hbB)
  have O2 := Lib.hid (owns_below (owns_base o2 (Nat.le_trans Bn.out.size (own_at o2))) hbB)
  have KRv := Lib.hid (KRn.out.below hbA)
  have Bv := Lib.hid (Bn.out.trans (hbA.mono Bn.out.size))
  have KX := Lib.hid (Bk.new u1 #[.slice (some ⟨k0, 0, none⟩) n0 e0, .slice (some ⟨g1, 0, none⟩) n1 d1, .slice (some ⟨g2, 0, none⟩) n2 d2, .int .i64 T] 34)
  have lx : w.heap.size + 1 + 1 < u1.heap.size := (KRn.out.below hb).lt
  clear hb hbA hbB o0 o1 o2 O0n KKn KRn Bn CC HS b0 b1 b2 b3
  go_upto_region 5 with fail
  generalize u1.alloc (.cells #[.slice (some ⟨k0, 0, none⟩) n0 e0, .slice (some ⟨g1, 0, none⟩) n1 d1, .slice (some ⟨g2, 0, none⟩) n2 d2, .int .i64 T] 34) = V at *
  generalize u1.heap.size = xb at *
  have z0 := KX.out.cell (i := 0) rfl
  have f0 := KX.out.frozen 0
  have Gs := Bk.setG V xb 0 (.slice (some ⟨g0, 0, none⟩) n0 d0)
  have KX1 := Lib.hid (KX.out.set (i := 0) (v := .slice (some ⟨g0, 0, none⟩) n0 d0))
  have KR1 := Lib.hid (KRv.out.far (b' := xb) (i := 0) (v := .slice (some ⟨g0, 0, none⟩) n0 d0) (by omega))
  have B1 := Lib.hid (Bv.out.grown Gs Bv.out.size (fun k hk => by have hk := Option.some.inj hk; omega))
  have O0n := Lib.hid (owns_grown O0.out Gs (fun k hk => by have := own_ne O0.out KX.out (by decide); exact fun e => this (hk.trans e.symm)))
  have O1n := Lib.hid (owns_grown O1.out Gs (fun k hk => by have := own_ne O1.out KX.out (by decide); exact fun e => this (hk.trans e.symm)))
  have O2n := Lib.hid (owns_grown O2.out Gs (fun k hk => by have := own_ne O2.out KX.out (by decide); exact fun e => this (hk.trans e.symm)))
  clear O0 O1 O2 Gs KX KRv Bv
  go_upto_region 6 with fail
  clear z0 f0
  generalize V.setCell ⟨xb, 0, none⟩ (.slice (some ⟨g0, 0, none⟩) n0 d0) = V2 at *
  have b0 := KX1.out.cell (i := 0) rfl
  have b1 := KX1.out.cell (i := 1) rfl
  have b2 := KX1.out.cell (i := 2) rfl
  have b3 := KX1.out.cell (i := 3) rfl
  have KU := KR1.out
  have BU := B1.out
  have r0 := KU.cell (i := 0) rfl
  have q0 := KU.frozen 0
  have r1 := KU.cell (i := 1) rfl
  have q1 := KU.frozen 1
  have r2 := KU.cell (i := 2) rfl
  have q2 := KU.frozen 2
  have r3 := KU.cell (i := 3) rfl
  have q3 := KU.frozen 3
  go_wp2_with fail
  have KX := ((((KU.set (i := 0) (v := .slice (some ⟨g0, 0, none⟩) n0 d0)).set (i := 1) (v := .slice (some ⟨g1, 0, none⟩) n1 d1)).set (i := 2) (v := .slice (some ⟨g2, 0, none⟩) n2 d2)).set (i := 3) (v := .int .i64 T))
  have s0 := KX.cell (i := 0) rfl
  have s1 := KX.cell (i := 1) rfl
  have s2 := KX.cell (i := 2) rfl
  have s3 := KX.cell (i := 3) rfl
  have GX := (grown_trans (grown_trans (grown_trans (Bk.setG V2 (w.heap.size + 1 + 1) 0 (.slice (some ⟨g0, 0, none⟩) n0 d0)) (Bk.setG _ (w.heap.size + 1 + 1) 1 (.slice (some ⟨g1, 0, none⟩) n1 d1))) (Bk.setG _ (w.heap.size + 1 + 1) 2 (.slice (some ⟨g2, 0, none⟩) n2 d2))) (Bk.setG _ (w.heap.size + 1 + 1) 3 (.int .i64 T)))
  have BX := BU.grown GX BU.size (fun z9 e9 => by have e9 := Option.some.inj e9; omega)
  refine bodyPost_ret (v := .tuple #[sv (some ⟨g0, 0, none⟩) n0 d0 (some ⟨g1, 0, none⟩) n1 d1 (some ⟨g2, 0, none⟩) n2 d2 T, .bool true]) (by simp [results, Tryz.results19, go_sem, s0, s1, s2, s3]; try rfl) rfl ?_
  exact ⟨g0, d0, g1, d1, g2, d2, rfl, owns_grown O0n.out GX (fun k hk => by have := own_ne O0n.out KU (by decide); exact fun e => this (hk.trans e.symm)), owns_grown O1n.out GX (fun k hk => by have := own_ne O1n.out KU (by decide); exact fun e => this (hk.trans e.symm)), owns_grown O2n.out GX (fun k hk => by have := own_ne O2n.out KU (by decide); exact fun e => this (hk.trans e.symm)), BX⟩
end Go.Proofs.YtejeikfgmiadhaaGreat.Tv9
