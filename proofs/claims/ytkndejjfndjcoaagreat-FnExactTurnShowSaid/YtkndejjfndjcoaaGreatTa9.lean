/- TurnShow of the program and of the model. -/
import Derived.Test.YtkndejjfndjcoaaGreatM8
import Derived.Test.YtkndejjfndjcoaaGreatSw9
import Derived.Test.YtkndejjfndjcoaaGreatM22
import Derived.Test.YtkndejjfndjcoaaGreatTq
import Derived.Test.YtkndejjfndjcoaaGreatWt
import Derived.Test.YtkndejjfndjcoaaGreatM24
import Derived.Deep.DeepCutAuto
import Derived.Deep.RegionHeld3
namespace Go.Proofs.YtkndejjfndjcoaaGreat.Ta9
open Go.RowKit Go.ChangeShapes Go.WideShapes Go.WideElems Go.Deep Go.Proofs.YtkndejjfndjcoaaGreat.Mem Go.Proofs.YtkndejjfndjcoaaGreat.Rw Go.Proofs.YtkndejjfndjcoaaGreat.P2 Go.Proofs.YtkndejjfndjcoaaGreat.Bk Go.Proofs.YtkndejjfndjcoaaGreat.Sp Go.Proofs.YtkndejjfndjcoaaGreat.Sq Go.Proofs.YtkndejjfndjcoaaGreat.Jt Go.Proofs.YtkndejjfndjcoaaGreat.St9
open Go.Proofs.YtkndejjfndjcoaaGreat.Sv hiding D C G
open Go.Proofs.YtkndejjfndjcoaaGreat.Ds (sb)
open Go.Proofs.YtkndejjfndjcoaaGreat.Ig (rig)
set_option linter.unusedVariables false
set_option linter.unusedSimpArgs false

abbrev nilShow : Value := .agg #[.slice none 0 0, .slice none 0 0, .slice none 0 0, .int .i64 0]
/-- What comes back: a show of the call's own. -/
def RowW (w : World) (n0 n1 n2 : Nat) (T : Int) (ds : List D) (cs : List C) (gs : List G) (e : Ending) (w' : World) : Prop :=
  ∃ g0 c0 g1 c1 g2 c2, e = .returned (sv (some ⟨g0, 0, none⟩) n0 c0 (some ⟨g1, 0, none⟩) n1 c1 (some ⟨g2, 0, none⟩) n2 c2 T) ∧
    w'.ownsRow w.heap.size 86 8 (.slice (some ⟨g0, 0, none⟩) n0 c0) n0 (Dd.dls ds) ∧ w'.ownsRow w.heap.size 76 4 (.slice (some ⟨g1, 0, none⟩) n1 c1) n1 (Cd.dls cs) ∧ w'.ownsRow w.heap.size 82 3 (.slice (some ⟨g2, 0, none⟩) n2 c2) n2 (Gs.gls gs) ∧ g0 < g1 ∧ g1 < g2 ∧ Below w.heap.size w w'
theorem tr_len {ds : List D} (h : rig ds = true) (n : Int) : (Tr.trV ds n).length = ds.length := by unfold Tr.trV; rw [if_pos h]; simp
theorem tw_len {gs : List G} (h : Wm.wd gs = true) (n : Int) : (Wt.tws gs n).length = gs.length := by rw [Wt.tws_yes h]; simp
theorem step_store_row {ops : Array Oper} {o : Oper} {a : Act} {w : World} {K : Act → World → Prop} {Q : Exit → Act → World → Prop} {E : Prop} (hgd : o.guard = none) (ty : TypeId) (x y : Operand) (ho : o.op = .store ty x y)
    (g : Nat) (cells : Array Value) (hx : a.eval x = .pointer (some ⟨g, 0, none⟩)) (hy : a.eval y = .agg cells) (t : TypeId) (old : Array Value) (hg : Bk w g old t) (hi : (Tryz.prog.info? ty).map (·.size) = some cells.size)
    (hold : old.size = cells.size) (h1 : cells.all (·.oneCell') = true) (h : K (a.put o.dst undef) (w.setRow g cells)) : if Region.wanted o (yielded ops a.tmps) = true then Oper.wp Tryz.prog o a w K Q else E := by
  have hw : Region.wanted o (yielded ops a.tmps) = true := by simp [Region.wanted, hgd]
  rw [if_pos hw]
  exact wp_store_row ty x y ho g cells hx hy t old hg hi hold h1 h
theorem row_grown (w : World) (g : Nat) (cells : Array Value) : w.grownBy (w.setRow g cells) (some g) := ⟨rfl, rfl, rfl, by simp, fun k _ hk => setRow_other w g k _ (fun e => hk (by rw [e]))⟩
theorem row_bk {w : World} {g : Nat} {old : Array Value} {T : TypeId} (cells : Array Value) (h : Bk w g old T) : Bk (w.setRow g cells) g cells T := setRow_heap w g old cells T (0, 0) h
theorem ne_blk {g : Nat} {n c b : Nat} (hb : b ≠ g) : ∀ k, (Value.slice (some ⟨g, 0, none⟩) n c).ownBlock = some k → some b ≠ some k := by
  intro k hk e
  have hk : g = k := Option.some.inj hk
  have e := Option.some.inj e
  omega

set_option maxRecDepth 100000 in
set_option maxHeartbeats 4000000 in
theorem turnNoI (a0 : Addr) (n0 c0 : Nat) (a1 : Addr) (n1 c1 : Nat) (a2 : Addr) (n2 c2 : Nat) (T : Int) (ds : List D) (cs : List C) (gs : List G) (n : Int) (w : World) (hf : Fit n0 n1 n2 ds cs gs) (hr : SR w (some a0) (some a1) (some a2) ds cs gs) (hrr : show9 ds cs gs T = false) :
    Calls Tryz.prog 18 #[sv (some a0) n0 c0 (some a1) n1 c1 (some a2) n2 c2 T, .int .i64 n] w (fun e w' => e = .returned nilShow ∧ Below w.heap.size w w') := by
  have HS := Lib.hid hr
  have hu : undef = Value.tuple #[] := rfl
  have CS := Lib.hid (fun (W : World) (h : SR W (some a0) (some a1) (some a2) ds cs gs) => (by have := Sw9.isShowI (some a0) n0 c0 (some a1) n1 c1 (some a2) n2 c2 T ds cs gs W hf h; rw [hrr] at this; exact this : Calls Tryz.prog 39 #[sv (some a0) n0 c0 (some a1) n1 c1 (some a2) n2 c2 T] W fun e w' => e = .returned (.bool false) ∧ Below W.heap.size W w'))
  have hz : (w.alloc (.cells (sc (some a0) n0 c0 (some a1) n1 c1 (some a2) n2 c2 T) 34)).heap.size = w.heap.size + 1 := by simp [go_sem]
  have B0a := (Below.refl w.heap.size w).alloc (Nat.le_refl _) (.cells (sc (some a0) n0 c0 (some a1) n1 c1 (some a2) n2 c2 T) 34)
  have B0 := Lib.hid (B0a.alloc B0a.size (.cells zc 34))
  have K0 := Lib.hid ((Bk.new w (sc (some a0) n0 c0 (some a1) n1 c1 (some a2) n2 c2 T) 34).alloc (o := .cells zc 34))
  have KR0 := Bk.new (w.alloc (.cells (sc (some a0) n0 c0 (some a1) n1 c1 (some a2) n2 c2 T) 34)) zc 34
  rw [hz] at KR0
  have KR := Lib.hid KR0
  have hb9 : w.heap.size < w.heap.size + 1 := by omega
  have b0 := K0.out.cell (i := 0) rfl
  have b1 := K0.out.cell (i := 1) rfl
  have b2 := K0.out.cell (i := 2) rfl
  have b3 := K0.out.cell (i := 3) rfl
  clear hf hr hrr hz B0a KR0
  go_enter Tryz.func18, Tryz.ntmps18
  go_wp2_with fail
  refine (CS.out _ (HS.out.below B0.out)).mono ?_
  rintro e w1 ⟨rfl, hb⟩
  have KU := KR.out.below hb
  have BU := B0.out.trans (hb.mono B0.out.size)
  have r0 := KU.cell (i := 0) rfl
  have q0 := KU.frozen 0
  have r1 := KU.cell (i := 1) rfl
  have q1 := KU.frozen 1
  have r2 := KU.cell (i := 2) rfl
  have q2 := KU.frozen 2
  have r3 := KU.cell (i := 3) rfl
  have q3 := KU.frozen 3
  clear hb CS HS K0 KR B0 b0 b1 b2 b3
  go_wp2_with fail
  have KX := ((((KU.set (i := 0) (v := .slice none 0 0)).set (i := 1) (v := .slice none 0 0)).set (i := 2) (v := .slice none 0 0)).set (i := 3) (v := .int .i64 0))
  have s0 := KX.cell (i := 0) rfl
  have s1 := KX.cell (i := 1) rfl
  have s2 := KX.cell (i := 2) rfl
  have s3 := KX.cell (i := 3) rfl
  have GX := (grown_trans (grown_trans (grown_trans (Bk.setG w1 (w.heap.size + 1) 0 (.slice none 0 0)) (Bk.setG _ (w.heap.size + 1) 1 (.slice none 0 0))) (Bk.setG _ (w.heap.size + 1) 2 (.slice none 0 0))) (Bk.setG _ (w.heap.size + 1) 3 (.int .i64 0)))
  have BX := BU.grown GX BU.size (fun z9 e9 => by have e9 := Option.some.inj e9; omega)
  refine bodyPost_ret (v := nilShow) (by simp [results, Tryz.results18, go_sem, s0, s1, s2, s3]; try rfl) rfl ?_
  exact ⟨rfl, BX⟩

set_option maxRecDepth 100000 in
set_option maxHeartbeats 4000000 in
theorem turnNoS (a0 : Addr) (n0 c0 : Nat) (a1 : Addr) (n1 c1 : Nat) (a2 : Addr) (n2 c2 : Nat) (T : Int) (ds : List D) (cs : List C) (gs : List G) (n : Int) (w : World) (hf : Fit n0 n1 n2 ds cs gs) (hr : SR w (some a0) (some a1) (some a2) ds cs gs) (hsz : ∀ z ∈ ds, z.nm.size ≤ 1048576 ∧ z.ln.size ≤ 1048576) (hsc : ∀ z ∈ cs, z.nm.size ≤ 1048576) (hrr : show9 ds cs gs T = false) :
    Calls Tryz.prog 17 #[sv (some a0) n0 c0 (some a1) n1 c1 (some a2) n2 c2 T, .int .i64 n] w (fun e w' => e = .returned nilShow ∧ Below w.heap.size w w') := by
  have HS := Lib.hid hr
  have hu : undef = Value.tuple #[] := rfl
  have CS := Lib.hid (fun (W : World) (h : SR W (some a0) (some a1) (some a2) ds cs gs) => (by have := Sw9.isShowS (some a0) n0 c0 (some a1) n1 c1 (some a2) n2 c2 T ds cs gs W hf h hsz hsc; rw [hrr] at this; exact this : Calls Tryz.prog 34 #[sv (some a0) n0 c0 (some a1) n1 c1 (some a2) n2 c2 T] W fun e w' => e = .returned (.bool false) ∧ Below W.heap.size W w'))
  have hz : (w.alloc (.cells (sc (some a0) n0 c0 (some a1) n1 c1 (some a2) n2 c2 T) 34)).heap.size = w.heap.size + 1 := by simp [go_sem]
  have B0a := (Below.refl w.heap.size w).alloc (Nat.le_refl _) (.cells (sc (some a0) n0 c0 (some a1) n1 c1 (some a2) n2 c2 T) 34)
  have B0 := Lib.hid (B0a.alloc B0a.size (.cells zc 34))
  have K0 := Lib.hid ((Bk.new w (sc (some a0) n0 c0 (some a1) n1 c1 (some a2) n2 c2 T) 34).alloc (o := .cells zc 34))
  have KR0 := Bk.new (w.alloc (.cells (sc (some a0) n0 c0 (some a1) n1 c1 (some a2) n2 c2 T) 34)) zc 34
  rw [hz] at KR0
  have KR := Lib.hid KR0
  have hb9 : w.heap.size < w.heap.size + 1 := by omega
  have b0 := K0.out.cell (i := 0) rfl
  have b1 := K0.out.cell (i := 1) rfl
  have b2 := K0.out.cell (i := 2) rfl
  have b3 := K0.out.cell (i := 3) rfl
  clear hf hr hrr hz B0a KR0 hsz hsc
  go_enter Tryz.func17, Tryz.ntmps17
  go_wp2_with fail
  refine (CS.out _ (HS.out.below B0.out)).mono ?_
  rintro e w1 ⟨rfl, hb⟩
  have KU := KR.out.below hb
  have BU := B0.out.trans (hb.mono B0.out.size)
  have r0 := KU.cell (i := 0) rfl
  have q0 := KU.frozen 0
  have r1 := KU.cell (i := 1) rfl
  have q1 := KU.frozen 1
  have r2 := KU.cell (i := 2) rfl
  have q2 := KU.frozen 2
  have r3 := KU.cell (i := 3) rfl
  have q3 := KU.frozen 3
  clear hb CS HS K0 KR B0 b0 b1 b2 b3
  go_wp2_with fail
  have KX := ((((KU.set (i := 0) (v := .slice none 0 0)).set (i := 1) (v := .slice none 0 0)).set (i := 2) (v := .slice none 0 0)).set (i := 3) (v := .int .i64 0))
  have s0 := KX.cell (i := 0) rfl
  have s1 := KX.cell (i := 1) rfl
  have s2 := KX.cell (i := 2) rfl
  have s3 := KX.cell (i := 3) rfl
  have GX := (grown_trans (grown_trans (grown_trans (Bk.setG w1 (w.heap.size + 1) 0 (.slice none 0 0)) (Bk.setG _ (w.heap.size + 1) 1 (.slice none 0 0))) (Bk.setG _ (w.heap.size + 1) 2 (.slice none 0 0))) (Bk.setG _ (w.heap.size + 1) 3 (.int .i64 0)))
  have BX := BU.grown GX BU.size (fun z9 e9 => by have e9 := Option.some.inj e9; omega)
  refine bodyPost_ret (v := nilShow) (by simp [results, Tryz.results17, go_sem, s0, s1, s2, s3]; try rfl) rfl ?_
  exact ⟨rfl, BX⟩

set_option maxRecDepth 100000 in
set_option maxHeartbeats 4000000 in
theorem turnShowI (a0 : Addr) (n0 c0 : Nat) (a1 : Addr) (n1 c1 : Nat) (a2 : Addr) (n2 c2 : Nat) (T : Int) (ds : List D) (cs : List C) (gs : List G) (n : Int) (w : World) (hf : Fit n0 n1 n2 ds cs gs) (hr : SR w (some a0) (some a1) (some a2) ds cs gs) (hrr : show9 ds cs gs T = true) :
    Calls Tryz.prog 18 #[sv (some a0) n0 c0 (some a1) n1 c1 (some a2) n2 c2 T, .int .i64 n] w (RowW w n0 n1 n2 T (Tr.trV ds n) cs (Wt.tws gs n)) := by
  have HS := Lib.hid hr
  have hu : undef = Value.tuple #[] := rfl
  have CS := Lib.hid (fun (W : World) (h : SR W (some a0) (some a1) (some a2) ds cs gs) => (by have := Sw9.isShowI (some a0) n0 c0 (some a1) n1 c1 (some a2) n2 c2 T ds cs gs W hf h; rw [hrr] at this; exact this : Calls Tryz.prog 39 #[sv (some a0) n0 c0 (some a1) n1 c1 (some a2) n2 c2 T] W fun e w' => e = .returned (.bool true) ∧ Below W.heap.size W w'))
  have hz : (w.alloc (.cells (sc (some a0) n0 c0 (some a1) n1 c1 (some a2) n2 c2 T) 34)).heap.size = w.heap.size + 1 := by simp [go_sem]
  have B0a := (Below.refl w.heap.size w).alloc (Nat.le_refl _) (.cells (sc (some a0) n0 c0 (some a1) n1 c1 (some a2) n2 c2 T) 34)
  have B0 := Lib.hid (B0a.alloc B0a.size (.cells zc 34))
  have K0 := Lib.hid ((Bk.new w (sc (some a0) n0 c0 (some a1) n1 c1 (some a2) n2 c2 T) 34).alloc (o := .cells zc 34))
  have KR0 := Bk.new (w.alloc (.cells (sc (some a0) n0 c0 (some a1) n1 c1 (some a2) n2 c2 T) 34)) zc 34
  rw [hz] at KR0
  have KR := Lib.hid KR0
  have hb9 : w.heap.size < w.heap.size + 1 := by omega
  have hs := show_iff.1 hrr
  have hl0 : (Tr.trV ds n).length = n0 := (tr_len hs.1 n).trans hf.1.1
  have hl2 : (Wt.tws gs n).length = n2 := (tw_len hs.2.2.1 n).trans hf.2.2.1
  have P0 := Lib.hid (fun (W : World) (h : SR W (some a0) (some a1) (some a2) ds cs gs) => (by
    have := Tq.turnI (some a0) n0 c0 ds n W hf.1.1 hf.1.2 h.r0; unfold Mo.RowD at this; rw [hl0] at this; exact this :
    Calls Tryz.prog 50 #[.slice (some a0) n0 c0, .int .i64 n] W (fun e w' => ∃ g c, e = .returned (.slice (some ⟨g, 0, none⟩) n0 c) ∧ w'.ownsRow W.heap.size 86 8 (.slice (some ⟨g, 0, none⟩) n0 c) n0 (Dd.dls (Tr.trV ds n)) ∧ Below W.heap.size W w')))
  have P1 := Lib.hid (fun (W : World) (h : SR W (some a0) (some a1) (some a2) ds cs gs) => (by
    have := Cr.cloneC a1 n1 c1 cs W hf.2.1.1 hf.2.1.2 h.r1; unfold Oc.RowC at this; rw [hf.2.1.1] at this; exact this :
    Calls Tryz.prog 51 #[.slice (some a1) n1 c1] W (fun e w' => ∃ g c, e = .returned (.slice (some ⟨g, 0, none⟩) n1 c) ∧ w'.ownsRow W.heap.size 76 4 (.slice (some ⟨g, 0, none⟩) n1 c) n1 (Cd.dls cs) ∧ Below W.heap.size W w')))
  have P2 := Lib.hid (fun (W : World) (h : SR W (some a0) (some a1) (some a2) ds cs gs) => (by
    have := Wt.turnWindI a2 n2 c2 gs n W hf.2.2.1 hf.2.2.2 h.r2; unfold Wa.Row3 at this; rw [hl2] at this; exact this :
    Calls Tryz.prog 52 #[.slice (some a2) n2 c2, .int .i64 n] W (fun e w' => ∃ g c, e = .returned (.slice (some ⟨g, 0, none⟩) n2 c) ∧ w'.ownsRow W.heap.size 82 3 (.slice (some ⟨g, 0, none⟩) n2 c) n2 (Gs.gls (Wt.tws gs n)) ∧ Below W.heap.size W w')))
  have b0 := K0.out.cell (i := 0) rfl
  have b1 := K0.out.cell (i := 1) rfl
  have b2 := K0.out.cell (i := 2) rfl
  have b3 := K0.out.cell (i := 3) rfl
  clear hf hr hrr hz B0a KR0 hs hl0 hl2
  go_enter Tryz.func18, Tryz.ntmps18
  go_wp2_with fail
  refine (CS.out _ (HS.out.below B0.out)).mono ?_
  rintro e w1 ⟨rfl, hb⟩
  have K1 := Lib.hid (K0.out.below hb)
  have KR1 := Lib.hid (KR.out.below hb)
  have B1 := Lib.hid (B0.out.trans (hb.mono B0.out.size))
  clear hb CS K0 KR B0 b0 b1 b2 b3 hb9
  have b0 := K1.out.cell (i := 0) rfl
  have b1 := K1.out.cell (i := 1) rfl
  have b2 := K1.out.cell (i := 2) rfl
  go_wp2_with fail
  refine (P0.out _ (HS.out.below B1.out)).mono ?_
  rintro e u0 ⟨g0, d0, rfl, o0, hb⟩
  have O0n := Lib.hid (owns_base o0 (Nat.le_trans B1.out.size (own_at o0)))
  have KKn := Lib.hid (K1.out.below hb)
  have KRn := Lib.hid (KR1.out.below hb)
  have Bn := Lib.hid (B1.out.trans (hb.mono B1.out.size))
  clear hb o0 K1 KR1 B1 P0 b0
  have z0 := KKn.out.cell (i := 0) rfl
  have f0 := KKn.out.frozen 0
  have Gs := Bk.setG u0 w.heap.size 0 (.slice (some ⟨g0, 0, none⟩) n0 d0)
  have K1 := Lib.hid (KKn.out.set (i := 0) (v := .slice (some ⟨g0, 0, none⟩) n0 d0))
  have KR1 := Lib.hid (KRn.out.far (b' := w.heap.size) (i := 0) (v := .slice (some ⟨g0, 0, none⟩) n0 d0) (by omega))
  have B1 := Lib.hid (Bn.out.grown Gs Bn.out.size (fun k hk => by have hk := Option.some.inj hk; omega))
  have O0 := Lib.hid (owns_grown O0n.out Gs (fun k hk => by have := own_ne O0n.out KKn.out (by decide); exact fun e => this (hk.trans e.symm)))
  clear O0n
  have y1 := KKn.out.cell (i := 1) rfl
  clear KKn KRn Bn Gs
  go_wp2_with fail
  refine (P1.out _ (HS.out.below B1.out)).mono ?_
  rintro e u1 ⟨g1, d1, rfl, o1, hb⟩
  have l01 : g0 < g1 := Nat.lt_of_lt_of_le (own_lt O0.out) (own_at o1)
  have O1n := Lib.hid (owns_base o1 (Nat.le_trans B1.out.size (own_at o1)))
  have O0n := Lib.hid (owns_below O0.out hb)
  clear O0
  have KKn := Lib.hid (K1.out.below hb)
  have KRn := Lib.hid (KR1.out.below hb)
  have Bn := Lib.hid (B1.out.trans (hb.mono B1.out.size))
  clear hb o1 K1 KR1 B1 P1 b1
  have z1 := KKn.out.cell (i := 1) rfl
  have f1 := KKn.out.frozen 1
  have Gs := Bk.setG u1 w.heap.size 1 (.slice (some ⟨g1, 0, none⟩) n1 d1)
  have K1 := Lib.hid (KKn.out.set (i := 1) (v := .slice (some ⟨g1, 0, none⟩) n1 d1))
  have KR1 := Lib.hid (KRn.out.far (b' := w.heap.size) (i := 1) (v := .slice (some ⟨g1, 0, none⟩) n1 d1) (by omega))
  have B1 := Lib.hid (Bn.out.grown Gs Bn.out.size (fun k hk => by have hk := Option.some.inj hk; omega))
  have O0 := Lib.hid (owns_grown O0n.out Gs (fun k hk => by have := own_ne O0n.out KKn.out (by decide); exact fun e => this (hk.trans e.symm)))
  have O1 := Lib.hid (owns_grown O1n.out Gs (fun k hk => by have := own_ne O1n.out KKn.out (by decide); exact fun e => this (hk.trans e.symm)))
  clear O0n
  clear O1n
  have y2 := KKn.out.cell (i := 2) rfl
  clear KKn KRn Bn Gs
  go_wp2_with fail
  refine (P2.out _ (HS.out.below B1.out)).mono ?_
  rintro e u2 ⟨g2, d2, rfl, o2, hb⟩
  have l12 : g1 < g2 := Nat.lt_of_lt_of_le (own_lt O1.out) (own_at o2)
  have O2n := Lib.hid (owns_base o2 (Nat.le_trans B1.out.size (own_at o2)))
  have O0n := Lib.hid (owns_below O0.out hb)
  clear O0
  have O1n := Lib.hid (owns_below O1.out hb)
  clear O1
  have KKn := Lib.hid (K1.out.below hb)
  have KRn := Lib.hid (KR1.out.below hb)
  have Bn := Lib.hid (B1.out.trans (hb.mono B1.out.size))
  clear hb o2 K1 KR1 B1 P2 b2
  have z2 := KKn.out.cell (i := 2) rfl
  have f2 := KKn.out.frozen 2
  have Gs := Bk.setG u2 w.heap.size 2 (.slice (some ⟨g2, 0, none⟩) n2 d2)
  have K1 := Lib.hid (KKn.out.set (i := 2) (v := .slice (some ⟨g2, 0, none⟩) n2 d2))
  have KR1 := Lib.hid (KRn.out.far (b' := w.heap.size) (i := 2) (v := .slice (some ⟨g2, 0, none⟩) n2 d2) (by omega))
  have B1 := Lib.hid (Bn.out.grown Gs Bn.out.size (fun k hk => by have hk := Option.some.inj hk; omega))
  have O0 := Lib.hid (owns_grown O0n.out Gs (fun k hk => by have := own_ne O0n.out KKn.out (by decide); exact fun e => this (hk.trans e.symm)))
  have O1 := Lib.hid (owns_grown O1n.out Gs (fun k hk => by have := own_ne O1n.out KKn.out (by decide); exact fun e => this (hk.trans e.symm)))
  have O2 := Lib.hid (owns_grown O2n.out Gs (fun k hk => by have := own_ne O2n.out KKn.out (by decide); exact fun e => this (hk.trans e.symm)))
  clear O0n
  clear O1n
  clear O2n
  clear KKn KRn Bn Gs
  go_upto_region 6 with fail
  generalize u2.setCell ⟨w.heap.size, 2, none⟩ (.slice (some ⟨g2, 0, none⟩) n2 d2) = V at *
  have b0 := K1.out.cell (i := 0) rfl
  have b1 := K1.out.cell (i := 1) rfl
  have b2 := K1.out.cell (i := 2) rfl
  have b3 := K1.out.cell (i := 3) rfl
  have KU := KR1.out
  have BU := B1.out
  have r0 := KU.cell (i := 0) rfl
  have q0 := KU.frozen 0
  have r1 := KU.cell (i := 1) rfl
  have q1 := KU.frozen 1
  have r2 := KU.cell (i := 2) rfl
  have q2 := KU.frozen 2
  have r3 := KU.cell (i := 3) rfl
  have q3 := KU.frozen 3
  go_wp2_with fail
  have KX := ((((KU.set (i := 0) (v := .slice (some ⟨g0, 0, none⟩) n0 d0)).set (i := 1) (v := .slice (some ⟨g1, 0, none⟩) n1 d1)).set (i := 2) (v := .slice (some ⟨g2, 0, none⟩) n2 d2)).set (i := 3) (v := .int .i64 T))
  have s0 := KX.cell (i := 0) rfl
  have s1 := KX.cell (i := 1) rfl
  have s2 := KX.cell (i := 2) rfl
  have s3 := KX.cell (i := 3) rfl
  have GX := (grown_trans (grown_trans (grown_trans (Bk.setG V (w.heap.size + 1) 0 (.slice (some ⟨g0, 0, none⟩) n0 d0)) (Bk.setG _ (w.heap.size + 1) 1 (.slice (some ⟨g1, 0, none⟩) n1 d1))) (Bk.setG _ (w.heap.size + 1) 2 (.slice (some ⟨g2, 0, none⟩) n2 d2))) (Bk.setG _ (w.heap.size + 1) 3 (.int .i64 T)))
  have BX := BU.grown GX BU.size (fun z9 e9 => by have e9 := Option.some.inj e9; omega)
  refine bodyPost_ret (v := sv (some ⟨g0, 0, none⟩) n0 d0 (some ⟨g1, 0, none⟩) n1 d1 (some ⟨g2, 0, none⟩) n2 d2 T) (by simp [results, Tryz.results18, go_sem, s0, s1, s2, s3]; try rfl) rfl ?_
  exact ⟨g0, d0, g1, d1, g2, d2, rfl, owns_grown O0.out GX (fun k hk => by have := own_ne O0.out KU (by decide); exact fun e => this (hk.trans e.symm)), owns_grown O1.out GX (fun k hk => by have := own_ne O1.out KU (by decide); exact fun e => this (hk.trans e.symm)), owns_grown O2.out GX (fun k hk => by have := own_ne O2.out KU (by decide); exact fun e => this (hk.trans e.symm)), l01, l12, BX⟩

set_option maxRecDepth 100000 in
set_option maxHeartbeats 4000000 in
theorem turnShowS (a0 : Addr) (n0 c0 : Nat) (a1 : Addr) (n1 c1 : Nat) (a2 : Addr) (n2 c2 : Nat) (T : Int) (ds : List D) (cs : List C) (gs : List G) (n : Int) (w : World) (hf : Fit n0 n1 n2 ds cs gs) (hr : SR w (some a0) (some a1) (some a2) ds cs gs) (hsz : ∀ z ∈ ds, z.nm.size ≤ 1048576 ∧ z.ln.size ≤ 1048576) (hsc : ∀ z ∈ cs, z.nm.size ≤ 1048576) (hrr : show9 ds cs gs T = true) :
    Calls Tryz.prog 17 #[sv (some a0) n0 c0 (some a1) n1 c1 (some a2) n2 c2 T, .int .i64 n] w (RowW w n0 n1 n2 T (Tr.trV ds n) cs (Wt.tws gs n)) := by
  have HS := Lib.hid hr
  have hu : undef = Value.tuple #[] := rfl
  have CS := Lib.hid (fun (W : World) (h : SR W (some a0) (some a1) (some a2) ds cs gs) => (by have := Sw9.isShowS (some a0) n0 c0 (some a1) n1 c1 (some a2) n2 c2 T ds cs gs W hf h hsz hsc; rw [hrr] at this; exact this : Calls Tryz.prog 34 #[sv (some a0) n0 c0 (some a1) n1 c1 (some a2) n2 c2 T] W fun e w' => e = .returned (.bool true) ∧ Below W.heap.size W w'))
  have hz : (w.alloc (.cells (sc (some a0) n0 c0 (some a1) n1 c1 (some a2) n2 c2 T) 34)).heap.size = w.heap.size + 1 := by simp [go_sem]
  have B0a := (Below.refl w.heap.size w).alloc (Nat.le_refl _) (.cells (sc (some a0) n0 c0 (some a1) n1 c1 (some a2) n2 c2 T) 34)
  have B0 := Lib.hid (B0a.alloc B0a.size (.cells zc 34))
  have K0 := Lib.hid ((Bk.new w (sc (some a0) n0 c0 (some a1) n1 c1 (some a2) n2 c2 T) 34).alloc (o := .cells zc 34))
  have KR0 := Bk.new (w.alloc (.cells (sc (some a0) n0 c0 (some a1) n1 c1 (some a2) n2 c2 T) 34)) zc 34
  rw [hz] at KR0
  have KR := Lib.hid KR0
  have hb9 : w.heap.size < w.heap.size + 1 := by omega
  have hs := show_iff.1 hrr
  have hl0 : (Tr.trV ds n).length = n0 := (tr_len hs.1 n).trans hf.1.1
  have hl2 : (Wt.tws gs n).length = n2 := (tw_len hs.2.2.1 n).trans hf.2.2.1
  have P0 := Lib.hid (fun (W : World) (h : SR W (some a0) (some a1) (some a2) ds cs gs) => (by
    have := Tr.turnS (some a0) n0 c0 ds n W hf.1.1 hf.1.2 hsz h.r0; unfold Mo.RowD at this; rw [hl0] at this; exact this :
    Calls Tryz.prog 47 #[.slice (some a0) n0 c0, .int .i64 n] W (fun e w' => ∃ g c, e = .returned (.slice (some ⟨g, 0, none⟩) n0 c) ∧ w'.ownsRow W.heap.size 86 8 (.slice (some ⟨g, 0, none⟩) n0 c) n0 (Dd.dls (Tr.trV ds n)) ∧ Below W.heap.size W w')))
  have P1 := Lib.hid (fun (W : World) (h : SR W (some a0) (some a1) (some a2) ds cs gs) => (by
    have := Cr.copiesC a1 n1 c1 cs W hf.2.1.1 hf.2.1.2 h.r1; unfold Oc.RowC at this; rw [hf.2.1.1] at this; exact this :
    Calls Tryz.prog 48 #[.slice (some a1) n1 c1] W (fun e w' => ∃ g c, e = .returned (.slice (some ⟨g, 0, none⟩) n1 c) ∧ w'.ownsRow W.heap.size 76 4 (.slice (some ⟨g, 0, none⟩) n1 c) n1 (Cd.dls cs) ∧ Below W.heap.size W w')))
  have P2 := Lib.hid (fun (W : World) (h : SR W (some a0) (some a1) (some a2) ds cs gs) => (by
    have := Wt.turnWindS (some a2) n2 c2 gs W.heap.size n W hf.2.2.1 hf.2.2.2 (Nat.le_refl _) h.r2; unfold Wa.Row3 at this; rw [hl2] at this; exact this :
    Calls Tryz.prog 49 #[.slice (some a2) n2 c2, .int .i64 n] W (fun e w' => ∃ g c, e = .returned (.slice (some ⟨g, 0, none⟩) n2 c) ∧ w'.ownsRow W.heap.size 82 3 (.slice (some ⟨g, 0, none⟩) n2 c) n2 (Gs.gls (Wt.tws gs n)) ∧ Below W.heap.size W w')))
  have b0 := K0.out.cell (i := 0) rfl
  have b1 := K0.out.cell (i := 1) rfl
  have b2 := K0.out.cell (i := 2) rfl
  have b3 := K0.out.cell (i := 3) rfl
  clear hf hr hrr hz B0a KR0 hs hl0 hl2 hsz hsc
  go_enter Tryz.func17, Tryz.ntmps17
  go_wp2_with fail
  refine (CS.out _ (HS.out.below B0.out)).mono ?_
  rintro e w1 ⟨rfl, hb⟩
  have K1 := Lib.hid (K0.out.below hb)
  have KR1 := Lib.hid (KR.out.below hb)
  have B1 := Lib.hid (B0.out.trans (hb.mono B0.out.size))
  clear hb CS K0 KR B0 b0 b1 b2 b3 hb9
  have b0 := K1.out.cell (i := 0) rfl
  have b1 := K1.out.cell (i := 1) rfl
  have b2 := K1.out.cell (i := 2) rfl
  have b3 := K1.out.cell (i := 3) rfl
  go_upto_region 3 with fail
  refine wp_region_noPanic ?_
  refine wp_region_held_drew (S := (fun w' => w'.cell? ⟨w.heap.size, 0, none⟩ = some (.slice (some a0) n0 c0) ∧ w'.cell? ⟨w.heap.size, 1, none⟩ = some (.slice (some a1) n1 c1) ∧ w'.cell? ⟨w.heap.size, 2, none⟩ = some (.slice (some a2) n2 c2) ∧ w'.cell? ⟨w.heap.size, 3, none⟩ = some (.int .i64 T) ∧ Below w.heap.size w w')) (by kernel_rfl) ?_ (fun hH => ?_)
  · exact ⟨b0, b1, b2, b3, B1.out.drew⟩
  refine wpAnyH_take (i := 0) (oi := { dst := some 9, op := _, type := _, pos := _, after := _, guard := _ }) (v := ?_) rfl (by kernel_rfl) (by kernel_rfl) (by kernel_rfl) (fun _ _ _ h => h) (Or.inl ⟨by rfl, ?_⟩) hH ?_
  rotate_left 1
  · intro W hSw
    (try dsimp only at hSw)
    go_simp
    (try with_reducible rfl)
  try simp only [Act.put, List.setIfInBounds_toArray, List.set_cons_zero, List.set_cons_succ]
  refine wpAnyH_take (i := 1) (oi := { dst := some 10, op := _, type := _, pos := _, after := _, guard := _ }) (v := ?_) rfl (by kernel_rfl) (by kernel_rfl) (by kernel_rfl) (fun _ _ _ h => h) (Or.inl ⟨by rfl, ?_⟩) hH ?_
  rotate_left 1
  · intro W hSw
    (try dsimp only at hSw)
    go_simp
    (try with_reducible rfl)
  try simp only [Act.put, List.setIfInBounds_toArray, List.set_cons_zero, List.set_cons_succ]
  refine wpAnyH_take (i := 2) (oi := { dst := some 11, op := _, type := _, pos := _, after := _, guard := _ }) (v := ?_) rfl (by kernel_rfl) (by kernel_rfl) (by kernel_rfl) (fun _ _ _ h => h) (Or.inl ⟨by rfl, ?_⟩) hH ?_
  rotate_left 1
  · intro W hSw
    (try dsimp only at hSw)
    go_simp
    (try with_reducible rfl)
  try simp only [Act.put, List.setIfInBounds_toArray, List.set_cons_zero, List.set_cons_succ]
  refine wpAnyH_take (i := 4) (oi := { dst := some 13, op := _, type := _, pos := _, after := _, guard := _ }) (v := ?_) rfl (by kernel_rfl) (by kernel_rfl) (by kernel_rfl) (fun _ _ _ h => h) (Or.inl ⟨by rfl, ?_⟩) hH ?_
  rotate_left 1
  · intro W hSw
    (try dsimp only at hSw)
    go_simp
    (try with_reducible rfl)
  try simp only [Act.put, List.setIfInBounds_toArray, List.set_cons_zero, List.set_cons_succ]
  refine wpAnyH_take (i := 5) (oi := { dst := some 14, op := _, type := _, pos := _, after := _, guard := _ }) (v := ?_) rfl (by kernel_rfl) (by kernel_rfl) (by kernel_rfl) (fun _ _ _ h => h) (Or.inl ⟨by rfl, ?_⟩) hH ?_
  rotate_left 1
  · intro W hSw
    (try dsimp only at hSw)
    go_simp
    (try with_reducible rfl)
  try simp only [Act.put, List.setIfInBounds_toArray, List.set_cons_zero, List.set_cons_succ]
  refine wpAnyH_take (i := 7) (oi := { dst := some 16, op := _, type := _, pos := _, after := _, guard := _ }) (v := ?_) rfl (by kernel_rfl) (by kernel_rfl) (by kernel_rfl) (fun _ _ _ h => h) (Or.inl ⟨by rfl, ?_⟩) hH ?_
  rotate_left 1
  · intro W hSw
    (try dsimp only at hSw)
    go_simp
    (try with_reducible rfl)
  try simp only [Act.put, List.setIfInBounds_toArray, List.set_cons_zero, List.set_cons_succ]
  refine wpAnyH_take (i := 8) (oi := { dst := some 17, op := _, type := _, pos := _, after := _, guard := _ }) (v := ?_) rfl (by kernel_rfl) (by kernel_rfl) (by kernel_rfl) (fun _ _ _ h => h) (Or.inl ⟨by rfl, ?_⟩) hH ?_
  rotate_left 1
  · intro W hSw
    (try dsimp only at hSw)
    go_simp
    (try with_reducible rfl)
  try simp only [Act.put, List.setIfInBounds_toArray, List.set_cons_zero, List.set_cons_succ]
  refine wpAnyH_take (i := 9) (oi := { dst := some 18, op := _, type := _, pos := _, after := _, guard := _ }) (v := ?_) rfl (by kernel_rfl) (by kernel_rfl) (by kernel_rfl) (fun _ _ _ h => h) (Or.inl ⟨by rfl, ?_⟩) hH ?_
  rotate_left 1
  · intro W hSw
    (try dsimp only at hSw)
    go_simp
    (try with_reducible rfl)
  try simp only [Act.put, List.setIfInBounds_toArray, List.set_cons_zero, List.set_cons_succ]
  refine wpAnyH_take (i := 11) (oi := { dst := some 20, op := _, type := _, pos := _, after := _, guard := _ }) (v := ?_) rfl (by kernel_rfl) (by kernel_rfl) (by kernel_rfl) (fun _ _ _ h => h) (Or.inl ⟨by rfl, ?_⟩) hH ?_
  rotate_left 1
  · intro W hSw
    (try dsimp only at hSw)
    go_simp
    (try with_reducible rfl)
  try simp only [Act.put, List.setIfInBounds_toArray, List.set_cons_zero, List.set_cons_succ]
  refine wpAnyH_take (i := 12) (oi := { dst := some 21, op := _, type := _, pos := _, after := _, guard := _ }) (v := ?_) rfl (by kernel_rfl) (by kernel_rfl) (by kernel_rfl) (fun _ _ _ h => h) (Or.inl ⟨by rfl, ?_⟩) hH ?_
  rotate_left 1
  · intro W hSw
    (try dsimp only at hSw)
    go_simp
    (try with_reducible rfl)
  try simp only [Act.put, List.setIfInBounds_toArray, List.set_cons_zero, List.set_cons_succ]
  refine wpAnyH_ready (rs := [3]) (by kernel_rfl) (by simp) (AllReadyH.cons rfl (fun K hK => ?_) AllReadyH.nil)
  go_simp
  go_at_call 47; ((with_reducible refine (P0.out _ (HS.out.below hH.2.2.2.2)).mono ?_); rintro e r0 ⟨g0, d0, rfl, o0, hb0⟩); go_wp2_with fail
  refine hK.out _ _ ?_ (fun hG => ?_)
  · exact ⟨cell_below hb0 hH.1, cell_below hb0 hH.2.1, cell_below hb0 hH.2.2.1, cell_below hb0 hH.2.2.2.1, hH.2.2.2.2.trans (hb0.mono hH.2.2.2.2.size)⟩
  replace hH := hG
  clear hK K hG
  try simp only [Act.put, List.setIfInBounds_toArray, List.set_cons_zero, List.set_cons_succ]
  refine wpAnyH_ready (rs := [6]) (by kernel_rfl) (by simp) (AllReadyH.cons rfl (fun K hK => ?_) AllReadyH.nil)
  go_simp
  go_at_call 48; ((with_reducible refine (P1.out _ (HS.out.below hH.2.2.2.2)).mono ?_); rintro e r1 ⟨g1, d1, rfl, o1, hb1⟩); go_wp2_with fail
  refine hK.out _ _ ?_ (fun hG => ?_)
  · exact ⟨cell_below hb1 hH.1, cell_below hb1 hH.2.1, cell_below hb1 hH.2.2.1, cell_below hb1 hH.2.2.2.1, hH.2.2.2.2.trans (hb1.mono hH.2.2.2.2.size)⟩
  replace hH := hG
  clear hK K hG
  try simp only [Act.put, List.setIfInBounds_toArray, List.set_cons_zero, List.set_cons_succ]
  refine wpAnyH_ready (rs := [10]) (by kernel_rfl) (by simp) (AllReadyH.cons rfl (fun K hK => ?_) AllReadyH.nil)
  go_simp
  go_at_call 49; ((with_reducible refine (P2.out _ (HS.out.below hH.2.2.2.2)).mono ?_); rintro e r2 ⟨g2, d2, rfl, o2, hb2⟩); go_wp2_with fail
  refine hK.out _ _ ?_ (fun hG => ?_)
  · exact ⟨cell_below hb2 hH.1, cell_below hb2 hH.2.1, cell_below hb2 hH.2.2.1, cell_below hb2 hH.2.2.2.1, hH.2.2.2.2.trans (hb2.mono hH.2.2.2.2.size)⟩
  replace hH := hG
  clear hK K hG
  try simp only [Act.put, List.setIfInBounds_toArray, List.set_cons_zero, List.set_cons_succ]
  refine wpAnyH_take (i := 13) (oi := { dst := some 22, op := _, type := _, pos := _, after := _, guard := _ }) (v := ?_) rfl (by kernel_rfl) (by kernel_rfl) (by kernel_rfl) (fun _ _ _ h => h) (Or.inl ⟨by rfl, ?_⟩) hH ?_
  rotate_left 1
  · intro W hSw
    (try dsimp only at hSw)
    go_simp
    (try with_reducible rfl)
  try simp only [Act.put, List.setIfInBounds_toArray, List.set_cons_zero, List.set_cons_succ]
  refine wpAnyH_ready (rs := [14]) (by kernel_rfl) (by simp) (AllReadyH.cons rfl (fun K hK => ?_) AllReadyH.nil)
  (have KR2 := ((KR1.out.drew.below hb0).below hb1).below hb2; refine step_store_row rfl 34 (.tmp 4) (.tmp 22) rfl (w.heap.size + 1) #[.slice (some ⟨g0, 0, none⟩) n0 d0, .slice (some ⟨g1, 0, none⟩) n1 d1, .slice (some ⟨g2, 0, none⟩) n2 d2, .int .i64 T] (by simp [Act.eval, Act.put]) (by simp [Act.eval, Act.put]) 34 zc KR2 (by kernel_rfl) rfl (by simp [Value.oneCell']) ?_; refine (show K (Act.put _ none _) _ from ?_); have hgR := row_grown r2 (w.heap.size + 1) #[.slice (some ⟨g0, 0, none⟩) n0 d0, .slice (some ⟨g1, 0, none⟩) n1 d1, .slice (some ⟨g2, 0, none⟩) n2 d2, .int .i64 T])
  refine hK.out _ _ ?_ (fun hG => ?_)
  · exact ⟨hgR.cell hH.1 (fun e => by have e := Option.some.inj e; (have e9 : w.heap.size = w.heap.size + 1 := e); omega), hgR.cell hH.2.1 (fun e => by have e := Option.some.inj e; (have e9 : w.heap.size = w.heap.size + 1 := e); omega), hgR.cell hH.2.2.1 (fun e => by have e := Option.some.inj e; (have e9 : w.heap.size = w.heap.size + 1 := e); omega), hgR.cell hH.2.2.2.1 (fun e => by have e := Option.some.inj e; (have e9 : w.heap.size = w.heap.size + 1 := e); omega), hH.2.2.2.2.grown hgR hH.2.2.2.2.size (fun z9 e9 => by have e9 := Option.some.inj e9; omega)⟩
  replace hH := hG
  clear hK K hG
  try simp only [Act.put, List.setIfInBounds_toArray, List.set_cons_zero, List.set_cons_succ]
  refine wpAnyH_done (by kernel_rfl) ?_ _
  refine NoPanic.normal ?_
  have KX := row_bk #[.slice (some ⟨g0, 0, none⟩) n0 d0, .slice (some ⟨g1, 0, none⟩) n1 d1, .slice (some ⟨g2, 0, none⟩) n2 d2, .int .i64 T] KR2
  have s0 := KX.cell (i := 0) rfl
  have s1 := KX.cell (i := 1) rfl
  have s2 := KX.cell (i := 2) rfl
  have s3 := KX.cell (i := 3) rfl
  have BX := hH.2.2.2.2
  have l01 : g0 < g1 := Nat.lt_of_lt_of_le (own_lt o0) (own_at o1)
  have l12 : g1 < g2 := Nat.lt_of_lt_of_le (own_lt o1) (own_at o2)
  have hlu : w.heap.size + 1 < w1.heap.size := KR1.out.lt
  have q0 : w1.heap.size ≤ g0 := own_at o0
  have O0 := owns_grown (owns_below (owns_below o0 hb1) hb2) hgR (ne_blk (by omega))
  have O1 := owns_grown (owns_below o1 hb2) hgR (ne_blk (by omega))
  have O2 := owns_grown o2 hgR (ne_blk (by omega))
  have P0 := owns_base O0 (show w.heap.size ≤ g0 by omega)
  have P1 := owns_base O1 (show w.heap.size ≤ g1 by omega)
  have P2 := owns_base O2 (show w.heap.size ≤ g2 by omega)
  clear hH hgR
  go_wp2_with fail
  refine bodyPost_ret (v := sv (some ⟨g0, 0, none⟩) n0 d0 (some ⟨g1, 0, none⟩) n1 d1 (some ⟨g2, 0, none⟩) n2 d2 T) (by simp [results, Tryz.results17, go_sem, s0, s1, s2, s3]; try rfl) rfl ?_
  exact ⟨g0, d0, g1, d1, g2, d2, rfl, P0, P1, P2, l01, l12, BX⟩
end Go.Proofs.YtkndejjfndjcoaaGreat.Ta9
