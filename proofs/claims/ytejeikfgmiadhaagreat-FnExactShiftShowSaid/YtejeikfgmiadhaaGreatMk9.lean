/- The laws' marks in a show. -/
import Derived.Test.YtejeikfgmiadhaaGreatM5
import Derived.Test.YtejeikfgmiadhaaGreatM6
namespace Go.Proofs.YtejeikfgmiadhaaGreat.Mk9
open Go.RowKit Go.ChangeShapes Go.WideShapes Go.WideElems Go.Deep Go.Proofs.YtejeikfgmiadhaaGreat.Mem Go.Proofs.YtejeikfgmiadhaaGreat.Rw Go.Proofs.YtejeikfgmiadhaaGreat.P2 Go.Proofs.YtejeikfgmiadhaaGreat.Bk Go.Proofs.YtejeikfgmiadhaaGreat.Sp Go.Proofs.YtejeikfgmiadhaaGreat.Sq Go.Proofs.YtejeikfgmiadhaaGreat.St9
set_option linter.unusedVariables false
set_option linter.unusedSimpArgs false

/-- Three rows were written into, one behind the other. -/
def G3 (w w' : World) (g0 g1 g2 : Nat) : Prop := ∃ a b, w.grownBy a (some g0) ∧ a.grownBy b (some g1) ∧ b.grownBy w' (some g2)
theorem ne_blk {g : Nat} {n c b : Nat} (hb : b ≠ g) : ∀ k, (Value.slice (some ⟨g, 0, none⟩) n c).ownBlock = some k → some b ≠ some k := by
  intro k hk e
  have hk : g = k := Option.some.inj hk
  have e := Option.some.inj e
  omega
theorem G3.own {w w' : World} {g0 g1 g2 : Nat} (h : G3 w w' g0 g1 g2) {base : Nat} {e : TypeId} {s g n c : Nat} {xs : List Value} (o : w.ownsRow base e s (.slice (some ⟨g, 0, none⟩) n c) n xs) (h0 : g0 ≠ g) (h1 : g1 ≠ g) (h2 : g2 ≠ g) :
    w'.ownsRow base e s (.slice (some ⟨g, 0, none⟩) n c) n xs :=
  let ⟨_, _, a, b, c⟩ := h; owns_grown (owns_grown (owns_grown o a (ne_blk h0)) b (ne_blk h1)) c (ne_blk h2)
theorem G3.bk {w w' : World} {g0 g1 g2 b : Nat} (h : G3 w w' g0 g1 g2) {cs : Array Value} {T : TypeId} (k : Bk w b cs T) (h0 : g0 ≠ b) (h1 : g1 ≠ b) (h2 : g2 ≠ b) : Bk w' b cs T :=
  let ⟨_, _, x, y, z⟩ := h; ((k.grown x (fun e => h0 (Option.some.inj e))).grown y (fun e => h1 (Option.some.inj e))).grown z (fun e => h2 (Option.some.inj e))
theorem G3.below {w0 w w' : World} {g0 g1 g2 : Nat} (h : G3 w w' g0 g1 g2) (b : Below w0.heap.size w0 w) (h0 : w0.heap.size ≤ g0) (h1 : w0.heap.size ≤ g1) (h2 : w0.heap.size ≤ g2) : Below w0.heap.size w0 w' := by
  obtain ⟨_, _, x, y, z⟩ := h
  have b1 := b.grown x b.size (fun k e => by have e := Option.some.inj e; omega)
  have b2 := b1.grown y b1.size (fun k e => by have e := Option.some.inj e; omega)
  exact b2.grown z b2.size (fun k e => by have e := Option.some.inj e; omega)
theorem below_grown {w w' : World} {r : Option Nat} (h : Below w.heap.size w w') : w.grownBy w' r := ⟨h.os, h.tape, h.output, h.size, fun j hj _ => h.block j hj⟩

/-- The marks of a show. -/
def mD (n0 : Nat) : List Value := Dd.dls (Dmk.mkd 1 n0)
def mC (n0 n1 : Nat) : List Value := Cd.dls (Cmk.mkd (1 + n0 * 8) n1)
def mG (n0 n1 n2 : Nat) : List Value := Rw.mk (1 + n0 * 8 + n1 * 4) (n2 * 3)
theorem ret_int {a b : Int} (h : a = b) : Ending.returned (.int .i64 a) = .returned (.int .i64 b) := by rw [h]

set_option maxRecDepth 100000 in
set_option maxHeartbeats 2000000 in
theorem markShow (B n0 n1 n2 g0 g1 g2 c0 c1 c2 : Nat) (T : Int) (ds : List D) (cs : List C) (gs : List G) (w : World) (hf : Fit n0 n1 n2 ds cs gs) (hs : n0 + n1 + n2 ≤ 2097152) (h01 : g0 < g1) (h12 : g1 < g2)
    (o0 : w.ownsRow B 117 8 (.slice (some ⟨g0, 0, none⟩) n0 c0) n0 (Dd.dls ds)) (o1 : w.ownsRow B 97 4 (.slice (some ⟨g1, 0, none⟩) n1 c1) n1 (Cd.dls cs)) (o2 : w.ownsRow B 100 3 (.slice (some ⟨g2, 0, none⟩) n2 c2) n2 (Gs.gls gs)) :
    Calls Tryz.prog 14 #[sv (some ⟨g0, 0, none⟩) n0 c0 (some ⟨g1, 0, none⟩) n1 c1 (some ⟨g2, 0, none⟩) n2 c2 T, .int .i64 1] w fun e w' => e = .returned (.int .i64 ((1 + n0 * 8 + n1 * 4 + n2 * 3 : Nat) : Int)) ∧
      w'.ownsRow B 117 8 (.slice (some ⟨g0, 0, none⟩) n0 c0) n0 (mD n0) ∧ w'.ownsRow B 97 4 (.slice (some ⟨g1, 0, none⟩) n1 c1) n1 (mC n0 n1) ∧ w'.ownsRow B 100 3 (.slice (some ⟨g2, 0, none⟩) n2 c2) n2 (mG n0 n1 n2) ∧ G3 w w' g0 g1 g2 := by
  obtain ⟨⟨hn0, hb0⟩, ⟨hn1, hb1⟩, hn2, hb2⟩ := hf
  obtain ⟨k1, hk1⟩ : ∃ k, 1 + n0 * 8 = k := ⟨_, rfl⟩
  obtain ⟨k2, hk2⟩ : ∃ k, k1 + n1 * 4 = k := ⟨_, rfl⟩
  obtain ⟨k3, hk3⟩ : ∃ k, k2 + n2 * 3 = k := ⟨_, rfl⟩
  have m0 := o0.lt g0 rfl
  have m1 := o1.lt g1 rfl
  have m2 := o2.lt g2 rfl
  have C0 := Lib.hid (fun (W : World) h => (by have := Dmk.markDeviceS B g0 n0 c0 1 ds W hn0 hb0 (by omega) (by omega) h; unfold Dmk.Laid at this; rw [show (((1 : Nat) : Int) + ((n0 * 8 : Nat) : Int)) = (k1 : Int) by omega, show ((1 : Nat) : Int) = 1 by omega] at this; exact this :
    Calls Tryz.prog 44 #[.slice (some ⟨g0, 0, none⟩) n0 c0, .int .i64 1] W _))
  have C1 := Lib.hid (fun (W : World) h => (by have := Cmk.markCueS B g1 n1 c1 k1 cs W hn1 hb1 (by omega) (by omega) h; unfold Cmk.Laid at this; rw [show (((k1 : Nat) : Int) + ((n1 * 4 : Nat) : Int)) = (k2 : Int) by omega] at this; exact this :
    Calls Tryz.prog 45 #[.slice (some ⟨g1, 0, none⟩) n1 c1, .int .i64 (k1 : Int)] W _))
  have C2 := Lib.hid (fun (W : World) h => (by have := Gs.markGustS B g2 n2 c2 k2 (Gs.gls gs) W (by rw [Gs.gls_len, hn2]) hb2 (by omega) h; unfold Gs.Laid at this; rw [show (((k2 : Nat) : Int) + ((n2 * 3 : Nat) : Int)) = (k3 : Int) by omega] at this; exact this :
    Calls Tryz.prog 46 #[.slice (some ⟨g2, 0, none⟩) n2 c2, .int .i64 (k2 : Int)] W _))
  have E := Lib.hid (show mD n0 = Dd.dls (Dmk.mkd 1 n0) ∧ mC n0 n1 = Cd.dls (Cmk.mkd k1 n1) ∧ mG n0 n1 n2 = Rw.mk k2 (n2 * 3) ∧ ((1 + n0 * 8 + n1 * 4 + n2 * 3 : Nat) : Int) = (k3 : Int) from ⟨rfl, by rw [← hk1]; rfl, by rw [← hk2, ← hk1]; rfl, by omega⟩)
  have BX := Lib.hid ((Below.refl w.heap.size w).alloc (Nat.le_refl _) (.cells (sc (some ⟨g0, 0, none⟩) n0 c0 (some ⟨g1, 0, none⟩) n1 c1 (some ⟨g2, 0, none⟩) n2 c2 T) 34))
  have K0 := Lib.hid (Bk.new w (sc (some ⟨g0, 0, none⟩) n0 c0 (some ⟨g1, 0, none⟩) n1 c1 (some ⟨g2, 0, none⟩) n2 c2 T) 34)
  have O0 := Lib.hid (o0.alloc (.cells (sc (some ⟨g0, 0, none⟩) n0 c0 (some ⟨g1, 0, none⟩) n1 c1 (some ⟨g2, 0, none⟩) n2 c2 T) 34))
  have O1 := Lib.hid (o1.alloc (.cells (sc (some ⟨g0, 0, none⟩) n0 c0 (some ⟨g1, 0, none⟩) n1 c1 (some ⟨g2, 0, none⟩) n2 c2 T) 34))
  have O2 := Lib.hid (o2.alloc (.cells (sc (some ⟨g0, 0, none⟩) n0 c0 (some ⟨g1, 0, none⟩) n1 c1 (some ⟨g2, 0, none⟩) n2 c2 T) 34))
  rw [E.out.2.2.2]
  clear o0 o1 o2 hk1 hk2 hk3 hn0 hn1 hn2 hb0 hb1 hb2 hs
  go_enter Tryz.func14, Tryz.ntmps14
  go_wp2_with fail
  refine (C0.out _ O0.out).mono ?_
  rintro e u1 ⟨rfl, p0, q0⟩
  have K1 := Lib.hid (K0.out.grown q0 (fun e => by have e := Option.some.inj e; omega))
  have P0 := Lib.hid p0
  have P1 := Lib.hid (owns_grown O1.out q0 (ne_blk (by omega)))
  have P2 := Lib.hid (owns_grown O2.out q0 (ne_blk (by omega)))
  have Q0 := Lib.hid (grown_trans (below_grown BX.out) q0)
  have y1 := K1.out.cell (i := 1) rfl
  clear p0 q0 K0 O0 O1 O2 BX C0
  go_wp2_with fail
  refine (C1.out _ P1.out).mono ?_
  rintro e u2 ⟨rfl, p1, q1⟩
  have K2 := Lib.hid (K1.out.grown q1 (fun e => by have e := Option.some.inj e; omega))
  have R0 := Lib.hid (owns_grown P0.out q1 (ne_blk (by omega)))
  have R1 := Lib.hid p1
  have R2 := Lib.hid (owns_grown P2.out q1 (ne_blk (by omega)))
  have Q1 := Lib.hid q1
  have y2 := K2.out.cell (i := 2) rfl
  clear p1 q1 K1 P0 P1 P2 C1 y1
  go_wp2_with fail
  refine (C2.out _ R2.out).mono ?_
  rintro e u3 ⟨rfl, p2, q2⟩
  have S0 := Lib.hid (owns_grown R0.out q2 (ne_blk (by omega)))
  have S1 := Lib.hid (owns_grown R1.out q2 (ne_blk (by omega)))
  have S2 := Lib.hid p2
  have Q2 := Lib.hid q2
  clear p2 q2 K2 R0 R1 R2 C2 y2
  go_wp2_with fail
  go_ret
  rw [E.out.1, E.out.2.1, E.out.2.2.1]
  exact ⟨rfl, S0.out, S1.out, S2.out, _, _, Q0.out, Q1.out, Q2.out⟩

set_option maxRecDepth 100000 in
set_option maxHeartbeats 2000000 in
theorem heldShow (n0 n1 n2 c0 c1 c2 : Nat) (A0 A1 A2 : Option Addr) (T : Int) (w : World) (hs : n0 + n1 + n2 ≤ 2097152) (hb0 : n0 ≤ 1048576) (hb1 : n1 ≤ 1048576) (hb2 : n2 ≤ 1048576)
    (r0 : Rd w w.heap.size A0 (mD n0)) (r1 : Rd w w.heap.size A1 (mC n0 n1)) (r2 : Rd w w.heap.size A2 (mG n0 n1 n2)) :
    Calls Tryz.prog 22 #[sv A0 n0 c0 A1 n1 c1 A2 n2 c2 T, .int .i64 1] w fun e w' => e = .returned (.int .i64 ((1 + n0 * 8 + n1 * 4 + n2 * 3 : Nat) : Int)) ∧ Below w.heap.size w w' := by
  obtain ⟨k1, hk1⟩ : ∃ k, 1 + n0 * 8 = k := ⟨_, rfl⟩
  obtain ⟨k2, hk2⟩ : ∃ k, k1 + n1 * 4 = k := ⟨_, rfl⟩
  obtain ⟨k3, hk3⟩ : ∃ k, k2 + n2 * 3 = k := ⟨_, rfl⟩
  have C0 := Lib.hid (fun (W : World) h => (by have := Dmk.heldDeviceS A0 n0 c0 1 W hb0 (by omega) (by omega) h; rw [show (((1 : Nat) : Int) + ((n0 * 8 : Nat) : Int)) = (k1 : Int) by omega, show ((1 : Nat) : Int) = 1 by omega] at this; exact this :
    Calls Tryz.prog 57 #[.slice A0 n0 c0, .int .i64 1] W _))
  have C1 := Lib.hid (fun (W : World) h => (by have := Cmk.heldCueS A1 n1 c1 k1 W hb1 (by omega) (by omega) h; rw [show (((k1 : Nat) : Int) + ((n1 * 4 : Nat) : Int)) = (k2 : Int) by omega] at this; exact this :
    Calls Tryz.prog 58 #[.slice A1 n1 c1, .int .i64 (k1 : Int)] W _))
  have C2 := Lib.hid (fun (W : World) (h : Rd W W.heap.size A2 (Rw.mk k2 (n2 * 3))) => (by have := Gs.heldGustS A2 n2 c2 k2 W.heap.size W hb2 (by omega) h; rw [show (((k2 : Nat) : Int) + ((n2 * 3 : Nat) : Int)) = (k3 : Int) by omega] at this; exact this :
    Calls Tryz.prog 59 #[.slice A2 n2 c2, .int .i64 (k2 : Int)] W _))
  have BX := Lib.hid ((Below.refl w.heap.size w).alloc (Nat.le_refl _) (.cells (sc A0 n0 c0 A1 n1 c1 A2 n2 c2 T) 34))
  have K0 := Lib.hid (Bk.new w (sc A0 n0 c0 A1 n1 c1 A2 n2 c2 T) 34)
  have H0 := Lib.hid (show Rd w w.heap.size A0 (Dd.dls (Dmk.mkd 1 n0)) from r0)
  have H1 := Lib.hid (show Rd w w.heap.size A1 (Cd.dls (Cmk.mkd k1 n1)) by rw [← hk1]; exact r1)
  have H2 := Lib.hid (show Rd w w.heap.size A2 (Rw.mk k2 (n2 * 3)) by rw [← hk2, ← hk1]; exact r2)
  have p1 : ¬ (k1 : Int) < 0 := by omega
  have p2 : ¬ (k2 : Int) < 0 := by omega
  have p3 : ¬ (k3 : Int) < 0 := by omega
  rw [show ((1 + n0 * 8 + n1 * 4 + n2 * 3 : Nat) : Int) = (k3 : Int) by omega]
  clear r0 r1 r2 hk1 hk2 hk3 hs hb0 hb1 hb2
  go_enter Tryz.func22, Tryz.ntmps22
  go_wp2_with fail
  refine (C0.out _ ((H0.out.below BX.out).more BX.out.size)).mono ?_
  rintro e u1 ⟨rfl, hb⟩
  have K1 := Lib.hid (K0.out.below hb)
  have B1 := Lib.hid (BX.out.trans (hb.mono BX.out.size))
  have y1 := K1.out.cell (i := 1) rfl
  clear hb K0 BX C0 H0
  go_wp2_with fail
  refine (C1.out _ ((H1.out.below B1.out).more B1.out.size)).mono ?_
  rintro e u2 ⟨rfl, hb⟩
  have K2 := Lib.hid (K1.out.below hb)
  have B2 := Lib.hid (B1.out.trans (hb.mono B1.out.size))
  have y2 := K2.out.cell (i := 2) rfl
  clear hb K1 B1 C1 H1 y1
  go_wp2_with fail
  refine (C2.out _ ((H2.out.below B2.out).more B2.out.size)).mono ?_
  rintro e u3 ⟨rfl, rfl⟩
  clear K2 C2 H2 y2
  go_wp2_with fail
  go_ret
  exact ⟨rfl, B2.out⟩
end Go.Proofs.YtejeikfgmiadhaaGreat.Mk9
