/- The draw of a show. -/
import Derived.Test.YtokncfhpmjohdabGreatM6
import Derived.Test.YtokncfhpmjohdabGreatDr6b
import Derived.Test.YtokncfhpmjohdabGreatM15
import Derived.Test.YtokncfhpmjohdabGreatM16
import Derived.Test.YtokncfhpmjohdabGreatSv
import Derived.Deep.DeepCutAuto
set_option linter.unusedVariables false
set_option linter.unusedSimpArgs false
namespace Go.Proofs.YtokncfhpmjohdabGreat.Dh9
open Go.RowKit Go.ChangeShapes Go.WideShapes Go.WideElems Go.Deep Go.Proofs.YtokncfhpmjohdabGreat.Mem Go.Proofs.YtokncfhpmjohdabGreat.Rw Go.Proofs.YtokncfhpmjohdabGreat.P2 Go.Proofs.YtokncfhpmjohdabGreat.Bk
open Go.Proofs.YtokncfhpmjohdabGreat.Draw (Cur Ready Got u8s below new)
open Go.Proofs.YtokncfhpmjohdabGreat.Dw (row_next ready_app grown_app l4Draw)
open Go.Proofs.YtokncfhpmjohdabGreat.Dr6 (Rn l6Draw)
open Go.Proofs.YtokncfhpmjohdabGreat.Dr7 (Dn Sn name_size l7Cue names ready_below gr_below)
open Go.Proofs.YtokncfhpmjohdabGreat.Cr (owns_cap)
open Go.Proofs.YtokncfhpmjohdabGreat.Sv (D C G)
open Go.Proofs.YtokncfhpmjohdabGreat.Am0 (add0)
open Go.Proofs.YtokncfhpmjohdabGreat.Am8 (addS)
open Go.Proofs.YtokncfhpmjohdabGreat.Ac (addL addG)
open Go.Proofs.YtokncfhpmjohdabGreat.Cd (va ca)
set_option linter.unusedVariables false
set_option linter.unusedSimpArgs false

/-- What is known of a show that was drawn. -/
structure Hn (ds : List D) (cs : List C) (gs : List G) (T : Int) : Prop where
  rig : Rn ds
  one : 1 ≤ ds.length
  score : Sn cs 5
  wind : Wm.wd gs = true
  few : gs.length ≤ 5
  t0 : 0 ≤ T
  t1 : T ≤ 13
theorem own_rd {w : World} {base q : Nat} {A : Option Addr} {c s : Nat} {T : TypeId} {xs : List Value} (h : w.ownsRow base T s (.slice A q c) q xs) : Rd w w.heap.size A xs := by
  rcases h.2 with ⟨e, e2⟩ | ⟨g, cap, cur, e, _⟩
  · injection e with e x1 x2; subst e; obtain rfl : xs = [] := List.length_eq_zero_iff.1 (by rw [h.1, x1, Nat.zero_mul]); exact Rd.nil _ _ _
  · injection e with e; subst e; exact Rd.own h
theorem own_base9 {w : World} {b b' q c s : Nat} {A : Option Addr} {T : TypeId} {xs : List Value} (h : w.ownsRow b T s (.slice A q c) q xs) (hb : b' ≤ b) : w.ownsRow b' T s (.slice A q c) q xs := by
  refine ⟨h.1, h.2.imp id fun ⟨g, cap, cur, e1, e2, e3, e4⟩ => ⟨g, cap, cur, e1, ?_, e3, e4⟩⟩
  omega
/-- What the draw of a show leaves. -/
def GotS (w : World) (g : Nat) (A : Option Addr) (n c : Nat) (e : Ending) (w' : World) : Prop :=
  ∃ (ds : List D) (cs : List C) (gs : List G) (T : Int) (q0 g0 c0 : Nat) (A1 : Option Addr) (q1 c1 q2 g2 c2 : Nat), ds.length = q0 ∧ cs.length = q1 ∧ gs.length = q2 ∧ Hn ds cs gs T ∧
    e = .returned (.agg #[(.slice (some ⟨g0, 0, none⟩) q0 c0), (.slice A1 q1 c1), (.slice (some ⟨g2, 0, none⟩) q2 c2), .int .i64 T]) ∧ w'.ownsRow w.heap.size 36 8 (.slice (some ⟨g0, 0, none⟩) q0 c0) q0 (Dd.dls ds) ∧ w'.ownsRow w.heap.size 63 4 (.slice A1 q1 c1) q1 (Cd.dls cs) ∧ w'.ownsRow w.heap.size 133 3 (.slice (some ⟨g2, 0, none⟩) q2 c2) q2 (Gs.gls gs) ∧ Cur w' g A n c ∧ w.grownBy w' (some g)

/-- A row of a slice of any kind is as it was where the cursor alone is written, or another block. -/
theorem own_next {a b : World} {base g q c s : Nat} {A : Option Addr} {e : TypeId} {xs : List Value} (h : a.ownsRow base e s (.slice A q c) q xs) (k : a.grownBy b (some g)) (hg : g < base) : b.ownsRow base e s (.slice A q c) q xs :=
  owns_grown h k (fun i hi => by intro e; have e : g = i := Option.some.inj e; have h7 : base ≤ i := (h.lt i hi).1; omega)
theorem own_far {a b : World} {base x q c s : Nat} {A : Option Addr} {e T : TypeId} {xs : List Value} {cs : Array Value} (h : a.ownsRow base e s (.slice A q c) q xs) (k : a.grownBy b (some x)) (hb : Bk a x cs T) (hT : e ≠ T) : b.ownsRow base e s (.slice A q c) q xs := by
  rcases h.2 with ⟨e1, e2⟩ | ⟨g, cap, cur, e1, _⟩
  · injection e1 with e1 e3 e4
    subst e1
    exact owns_grown h k (fun i hi => by cases hi)
  · injection e1 with e1 e3 e4
    subst e1
    exact owns_grown h k (fun i hi => by have := own_ne h hb hT; exact fun e => this (hi.trans e.symm))

set_option maxRecDepth 100000 in
set_option maxHeartbeats 4000000 in
theorem l9Draw {w : World} {g n c : Nat} {A : Option Addr} {bs : List UInt8} (h : Ready w g A n c bs) :
    Calls Tryz.prog 25 #[.pointer (some ⟨g, 0, none⟩)] w (GotS w g A n c) := by
  have hlt := h.cur.lt
  have NG := Lib.hid hlt
  have H1 := Lib.hid (h.alloc (.cells #[.slice none 0 0, .slice none 0 0, .slice none 0 0, .int .i64 0] 28))
  have G1 := Lib.hid (World.grownBy_alloc w (.cells #[.slice none 0 0, .slice none 0 0, .slice none 0 0, .int .i64 0] 28) (some g))
  have KR1 := Lib.hid (Bk.new w #[.slice none 0 0, .slice none 0 0, .slice none 0 0, .int .i64 0] 28)
  have NR := Lib.hid (show (some g : Option Nat) ≠ some w.heap.size from fun e => by have e := Option.some.inj e; omega)
  clear h hlt
  go_enter Tryz.func25, Tryz.ntmps25
  go_wp2_with fail
  refine (l6Draw H1.out).mono ?_
  rintro e w1 ⟨ds, q0, g0, c0, hq, h1, hR, rfl, ho, k1, k2⟩
  have HD := Lib.hid hR
  have LD := Lib.hid hq
  have L1 := Lib.hid h1
  have O0 := Lib.hid (owns_base ho (show w.heap.size ≤ g0 from Nat.le_trans (by simp) (ho.lt g0 rfl).1))
  have H2 := Lib.hid (H1.out.next k2 k1)
  have G2 := Lib.hid (Draw.grown_trans G1.out k2)
  have KR2 := Lib.hid (KR1.out.grown k2 NR.out)
  clear k1 k2 ho hR hq h1 H1 G1 KR1
  go_wp2_with fail
  refine (l4Draw H2.out).mono ?_
  rintro e w2 ⟨gs, q2, g2, c2, hwd, hq, h5, rfl, ho, k1, k2⟩
  have HW := Lib.hid hwd
  have LW := Lib.hid hq
  have L5 := Lib.hid h5
  have O2 := Lib.hid (owns_base ho (Nat.le_trans G2.out.size (ho.lt g2 rfl).1))
  have O0b := Lib.hid (row_next O0.out k2 NG.out)
  have H3 := Lib.hid (H2.out.next k2 k1)
  have G3 := Lib.hid (Draw.grown_trans G2.out k2)
  have KR3 := Lib.hid (KR2.out.grown k2 NR.out)
  clear k1 k2 ho hq hwd h5 H2 G2 KR2 O0
  go_wp2_with fail
  refine (below H3.out 14 (by decide) (by decide)).mono ?_
  rintro e w3 ⟨T, hT, rfl, k1, k2⟩
  have HT := Lib.hid hT
  have O0 := Lib.hid (row_next O0b.out k2 NG.out)
  have O2b := Lib.hid (row_next O2.out k2 NG.out)
  have H4 := Lib.hid (H3.out.next k2 k1)
  have G4 := Lib.hid (Draw.grown_trans G3.out k2)
  have KR4 := Lib.hid (KR3.out.grown k2 NR.out)
  clear k1 k2 hT H3 G3 KR3 O0b O2
  have hbA := (Below.refl w3.heap.size w3).alloc (Nat.le_refl _) (.cells #[(.slice (some ⟨g0, 0, none⟩) q0 c0), .slice none 0 0, (.slice (some ⟨g2, 0, none⟩) q2 c2), .int .i64 T] 28)
  have LB := Lib.hid KR4.out.lt
  have KB5 := Lib.hid (Bk.new w3 #[(.slice (some ⟨g0, 0, none⟩) q0 c0), .slice none 0 0, (.slice (some ⟨g2, 0, none⟩) q2 c2), .int .i64 T] 28)
  have O0b := Lib.hid (owns_below O0.out hbA)
  have O2 := Lib.hid (owns_below O2b.out hbA)
  have H5 := Lib.hid (H4.out.alloc (.cells #[(.slice (some ⟨g0, 0, none⟩) q0 c0), .slice none 0 0, (.slice (some ⟨g2, 0, none⟩) q2 c2), .int .i64 T] 28))
  have G5 := Lib.hid (Draw.grown_trans G4.out (World.grownBy_alloc w3 (.cells #[(.slice (some ⟨g0, 0, none⟩) q0 c0), .slice none 0 0, (.slice (some ⟨g2, 0, none⟩) q2 c2), .int .i64 T] 28) (some g)))
  have KR5 := Lib.hid (KR4.out.below hbA)
  have NB := Lib.hid (show (some g : Option Nat) ≠ some w3.heap.size from fun e => by have e := Option.some.inj e; have := NG.out; have := LB.out; omega)
  clear hbA O0 O2b H4 G4 KR4
  go_upto_region 2 with fail
  generalize w3.alloc (.cells #[(.slice (some ⟨g0, 0, none⟩) q0 c0), .slice none 0 0, (.slice (some ⟨g2, 0, none⟩) q2 c2), .int .i64 T] 28) = w4 at *
  generalize w3.heap.size = b at *
  go_wp2_with fail
  refine (below H5.out 6 (by decide) (by decide)).mono ?_
  rintro e w5 ⟨x, hx, rfl, k1, k2⟩
  obtain ⟨x, rfl⟩ : ∃ k : Nat, x = (k : Int) := ⟨x.toNat, by omega⟩
  have O0 := Lib.hid (row_next O0b.out k2 NG.out)
  have O2b := Lib.hid (row_next O2.out k2 NG.out)
  have H6 := Lib.hid (H5.out.next k2 k1)
  have G6 := Lib.hid (Draw.grown_trans G5.out k2)
  have KR6 := Lib.hid (KR5.out.grown k2 NR.out)
  have KB6 := Lib.hid (KB5.out.grown k2 NB.out)
  have hx5 : x ≤ 5 := by omega
  clear k1 k2 hx H5 G5 KR5 KB5 O0b O2
  go_wp2_with fail
  go_loopw [4] (fun mv wr => ∃ (zs : List C) (A1 : Option Addr) (q c1 m k : Nat), k + m ≤ 5 ∧ q ≤ k ∧ mv = .int .i64 m ∧ Hid ((A1 = none ∧ q = 0 ∧ c1 = 0) ∨ ∃ gr, A1 = some ⟨gr, 0, none⟩) ∧ Hid (zs.length = q) ∧ Hid (Sn zs k) ∧ Hid (wr.ownsRow w.heap.size 63 4 (.slice A1 q c1) q (Cd.dls zs)) ∧ Hid (Bk wr b #[(.slice (some ⟨g0, 0, none⟩) q0 c0), .slice A1 q c1, (.slice (some ⟨g2, 0, none⟩) q2 c2), .int .i64 T] 28) ∧ Hid (Bk wr w.heap.size #[.slice none 0 0, .slice none 0 0, .slice none 0 0, .int .i64 0] 28) ∧ Hid (wr.ownsRow w.heap.size 36 8 (.slice (some ⟨g0, 0, none⟩) q0 c0) q0 (Dd.dls ds)) ∧ Hid (wr.ownsRow w.heap.size 133 3 (.slice (some ⟨g2, 0, none⟩) q2 c2) q2 (Gs.gls gs)) ∧ Hid (Ready wr g A n c bs) ∧ Hid (w.grownBy wr (some g))) (fun mv _ => (intOf mv).toNat)
  case atStart => exact ⟨[], none, 0, 0, x, 0, by omega, Nat.le_refl _, rfl, Lib.hid (Or.inl ⟨rfl, rfl, rfl⟩), Lib.hid rfl, Lib.hid Sn.zero, Lib.hid (World.ownsRow_nil _ _ _ _), KB6, KR6, O0, O2b, H6, G6⟩
  case round =>
    obtain ⟨zs, A1, q, c1, m, k, hqm, hqk, rfl, FK, ZK, SK, OK, BK, RK, P0, P2, HK, GK⟩ := hrel
    by_cases hm0 : 0 < m
    · have hm0' : (0 : Int) < (m : Int) := by omega
      clear H6 G6 O0 O2b KR6 KB6
      go_wp2_with fail
      refine (l7Cue HK.out).mono ?_
      rintro e u1 ⟨t, s, l, r, hd, rfl, k1, k2⟩
      have DD := Lib.hid hd
      have hbA := (Below.refl u1.heap.size u1).alloc (Nat.le_refl _) (.cells (ca t s l r) 63)
      have KX1 := Lib.hid (Bk.new u1 (ca t s l r) 63)
      have O1 := Lib.hid (owns_below (own_next OK.out k2 NG.out) hbA)
      have LV := Lib.hid (fun (i : Nat) (hi : (Value.slice A1 q c1).ownBlock = some i) => ((own_next OK.out k2 NG.out).lt i hi).2)
      have Q0 := Lib.hid (owns_below (row_next P0.out k2 NG.out) hbA)
      have Q2 := Lib.hid (owns_below (row_next P2.out k2 NG.out) hbA)
      have B1 := Lib.hid ((BK.out.grown k2 NB.out).below hbA)
      have R1 := Lib.hid ((RK.out.grown k2 NR.out).below hbA)
      have H7 := Lib.hid ((HK.out.next k2 k1).alloc (.cells (ca t s l r) 63))
      have G7 := Lib.hid (Draw.grown_trans (Draw.grown_trans GK.out k2) (World.grownBy_alloc u1 (.cells (ca t s l r) 63) (some g)))
      have LX := Lib.hid (BK.out.grown k2 NB.out).lt
      have LY := Lib.hid (RK.out.grown k2 NR.out).lt
      have NX := Lib.hid (show (some g : Option Nat) ≠ some u1.heap.size from fun e => by have e := Option.some.inj e; have := NG.out; have := LY.out; omega)
      clear hbA k1 k2 hd HK GK OK BK RK P0 P2
      go_upto_region 6 with fail
      generalize u1.alloc (.cells (ca t s l r) 63) = u2 at *
      generalize u1.heap.size = xb at *
      go_wp2_with fail
      refine (below H7.out 8 (by decide) (by decide)).mono ?_
      rintro e u3 ⟨y, hy, rfl, k1, k2⟩
      have KX2 := Lib.hid (KX1.out.grown k2 NX.out)
      have DY := Lib.hid (show Dn ⟨y, s, l, r⟩ from ⟨by have := hy.1; simpa using this, by have := hy.2; simp; omega, DD.out.2.2⟩)
      have GS := Bk.setG u3 xb 0 (.int .i64 y)
      have e0 := KX2.out.cell (i := 0) rfl
      have f0 := KX2.out.frozen 0
      have KX3 := Lib.hid (KX2.out.set (i := 0) (v := .int .i64 y))
      have hg3 : g < xb := by have := NG.out; have := LY.out; omega
      have O1b := Lib.hid (owns_grown (own_next O1.out k2 NG.out) GS (fun i hi e => by have e := Option.some.inj e; have := LV.out i hi; omega))
      have Q0b := Lib.hid (own_far (row_next Q0.out k2 NG.out) GS KX2.out (by decide))
      have Q2b := Lib.hid (own_far (row_next Q2.out k2 NG.out) GS KX2.out (by decide))
      have B2 := Lib.hid ((B1.out.grown k2 NB.out).far (b' := xb) (i := 0) (v := .int .i64 y) (by have := LX.out; omega))
      have R2 := Lib.hid ((R1.out.grown k2 NR.out).far (b' := xb) (i := 0) (v := .int .i64 y) (by have := LY.out; omega))
      have H8 := Lib.hid (ready_app (H7.out.next k2 k1) GS hg3)
      have G8 := Lib.hid (grown_app (Draw.grown_trans G7.out k2) GS (by have := LY.out; omega))
      clear k1 k2 hy GS hg3 H7 G7 O1 Q0 Q2 B1 R1 KX1 KX2
      go_upto_region 7 with fail
      clear e0 f0
      generalize u3.setCell ⟨xb, 0, none⟩ (.int .i64 y) = u4 at *
      have b1 := B2.out.cell (i := 1) rfl
      have x0 := KX3.out.cell (i := 0) rfl
      have x1 := KX3.out.cell (i := 1) rfl
      have x2 := KX3.out.cell (i := 2) rfl
      have x3 := KX3.out.cell (i := 3) rfl
      have HSX := Lib.hid (show s.size ≤ 1048576 from Nat.le_trans (name_size DD.out.2.2) (by decide))
      obtain ⟨L, hL⟩ : ∃ L, addL zs ⟨y, s, l, r⟩ = L := ⟨_, rfl⟩
      have SL := Lib.hid (show Sn L (k + 1) by rw [← hL]; exact SK.out.next DY.out)
      obtain ⟨ag, hag⟩ : ∃ b, addG zs ⟨y, s, l, r⟩ = b := ⟨_, rfl⟩
      have AD : Calls Tryz.prog 59 #[.slice A1 q c1, va y s l r] u4 (Oc.RowB u4 L ag) := by
        rcases FK.out with ⟨rfl, rfl, rfl⟩ | ⟨gr, rfl⟩
        · have hz : zs = [] := List.length_eq_zero_iff.1 ZK.out
          subst hz
          have := add0 y s l r u4 HSX.out
          rw [hL, hag] at this; exact this
        · have hcap := owns_cap O1b.out
          have := addS gr 0 q c1 zs y s l r u4 ZK.out (by omega) hcap.1 hcap.2 SK.out.sizes HSX.out (own_rd O1b.out)
          rw [hL, hag] at this; exact this
      obtain ⟨q9, hq9⟩ : ∃ q9, L.length = q9 := ⟨_, rfl⟩
      unfold Oc.RowB at AD
      rw [hq9] at AD
      have AD := Lib.hid AD
      have HQ9 := Lib.hid hq9
      have hq9k : q9 ≤ k + 1 := by have := SL.out.2.1; omega
      clear hL hag hq9
      go_wp2_with fail
      refine AD.out.mono ?_
      rintro e u5 ⟨g9, c9, rfl, ho, hb⟩
      have O9 := Lib.hid (owns_base ho (Nat.le_trans G8.out.size (ho.lt g9 rfl).1))
      have H9 := Lib.hid (ready_below H8.out hb)
      have G9 := Lib.hid (Draw.grown_trans G8.out (gr_below hb))
      have Q0c := Lib.hid (owns_below Q0b.out hb)
      have Q2c := Lib.hid (owns_below Q2b.out hb)
      have B3 := Lib.hid (B2.out.below hb)
      have R3 := Lib.hid (R2.out.below hb)
      clear ho hb b1 x0 x1 x2 x3 O1b H8 G8 Q0b Q2b B2 R2 AD KX3
      have b1 := B3.out.cell (i := 1) rfl
      have f1 := B3.out.frozen 1
      have GS := Bk.setG u5 b 1 (.slice (some ⟨g9, 0, none⟩) q9 c9)
      have B4 := Lib.hid (B3.out.set (i := 1) (v := .slice (some ⟨g9, 0, none⟩) q9 c9))
      have R4 := Lib.hid (R3.out.far (b' := b) (i := 1) (v := .slice (some ⟨g9, 0, none⟩) q9 c9) (by have := LB.out; omega))
      have O9b := Lib.hid (own_far O9.out GS B3.out (by decide))
      have Q0d := Lib.hid (own_far Q0c.out GS B3.out (by decide))
      have Q2d := Lib.hid (own_far Q2c.out GS B3.out (by decide))
      have H10 := Lib.hid (ready_app H9.out GS (by have := NG.out; have := LB.out; omega))
      have G10 := Lib.hid (grown_app G9.out GS (by have := LB.out; omega))
      have e4 : (m : Int) - 1 = ((m - 1 : Nat) : Int) := by omega
      have E4 := Lib.hid e4
      clear GS e4 O9 Q0c Q2c B3 R3 H9 G9
      go_wp2_with fail
      go_roundw
      case rel => exact ⟨L, some ⟨g9, 0, none⟩, q9, c9, m - 1, k + 1, by omega, hq9k, by first | rfl | (rw [E4.out]), Lib.hid (Or.inr ⟨g9, rfl⟩), HQ9, SL, O9b, B4, R4, Q0d, Q2d, H10, G10⟩
      case measure => simp [intOf]; omega
    · have hm0' : ¬ (0 : Int) < (m : Int) := by omega
      clear H6 G6 O0 O2b KR6 KB6
      have b0 := BK.out.cell (i := 0) rfl
      have b1 := BK.out.cell (i := 1) rfl
      have b2 := BK.out.cell (i := 2) rfl
      have b3 := BK.out.cell (i := 3) rfl
      have KU := RK.out
      have r0 := KU.cell (i := 0) rfl
      have r1 := KU.cell (i := 1) rfl
      have r2 := KU.cell (i := 2) rfl
      have r3 := KU.cell (i := 3) rfl
      have z0 := KU.frozen 0
      have z1 := KU.frozen 1
      have z2 := KU.frozen 2
      have z3 := KU.frozen 3
      go_wp2_with fail
      have KX := (((KU.set (i := 0) (v := (.slice (some ⟨g0, 0, none⟩) q0 c0))).set (i := 1) (v := .slice A1 q c1)).set (i := 2) (v := (.slice (some ⟨g2, 0, none⟩) q2 c2))).set (i := 3) (v := .int .i64 T)
      have s0 := KX.cell (i := 0) rfl
      have s1 := KX.cell (i := 1) rfl
      have s2 := KX.cell (i := 2) rfl
      have s3 := KX.cell (i := 3) rfl
      have GX := (grown_trans (grown_trans (grown_trans (Bk.setG wr w.heap.size 0 (.slice (some ⟨g0, 0, none⟩) q0 c0)) (Bk.setG _ w.heap.size 1 (.slice A1 q c1))) (Bk.setG _ w.heap.size 2 (.slice (some ⟨g2, 0, none⟩) q2 c2))) (Bk.setG _ w.heap.size 3 (.int .i64 T)))
      refine bodyPost_ret (v := .agg #[(.slice (some ⟨g0, 0, none⟩) q0 c0), .slice A1 q c1, (.slice (some ⟨g2, 0, none⟩) q2 c2), .int .i64 T]) (by simp [results, Tryz.results25, go_sem, s0, s1, s2, s3]; try rfl) rfl ?_
      refine ⟨ds, zs, gs, T, q0, g0, c0, A1, q, c1, q2, g2, c2, LD.out, ZK.out, LW.out, ⟨HD.out, by rw [LD.out]; exact L1.out, ⟨SK.out.1, by have := SK.out.2.1; omega, SK.out.2.2⟩, HW.out, by rw [LW.out]; exact L5.out, by have := HT.out.1; simpa using this, by have := HT.out.2; omega⟩, rfl, own_far P0.out GX KU (by decide), own_far OK.out GX KU (by decide), own_far P2.out GX KU (by decide), (ready_app HK.out GX NG.out).cur, grown_app GK.out GX (Nat.le_refl _)⟩

/-- What the draw of a show for a law leaves. -/
def DrawnS (w : World) (e : Ending) (w' : World) : Prop :=
  ∃ (ds : List D) (cs : List C) (gs : List G) (T t : Int) (q0 g0 c0 : Nat) (A1 : Option Addr) (q1 c1 q2 g2 c2 : Nat), ds.length = q0 ∧ cs.length = q1 ∧ gs.length = q2 ∧ Hn ds cs gs T ∧ 0 ≤ t ∧ t ≤ 29 ∧
    e = .returned (.tuple #[.agg #[(.slice (some ⟨g0, 0, none⟩) q0 c0), (.slice A1 q1 c1), (.slice (some ⟨g2, 0, none⟩) q2 c2), .int .i64 T], .int .i64 t]) ∧ w'.ownsRow w.heap.size 36 8 (.slice (some ⟨g0, 0, none⟩) q0 c0) q0 (Dd.dls ds) ∧ w'.ownsRow w.heap.size 63 4 (.slice A1 q1 c1) q1 (Cd.dls cs) ∧ w'.ownsRow w.heap.size 133 3 (.slice (some ⟨g2, 0, none⟩) q2 c2) q2 (Gs.gls gs) ∧ Below w.heap.size w w'

set_option maxRecDepth 100000 in
set_option maxHeartbeats 2000000 in
theorem drawS (w : World) (A : Option Addr) (n c : Nat) (bs : List UInt8) (hn : bs.length = n) (hb : n ≤ 4096) (hr : Rd w w.heap.size A (u8s bs)) :
    Calls Tryz.prog 8 #[.slice A n c] w (DrawnS w) := by
  have f0 := (Below.refl w.heap.size w).alloc (Nat.le_refl _) (.cells #[.slice none 0 0, .slice none 0 0, .slice none 0 0, .int .i64 0] 28)
  have N0 := Lib.hid (new (w.alloc (.cells #[.slice none 0 0, .slice none 0 0, .slice none 0 0, .int .i64 0] 28)) A n c bs hn hb ((hr.below f0).more f0.size))
  have KR0 := Lib.hid (Bk.new w #[.slice none 0 0, .slice none 0 0, .slice none 0 0, .int .i64 0] 28)
  have F0 := Lib.hid f0
  clear hn hb hr f0
  go_enter Tryz.func8, Tryz.ntmps8
  go_wp2_with fail
  refine N0.out.mono ?_
  rintro e w1 ⟨g, rfl, hg, hR, hB⟩
  have R1 := Lib.hid hR
  have F1 := Lib.hid (F0.out.trans (hB.mono F0.out.size))
  have KR1 := Lib.hid (KR0.out.below hB)
  have hgw : w.heap.size < g := Nat.lt_of_lt_of_le KR0.out.lt hg
  have NG := Lib.hid hgw
  have LG := Lib.hid hR.cur.lt
  clear hg hR hB F0 KR0 N0 hgw
  go_wp2_with fail
  refine (l9Draw R1.out).mono ?_
  rintro e w2 ⟨ds, cs, gs, T, q0, g0, c0, A1, q1, c1, q2, g2, c2, e0, e1, e2, hH, rfl, o0, o1, o2, k1, k2⟩
  have HH := Lib.hid hH
  have LE := Lib.hid (And.intro e0 (And.intro e1 e2))
  have O0 := Lib.hid o0
  have O1 := Lib.hid o1
  have O2 := Lib.hid o2
  have R2 := Lib.hid (R1.out.next k2 k1)
  have F2 := Lib.hid (F1.out.grown k2 F1.out.size (fun j e => by have e := Option.some.inj e; have := NG.out; omega))
  have KR2 := Lib.hid (KR1.out.grown k2 (fun e => by have e := Option.some.inj e; have := NG.out; omega))
  clear hH e0 e1 e2 o0 o1 o2 k1 k2 F1 KR1
  go_wp2_with fail
  refine (below R2.out 30 (by decide) (by decide)).mono ?_
  rintro e w3 ⟨t, ht, rfl, k1, k2⟩
  have HT := Lib.hid ht
  have F3 := Lib.hid (F2.out.grown k2 F2.out.size (fun j e => by have e := Option.some.inj e; have := NG.out; omega))
  have KU := KR2.out.grown k2 (fun e => by have e := Option.some.inj e; have := NG.out; omega)
  have Q0 := Lib.hid (row_next O0.out k2 LG.out)
  have Q1 := Lib.hid (own_next O1.out k2 LG.out)
  have Q2 := Lib.hid (row_next O2.out k2 LG.out)
  have hw1 := Lib.hid (show w.heap.size ≤ w1.heap.size from by have := NG.out; have := LG.out; omega)
  clear ht k1 k2 O0 O1 O2 R1 R2 F2 KR2
  have r0 := KU.cell (i := 0) rfl
  have r1 := KU.cell (i := 1) rfl
  have r2 := KU.cell (i := 2) rfl
  have r3 := KU.cell (i := 3) rfl
  have z0 := KU.frozen 0
  have z1 := KU.frozen 1
  have z2 := KU.frozen 2
  have z3 := KU.frozen 3
  go_wp2_with fail
  have KX := (((KU.set (i := 0) (v := (.slice (some ⟨g0, 0, none⟩) q0 c0))).set (i := 1) (v := (.slice A1 q1 c1))).set (i := 2) (v := (.slice (some ⟨g2, 0, none⟩) q2 c2))).set (i := 3) (v := .int .i64 T)
  have s0 := KX.cell (i := 0) rfl
  have s1 := KX.cell (i := 1) rfl
  have s2 := KX.cell (i := 2) rfl
  have s3 := KX.cell (i := 3) rfl
  have GX := (grown_trans (grown_trans (grown_trans (Bk.setG w3 w.heap.size 0 (.slice (some ⟨g0, 0, none⟩) q0 c0)) (Bk.setG _ w.heap.size 1 (.slice A1 q1 c1))) (Bk.setG _ w.heap.size 2 (.slice (some ⟨g2, 0, none⟩) q2 c2))) (Bk.setG _ w.heap.size 3 (.int .i64 T)))
  refine bodyPost_ret (v := .tuple #[.agg #[(.slice (some ⟨g0, 0, none⟩) q0 c0), (.slice A1 q1 c1), (.slice (some ⟨g2, 0, none⟩) q2 c2), .int .i64 T], .int .i64 t]) (by simp [results, Tryz.results8, go_sem, s0, s1, s2, s3]; try rfl) rfl ?_
  refine ⟨ds, cs, gs, T, t, q0, g0, c0, A1, q1, c1, q2, g2, c2, LE.out.1, LE.out.2.1, LE.out.2.2, HH.out, by have := HT.out.1; simpa using this, by have := HT.out.2; omega, rfl, own_far (owns_base Q0.out (Nat.le_trans hw1.out (Q0.out.lt _ rfl).1)) GX KU (by decide), own_far (own_base9 Q1.out hw1.out) GX KU (by decide), own_far (owns_base Q2.out (Nat.le_trans hw1.out (Q2.out.lt _ rfl).1)) GX KU (by decide), F3.out.grown GX F3.out.size (fun j e => by have e := Option.some.inj e; omega)⟩
end Go.Proofs.YtokncfhpmjohdabGreat.Dh9
