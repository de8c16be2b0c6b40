/- The draw of two jets: any two; old memory is as it was. -/
import Derived.Test.YtgcheplneolonadDr5
import Derived.Test.YtgcheplneolonadFq
import Derived.Test.YtgcheplneolonadPb
import Derived.BigRegion
import Derived.IntWalk
import Derived.Deep.RegionHeld3
namespace Go.Proofs.Ytgcheplneolonad.Dr4
open Go.RowKit Go.Proofs.Ytgcheplneolonad.Mem Go.Proofs.Ytgcheplneolonad.Draw Go.Proofs.Ytgcheplneolonad.P2 Go.Proofs.Ytgcheplneolonad.Dr2 Go.Proofs.Ytgcheplneolonad.Jt Go.Proofs.Ytgcheplneolonad.Dp Go.Proofs.Ytgcheplneolonad.Pl Go.Proofs.Ytgcheplneolonad.Pw
set_option linter.unusedVariables false
set_option linter.unusedSimpArgs false

abbrev put5 (w : World) (b : Nat) (x y h t l : Int) : World := ((((w.setCell ⟨b, 0, none⟩ (.int .i64 x)).setCell ⟨b, 1, none⟩ (.int .i64 y)).setCell ⟨b, 2, none⟩ (.int .i64 h)).setCell ⟨b, 3, none⟩ (.int .i64 t)).setCell ⟨b, 4, none⟩ (.int .i64 l)
theorem jb_other {w : World} {b b' : Nat} {x y h t l : Int} (k : JB w b x y h t l) (hne : b ≠ b') (x' y' h' t' l' : Int) : JB (put5 w b' x' y' h' t' l') b x y h t l := ((((k.other _ _ hne).other _ _ hne).other _ _ hne).other _ _ hne).other _ _ hne
theorem below_set {w0 w : World} {B : Nat} (h : Below B w0 w) {b : Nat} (hb : B ≤ b) (j : Nat) (v : Value) : Below B w0 (w.setCell ⟨b, j, none⟩ v) :=
  ⟨h.os, h.tape, h.output, by simp [World.setCell]; exact h.size, fun k hk => (Below.heap_setCell _ _ _ _ (by show k ≠ b; omega)).trans (h.block k hk)⟩
theorem put5_below {w0 w : World} {B : Nat} (h : Below B w0 w) {b : Nat} (hb : B ≤ b) (x y k t l : Int) : Below B w0 (put5 w b x y k t l) :=
  below_set (below_set (below_set (below_set (below_set h hb _ _) hb _ _) hb _ _) hb _ _) hb _ _
/-- What stands in the draw: the cursor, the two answers' blocks, and those of the two jets. -/
structure Sm (w wr : World) (g : Nat) (A : Option Addr) (n c : Nat) (bs : List UInt8) (ra rb ja jb : Nat) (xa ya ka ta la xb yb kb tb lb : Int) : Prop where
  rdy : Ready wr g A n c bs
  bel : Below w.heap.size w wr
  r1 : JB wr ra 0 0 0 0 0
  r2 : JB wr rb 0 0 0 0 0
  j1 : JB wr ja xa ya ka ta la
  j2 : JB wr jb xb yb kb tb lb
  o : w.heap.size ≤ ra ∧ ra < rb ∧ rb < g ∧ g < ja ∧ ja < jb
section
variable {w wr w' : World} {g : Nat} {A : Option Addr} {n c : Nat} {bs : List UInt8} {ra rb ja jb : Nat} {xa ya ka ta la xb yb kb tb lb : Int}
theorem Sm.next (k : Sm w wr g A n c bs ra rb ja jb xa ya ka ta la xb yb kb tb lb) (k2 : wr.grownBy w' (some g)) (k1 : Cur w' g A n c) : Sm w w' g A n c bs ra rb ja jb xa ya ka ta la xb yb kb tb lb := by
  have o := k.o
  have ne : ∀ b, b ≠ g → (some b : Option Nat) ≠ some g := fun b h e => h (Option.some.inj e)
  exact ⟨k.rdy.next k2 k1, k.bel.grown k2 k.bel.size (fun j hj => by cases hj; omega), k.r1.grown k2 (ne _ (by omega)), k.r2.grown k2 (ne _ (by omega)), k.j1.grown k2 (ne _ (by omega)), k.j2.grown k2 (ne _ (by omega)), k.o⟩
theorem Sm.below (k : Sm w wr g A n c bs ra rb ja jb xa ya ka ta la xb yb kb tb lb) (hb : Below wr.heap.size wr w') : Sm w w' g A n c bs ra rb ja jb xa ya ka ta la xb yb kb tb lb :=
  ⟨Ready.below' k.rdy hb, k.bel.trans (hb.mono k.bel.size), k.r1.below hb, k.r2.below hb, k.j1.below hb, k.j2.below hb, k.o⟩
theorem Sm.set (k : Sm w wr g A n c bs ra rb ja jb xa ya ka ta la xb yb kb tb lb) (x y h t l : Int) : Sm w (put5 wr jb x y h t l) g A n c bs ra rb ja jb xa ya ka ta la x y h t l := by
  have o := k.o
  refine ⟨⟨k.rdy.len, k.rdy.max, ?_, ?_⟩, put5_below k.bel (by omega) _ _ _ _ _, jb_other k.r1 (by omega) _ _ _ _ _, jb_other k.r2 (by omega) _ _ _ _ _, jb_other k.j1 (by omega) _ _ _ _ _, k.j2.set x y h t l, k.o⟩
  · exact rd_set (rd_set (rd_set (rd_set (rd_set k.rdy.rd (by omega) _ _) (by omega) _ _) (by omega) _ _) (by omega) _ _) (by omega) _ _
  · exact cur_set (cur_set (cur_set (cur_set (cur_set k.rdy.cur (by omega) _ _) (by omega) _ _) (by omega) _ _) (by omega) _ _) (by omega) _ _
end
theorem turnB (n : Int) {x y : Int} (hx : x.natAbs < 4611686018427387904) (hy : y.natAbs < 4611686018427387904) (w : World) :
    Calls Try.prog 29 #[.agg #[.int .i64 x, .int .i64 y], .int .i64 n] w fun e w' => e = .returned (.agg #[.int .i64 (tx (n % 4).toNat x y), .int .i64 (ty (n % 4).toNat x y)]) ∧ Below w.heap.size w w' :=
  (l2Turn n hx hy w).mono (by rintro e w' ⟨rfl, rfl⟩; exact ⟨rfl, by go_grown⟩)
theorem addB (x y a b : Int) (h1 : wrap64 (x + a) = x + a) (h2 : wrap64 (y + b) = y + b) (w : World) :
    Calls Try.prog 28 #[.agg #[.int .i64 x, .int .i64 y], .agg #[.int .i64 a, .int .i64 b]] w fun e w' => e = .returned (.agg #[.int .i64 (x + a), .int .i64 (y + b)]) ∧ Below w.heap.size w w' :=
  (l2Add x y a b h1 h2 w).mono (by rintro e w' ⟨rfl, rfl⟩; exact ⟨rfl, by go_grown⟩)
/-- The cells that the step reads. -/
abbrev C7 (W : World) (ja pb : Nat) (xa ya ka ta la X Y : Int) : Prop :=
  W.cell? ⟨ja, 0, none⟩ = some (.int .i64 xa) ∧ W.cell? ⟨ja, 1, none⟩ = some (.int .i64 ya) ∧ W.cell? ⟨ja, 2, none⟩ = some (.int .i64 ka) ∧ W.cell? ⟨ja, 3, none⟩ = some (.int .i64 ta) ∧ W.cell? ⟨ja, 4, none⟩ = some (.int .i64 la) ∧ W.cell? ⟨pb, 0, none⟩ = some (.int .i64 X) ∧ W.cell? ⟨pb, 1, none⟩ = some (.int .i64 Y)
section
variable {W W' : World} {ja pb : Nat} {xa ya ka ta la X Y : Int}
theorem C7.mk' (k : JB W ja xa ya ka ta la) (q : HB W pb X Y) : C7 W ja pb xa ya ka ta la X Y := by
  obtain ⟨a, b, c, d, e⟩ := k.c
  exact ⟨a, b, c, d, e, q.c0, q.c1⟩
theorem C7.drew (k : C7 W ja pb xa ya ka ta la X Y) : C7 W.drew ja pb xa ya ka ta la X Y := k
theorem C7.below (k : C7 W ja pb xa ya ka ta la X Y) (hb : Below W.heap.size W W') : C7 W' ja pb xa ya ka ta la X Y := by
  have h := (open_below hb).1
  have a := World.block_lt_of_cell? _ _ k.1
  have b := World.block_lt_of_cell? _ _ k.2.2.2.2.2.1
  unfold C7
  rw [h _ a, h ⟨ja, 1, none⟩ a, h ⟨ja, 2, none⟩ a, h ⟨ja, 3, none⟩ a, h ⟨ja, 4, none⟩ a, h ⟨pb, 0, none⟩ b, h ⟨pb, 1, none⟩ b]
  exact k
theorem C7.far {b j : Nat} {v : Value} (h1 : ja ≠ b) (h2 : pb ≠ b) (k : C7 W ja pb xa ya ka ta la X Y) : C7 (W.setCell ⟨b, j, none⟩ v) ja pb xa ya ka ta la X Y := by
  unfold C7
  rw [World.cell?_setCell_other _ _ _ _ (by simp [h1]), World.cell?_setCell_other _ _ _ _ (by simp [h1]), World.cell?_setCell_other _ _ _ _ (by simp [h1]), World.cell?_setCell_other _ _ _ _ (by simp [h1]), World.cell?_setCell_other _ _ _ _ (by simp [h1]), World.cell?_setCell_other _ _ _ _ (by simp [h2]), World.cell?_setCell_other _ _ _ _ (by simp [h2])]
  exact k
end
def DrawnM (w : World) (e : Ending) (w' : World) : Prop :=
  ∃ xa ya ka ta la xb yb kb tb lb : Int, e = .returned (.tuple #[jv xa ya ka ta la, jv xb yb kb tb lb]) ∧ Below w.heap.size w w'

set_option maxRecDepth 100000 in
set_option maxHeartbeats 8000000 in
theorem drawMeet (w : World) (A : Option Addr) (n c : Nat) (bs : List UInt8) (hn : bs.length = n) (hb : n ≤ 4096) (hr : Rd w w.heap.size A (u8s bs)) :
    Calls Try.prog 6 #[.slice A n c] w (DrawnM w) := by
  have hu : undef = Value.tuple #[] := rfl
  have f0 : Below w.heap.size w ((w.alloc (.cells (jc 0 0 0 0 0) 27)).alloc (.cells (jc 0 0 0 0 0) 27)) := by go_grown
  have N0 := Lib.hid (new ((w.alloc (.cells (jc 0 0 0 0 0) 27)).alloc (.cells (jc 0 0 0 0 0) 27)) A n c bs hn hb ((hr.below f0).more (by go_size)))
  have F0 := Lib.hid f0
  have r1 := (JB.new w 0 0 0 0 0).alloc (.cells (jc 0 0 0 0 0) 27)
  have r2 : JB ((w.alloc (.cells (jc 0 0 0 0 0) 27)).alloc (.cells (jc 0 0 0 0 0) 27)) (w.heap.size + 1) 0 0 0 0 0 := by have := JB.new (w.alloc (.cells (jc 0 0 0 0 0) 27)) 0 0 0 0 0; rw [show (w.alloc (.cells (jc 0 0 0 0 0) 27)).heap.size = w.heap.size + 1 by simp] at this; exact this
  have Q1 := Lib.hid r1
  have Q2 := Lib.hid r2
  have hsz : ((w.alloc (.cells (jc 0 0 0 0 0) 27)).alloc (.cells (jc 0 0 0 0 0) 27)).heap.size = w.heap.size + 2 := by simp
  have HSZ := Lib.hid hsz
  clear hn hb hr f0 r1 r2 hsz
  go_enter Try.func6, Try.ntmps6
  go_wp2_with fail
  refine N0.out.mono ?_
  rintro e w1 ⟨g, rfl, hg, hR, hB⟩
  have hsz := HSZ.out
  have R1 := Lib.hid hR
  have B1 := Lib.hid (F0.out.trans (hB.mono F0.out.size))
  have K1 := Lib.hid (show JB w1 w.heap.size 0 0 0 0 0 from (hB.block _ Q1.out.lt).trans Q1.out)
  have K2 := Lib.hid (show JB w1 (w.heap.size + 1) 0 0 0 0 0 from (hB.block _ Q2.out.lt).trans Q2.out)
  have HG := Lib.hid (show w.heap.size + 2 ≤ g by omega)
  clear hg hR hB N0 Q1 Q2 F0 hsz
  go_wp2_with fail
  refine (l3Any R1.out).mono ?_
  rintro e w2 ⟨xa, ya, ka, ta, la, rfl, k1, k2⟩
  have hgl := k1.lt
  have hgg := HG.out
  have R2 := Lib.hid ((R1.out.next k2 k1).alloc (.cells (jc xa ya ka ta la) 27))
  have B2 := Lib.hid ((B1.out.grown k2 B1.out.size (fun j hj => by cases hj; omega)).alloc (Nat.le_trans B1.out.size k2.size) (.cells (jc xa ya ka ta la) 27))
  have L1 := Lib.hid ((K1.out.grown k2 (fun e => by have := Option.some.inj e; omega)).alloc (.cells (jc xa ya ka ta la) 27))
  have L2 := Lib.hid ((K2.out.grown k2 (fun e => by have := Option.some.inj e; omega)).alloc (.cells (jc xa ya ka ta la) 27))
  have J1 := Lib.hid (JB.new w2 xa ya ka ta la)
  have GL := Lib.hid hgl
  clear k1 k2 R1 B1 K1 K2 hgl hgg
  go_wp2_with fail
  refine (l3Any R2.out).mono ?_
  rintro e w3 ⟨xb, yb, kb, tb, lb, rfl, k1, k2⟩
  have hgg := HG.out
  have hgl := GL.out
  have j1 := J1.out.grown k2 (fun e => by have := Option.some.inj e; omega)
  have S0 : Sm w (w3.alloc (.cells (jc xb yb kb tb lb) 27)) g A n c bs w.heap.size (w.heap.size + 1) w2.heap.size w3.heap.size xa ya ka ta la xb yb kb tb lb :=
    ⟨(R2.out.next k2 k1).alloc _, (B2.out.grown k2 B2.out.size (fun j hj => by cases hj; omega)).alloc (Nat.le_trans B2.out.size k2.size) _, (L1.out.grown k2 (fun e => by have := Option.some.inj e; omega)).alloc _, (L2.out.grown k2 (fun e => by have := Option.some.inj e; omega)).alloc _, j1.alloc _, JB.new w3 xb yb kb tb lb, Nat.le_refl _, Nat.lt_succ_self _, by omega, hgl, j1.lt⟩
  have S := Lib.hid S0
  clear k1 k2 S0 j1 R2 B2 L1 L2 J1 hgg hgl
  go_wp2_with fail
  refine (Draw.below S.out.rdy 20 (by decide) (by decide)).mono ?_
  rintro e w4 ⟨n9, ⟨n91, n92⟩, rfl, k1, k2⟩
  have S := Lib.hid (S.out.next k2 k1)
  generalize w2.heap.size = ja at *
  generalize w3.heap.size = jb at *
  clear k1 k2
  obtain ⟨a0, a1, a2, a3, a4⟩ := S.out.j1.c
  have CP := placeS xa ya ka ta la n9 (by omega) (by omega)
  obtain ⟨ok, hok⟩ : ∃ r, inF xa ya ka ta la n9 = r := ⟨_, rfl⟩
  have HOK := Lib.hid hok
  cases ok
  · rw [told2_no hok] at CP
    have CP := Lib.hid CP
    clear hok n91 n92
    go_wp2_with fail
    refine (CP.out _).mono ?_
    rintro e w5 ⟨rfl, hb⟩
    have S := Lib.hid (S.out.below hb)
    clear hb CP a0 a1 a2 a3 a4
    have hb : Below w5.heap.size w5 (w5.alloc (.cells #[.int .i64 0, .int .i64 0] 25)) := (Below.refl _ _).alloc (Nat.le_refl _) _
    have S := Lib.hid (S.out.below hb)
    clear hb
    go_upto_region 8 with fail
    obtain ⟨a0, a1, a2, a3, a4⟩ := S.out.j1.c
    obtain ⟨b0, b1, b2, b3, b4⟩ := S.out.j2.c
    obtain ⟨c0, c1, c2, c3, c4⟩ := S.out.r1.c
    obtain ⟨d0, d1, d2, d3, d4⟩ := S.out.r2.c
    have fa := fun (i : Nat) (hi : i < 5) => S.out.r1.f i hi
    have fb := fun (i : Nat) (hi : i < 5) => S.out.r2.f i hi
    have p0 := fa 0 (by decide)
    have p1 := fa 1 (by decide)
    have p2 := fa 2 (by decide)
    have p3 := fa 3 (by decide)
    have p4 := fa 4 (by decide)
    have q0 := fb 0 (by decide)
    have q1 := fb 1 (by decide)
    have q2 := fb 2 (by decide)
    have q3 := fb 3 (by decide)
    have q4 := fb 4 (by decide)
    clear fa fb
    have o := S.out.o
    have m1 : ja ≠ w.heap.size := by omega
    have m2 : ja ≠ w.heap.size + 1 := by omega
    have m3 : jb ≠ w.heap.size := by omega
    have m4 : jb ≠ w.heap.size + 1 := by omega
    have m5 := m1.symm
    have m6 := m2.symm
    have m7 := m3.symm
    have m8 := m4.symm
    clear o
    go_region
    go_wp2_with fail
    (try simp only [Exit.inBlock, Exit.then])
    have T0 := Lib.hid (jb_other (S.out.r1.set xa ya ka ta la) (show w.heap.size ≠ w.heap.size + 1 by omega) xb yb kb tb lb)
    have T1 := Lib.hid ((jb_other S.out.r2 (show w.heap.size + 1 ≠ w.heap.size by omega) xa ya ka ta la).set xb yb kb tb lb)
    obtain ⟨s0, s1, s2, s3, s4⟩ := T0.out.c
    obtain ⟨s5, s6, s7, s8, s9⟩ := T1.out.c
    refine bodyPost_ret (v := .tuple #[jv xa ya ka ta la, jv xb yb kb tb lb]) (by simp [results, Try.results6, go_sem, s0, s1, s2, s3, s4, s5, s6, s7, s8, s9]; try rfl) rfl ?_
    exact ⟨xa, ya, ka, ta, la, xb, yb, kb, tb, lb, rfl, (put5_below (put5_below S.out.bel (Nat.le_refl _) _ _ _ _ _) (Nat.le_succ _) _ _ _ _ _).drew⟩
  · rw [told2_yes hok] at CP
    obtain ⟨hj, hn1, hn2⟩ := inF_iff.1 hok
    have HJ := Lib.hid (jt_iff.1 hj)
    obtain ⟨X, hX⟩ : ∃ v, wy xa (tx ka.toNat ta 0) n9.toNat = v := ⟨_, rfl⟩
    obtain ⟨Y, hY⟩ : ∃ v, wy ya (ty ka.toNat ta 0) n9.toNat = v := ⟨_, rfl⟩
    have hjj := jt_iff.1 hj
    have bX : -5000 ≤ X ∧ X ≤ 5000 := by
      have h1 := txle (k := ka.toNat) (x := ta) (y := 0) (B := 16) (by omega) (by omega)
      rw [← hX]; unfold wy
      generalize tx ka.toNat ta 0 = P at *
      obtain ⟨k, rfl⟩ : ∃ k : Nat, n9 = k := ⟨n9.toNat, by omega⟩
      rw [Int.toNat_natCast]
      have h2 : (k : Int) * P ≤ 20 * 16 := by
        have h3 : (k : Int) * P ≤ (k : Int) * 16 := Int.mul_le_mul_of_nonneg_left h1.2 (by omega)
        omega
      have h4 : -(20 * 16) ≤ (k : Int) * P := by
        have h3 : (k : Int) * (-16) ≤ (k : Int) * P := Int.mul_le_mul_of_nonneg_left h1.1 (by omega)
        omega
      omega
    have bY : -5000 ≤ Y ∧ Y ≤ 5000 := by
      have h1 := tyle (k := ka.toNat) (x := ta) (y := 0) (B := 16) (by omega) (by omega)
      rw [← hY]; unfold wy
      generalize ty ka.toNat ta 0 = P at *
      obtain ⟨k, rfl⟩ : ∃ k : Nat, n9 = k := ⟨n9.toNat, by omega⟩
      rw [Int.toNat_natCast]
      have h2 : (k : Int) * P ≤ 20 * 16 := by
        have h3 : (k : Int) * P ≤ (k : Int) * 16 := Int.mul_le_mul_of_nonneg_left h1.2 (by omega)
        omega
      have h4 : -(20 * 16) ≤ (k : Int) * P := by
        have h3 : (k : Int) * (-16) ≤ (k : Int) * P := Int.mul_le_mul_of_nonneg_left h1.1 (by omega)
        omega
      omega
    rw [hX, hY] at CP
    have CP := Lib.hid CP
    clear hok hj hn1 hn2 hX hY
    go_wp2_with fail
    refine (CP.out _).mono ?_
    rintro e w5 ⟨rfl, hb⟩
    have S := Lib.hid (S.out.below hb)
    clear hb CP a0 a1 a2 a3 a4
    have GP := Lib.hid (show jb < w5.heap.size from (Array.getElem?_eq_some_iff.1 S.out.j2).1)
    have hb : Below w5.heap.size w5 (w5.alloc (.cells #[.int .i64 X, .int .i64 Y] 25)) := (Below.refl _ _).alloc (Nat.le_refl _) _
    have S := Lib.hid (S.out.below hb)
    have P0 := Lib.hid (show HB (w5.alloc (.cells #[.int .i64 X, .int .i64 Y] 25)) w5.heap.size X Y from HB.new w5 X Y)
    clear hb
    go_wp2_with fail
    refine (Draw.below S.out.rdy 3 (by decide) (by decide)).mono ?_
    rintro e w6 ⟨i, ⟨i1, i2⟩, rfl, k1, k2⟩
    have S := Lib.hid (S.out.next k2 k1)
    have P1 := Lib.hid (P0.out.grown k2 (fun e => by have := Option.some.inj e; have := GP.out; have := S.out.o; omega))
    clear k1 k2 P0
    generalize w5.heap.size = pb at *
    by_cases hi : 0 < i
    rotate_left 1
    · go_upto_region 8 with fail
      obtain ⟨a0, a1, a2, a3, a4⟩ := S.out.j1.c
      obtain ⟨b0, b1, b2, b3, b4⟩ := S.out.j2.c
      obtain ⟨c0, c1, c2, c3, c4⟩ := S.out.r1.c
      obtain ⟨d0, d1, d2, d3, d4⟩ := S.out.r2.c
      have fa := fun (i : Nat) (hi : i < 5) => S.out.r1.f i hi
      have fb := fun (i : Nat) (hi : i < 5) => S.out.r2.f i hi
      have p0 := fa 0 (by decide)
      have p1 := fa 1 (by decide)
      have p2 := fa 2 (by decide)
      have p3 := fa 3 (by decide)
      have p4 := fa 4 (by decide)
      have q0 := fb 0 (by decide)
      have q1 := fb 1 (by decide)
      have q2 := fb 2 (by decide)
      have q3 := fb 3 (by decide)
      have q4 := fb 4 (by decide)
      clear fa fb
      have o := S.out.o
      have m1 : ja ≠ w.heap.size := by omega
      have m2 : ja ≠ w.heap.size + 1 := by omega
      have m3 : jb ≠ w.heap.size := by omega
      have m4 : jb ≠ w.heap.size + 1 := by omega
      have m5 := m1.symm
      have m6 := m2.symm
      have m7 := m3.symm
      have m8 := m4.symm
      clear o
      go_region
      go_wp2_with fail
      (try simp only [Exit.inBlock, Exit.then])
      have T0 := Lib.hid (jb_other (S.out.r1.set xa ya ka ta la) (show w.heap.size ≠ w.heap.size + 1 by omega) xb yb kb tb lb)
      have T1 := Lib.hid ((jb_other S.out.r2 (show w.heap.size + 1 ≠ w.heap.size by omega) xa ya ka ta la).set xb yb kb tb lb)
      obtain ⟨s0, s1, s2, s3, s4⟩ := T0.out.c
      obtain ⟨s5, s6, s7, s8, s9⟩ := T1.out.c
      refine bodyPost_ret (v := .tuple #[jv xa ya ka ta la, jv xb yb kb tb lb]) (by simp [results, Try.results6, go_sem, s0, s1, s2, s3, s4, s5, s6, s7, s8, s9]; try rfl) rfl ?_
      exact ⟨xa, ya, ka, ta, la, xb, yb, kb, tb, lb, rfl, (put5_below (put5_below S.out.bel (Nat.le_refl _) _ _ _ _ _) (Nat.le_succ _) _ _ _ _ _).drew⟩
    · have hjj := HJ.out
      obtain ⟨M, hM⟩ : ∃ v : Int, -n9 * ta = v := ⟨_, rfl⟩
      have bM : -400 ≤ M ∧ M ≤ 400 := by
        have h1 : n9 * ta ≤ 20 * ta := Int.mul_le_mul_of_nonneg_right (by omega) (by omega)
        have h2 : 0 ≤ n9 * ta := Int.mul_nonneg (by omega) (by omega)
        rw [← hM, Int.neg_mul]; omega
      have hM0 : wrap64 (-n9) = -n9 := by unfold wrap64; omega
      have hw1 : IntKind.i64.wrap (IntKind.i64.wrap (-n9) * ta) = M := by rw [IntWalk.i64_in (-n9) (by omega), hM]; exact IntWalk.i64_in _ (by omega)
      have hw2 : IntKind.i64.wrap (ka + 1) = ka + 1 := IntWalk.i64_in _ (by omega)
      obtain ⟨U, hU⟩ : ∃ v : Int, tx ((ka + 1) % 4).toNat M 0 = v := ⟨_, rfl⟩
      obtain ⟨V, hV⟩ : ∃ v : Int, ty ((ka + 1) % 4).toNat M 0 = v := ⟨_, rfl⟩
      have bU : -400 ≤ U ∧ U ≤ 400 := by rw [← hU]; exact txle (by omega) (by omega)
      have bV : -400 ≤ V ∧ V ≤ 400 := by rw [← hV]; exact tyle (by omega) (by omega)
      obtain ⟨XX, hXX⟩ : ∃ v : Int, X + U = v := ⟨_, rfl⟩
      obtain ⟨YY, hYY⟩ : ∃ v : Int, Y + V = v := ⟨_, rfl⟩
      obtain ⟨HH, hHH⟩ : ∃ v : Int, (ka + 1) % 4 = v := ⟨_, rfl⟩
      have LT := turnB (ka + 1) (x := M) (y := 0) (by omega) (by omega)
      rw [hU, hV] at LT
      have LA := addB X Y U V (by unfold wrap64; omega) (by unfold wrap64; omega)
      rw [hXX, hYY] at LA
      have LM := l2Mod (ka + 1)
      rw [hHH] at LM
      have LT := Lib.hid LT
      have LA := Lib.hid LA
      have LM := Lib.hid LM
      clear hU hV hXX hYY hHH bU bV hM
      go_upto_region 7 with fail
      have k0 := C7.mk' S.out.j1 P1.out
      have k1 := C7.drew k0
      have s1 := Lib.hid (S.out.below (Below.refl _ _).drew)
      have n1 : ja ≠ jb := by have := S.out.o; omega
      have n2 : pb ≠ jb := by have := GP.out; omega
      go_region_held3 (fun w' => w'.cell? ⟨ja, 0, none⟩ = some (.int .i64 xa) ∧ w'.cell? ⟨ja, 1, none⟩ = some (.int .i64 ya) ∧ w'.cell? ⟨ja, 2, none⟩ = some (.int .i64 ka) ∧ w'.cell? ⟨ja, 3, none⟩ = some (.int .i64 ta) ∧ w'.cell? ⟨ja, 4, none⟩ = some (.int .i64 la) ∧ w'.cell? ⟨pb, 0, none⟩ = some (.int .i64 X) ∧ w'.cell? ⟨pb, 1, none⟩ = some (.int .i64 Y)) ((first | (with_reducible exact k0) | (with_reducible exact k1) | (with_reducible exact k2) | (with_reducible exact k3) | (repeat (first | (with_reducible exact k3) | (with_reducible refine C7.far n1 n2 ?_) | (with_reducible refine C7.drew ?_)))))
        (first
          | (go_at_call 29; ((first | rw [hw1, hw2] | skip); (with_reducible refine (LT.out _).mono ?_); rintro e r1 ⟨rfl, hb⟩; have k2 := C7.below k1 hb; have s2 := Lib.hid (Sm.below s1.out hb); clear hb))
          | (go_at_call 28; ((with_reducible refine (LA.out _).mono ?_); rintro e r2 ⟨rfl, hb⟩; have k3 := C7.below k2 hb; have s3 := Lib.hid (Sm.below s2.out hb); clear hb; obtain ⟨b0, b1, b2, b3, b4⟩ := s3.out.j2.c; have q0 := s3.out.j2.f 0 (by decide); have q1 := s3.out.j2.f 1 (by decide); have q2 := s3.out.j2.f 2 (by decide); have q3 := s3.out.j2.f 3 (by decide); have q4 := s3.out.j2.f 4 (by decide)))
          | (go_at_call 30; ((first | rw [hw2] | skip); (with_reducible refine (LM.out _).mono ?_); rintro e r3 ⟨rfl, rfl⟩)))
      have S9 := Lib.hid (s3.out.set XX YY HH ta la)
      clear S s1 s2 s3 k0 k1 k2 k3 b0 b1 b2 b3 b4 q0 q1 q2 q3 q4 n1 n2 LT LA LM hM0 hw1 hw2
      have S := S9
      clear S9
      go_upto_region 8 with fail
      obtain ⟨a0, a1, a2, a3, a4⟩ := S.out.j1.c
      obtain ⟨b0, b1, b2, b3, b4⟩ := S.out.j2.c
      obtain ⟨c0, c1, c2, c3, c4⟩ := S.out.r1.c
      obtain ⟨d0, d1, d2, d3, d4⟩ := S.out.r2.c
      have fa := fun (i : Nat) (hi : i < 5) => S.out.r1.f i hi
      have fb := fun (i : Nat) (hi : i < 5) => S.out.r2.f i hi
      have p0 := fa 0 (by decide)
      have p1 := fa 1 (by decide)
      have p2 := fa 2 (by decide)
      have p3 := fa 3 (by decide)
      have p4 := fa 4 (by decide)
      have q0 := fb 0 (by decide)
      have q1 := fb 1 (by decide)
      have q2 := fb 2 (by decide)
      have q3 := fb 3 (by decide)
      have q4 := fb 4 (by decide)
      clear fa fb
      have o := S.out.o
      have m1 : ja ≠ w.heap.size := by omega
      have m2 : ja ≠ w.heap.size + 1 := by omega
      have m3 : jb ≠ w.heap.size := by omega
      have m4 : jb ≠ w.heap.size + 1 := by omega
      have m5 := m1.symm
      have m6 := m2.symm
      have m7 := m3.symm
      have m8 := m4.symm
      clear o
      go_region
      go_wp2_with fail
      (try simp only [Exit.inBlock, Exit.then])
      have T0 := Lib.hid (jb_other (S.out.r1.set xa ya ka ta la) (show w.heap.size ≠ w.heap.size + 1 by omega) XX YY HH ta la)
      have T1 := Lib.hid ((jb_other S.out.r2 (show w.heap.size + 1 ≠ w.heap.size by omega) xa ya ka ta la).set XX YY HH ta la)
      obtain ⟨s0, s1, s2, s3, s4⟩ := T0.out.c
      obtain ⟨s5, s6, s7, s8, s9⟩ := T1.out.c
      refine bodyPost_ret (v := .tuple #[jv xa ya ka ta la, jv XX YY HH ta la]) (by simp [results, Try.results6, go_sem, s0, s1, s2, s3, s4, s5, s6, s7, s8, s9]; try rfl) rfl ?_
      exact ⟨xa, ya, ka, ta, la, XX, YY, HH, ta, la, rfl, (put5_below (put5_below S.out.bel (Nat.le_refl _) _ _ _ _ _) (Nat.le_succ _) _ _ _ _ _).drew⟩
end Go.Proofs.Ytgcheplneolonad.Dr4
