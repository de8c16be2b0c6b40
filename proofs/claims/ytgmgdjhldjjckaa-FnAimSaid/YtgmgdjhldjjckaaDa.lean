/- What the model's draw for an aim answers: two places and a lift; nothing old is written. -/
import Derived.Test.YtgmgdjhldjjckaaDr5
import Derived.Test.YtgmgdjhldjjckaaAq
import Derived.BigRegion
namespace Go.Proofs.Ytgmgdjhldjjckaa.Dr4
open Go.RowKit Go.Proofs.Ytgmgdjhldjjckaa.Mem Go.Proofs.Ytgmgdjhldjjckaa.Draw Go.Proofs.Ytgmgdjhldjjckaa.P2 Go.Proofs.Ytgmgdjhldjjckaa.Dr2 Go.Proofs.Ytgmgdjhldjjckaa.Jt Go.Proofs.Ytgmgdjhldjjckaa.Dp
set_option linter.unusedVariables false
set_option linter.unusedSimpArgs false

theorem HB.below' {w w' : World} {b : Nat} {x y : Int} (h : HB w b x y) (hb : Below w.heap.size w w') : HB w' b x y := (hb.block b h.lt).trans h

/-- Where the draw stands: the cursor, the two results, the jet. -/
structure SA (w wr : World) (g : Nat) (A : Option Addr) (n c : Nat) (bs : List UInt8) (jb : Nat) (x y h t l : Int) : Prop where
  ready : Ready wr g A n c bs
  r0 : HB wr w.heap.size 0 0
  r1 : HB wr (w.heap.size + 1) 0 0
  jet : JB wr jb x y h t l
  bel : Below w.heap.size w wr
  lg : w.heap.size + 1 < g
  lj : g < jb
section
variable {w wr w' : World} {g n c jb : Nat} {A : Option Addr} {bs : List UInt8} {x y h t l : Int}
theorem SA.below (k : SA w wr g A n c bs jb x y h t l) (hb : Below wr.heap.size wr w') : SA w w' g A n c bs jb x y h t l :=
  ⟨Ready.below' k.ready hb, HB.below' k.r0 hb, HB.below' k.r1 hb, k.jet.below hb, k.bel.trans (hb.mono k.bel.size), k.lg, k.lj⟩
theorem SA.next (k : SA w wr g A n c bs jb x y h t l) (hg : wr.grownBy w' (some g)) (hc : Cur w' g A n c) : SA w w' g A n c bs jb x y h t l :=
  ⟨k.ready.next hg hc, k.r0.grown hg (fun e => by have := Option.some.inj e; have := k.lg; omega), k.r1.grown hg (fun e => by have := Option.some.inj e; have := k.lg; omega), k.jet.grown hg (fun e => by have := Option.some.inj e; have := k.lj; omega), k.bel.grown hg k.bel.size (fun k' e => by have := Option.some.inj e; have := k.lg; omega), k.lg, k.lj⟩
theorem SA.set {pb : Nat} (k : SA w wr g A n c bs jb x y h t l) (hg : g < pb) (hj : jb < pb) (j : Nat) (v : Value) : SA w (wr.setCell ⟨pb, j, none⟩ v) g A n c bs jb x y h t l := by
  have := k.lg
  have := k.bel.size
  exact ⟨⟨k.ready.len, k.ready.max, rd_set k.ready.rd hg _ _, cur_set k.ready.cur (by omega) _ _⟩, k.r0.other _ _ (by omega), k.r1.other _ _ (by omega), k.jet.other _ _ (by omega), k.bel.trans (by go_grown), k.lg, k.lj⟩
end

/-- What the draw for an aim leaves. -/
def DrawnA (w : World) (e : Ending) (w' : World) : Prop :=
  ∃ x y u v l : Int, e = .returned (.tuple #[.agg #[.int .i64 x, .int .i64 y], .agg #[.int .i64 u, .int .i64 v], .int .i64 l]) ∧ Below w.heap.size w w'

set_option maxHeartbeats 4000000 in
set_option maxRecDepth 100000 in
theorem drawAimJet (w : World) (A : Option Addr) (n c : Nat) (bs : List UInt8) (hn : bs.length = n) (hb : n ≤ 4096) (hr : Rd w w.heap.size A (u8s bs)) :
    Calls Try.prog 25 #[.slice A n c] w (DrawnA w) := by
  have f0 : Below w.heap.size w ((w.alloc (.cells #[.int .i64 0, .int .i64 0] 25)).alloc (.cells #[.int .i64 0, .int .i64 0] 25)) := by go_grown
  have N0 := Lib.hid (new ((w.alloc (.cells #[.int .i64 0, .int .i64 0] 25)).alloc (.cells #[.int .i64 0, .int .i64 0] 25)) A n c bs hn hb ((hr.below f0).more (by go_size)))
  have B0 := Lib.hid ((HB.new w 0 0).alloc (.cells #[.int .i64 0, .int .i64 0] 25))
  have B1 := Lib.hid (show HB _ (w.heap.size + 1) 0 0 from (World.size_alloc w _) ▸ HB.new (w.alloc (.cells #[.int .i64 0, .int .i64 0] 25)) 0 0)
  have F0 := Lib.hid f0
  clear hn hb hr f0
  go_enter Try.func25, Try.ntmps25
  go_wp2_with fail
  refine N0.out.mono ?_
  rintro e w1 ⟨g, rfl, hg, hR, hB⟩
  have hgw : w.heap.size + 1 < g := by have : ((w.alloc (.cells #[.int .i64 0, .int .i64 0] 25)).alloc (.cells #[.int .i64 0, .int .i64 0] 25)).heap.size ≤ g := hg; simp only [World.size_alloc] at this; omega
  have R1 := Lib.hid hR
  have F1 := Lib.hid (F0.out.trans (hB.mono (by go_size)))
  have C0 := Lib.hid (HB.below' B0.out hB)
  have C1 := Lib.hid (HB.below' B1.out hB)
  have HG := Lib.hid hgw
  clear hg hR hB F0 B0 B1 N0 hgw
  go_wp2_with fail
  refine (l3Any R1.out).mono ?_
  rintro e w2 ⟨x, y, h, t, l, rfl, k1, k2⟩
  have S : SA w (w2.alloc (.cells (jc x y h t l) 27)) g A n c bs w2.heap.size x y h t l := by
    have r2 := R1.out.next k2 k1
    have hg := HG.out
    have f2 := F1.out.grown k2 F1.out.size (fun k e => by have := Option.some.inj e; omega)
    exact ⟨r2.alloc _, (C0.out.grown k2 (fun e => by have := Option.some.inj e; omega)).alloc _, (C1.out.grown k2 (fun e => by have := Option.some.inj e; omega)).alloc _, JB.new w2 x y h t l, f2.trans (by have := f2.size; go_grown), hg, r2.cur.lt⟩
  replace S := Lib.hid S
  clear k1 k2 R1 F1 C0 C1 HG
  obtain ⟨a0, a1, a2, a3, a4⟩ := S.out.jet.c
  go_wp2_with fail
  have LC := landS x y h t l (w2.alloc (.cells (jc x y h t l) 27))
  obtain ⟨X, Y, B, e⟩ : ∃ X Y B, landV x y h t l = .tuple #[.agg #[.int .i64 X, .int .i64 Y], .bool B] := ⟨_, _, _, rfl⟩
  rw [e] at LC
  clear e
  refine LC.mono ?_
  rintro e w3 ⟨rfl, hb⟩
  clear LC a0 a1 a2 a3 a4
  replace S := Lib.hid (S.out.below hb)
  clear hb
  have NG := Lib.hid S.out.ready.cur.lt
  have NJ := Lib.hid S.out.jet.lt
  generalize w2.heap.size = jb at *
  have P := Lib.hid (HB.new w3 X Y)
  have Q := Lib.hid (And.intro (S.out.below (Go.Joins.below_alloc1 w3 (.cells #[.int .i64 X, .int .i64 Y] 25))) P.out)
  have np : g < w3.heap.size := NG.out
  have nj : jb < w3.heap.size := NJ.out
  have nl := S.out.lg
  have nk := S.out.lj
  clear S P NG NJ
  cases B
  · go_wp2_with fail
    generalize w3.heap.size = pb at *
    refine (l2Any Q.out.1.ready).mono ?_
    rintro e w4 ⟨u, v, hu, hv, rfl, k1, k2⟩
    replace Q := Lib.hid (And.intro (Q.out.1.next k2 k1) (Q.out.2.grown k2 (fun e => by have := Option.some.inj e; omega)))
    clear k1 k2 hu hv
    have q0 := Q.out.2.f0
    have q1 := Q.out.2.f1
    have q2 := Q.out.2.c0
    have q3 := Q.out.2.c1
    replace Q := Lib.hid (And.intro ((Q.out.1.set np nj 0 (.int .i64 u)).set np nj 1 (.int .i64 v)) ((Q.out.2.set0 u).set1 v))
    obtain ⟨a0, a1, a2, a3, a4⟩ := Q.out.1.jet.c
    have z0 := Q.out.1.r0.f0
    have z1 := Q.out.1.r0.f1
    have z2 := Q.out.1.r1.f0
    have z3 := Q.out.1.r1.f1
    have y0 := Q.out.1.r0.c0
    have y1 := Q.out.1.r0.c1
    have y2 := Q.out.1.r1.c0
    have y3 := Q.out.1.r1.c1
    have b0 := Q.out.2.c0
    have b1 := Q.out.2.c1
    go_upto_region 6 with fail
    generalize ((w4.setCell ⟨pb, 0, none⟩ (.int .i64 u)).setCell ⟨pb, 1, none⟩ (.int .i64 v)) = V at *
    clear q0 q1 q2 q3
    have m1 : pb ≠ w.heap.size := by omega
    have m2 : pb ≠ w.heap.size + 1 := by omega
    have m3 : jb ≠ w.heap.size := by omega
    have m4 : jb ≠ w.heap.size + 1 := by omega
    have m5 := m1.symm
    have m6 := m2.symm
    have m7 := m3.symm
    have m8 := m4.symm
    clear np nj nl nk
    go_region
    go_wp2_with fail
    (try simp only [Exit.inBlock, Exit.then])
    have T0 := Lib.hid ((((Q.out.1.r0.set0 x).set1 y).other 0 (.int .i64 u) (show w.heap.size ≠ w.heap.size + 1 by omega)).other 1 (.int .i64 v) (show w.heap.size ≠ w.heap.size + 1 by omega))
    have T1 := Lib.hid ((((Q.out.1.r1.other 0 (.int .i64 x) (show w.heap.size + 1 ≠ w.heap.size by omega)).other 1 (.int .i64 y) (show w.heap.size + 1 ≠ w.heap.size by omega)).set0 u).set1 v)
    have s0 := T0.out.c0
    have s1 := T0.out.c1
    have s2 := T1.out.c0
    have s3 := T1.out.c1
    have hz := Q.out.1.bel.size
    refine bodyPost_ret (by simp [results, Try.results25, go_sem, s0, s1, s2, s3]; try rfl) rfl ?_
    exact ⟨x, y, u, v, l, rfl, Q.out.1.bel.trans (by go_grown)⟩
  · go_wp2_with fail
    generalize w3.heap.size = pb at *
    refine (once Q.out.1.ready 5 (by decide) (by decide)).mono ?_
    rintro e w4 ⟨b, rfl, k1, k2⟩
    replace Q := Lib.hid (And.intro (Q.out.1.next k2 k1) (Q.out.2.grown k2 (fun e => by have := Option.some.inj e; omega)))
    clear k1 k2
    cases b
    · obtain ⟨u, hu⟩ : ∃ u, u = X := ⟨_, rfl⟩
      obtain ⟨v, hv⟩ : ∃ v, v = Y := ⟨_, rfl⟩
      subst hu hv
      obtain ⟨a0, a1, a2, a3, a4⟩ := Q.out.1.jet.c
      have z0 := Q.out.1.r0.f0
      have z1 := Q.out.1.r0.f1
      have z2 := Q.out.1.r1.f0
      have z3 := Q.out.1.r1.f1
      have y0 := Q.out.1.r0.c0
      have y1 := Q.out.1.r0.c1
      have y2 := Q.out.1.r1.c0
      have y3 := Q.out.1.r1.c1
      have b0 := Q.out.2.c0
      have b1 := Q.out.2.c1
      go_upto_region 6 with fail
      generalize w4 = V at *
      have m1 : pb ≠ w.heap.size := by omega
      have m2 : pb ≠ w.heap.size + 1 := by omega
      have m3 : jb ≠ w.heap.size := by omega
      have m4 : jb ≠ w.heap.size + 1 := by omega
      have m5 := m1.symm
      have m6 := m2.symm
      have m7 := m3.symm
      have m8 := m4.symm
      clear np nj nl nk
      go_region
      go_wp2_with fail
      (try simp only [Exit.inBlock, Exit.then])
      have T0 := Lib.hid ((((Q.out.1.r0.set0 x).set1 y).other 0 (.int .i64 u) (show w.heap.size ≠ w.heap.size + 1 by omega)).other 1 (.int .i64 v) (show w.heap.size ≠ w.heap.size + 1 by omega))
      have T1 := Lib.hid ((((Q.out.1.r1.other 0 (.int .i64 x) (show w.heap.size + 1 ≠ w.heap.size by omega)).other 1 (.int .i64 y) (show w.heap.size + 1 ≠ w.heap.size by omega)).set0 u).set1 v)
      have s0 := T0.out.c0
      have s1 := T0.out.c1
      have s2 := T1.out.c0
      have s3 := T1.out.c1
      have hz := Q.out.1.bel.size
      refine bodyPost_ret (by simp [results, Try.results25, go_sem, s0, s1, s2, s3]; try rfl) rfl ?_
      exact ⟨x, y, u, v, l, rfl, Q.out.1.bel.trans (by go_grown)⟩
    · go_wp2_with fail
      refine (l2Any Q.out.1.ready).mono ?_
      rintro e w5 ⟨u, v, hu, hv, rfl, k1, k2⟩
      replace Q := Lib.hid (And.intro (Q.out.1.next k2 k1) (Q.out.2.grown k2 (fun e => by have := Option.some.inj e; omega)))
      clear k1 k2 hu hv
      have q0 := Q.out.2.f0
      have q1 := Q.out.2.f1
      have q2 := Q.out.2.c0
      have q3 := Q.out.2.c1
      replace Q := Lib.hid (And.intro ((Q.out.1.set np nj 0 (.int .i64 u)).set np nj 1 (.int .i64 v)) ((Q.out.2.set0 u).set1 v))
      obtain ⟨a0, a1, a2, a3, a4⟩ := Q.out.1.jet.c
      have z0 := Q.out.1.r0.f0
      have z1 := Q.out.1.r0.f1
      have z2 := Q.out.1.r1.f0
      have z3 := Q.out.1.r1.f1
      have y0 := Q.out.1.r0.c0
      have y1 := Q.out.1.r0.c1
      have y2 := Q.out.1.r1.c0
      have y3 := Q.out.1.r1.c1
      have b0 := Q.out.2.c0
      have b1 := Q.out.2.c1
      go_upto_region 6 with fail
      generalize ((w5.setCell ⟨pb, 0, none⟩ (.int .i64 u)).setCell ⟨pb, 1, none⟩ (.int .i64 v)) = V at *
      clear q0 q1 q2 q3
      have m1 : pb ≠ w.heap.size := by omega
      have m2 : pb ≠ w.heap.size + 1 := by omega
      have m3 : jb ≠ w.heap.size := by omega
      have m4 : jb ≠ w.heap.size + 1 := by omega
      have m5 := m1.symm
      have m6 := m2.symm
      have m7 := m3.symm
      have m8 := m4.symm
      clear np nj nl nk
      go_region
      go_wp2_with fail
      (try simp only [Exit.inBlock, Exit.then])
      have T0 := Lib.hid ((((Q.out.1.r0.set0 x).set1 y).other 0 (.int .i64 u) (show w.heap.size ≠ w.heap.size + 1 by omega)).other 1 (.int .i64 v) (show w.heap.size ≠ w.heap.size + 1 by omega))
      have T1 := Lib.hid ((((Q.out.1.r1.other 0 (.int .i64 x) (show w.heap.size + 1 ≠ w.heap.size by omega)).other 1 (.int .i64 y) (show w.heap.size + 1 ≠ w.heap.size by omega)).set0 u).set1 v)
      have s0 := T0.out.c0
      have s1 := T0.out.c1
      have s2 := T1.out.c0
      have s3 := T1.out.c1
      have hz := Q.out.1.bel.size
      refine bodyPost_ret (by simp [results, Try.results25, go_sem, s0, s1, s2, s3]; try rfl) rfl ?_
      exact ⟨x, y, u, v, l, rfl, Q.out.1.bel.trans (by go_grown)⟩

end Go.Proofs.Ytgmgdjhldjjckaa.Dr4
