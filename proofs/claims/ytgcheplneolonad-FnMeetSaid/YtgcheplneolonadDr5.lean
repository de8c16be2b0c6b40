/- What the model's draw of a jet that may be none answers: some jet; the cursor alone is written. -/
import Derived.Test.YtgcheplneolonadDr4
namespace Go.Proofs.Ytgcheplneolonad.Dr4
open Go.RowKit Go.Proofs.Ytgcheplneolonad.Mem Go.Proofs.Ytgcheplneolonad.Draw Go.Proofs.Ytgcheplneolonad.P2 Go.Proofs.Ytgcheplneolonad.Dr2 Go.Proofs.Ytgcheplneolonad.Jt Go.Proofs.Ytgcheplneolonad.Dp
set_option linter.unusedVariables false
set_option linter.unusedSimpArgs false

theorem Ready.below' {w w' : World} {g n c : Nat} {A : Option Addr} {bs : List UInt8} (h : Ready w g A n c bs) (hb : Below w.heap.size w w') : Ready w' g A n c bs :=
  ⟨h.len, h.max, h.rd.keep fun p hp => hb.cell (Nat.lt_trans hp h.cur.lt), h.cur.kept (hb.block g h.cur.lt)⟩

/-- Where a draw of a jet stands: the cursor, the result, the jet. -/
structure St (w wr : World) (g : Nat) (A : Option Addr) (n c : Nat) (bs : List UInt8) (rb jb : Nat) (x y h t l : Int) : Prop where
  ready : Ready wr g A n c bs
  res : JB wr rb 0 0 0 0 0
  jet : JB wr jb x y h t l
  gr : w.grownBy wr (some g)
  n1 : rb ≠ g
  n2 : jb ≠ g
  n3 : rb ≠ jb
  l1 : w.heap.size ≤ rb
  l2 : w.heap.size ≤ jb
  l3 : g < jb

section
variable {w wr w' : World} {g n c rb jb : Nat} {A : Option Addr} {bs : List UInt8} {x y h t l : Int}
theorem St.next (k : St w wr g A n c bs rb jb x y h t l) (hg : wr.grownBy w' (some g)) (hc : Cur w' g A n c) : St w w' g A n c bs rb jb x y h t l :=
  ⟨k.ready.next hg hc, k.res.grown hg (fun e => k.n1 (Option.some.inj e)), k.jet.grown hg (fun e => k.n2 (Option.some.inj e)), Draw.grown_trans k.gr hg, k.n1, k.n2, k.n3, k.l1, k.l2, k.l3⟩
theorem St.alloc (k : St w wr g A n c bs rb jb x y h t l) (o : Obj) : St w (wr.alloc o) g A n c bs rb jb x y h t l :=
  ⟨k.ready.alloc o, k.res.alloc o, k.jet.alloc o, Dr2.grown_alloc k.gr o, k.n1, k.n2, k.n3, k.l1, k.l2, k.l3⟩
theorem St.put {j : Nat} {v : Value} {x' y' h' t' l' : Int} (k : St w wr g A n c bs rb jb x y h t l) (hj : JB (wr.setCell ⟨jb, j, none⟩ v) jb x' y' h' t' l') : St w (wr.setCell ⟨jb, j, none⟩ v) g A n c bs rb jb x' y' h' t' l' :=
  ⟨⟨k.ready.len, k.ready.max, rd_set k.ready.rd k.l3 _ _, cur_set k.ready.cur k.n2.symm _ _⟩, k.res.other _ _ k.n3, hj, Dr2.grown_set k.gr k.l2 _ _, k.n1, k.n2, k.n3, k.l1, k.l2, k.l3⟩
theorem St.set0 (u : Int) (k : St w wr g A n c bs rb jb x y h t l) : St w (wr.setCell ⟨jb, 0, none⟩ (.int .i64 u)) g A n c bs rb jb u y h t l := k.put (k.jet.set0 u)
theorem St.set1 (u : Int) (k : St w wr g A n c bs rb jb x y h t l) : St w (wr.setCell ⟨jb, 1, none⟩ (.int .i64 u)) g A n c bs rb jb x u h t l := k.put (k.jet.set1 u)
theorem St.set2 (u : Int) (k : St w wr g A n c bs rb jb x y h t l) : St w (wr.setCell ⟨jb, 2, none⟩ (.int .i64 u)) g A n c bs rb jb x y u t l := k.put (k.jet.set2 u)
theorem St.set3 (u : Int) (k : St w wr g A n c bs rb jb x y h t l) : St w (wr.setCell ⟨jb, 3, none⟩ (.int .i64 u)) g A n c bs rb jb x y h u l := k.put (k.jet.set3 u)
theorem St.set4 (u : Int) (k : St w wr g A n c bs rb jb x y h t l) : St w (wr.setCell ⟨jb, 4, none⟩ (.int .i64 u)) g A n c bs rb jb x y h t u := k.put (k.jet.set4 u)
theorem St.done (k : St w wr g A n c bs rb jb x y h t l) : Cur (((((wr.setCell ⟨rb, 0, none⟩ (.int .i64 x)).setCell ⟨rb, 1, none⟩ (.int .i64 y)).setCell ⟨rb, 2, none⟩ (.int .i64 h)).setCell ⟨rb, 3, none⟩ (.int .i64 t)).setCell ⟨rb, 4, none⟩ (.int .i64 l)) g A n c ∧ w.grownBy (((((wr.setCell ⟨rb, 0, none⟩ (.int .i64 x)).setCell ⟨rb, 1, none⟩ (.int .i64 y)).setCell ⟨rb, 2, none⟩ (.int .i64 h)).setCell ⟨rb, 3, none⟩ (.int .i64 t)).setCell ⟨rb, 4, none⟩ (.int .i64 l)) (some g) :=
  ⟨cur_set (cur_set (cur_set (cur_set (cur_set k.ready.cur k.n1.symm _ _) k.n1.symm _ _) k.n1.symm _ _) k.n1.symm _ _) k.n1.symm _ _, Dr2.grown_set (Dr2.grown_set (Dr2.grown_set (Dr2.grown_set (Dr2.grown_set k.gr k.l1 _ _) k.l1 _ _) k.l1 _ _) k.l1 _ _) k.l1 _ _⟩
end

/-- What the draw of a jet that may be none leaves. -/
def GotA (w : World) (g : Nat) (A : Option Addr) (n c : Nat) (e : Ending) (w' : World) : Prop :=
  ∃ x y h t l : Int, e = .returned (jv x y h t l) ∧ Cur w' g A n c ∧ w.grownBy w' (some g)

def tilts : List Int := [-1, 17, 16, 1000, 9223372036854775807]
def lifts : List Int := [0, -1, 33, 32, 9223372036854775807, -9223372036854775808]
def atXs : List Int := [1024, 1025, -1024, -1025]
def atYs : List Int := [0, 1024, -1025]

set_option maxHeartbeats 4000000 in
set_option maxRecDepth 100000 in
theorem l3Any {w : World} {g n c : Nat} {A : Option Addr} {bs : List UInt8} (h : Ready w g A n c bs) :
    Calls Try.prog 25 #[.pointer (some ⟨g, 0, none⟩)] w (GotA w g A n c) := by
  have hlt := h.cur.lt
  have H1 := Lib.hid (h.alloc (.cells (jc 0 0 0 0 0) 27))
  have G1 := Lib.hid (World.grownBy_alloc w (.cells (jc 0 0 0 0 0) 27) (some g))
  have B1 := Lib.hid (JB.new w 0 0 0 0 0)
  have NE := Lib.hid (show w.heap.size ≠ g by omega)
  clear h hlt
  go_enter Try.func25, Try.ntmps25
  go_wp2_with fail
  refine (l3Draw H1.out).mono ?_
  rintro e w1 ⟨x, y, h, t, l, hj, rfl, k1, k2⟩
  have r1 := H1.out.next k2 k1
  have j1 := B1.out.grown k2 (fun e => NE.out (Option.some.inj e))
  have S0 : St w (w1.alloc (.cells (jc x y h t l) 27)) g A n c bs w.heap.size w1.heap.size x y h t l :=
    ⟨r1.alloc _, j1.alloc _, JB.new w1 x y h t l, Dr2.grown_alloc (Draw.grown_trans G1.out k2) _, NE.out, Nat.ne_of_gt r1.cur.lt, Nat.ne_of_lt j1.lt, Nat.le_refl _, Nat.le_of_lt j1.lt, r1.cur.lt⟩
  have S1 := Lib.hid S0
  clear k1 k2 r1 j1 S0 hj H1 G1 B1
  go_wp2_with fail
  refine (below S1.out.ready 12 (by decide) (by decide)).mono ?_
  rintro e w2 ⟨i, ⟨i1, i2⟩, rfl, k1, k2⟩
  have S := Lib.hid (S1.out.next k2 k1)
  generalize w1.heap.size = jb at *
  have NJ := Lib.hid S.out.n2
  clear k1 k2 S1
  rcases (by omega : i = 0 ∨ i = 1 ∨ i = 2 ∨ i = 3 ∨ i = 4 ∨ 5 ≤ i) with rfl | rfl | rfl | rfl | rfl | h5
  · clear i1 i2
    go_wp2_with fail
    refine (l2Any S.out.ready).mono ?_
    rintro e w3 ⟨x', y', hx, hy, rfl, k1, k2⟩
    have S := Lib.hid (S.out.next k2 k1)
    have T := Lib.hid ((S.out.set0 x').set1 y')
    clear k1 k2 hx hy
    obtain ⟨a0, a1, a2, a3, a4⟩ := S.out.jet.c
    have f0 := S.out.jet.f 0
    have f1 := S.out.jet.f 1
    have f2 := S.out.jet.f 2
    have f3 := S.out.jet.f 3
    have f4 := S.out.jet.f 4
    obtain ⟨b0, b1, b2, b3, b4⟩ := S.out.res.c
    have g0 := S.out.res.f 0
    have g1 := S.out.res.f 1
    have g2 := S.out.res.f 2
    have g3 := S.out.res.f 3
    have g4 := S.out.res.f 4
    have m3 := S.out.n3
    have m4 := m3.symm
    go_wp2_with fail
    obtain ⟨s0, s1, s2, s3, s4⟩ := (T.out.res.set x' y' h t l).c
    (try simp only [Exit.inBlock, Exit.then])
    refine bodyPost_ret (by simp [results, Try.results25, go_sem, s0, s1, s2, s3, s4]; try rfl) rfl ?_
    exact ⟨_, _, _, _, _, rfl, T.out.done⟩
  · clear i1 i2
    go_wp2_with fail
    refine (odd S.out.ready).mono ?_
    rintro e w3 ⟨h', hh, rfl, k1, k2⟩
    have S := Lib.hid (S.out.next k2 k1)
    have T := Lib.hid (S.out.set2 h')
    clear k1 k2 hh
    obtain ⟨a0, a1, a2, a3, a4⟩ := S.out.jet.c
    have f0 := S.out.jet.f 0
    have f1 := S.out.jet.f 1
    have f2 := S.out.jet.f 2
    have f3 := S.out.jet.f 3
    have f4 := S.out.jet.f 4
    obtain ⟨b0, b1, b2, b3, b4⟩ := S.out.res.c
    have g0 := S.out.res.f 0
    have g1 := S.out.res.f 1
    have g2 := S.out.res.f 2
    have g3 := S.out.res.f 3
    have g4 := S.out.res.f 4
    have m3 := S.out.n3
    have m4 := m3.symm
    go_wp2_with fail
    obtain ⟨s0, s1, s2, s3, s4⟩ := (T.out.res.set x y h' t l).c
    (try simp only [Exit.inBlock, Exit.then])
    refine bodyPost_ret (by simp [results, Try.results25, go_sem, s0, s1, s2, s3, s4]; try rfl) rfl ?_
    exact ⟨_, _, _, _, _, rfl, T.out.done⟩
  · clear i1 i2
    have hlt := S.out.ready.cur.lt
    have P := Lib.hid (pick (S.out.ready.alloc (.cells (ints tilts).toArray 3)) w2.heap.size 0 5 tilts (by omega) (by decide) (by decide) (cells_at w2 tilts 3))
    clear hlt
    go_wp2_with fail
    refine P.out.mono ?_
    rintro e w3 ⟨t', hv, rfl, k1, k2⟩
    have S := Lib.hid ((S.out.alloc (.cells (ints tilts).toArray 3)).next k2 k1)
    have T := Lib.hid (S.out.set3 t')
    clear k1 k2 hv P
    obtain ⟨a0, a1, a2, a3, a4⟩ := S.out.jet.c
    have f0 := S.out.jet.f 0
    have f1 := S.out.jet.f 1
    have f2 := S.out.jet.f 2
    have f3 := S.out.jet.f 3
    have f4 := S.out.jet.f 4
    obtain ⟨b0, b1, b2, b3, b4⟩ := S.out.res.c
    have g0 := S.out.res.f 0
    have g1 := S.out.res.f 1
    have g2 := S.out.res.f 2
    have g3 := S.out.res.f 3
    have g4 := S.out.res.f 4
    have m3 := S.out.n3
    have m4 := m3.symm
    go_wp2_with fail
    obtain ⟨s0, s1, s2, s3, s4⟩ := (T.out.res.set x y h t' l).c
    (try simp only [Exit.inBlock, Exit.then])
    refine bodyPost_ret (by simp [results, Try.results25, go_sem, s0, s1, s2, s3, s4]; try rfl) rfl ?_
    exact ⟨_, _, _, _, _, rfl, T.out.done⟩
  · clear i1 i2
    have hlt := S.out.ready.cur.lt
    have P := Lib.hid (pick (S.out.ready.alloc (.cells (ints lifts).toArray 3)) w2.heap.size 0 6 lifts (by omega) (by decide) (by decide) (cells_at w2 lifts 3))
    clear hlt
    go_wp2_with fail
    refine P.out.mono ?_
    rintro e w3 ⟨l', hv, rfl, k1, k2⟩
    have S := Lib.hid ((S.out.alloc (.cells (ints lifts).toArray 3)).next k2 k1)
    have T := Lib.hid (S.out.set4 l')
    clear k1 k2 hv P
    obtain ⟨a0, a1, a2, a3, a4⟩ := S.out.jet.c
    have f0 := S.out.jet.f 0
    have f1 := S.out.jet.f 1
    have f2 := S.out.jet.f 2
    have f3 := S.out.jet.f 3
    have f4 := S.out.jet.f 4
    obtain ⟨b0, b1, b2, b3, b4⟩ := S.out.res.c
    have g0 := S.out.res.f 0
    have g1 := S.out.res.f 1
    have g2 := S.out.res.f 2
    have g3 := S.out.res.f 3
    have g4 := S.out.res.f 4
    have m3 := S.out.n3
    have m4 := m3.symm
    go_wp2_with fail
    obtain ⟨s0, s1, s2, s3, s4⟩ := (T.out.res.set x y h t l').c
    (try simp only [Exit.inBlock, Exit.then])
    refine bodyPost_ret (by simp [results, Try.results25, go_sem, s0, s1, s2, s3, s4]; try rfl) rfl ?_
    exact ⟨_, _, _, _, _, rfl, T.out.done⟩
  · clear i1 i2
    have hlt := S.out.ready.cur.lt
    have P := Lib.hid (pick (S.out.ready.alloc (.cells (ints atXs).toArray 3)) w2.heap.size 0 4 atXs (by omega) (by decide) (by decide) (cells_at w2 atXs 3))
    clear hlt
    go_wp2_with fail
    refine P.out.mono ?_
    rintro e w3 ⟨x', hv, rfl, k1, k2⟩
    have S := Lib.hid ((S.out.alloc (.cells (ints atXs).toArray 3)).next k2 k1)
    have hlt := S.out.ready.cur.lt
    have P := Lib.hid (pick (S.out.ready.alloc (.cells (ints atYs).toArray 3)) w3.heap.size 0 3 atYs (by omega) (by decide) (by decide) (cells_at w3 atYs 3))
    clear k1 k2 hv hlt
    go_wp2_with fail
    refine P.out.mono ?_
    rintro e w4 ⟨y', hv, rfl, k1, k2⟩
    have S := Lib.hid ((S.out.alloc (.cells (ints atYs).toArray 3)).next k2 k1)
    have T := Lib.hid ((S.out.set0 x').set1 y')
    clear k1 k2 hv P
    obtain ⟨a0, a1, a2, a3, a4⟩ := S.out.jet.c
    have f0 := S.out.jet.f 0
    have f1 := S.out.jet.f 1
    have f2 := S.out.jet.f 2
    have f3 := S.out.jet.f 3
    have f4 := S.out.jet.f 4
    obtain ⟨b0, b1, b2, b3, b4⟩ := S.out.res.c
    have g0 := S.out.res.f 0
    have g1 := S.out.res.f 1
    have g2 := S.out.res.f 2
    have g3 := S.out.res.f 3
    have g4 := S.out.res.f 4
    have m3 := S.out.n3
    have m4 := m3.symm
    go_wp2_with fail
    obtain ⟨s0, s1, s2, s3, s4⟩ := (T.out.res.set x' y' h t l).c
    (try simp only [Exit.inBlock, Exit.then])
    refine bodyPost_ret (by simp [results, Try.results25, go_sem, s0, s1, s2, s3, s4]; try rfl) rfl ?_
    exact ⟨_, _, _, _, _, rfl, T.out.done⟩
  · obtain ⟨a0, a1, a2, a3, a4⟩ := S.out.jet.c
    have f0 := S.out.jet.f 0
    have f1 := S.out.jet.f 1
    have f2 := S.out.jet.f 2
    have f3 := S.out.jet.f 3
    have f4 := S.out.jet.f 4
    obtain ⟨b0, b1, b2, b3, b4⟩ := S.out.res.c
    have g0 := S.out.res.f 0
    have g1 := S.out.res.f 1
    have g2 := S.out.res.f 2
    have g3 := S.out.res.f 3
    have g4 := S.out.res.f 4
    have m3 := S.out.n3
    have m4 := m3.symm
    go_wp2_with fail
    obtain ⟨s0, s1, s2, s3, s4⟩ := (S.out.res.set x y h t l).c
    (try simp only [Exit.inBlock, Exit.then])
    refine bodyPost_ret (by simp [results, Try.results25, go_sem, s0, s1, s2, s3, s4]; try rfl) rfl ?_
    exact ⟨_, _, _, _, _, rfl, S.out.done⟩

end Go.Proofs.Ytgcheplneolonad.Dr4
