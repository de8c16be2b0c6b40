/- The draws of cues and lists of cues that may be none. -/
import Derived.Test.YtgcheplneolonacDr7
namespace Go.Proofs.Ytgcheplneolonac.Dr7
open Go.RowKit Go.ChangeShapes Go.WideShapes Go.WideElems Go.Deep Go.Proofs.Ytgcheplneolonac.Mem Go.Proofs.Ytgcheplneolonac.Rw Go.Proofs.Ytgcheplneolonac.P2 Go.Proofs.Ytgcheplneolonac.Cd Go.Proofs.Ytgcheplneolonac.Cv Go.Proofs.Ytgcheplneolonac.Cl Go.Proofs.Ytgcheplneolonac.Cs
set_option linter.unusedVariables false
set_option linter.unusedSimpArgs false
open Go.Proofs.Ytgcheplneolonac.Sd Go.Proofs.Ytgcheplneolonac.Oc Go.Proofs.Ytgcheplneolonac.Cr Go.Proofs.Ytgcheplneolonac.Ld Go.Proofs.Ytgcheplneolonac.Cq Go.Proofs.Ytgcheplneolonac.Ac Go.Proofs.Ytgcheplneolonac.Strs
open Go.Proofs.Ytgcheplneolonac.Draw (Cur Ready Got u8s below odd pick cells_at new Fresh)
open Go.Proofs.Ytgcheplneolonac.Rw (owns_below owns_grown owns_base)

theorem cur_set {w : World} {g n c : Nat} {A : Option Addr} (h : Cur w g A n c) {b : Nat} (hne : g ≠ b) (j : Nat) (v : Value) : Cur (w.setCell ⟨b, j, none⟩ v) g A n c := h.kept (Below.heap_setCell _ _ _ _ hne)
theorem grown_set {w w' : World} {r : Option Nat} (h : w.grownBy w' r) {b : Nat} (hb : w.heap.size ≤ b) (j : Nat) (v : Value) : w.grownBy (w'.setCell ⟨b, j, none⟩ v) r :=
  ⟨h.os, h.tape, h.output, by simp [World.setCell]; exact h.size, fun k hk hr => (Below.heap_setCell _ _ _ _ (by show k ≠ b; omega)).trans (h.block k hk hr)⟩
theorem rd_set {w : World} {g b : Nat} {A : Option Addr} {xs : List Value} (h : Rd w g A xs) (hb : g < b) (j : Nat) (v : Value) : Rd (w.setCell ⟨b, j, none⟩ v) g A xs :=
  h.keep fun p hp => World.cell?_of_block (Below.heap_setCell _ _ _ _ (by show p.block ≠ b; omega))
def Bc (w : World) (b : Nat) (d : C) : Prop := w.heap[b]? = some (.cells (ca d.tk d.nm d.lv d.rp) 26 (0, 0))
theorem Bc.new (w : World) (t : Int) (s : ByteArray) (l r : Int) : Bc (w.alloc (.cells (ca t s l r) 26)) w.heap.size ⟨t, s, l, r⟩ := heap_alloc_new w _
theorem Bc.lt {w : World} {b : Nat} {d : C} (h : Bc w b d) : b < w.heap.size := (Array.getElem?_eq_some_iff.1 h).1
theorem Bc.alloc {w : World} {b : Nat} {d : C} (h : Bc w b d) (o : Obj) : Bc (w.alloc o) b d := (Below.heap_alloc _ _ _ h.lt).trans h
theorem Bc.below {w w' : World} {b B : Nat} {d : C} (h : Bc w b d) (k : Below B w w') (hb : b < B) : Bc w' b d := (k.block b hb).trans h
theorem Bc.grown {w w' : World} {b : Nat} {d : C} {r : Option Nat} (h : Bc w b d) (k : w.grownBy w' r) (hr : some b ≠ r) : Bc w' b d := (k.block b h.lt hr).trans h
theorem Bc.other {w : World} {b b' : Nat} {d : C} (h : Bc w b d) (j : Nat) (v : Value) (hne : b ≠ b') : Bc (w.setCell ⟨b', j, none⟩ v) b d := (Below.heap_setCell _ _ _ _ hne).trans h
theorem Bc.c {w : World} {b : Nat} {t : Int} {s : ByteArray} {l r : Int} (hh : Bc w b ⟨t, s, l, r⟩) :
    w.cell? ⟨b, 0, none⟩ = some (.int .i64 t) ∧ w.cell? ⟨b, 1, none⟩ = some (.string s) ∧ w.cell? ⟨b, 2, none⟩ = some (.int .i64 l) ∧ w.cell? ⟨b, 3, none⟩ = some (.int .i64 r) := by
  have e : w.heap[b]? = some (.cells (ca t s l r) 26 (0, 0)) := hh
  refine ⟨?_, ?_, ?_, ?_⟩ <;> simp [World.cell?, e]
theorem Bc.f {w : World} {b : Nat} {d : C} (hh : Bc w b d) (j : Nat) : w.frozen? ⟨b, j, none⟩ = false := by
  have e : w.heap[b]? = some (.cells (ca d.tk d.nm d.lv d.rp) 26 (0, 0)) := hh
  simp [World.frozen?, e]
abbrev put4 (w : World) (b : Nat) (d : C) : World := (((w.setCell ⟨b, 0, none⟩ (.int .i64 d.tk)).setCell ⟨b, 1, none⟩ (.string d.nm)).setCell ⟨b, 2, none⟩ (.int .i64 d.lv)).setCell ⟨b, 3, none⟩ (.int .i64 d.rp)
theorem bc_put {w : World} {b : Nat} {e : C} (h : Bc w b e) (d : C) : Bc (put4 w b d) b d := by
  have h1 : (w.setCell ⟨b, 0, none⟩ (.int .i64 d.tk)).heap[b]? = some (.cells (ca d.tk e.nm e.lv e.rp) 26 (0, 0)) := heap_setCell_same _ b 0 _ _ _ h
  have h2 : ((w.setCell ⟨b, 0, none⟩ (.int .i64 d.tk)).setCell ⟨b, 1, none⟩ (.string d.nm)).heap[b]? = some (.cells (ca d.tk d.nm e.lv e.rp) 26 (0, 0)) := heap_setCell_same _ b 1 _ _ _ h1
  have h3 : (((w.setCell ⟨b, 0, none⟩ (.int .i64 d.tk)).setCell ⟨b, 1, none⟩ (.string d.nm)).setCell ⟨b, 2, none⟩ (.int .i64 d.lv)).heap[b]? = some (.cells (ca d.tk d.nm d.lv e.rp) 26 (0, 0)) := heap_setCell_same _ b 2 _ _ _ h2
  exact heap_setCell_same _ b 3 _ _ _ h3
theorem put4_grown {w0 w : World} {r : Option Nat} (h : w0.grownBy w r) {b : Nat} (hb : w0.heap.size ≤ b) (d : C) : w0.grownBy (put4 w b d) r :=
  grown_set (grown_set (grown_set (grown_set h hb _ _) hb _ _) hb _ _) hb _ _
theorem put4_cur {w : World} {g n c b : Nat} {A : Option Addr} (h : Cur w g A n c) (hne : g ≠ b) (d : C) : Cur (put4 w b d) g A n c :=
  cur_set (cur_set (cur_set (cur_set h hne _ _) hne _ _) hne _ _) hne _ _

def words : List ByteArray := [⟨#[97]⟩, ⟨#[98]⟩, ⟨#[106, 101, 116, 49]⟩, ⟨#[112]⟩, ⟨#[122, 122, 57]⟩, ⟨#[108, 97, 109, 112]⟩, ⟨#[97, 98, 99, 100, 101, 102, 103, 104]⟩, ⟨#[97, 98, 99, 100, 101, 102, 103, 104, 105]⟩, ⟨#[]⟩, ⟨#[57, 97]⟩, ⟨#[65]⟩, ⟨#[97, 32, 98]⟩, ⟨#[97, 45, 98]⟩]
theorem words9 {x : ByteArray} (h : x ∈ words) : x.size ≤ 9 := by
  unfold words at h
  simp only [List.mem_cons, List.not_mem_nil, or_false] at h
  rcases h with h | h | h | h | h | h | h | h | h | h | h | h | h <;> subst h <;> decide
def alevs : List Int := [-1, 32, 33, 1000]

set_option maxRecDepth 100000 in
set_option maxHeartbeats 1000000 in
theorem l1Word {w : World} {g n c : Nat} {A : Option Addr} {bs : List UInt8} (h : Ready w g A n c bs) :
    Calls Try.prog 35 #[.pointer (some ⟨g, 0, none⟩)] w (GotN words w g A n c) := by
  have hlt := h.cur.lt
  have P := Lib.hid (pickS (h.alloc (.cells (Strs.strs words).toArray 9)) w.heap.size 0 13 words (by omega) (by decide) (by decide) (cells_str w words 9))
  have G0 := Lib.hid (World.grownBy_alloc w (.cells (Strs.strs words).toArray 9) (some g))
  clear h hlt
  go_enter Try.func35, Try.ntmps35
  go_wp2_with fail
  refine P.out.mono ?_
  rintro e w1 ⟨x, hx, rfl, k1, k2⟩
  have K := Lib.hid k1
  have G1 := Lib.hid (Draw.grown_trans G0.out k2)
  have X := Lib.hid hx
  clear k1 k2 hx P
  go_wp2_with fail
  go_ret
  exact ⟨x, X.out, rfl, K.out, G1.out⟩
theorem set_tk {w : World} {b : Nat} {t : Int} {s : ByteArray} {l r : Int} (hh : Bc w b ⟨t, s, l, r⟩) (v : Int) : Bc (w.setCell ⟨b, 0, none⟩ (.int .i64 v)) b ⟨v, s, l, r⟩ := heap_setCell_same w b 0 _ _ _ hh
theorem set_nm {w : World} {b : Nat} {t : Int} {s : ByteArray} {l r : Int} (hh : Bc w b ⟨t, s, l, r⟩) (v : ByteArray) : Bc (w.setCell ⟨b, 1, none⟩ (.string v)) b ⟨t, v, l, r⟩ := heap_setCell_same w b 1 _ _ _ hh
theorem set_lv {w : World} {b : Nat} {t : Int} {s : ByteArray} {l r : Int} (hh : Bc w b ⟨t, s, l, r⟩) (v : Int) : Bc (w.setCell ⟨b, 2, none⟩ (.int .i64 v)) b ⟨t, s, v, r⟩ := heap_setCell_same w b 2 _ _ _ hh
theorem set_rp {w : World} {b : Nat} {t : Int} {s : ByteArray} {l r : Int} (hh : Bc w b ⟨t, s, l, r⟩) (v : Int) : Bc (w.setCell ⟨b, 3, none⟩ (.int .i64 v)) b ⟨t, s, l, v⟩ := heap_setCell_same w b 3 _ _ _ hh

structure Sa (w wr : World) (g : Nat) (A : Option Addr) (n c : Nat) (bs : List UInt8) (rb jb : Nat) (t : Int) (s : ByteArray) (l r : Int) : Prop where
  rdy : Ready wr g A n c bs
  gr : w.grownBy wr (some g)
  res : Bc wr rb ⟨0, ⟨#[]⟩, 0, 0⟩
  dev : Bc wr jb ⟨t, s, l, r⟩
  n1 : rb ≠ jb
  l1 : w.heap.size ≤ rb
  l2 : w.heap.size ≤ jb
  l3 : g < rb
  l4 : g < jb
  s1 : s.size ≤ 9
section
variable {w wr w' : World} {g : Nat} {A : Option Addr} {n c : Nat} {bs : List UInt8} {rb jb : Nat} {t : Int} {s : ByteArray} {l r : Int}
theorem Sa.next (k : Sa w wr g A n c bs rb jb t s l r) (k2 : wr.grownBy w' (some g)) (k1 : Cur w' g A n c) : Sa w w' g A n c bs rb jb t s l r :=
  ⟨k.rdy.next k2 k1, Draw.grown_trans k.gr k2, k.res.grown k2 (fun e => by have := Option.some.inj e; have := k.l3; omega), k.dev.grown k2 (fun e => by have := Option.some.inj e; have := k.l4; omega), k.n1, k.l1, k.l2, k.l3, k.l4, k.s1⟩
theorem Sa.alloc (k : Sa w wr g A n c bs rb jb t s l r) (o : Obj) : Sa w (wr.alloc o) g A n c bs rb jb t s l r :=
  ⟨k.rdy.alloc o, Draw.grown_trans k.gr (World.grownBy_alloc _ _ _), k.res.alloc o, k.dev.alloc o, k.n1, k.l1, k.l2, k.l3, k.l4, k.s1⟩
theorem Sa.one (k : Sa w wr g A n c bs rb jb t s l r) {j : Nat} {v : Value} {t' : Int} {s' : ByteArray} {l' r' : Int} (hd : Bc (wr.setCell ⟨jb, j, none⟩ v) jb ⟨t', s', l', r'⟩) (h1 : s'.size ≤ 9) : Sa w (wr.setCell ⟨jb, j, none⟩ v) g A n c bs rb jb t' s' l' r' :=
  ⟨⟨k.rdy.len, k.rdy.max, rd_set k.rdy.rd k.l4 _ _, cur_set k.rdy.cur (by have := k.l4; omega) _ _⟩, grown_set k.gr k.l2 _ _, k.res.other _ _ k.n1, hd, k.n1, k.l1, k.l2, k.l3, k.l4, h1⟩
end
/-- What the draw of a cue that may be none leaves. -/
def GotY (w : World) (g : Nat) (A : Option Addr) (n c : Nat) (e : Ending) (w' : World) : Prop :=
  ∃ (t : Int) (s : ByteArray) (l r : Int), s.size ≤ 9 ∧ e = .returned (va t s l r) ∧ Cur w' g A n c ∧ w.grownBy w' (some g)

set_option maxRecDepth 100000 in
set_option maxHeartbeats 4000000 in
theorem l7Any {w : World} {g n c : Nat} {A : Option Addr} {bs : List UInt8} (hr : Ready w g A n c bs) :
    Calls Try.prog 18 #[.pointer (some ⟨g, 0, none⟩)] w (GotY w g A n c) := by
  have hlt := hr.cur.lt
  have H1 := Lib.hid (hr.alloc (.cells (ca 0 ⟨#[]⟩ 0 0) 26))
  have G1 := Lib.hid (World.grownBy_alloc w (.cells (ca 0 ⟨#[]⟩ 0 0) 26) (some g))
  have B1 := Lib.hid (Bc.new w 0 ⟨#[]⟩ 0 0)
  have NE := Lib.hid (show w.heap.size ≠ g by omega)
  have LT := Lib.hid hlt
  clear hr hlt
  go_enter Try.func18, Try.ntmps18
  go_wp2_with fail
  refine (l7Cue H1.out).mono ?_
  rintro e w3 ⟨t, s, l, r, hd, rfl, k1, k2⟩
  have H4 := H1.out.next k2 k1
  have B4 := B1.out.grown k2 (fun e => NE.out (Option.some.inj e))
  have S0 : Sa w (w3.alloc (.cells (ca t s l r) 26)) g A n c bs w.heap.size w3.heap.size t s l r :=
    ⟨H4.alloc _, Draw.grown_trans (Draw.grown_trans G1.out k2) (World.grownBy_alloc _ _ _), B4.alloc _, Bc.new w3 t s l r, Nat.ne_of_lt B4.lt, Nat.le_refl _, Nat.le_of_lt B4.lt, LT.out, k1.lt, Nat.le_trans (name_size hd.2.2) (by decide)⟩
  have S := Lib.hid S0
  clear k1 k2 H4 B4 S0 hd H1 G1 B1 NE LT
  go_wp2_with fail
  refine (below S.out.rdy 12 (by decide) (by decide)).mono ?_
  rintro e w4 ⟨i, ⟨i1, i2⟩, rfl, k1, k2⟩
  have S := Lib.hid (S.out.next k2 k1)
  clear k1 k2
  generalize w3.heap.size = jb at *
  rcases (by omega : i = 0 ∨ i = 1 ∨ i = 2 ∨ i = 3 ∨ 4 ≤ i) with rfl | rfl | rfl | rfl | h4
  · clear i1 i2
    go_wp2_with fail
    refine (odd S.out.rdy).mono ?_
    rintro e w5 ⟨v9, hv9, rfl, k1, k2⟩
    have S := Lib.hid (S.out.next k2 k1)
    clear k1 k2
    clear hv9
    obtain ⟨a0, a1, a2, a3⟩ := S.out.dev.c
    have fz := S.out.dev.f
    obtain ⟨b0, b1, b2, b3⟩ := S.out.res.c
    have gz := S.out.res.f
    have m3 := S.out.n1
    have m4 := m3.symm
    have T := Lib.hid (S.out.one (set_tk S.out.dev v9) S.out.s1)
    go_wp2_with fail
    obtain ⟨s0, s1, s2, s3⟩ := (bc_put T.out.res ⟨v9, s, l, r⟩).c
    have C9 := Lib.hid (put4_cur T.out.rdy.cur (Nat.ne_of_lt T.out.l3) ⟨v9, s, l, r⟩)
    have G9 := Lib.hid (put4_grown T.out.gr T.out.l1 ⟨v9, s, l, r⟩)
    (try simp only [Exit.inBlock, Exit.then])
    refine bodyPost_ret (v := va v9 s l r) (by simp only [results, Try.results18, s0, s1, s2, s3]; simp [go_sem, s0, s1, s2, s3]; try rfl) rfl ?_
    exact ⟨v9, s, l, r, T.out.s1, rfl, C9.out, G9.out⟩
  · clear i1 i2
    go_wp2_with fail
    refine (l1Word S.out.rdy).mono ?_
    rintro e w5 ⟨v9, hv9, rfl, k1, k2⟩
    have S := Lib.hid (S.out.next k2 k1)
    clear k1 k2
    have V9 := Lib.hid (words9 hv9)
    clear hv9
    obtain ⟨a0, a1, a2, a3⟩ := S.out.dev.c
    have fz := S.out.dev.f
    obtain ⟨b0, b1, b2, b3⟩ := S.out.res.c
    have gz := S.out.res.f
    have m3 := S.out.n1
    have m4 := m3.symm
    have T := Lib.hid (S.out.one (set_nm S.out.dev v9) V9.out)
    go_wp2_with fail
    obtain ⟨s0, s1, s2, s3⟩ := (bc_put T.out.res ⟨t, v9, l, r⟩).c
    have C9 := Lib.hid (put4_cur T.out.rdy.cur (Nat.ne_of_lt T.out.l3) ⟨t, v9, l, r⟩)
    have G9 := Lib.hid (put4_grown T.out.gr T.out.l1 ⟨t, v9, l, r⟩)
    (try simp only [Exit.inBlock, Exit.then])
    refine bodyPost_ret (v := va t v9 l r) (by simp only [results, Try.results18, s0, s1, s2, s3]; simp [go_sem, s0, s1, s2, s3]; try rfl) rfl ?_
    exact ⟨t, v9, l, r, T.out.s1, rfl, C9.out, G9.out⟩
  · clear i1 i2
    have hlt := S.out.rdy.cur.lt
    have P := Lib.hid (pick (S.out.rdy.alloc (.cells (ints alevs).toArray 3)) w4.heap.size 0 4 alevs (by omega) (by decide) (by decide) (cells_at w4 alevs 3))
    clear hlt
    go_wp2_with fail
    refine P.out.mono ?_
    rintro e w5 ⟨v9, hv9, rfl, k1, k2⟩
    have S := Lib.hid ((S.out.alloc (.cells (ints alevs).toArray 3)).next k2 k1)
    clear k1 k2 hv9 P
    obtain ⟨a0, a1, a2, a3⟩ := S.out.dev.c
    have fz := S.out.dev.f
    obtain ⟨b0, b1, b2, b3⟩ := S.out.res.c
    have gz := S.out.res.f
    have m3 := S.out.n1
    have m4 := m3.symm
    have T := Lib.hid (S.out.one (set_lv S.out.dev v9) S.out.s1)
    go_wp2_with fail
    obtain ⟨s0, s1, s2, s3⟩ := (bc_put T.out.res ⟨t, s, v9, r⟩).c
    have C9 := Lib.hid (put4_cur T.out.rdy.cur (Nat.ne_of_lt T.out.l3) ⟨t, s, v9, r⟩)
    have G9 := Lib.hid (put4_grown T.out.gr T.out.l1 ⟨t, s, v9, r⟩)
    (try simp only [Exit.inBlock, Exit.then])
    refine bodyPost_ret (v := va t s v9 r) (by simp only [results, Try.results18, s0, s1, s2, s3]; simp [go_sem, s0, s1, s2, s3]; try rfl) rfl ?_
    exact ⟨t, s, v9, r, T.out.s1, rfl, C9.out, G9.out⟩
  · clear i1 i2
    go_wp2_with fail
    refine (odd S.out.rdy).mono ?_
    rintro e w5 ⟨v9, hv9, rfl, k1, k2⟩
    have S := Lib.hid (S.out.next k2 k1)
    clear k1 k2
    clear hv9
    obtain ⟨a0, a1, a2, a3⟩ := S.out.dev.c
    have fz := S.out.dev.f
    obtain ⟨b0, b1, b2, b3⟩ := S.out.res.c
    have gz := S.out.res.f
    have m3 := S.out.n1
    have m4 := m3.symm
    have T := Lib.hid (S.out.one (set_rp S.out.dev v9) S.out.s1)
    go_wp2_with fail
    obtain ⟨s0, s1, s2, s3⟩ := (bc_put T.out.res ⟨t, s, l, v9⟩).c
    have C9 := Lib.hid (put4_cur T.out.rdy.cur (Nat.ne_of_lt T.out.l3) ⟨t, s, l, v9⟩)
    have G9 := Lib.hid (put4_grown T.out.gr T.out.l1 ⟨t, s, l, v9⟩)
    (try simp only [Exit.inBlock, Exit.then])
    refine bodyPost_ret (v := va t s l v9) (by simp only [results, Try.results18, s0, s1, s2, s3]; simp [go_sem, s0, s1, s2, s3]; try rfl) rfl ?_
    exact ⟨t, s, l, v9, T.out.s1, rfl, C9.out, G9.out⟩
  · have e0 : (i == 0) = false := by simp; omega
    have e1 : (i == 1) = false := by simp; omega
    have e2 : (i == 2) = false := by simp; omega
    have e3 : (i == 3) = false := by simp; omega
    clear i1 i2 h4
    obtain ⟨a0, a1, a2, a3⟩ := S.out.dev.c
    have fz := S.out.dev.f
    obtain ⟨b0, b1, b2, b3⟩ := S.out.res.c
    have gz := S.out.res.f
    have m3 := S.out.n1
    have m4 := m3.symm
    have T := Lib.hid (S.out)
    go_wp2_with fail
    obtain ⟨s0, s1, s2, s3⟩ := (bc_put T.out.res ⟨t, s, l, r⟩).c
    have C9 := Lib.hid (put4_cur T.out.rdy.cur (Nat.ne_of_lt T.out.l3) ⟨t, s, l, r⟩)
    have G9 := Lib.hid (put4_grown T.out.gr T.out.l1 ⟨t, s, l, r⟩)
    (try simp only [Exit.inBlock, Exit.then])
    refine bodyPost_ret (v := va t s l r) (by simp only [results, Try.results18, s0, s1, s2, s3]; simp [go_sem, s0, s1, s2, s3]; try rfl) rfl ?_
    exact ⟨t, s, l, r, T.out.s1, rfl, C9.out, G9.out⟩

end Go.Proofs.Ytgcheplneolonac.Dr7
