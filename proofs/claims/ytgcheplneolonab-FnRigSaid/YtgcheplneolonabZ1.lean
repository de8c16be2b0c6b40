/- Texts that are drawn from a list; what stays as it was where the cursor alone is written. -/
import Derived.Test.YtgcheplneolonabDraw
import Derived.Test.YtgcheplneolonabEqs
import Derived.Test.YtgcheplneolonabRw
import Derived.IntWalk
import Derived.Test.YtgcheplneolonabP2
import Derived.Test.YtgcheplneolonabJbQ
namespace Go.Proofs.Ytgcheplneolonab.Drs
open Go.RowKit Go.ChangeShapes Go.WideShapes Go.WideElems Go.Deep Go.Proofs.Ytgcheplneolonab.Mem Go.Proofs.Ytgcheplneolonab.Rw
set_option linter.unusedVariables false
set_option linter.unusedSimpArgs false
open Go.Proofs.Ytgcheplneolonab.Strs
open Go.Proofs.Ytgcheplneolonab.Draw (Cur Ready Got GotB u8s below pick cells_at new Fresh)
open Go.Proofs.Ytgcheplneolonab.Rw (owns_below owns_grown owns_base)

theorem ready_below {w w' : World} {g n c : Nat} {A : Option Addr} {bs : List UInt8} (h : Ready w g A n c bs) (k : Below w.heap.size w w') : Ready w' g A n c bs := by
  refine ⟨h.len, h.max, ?_, h.cur.kept (k.block g h.cur.lt)⟩
  rcases h.rd with h1 | ⟨b, o, e, hb, hx⟩
  · exact Or.inl h1
  · exact Or.inr ⟨b, o, e, hb, fun j v hv => (k.cell (p := ⟨b, o + j, none⟩) (Nat.lt_trans hb h.cur.lt)).trans (hx j v hv)⟩
theorem gr_below {w w' : World} {r : Option Nat} (h : Below w.heap.size w w') : w.grownBy w' r := ⟨h.os, h.tape, h.output, h.size, fun j hj _ => h.block j hj⟩
/-- A row is as it was where the cursor alone is written. -/
theorem row_next {a b : World} {base g gr q c : Nat} {e : TypeId} {s : Nat} {xs : List Value} (h : a.ownsRow base e s (.slice (some ⟨gr, 0, none⟩) q c) q xs) (k : a.grownBy b (some g)) (hg : g < base) : b.ownsRow base e s (.slice (some ⟨gr, 0, none⟩) q c) q xs :=
  owns_grown h k (fun i hi => by cases hi; intro e; have e : g = gr := Option.some.inj e; have h7 : base ≤ gr := (h.lt gr rfl).1; omega)
theorem cells_str (w : World) (zs : List ByteArray) (t : TypeId) : ∀ j z, zs[j]? = some z → (w.alloc (.cells (Strs.strs zs).toArray t)).cell? ⟨w.heap.size, 0 + j, none⟩ = some (.string z) := by
  intro j z h
  rw [Nat.zero_add, cell_of_row (w.alloc (.cells (Strs.strs zs).toArray t)) w.heap.size j _ _ _ (heap_alloc_new w _)]
  unfold Strs.strs
  rw [List.getElem?_toArray, List.getElem?_map, h]
  rfl

/-- What the draw of a text leaves: one of these. -/
def GotN (zs : List ByteArray) (w : World) (g : Nat) (A : Option Addr) (n c : Nat) (e : Ending) (w' : World) : Prop :=
  ∃ x : ByteArray, x ∈ zs ∧ e = .returned (.string x) ∧ Cur w' g A n c ∧ w.grownBy w' (some g)

/-- A text of a list that lies apart from the cursor. -/
theorem pickS {w : World} {g n c : Nat} {A : Option Addr} {bs : List UInt8} (h : Ready w g A n c bs) (lb lo lc : Nat) (zs : List ByteArray) (hb : lb ≠ g) (h1 : 1 ≤ zs.length) (h2 : zs.length ≤ 1000) (hl : ∀ j z, zs[j]? = some z → w.cell? ⟨lb, lo + j, none⟩ = some (.string z)) :
    Calls Try.prog 60 #[.pointer (some ⟨g, 0, none⟩), .slice (some ⟨lb, lo, none⟩) zs.length lc] w (GotN zs w g A n c) := by
  have H := Lib.hid h
  have HL := Lib.hid hl
  obtain ⟨m, hm⟩ : ∃ m, zs.length = m := ⟨_, rfl⟩
  rw [hm] at h1 h2 ⊢
  have HM := Lib.hid hm
  clear h hl hm
  go_enter Try.func60, Try.ntmps60
  go_wp2_with fail
  refine (below H.out m (by omega) (by omega)).mono ?_
  rintro e w1 ⟨x, ⟨x1, x2⟩, rfl, k1, k2⟩
  obtain ⟨k, rfl⟩ : ∃ k : Nat, x = k := ⟨x.toNat, by omega⟩
  have hk : k < zs.length := by rw [HM.out]; omega
  obtain ⟨z, hz⟩ : ∃ z, zs[k]? = some z := ⟨_, List.getElem?_eq_getElem hk⟩
  have c1 : w1.cell? ⟨lb, lo + k, none⟩ = some (.string z) := k2.cell (HL.out k z hz) (fun e => hb (Option.some.inj e))
  have K := Lib.hid (And.intro k1 k2)
  have Z := Lib.hid (List.mem_of_getElem? hz)
  clear k1 k2 hk hz hb
  go_wp2_with fail
  go_ret
  exact ⟨z, Z.out, rfl, K.out.1, K.out.2⟩
end Go.Proofs.Ytgcheplneolonab.Drs
namespace Go.Proofs.Ytgcheplneolonab.Dr2
open Go.RowKit Go.Proofs.Ytgcheplneolonab.Mem Go.Proofs.Ytgcheplneolonab.Draw Go.Proofs.Ytgcheplneolonab.P2
set_option linter.unusedVariables false

def wf (x : Int) : Prop := (Lit.int .i64 x).wf = true

/-- Block b holds the place x, y. -/
def HB (w : World) (b : Nat) (x y : Int) : Prop := w.heap[b]? = some (.cells #[.int .i64 x, .int .i64 y] 26 (0, 0))

theorem HB.c0 {w : World} {b : Nat} {x y : Int} (h : HB w b x y) : w.cell? ⟨b, 0, none⟩ = some (.int .i64 x) := by simp [World.cell?, show w.heap[b]? = _ from h]
theorem HB.c1 {w : World} {b : Nat} {x y : Int} (h : HB w b x y) : w.cell? ⟨b, 1, none⟩ = some (.int .i64 y) := by simp [World.cell?, show w.heap[b]? = _ from h]
theorem HB.f0 {w : World} {b : Nat} {x y : Int} (h : HB w b x y) : w.frozen? ⟨b, 0, none⟩ = false := by simp [World.frozen?, show w.heap[b]? = _ from h]
theorem HB.f1 {w : World} {b : Nat} {x y : Int} (h : HB w b x y) : w.frozen? ⟨b, 1, none⟩ = false := by simp [World.frozen?, show w.heap[b]? = _ from h]
theorem HB.lt {w : World} {b : Nat} {x y : Int} (h : HB w b x y) : b < w.heap.size := (Array.getElem?_eq_some_iff.1 h).1
theorem HB.grown {w w' : World} {b : Nat} {x y : Int} {r : Option Nat} (h : HB w b x y) (k : w.grownBy w' r) (hr : some b ≠ r) : HB w' b x y := (k.block b h.lt hr).trans h
theorem HB.new (w : World) (x y : Int) : HB (w.alloc (.cells #[.int .i64 x, .int .i64 y] 26)) w.heap.size x y := heap_alloc_new w _
theorem HB.alloc {w : World} {b : Nat} {x y : Int} (h : HB w b x y) (o : Obj) : HB (w.alloc o) b x y := (Below.heap_alloc _ _ _ h.lt).trans h
theorem HB.set0 {w : World} {b : Nat} {x y : Int} (u : Int) (h : HB w b x y) : HB (w.setCell ⟨b, 0, none⟩ (.int .i64 u)) b u y := by
  obtain ⟨hlt, hk⟩ := Array.getElem?_eq_some_iff.1 h
  show (w.heap.modify b _)[b]? = _
  rw [Array.getElem?_eq_getElem (by rw [Array.size_modify]; exact hlt), Array.getElem_modify_self, hk]
  rfl
theorem HB.set1 {w : World} {b : Nat} {x y : Int} (u : Int) (h : HB w b x y) : HB (w.setCell ⟨b, 1, none⟩ (.int .i64 u)) b x u := by
  obtain ⟨hlt, hk⟩ := Array.getElem?_eq_some_iff.1 h
  show (w.heap.modify b _)[b]? = _
  rw [Array.getElem?_eq_getElem (by rw [Array.size_modify]; exact hlt), Array.getElem_modify_self, hk]
  rfl
theorem HB.other {w : World} {b b' : Nat} {x y : Int} (h : HB w b x y) (j : Nat) (v : Value) (hne : b ≠ b') : HB (w.setCell ⟨b', j, none⟩ v) b x y := (Below.heap_setCell _ _ _ _ hne).trans h

theorem cur_set {w : World} {g n c : Nat} {A : Option Addr} (h : Cur w g A n c) {b : Nat} (hne : g ≠ b) (j : Nat) (v : Value) : Cur (w.setCell ⟨b, j, none⟩ v) g A n c := h.kept (Below.heap_setCell _ _ _ _ hne)
theorem grown_set {w w' : World} {r : Option Nat} (h : w.grownBy w' r) {b : Nat} (hb : w.heap.size ≤ b) (j : Nat) (v : Value) : w.grownBy (w'.setCell ⟨b, j, none⟩ v) r :=
  ⟨h.os, h.tape, h.output, by simp [World.setCell]; exact h.size, fun k hk hr => (Below.heap_setCell _ _ _ _ (by show k ≠ b; omega)).trans (h.block k hk hr)⟩
theorem grown_alloc {w w' : World} {r : Option Nat} (h : w.grownBy w' r) (o : Obj) : w.grownBy (w'.alloc o) r := grown_trans h (World.grownBy_alloc w' o r)

theorem rd_set {w : World} {g b : Nat} {A : Option Addr} {xs : List Value} (h : Rd w g A xs) (hb : g < b) (j : Nat) (v : Value) : Rd (w.setCell ⟨b, j, none⟩ v) g A xs :=
  h.keep fun p hp => World.cell?_of_block (Below.heap_setCell _ _ _ _ (by show p.block ≠ b; omega))

/-- What the draw of a place leaves. -/
def GotP (w : World) (g : Nat) (A : Option Addr) (n c : Nat) (e : Ending) (w' : World) : Prop :=
  ∃ x y, wf x ∧ wf y ∧ e = .returned (.agg #[.int .i64 x, .int .i64 y]) ∧ Cur w' g A n c ∧ w.grownBy w' (some g)

set_option maxHeartbeats 1000000 in
theorem l2Draw {w : World} {g n c : Nat} {A : Option Addr} {bs : List UInt8} (h : Ready w g A n c bs) :
    Calls Try.prog 62 #[.pointer (some ⟨g, 0, none⟩)] w (GotP w g A n c) := by
  have hlt := h.cur.lt
  have H1 := Lib.hid (h.alloc (.cells #[.int .i64 0, .int .i64 0] 26))
  have G0 := Lib.hid (World.grownBy_alloc w (.cells #[.int .i64 0, .int .i64 0] 26) (some g))
  have B0 := Lib.hid (HB.new w 0 0)
  have NE := Lib.hid (show w.heap.size ≠ g by omega)
  clear h hlt
  go_enter Try.func62, Try.ntmps62
  go_wp2_with fail
  refine (some_ H1.out (-64) 64 (by decide) (by decide) (by decide)).mono ?_
  rintro e w1 ⟨x, ⟨x1, x2⟩, rfl, k1, k2⟩
  have R1 := Lib.hid (H1.out.next k2 k1)
  have G1 := Lib.hid (grown_trans G0.out k2)
  have B1 := Lib.hid (B0.out.grown k2 (fun e => NE.out (Option.some.inj e)))
  have X := Lib.hid (show wf x from wf_of_small (by omega) (by omega))
  clear k1 k2 x1 x2 H1 G0 B0
  go_wp2_with fail
  refine (some_ R1.out (-64) 64 (by decide) (by decide) (by decide)).mono ?_
  rintro e w2 ⟨y, ⟨y1, y2⟩, rfl, k1, k2⟩
  have G2 := Lib.hid (grown_trans G1.out k2)
  have C2 := Lib.hid k1
  have b2 := B1.out.grown k2 (fun e => NE.out (Option.some.inj e))
  have Y := Lib.hid (show wf y from wf_of_small (by omega) (by omega))
  have B2 := Lib.hid b2
  have d0 := b2.c0
  have d1 := b2.c1
  have e0 := b2.f0
  have e1 := b2.f1
  clear k1 k2 y1 y2 R1 G1 B1 b2
  go_wp2_with fail
  have r := (B2.out.set0 x).set1 y
  have s0 := r.c0
  have s1 := r.c1
  clear r
  (try simp only [Exit.inBlock, Exit.then])
  refine bodyPost_ret (by simp [results, Try.results62, go_sem, s0, s1]; try rfl) rfl ?_
  exact ⟨x, y, X.out, Y.out, rfl, cur_set (cur_set C2.out NE.out.symm _ _) NE.out.symm _ _, grown_set (grown_set G2.out (Nat.le_refl _) _ _) (Nat.le_refl _) _ _⟩

def edges : List Int := [4096, -4096, 4097, -4097, 4090]
theorem edges_wf {x : Int} (h : x ∈ edges) : wf x := by
  unfold edges at h
  simp only [List.mem_cons, List.not_mem_nil, or_false] at h
  rcases h with h | h | h | h | h <;> subst h <;> (show (Lit.int .i64 _).wf = true; decide)

set_option maxHeartbeats 4000000 in
theorem l2Any {w : World} {g n c : Nat} {A : Option Addr} {bs : List UInt8} (h : Ready w g A n c bs) :
    Calls Try.prog 45 #[.pointer (some ⟨g, 0, none⟩)] w (GotP w g A n c) := by
  have hlt := h.cur.lt
  have H1 := Lib.hid (h.alloc (.cells #[.int .i64 0, .int .i64 0] 26))
  have G0 := Lib.hid (World.grownBy_alloc w (.cells #[.int .i64 0, .int .i64 0] 26) (some g))
  have A0 := Lib.hid (HB.new w 0 0)
  have NE := Lib.hid (show w.heap.size ≠ g by omega)
  clear h hlt
  go_enter Try.func45, Try.ntmps45
  go_wp2_with fail
  refine (l2Draw H1.out).mono ?_
  rintro e w1 ⟨x, y, hx, hy, rfl, k1, k2⟩
  have X := Lib.hid hx
  have Y := Lib.hid hy
  have r1 := H1.out.next k2 k1
  have a1 := A0.out.grown k2 (fun e => NE.out (Option.some.inj e))
  have NB := Lib.hid (show w1.heap.size ≠ g from Nat.ne_of_gt r1.cur.lt)
  have GB := Lib.hid (show g < w1.heap.size from r1.cur.lt)
  have NAB := Lib.hid (show w.heap.size ≠ w1.heap.size from Nat.ne_of_lt a1.lt)
  have LE := Lib.hid (show w.heap.size ≤ w1.heap.size from Nat.le_of_lt a1.lt)
  have R1 := Lib.hid (r1.alloc (.cells #[.int .i64 x, .int .i64 y] 26))
  have A1 := Lib.hid (a1.alloc (.cells #[.int .i64 x, .int .i64 y] 26))
  have B1 := Lib.hid (HB.new w1 x y)
  have G1 := Lib.hid (grown_alloc (grown_trans G0.out k2) (.cells #[.int .i64 x, .int .i64 y] 26))
  clear k1 k2 hx hy H1 G0 A0 r1 a1
  go_wp2_with fail
  refine (once R1.out 9 (by decide) (by decide)).mono ?_
  rintro e w2 ⟨q, rfl, k1, k2⟩
  have R2 := Lib.hid (R1.out.next k2 k1)
  have A2 := Lib.hid (A1.out.grown k2 (fun e => NE.out (Option.some.inj e)))
  have B2 := Lib.hid (B1.out.grown k2 (fun e => NB.out (Option.some.inj e)))
  have G2 := Lib.hid (grown_trans G1.out k2)
  clear k1 k2 R1 A1 B1 G1
  cases q
  · go_wp2_with fail
    refine (once R2.out 9 (by decide) (by decide)).mono ?_
    rintro e w4 ⟨q, rfl, k1, k2⟩
    have R4 := Lib.hid (R2.out.next k2 k1)
    have A4 := Lib.hid (A2.out.grown k2 (fun e => NE.out (Option.some.inj e)))
    have B4 := Lib.hid (B2.out.grown k2 (fun e => NB.out (Option.some.inj e)))
    have G4 := Lib.hid (grown_trans G2.out k2)
    clear k1 k2 R2 A2 B2 G2
    cases q
    · have a5 := A4.out
      have b5 := B4.out
      have d0 := a5.c0
      have d1 := a5.c1
      have e0 := a5.f0
      have e1 := a5.f1
      have d2 := b5.c0
      have d3 := b5.c1
      clear a5 b5
      go_wp2_with fail
      have r := (A4.out.set0 x).set1 y
      have s0 := r.c0
      have s1 := r.c1
      clear r
      (try simp only [Exit.inBlock, Exit.then])
      refine bodyPost_ret (by simp [results, Try.results45, go_sem, s0, s1]; try rfl) rfl ?_
      exact ⟨x, y, X.out, Y.out, rfl, cur_set (cur_set R4.out.cur NE.out.symm _ _) NE.out.symm _ _, grown_set (grown_set G4.out (Nat.le_refl _) _ _) (Nat.le_refl _) _ _⟩
    · have hlt := R4.out.cur.lt
      have P := Lib.hid (pick (R4.out.alloc (.cells (ints edges).toArray 3)) w4.heap.size 0 5 edges (by omega) (by decide) (by decide) (cells_at w4 edges 3))
      clear hlt
      go_wp2_with fail
      refine P.out.mono ?_
      rintro e w5 ⟨y', hy', rfl, k1, k2⟩
      have Y2 := Lib.hid (edges_wf hy')
      have r5 := (R4.out.alloc (.cells (ints edges).toArray 3)).next k2 k1
      have a5 := (A4.out.alloc (.cells (ints edges).toArray 3)).grown k2 (fun e => NE.out (Option.some.inj e))
      have b5 := (B4.out.alloc (.cells (ints edges).toArray 3)).grown k2 (fun e => NB.out (Option.some.inj e))
      have g5 := grown_trans (grown_alloc G4.out (.cells (ints edges).toArray 3)) k2
      have d0 := b5.c0
      have d1 := b5.c1
      have e0 := b5.f0
      have e1 := b5.f1
      have R5 := Lib.hid (show Ready (w5.setCell ⟨w1.heap.size, 1, none⟩ (.int .i64 y')) g A n c bs from ⟨r5.len, r5.max, rd_set r5.rd GB.out _ _, cur_set r5.cur NB.out.symm _ _⟩)
      have a6 := a5.other 1 (.int .i64 y') NAB.out
      have b6 := b5.set1 y'
      have G5 := Lib.hid (grown_set g5 LE.out 1 (.int .i64 y'))
      have A5 := Lib.hid a6
      have B5 := Lib.hid b6
      have d4 := a6.c0
      have d5 := a6.c1
      have e4 := a6.f0
      have e5 := a6.f1
      have d6 := b6.c0
      have d7 := b6.c1
      clear k1 k2 hy' r5 a5 b5 a6 b6 g5 R4 A4 B4 G4 P
      go_wp2_with fail
      have r := (A5.out.set0 x).set1 y'
      have s0 := r.c0
      have s1 := r.c1
      clear r
      (try simp only [Exit.inBlock, Exit.then])
      refine bodyPost_ret (by simp [results, Try.results45, go_sem, s0, s1]; try rfl) rfl ?_
      exact ⟨x, y', X.out, Y2.out, rfl, cur_set (cur_set R5.out.cur NE.out.symm _ _) NE.out.symm _ _, grown_set (grown_set G5.out (Nat.le_refl _) _ _) (Nat.le_refl _) _ _⟩
  · go_wp2_with fail
    refine (odd R2.out).mono ?_
    rintro e w3 ⟨x', hx', rfl, k1, k2⟩
    have r3 := R2.out.next k2 k1
    have X2 := Lib.hid (show wf x' from hx')
    have a3 := A2.out.grown k2 (fun e => NE.out (Option.some.inj e))
    have b3 := B2.out.grown k2 (fun e => NB.out (Option.some.inj e))
    have g3 := grown_trans G2.out k2
    have d0 := b3.c0
    have d1 := b3.c1
    have e0 := b3.f0
    have e1 := b3.f1
    have R3 := Lib.hid (show Ready (w3.setCell ⟨w1.heap.size, 0, none⟩ (.int .i64 x')) g A n c bs from ⟨r3.len, r3.max, rd_set r3.rd GB.out _ _, cur_set r3.cur NB.out.symm _ _⟩)
    have A3 := Lib.hid (a3.other 0 (.int .i64 x') NAB.out)
    have B3 := Lib.hid (b3.set0 x')
    have G3 := Lib.hid (grown_set g3 LE.out 0 (.int .i64 x'))
    clear k1 k2 hx' r3 a3 b3 g3 R2 A2 B2 G2
    go_wp2_with fail
    refine (once R3.out 9 (by decide) (by decide)).mono ?_
    rintro e w4 ⟨q, rfl, k1, k2⟩
    have R4 := Lib.hid (R3.out.next k2 k1)
    have A4 := Lib.hid (A3.out.grown k2 (fun e => NE.out (Option.some.inj e)))
    have B4 := Lib.hid (B3.out.grown k2 (fun e => NB.out (Option.some.inj e)))
    have G4 := Lib.hid (grown_trans G3.out k2)
    clear k1 k2 R3 A3 B3 G3 d0 d1 e0 e1
    cases q
    · have a5 := A4.out
      have b5 := B4.out
      have d0 := a5.c0
      have d1 := a5.c1
      have e0 := a5.f0
      have e1 := a5.f1
      have d2 := b5.c0
      have d3 := b5.c1
      clear a5 b5
      go_wp2_with fail
      have r := (A4.out.set0 x').set1 y
      have s0 := r.c0
      have s1 := r.c1
      clear r
      (try simp only [Exit.inBlock, Exit.then])
      refine bodyPost_ret (by simp [results, Try.results45, go_sem, s0, s1]; try rfl) rfl ?_
      exact ⟨x', y, X2.out, Y.out, rfl, cur_set (cur_set R4.out.cur NE.out.symm _ _) NE.out.symm _ _, grown_set (grown_set G4.out (Nat.le_refl _) _ _) (Nat.le_refl _) _ _⟩
    · have hlt := R4.out.cur.lt
      have P := Lib.hid (pick (R4.out.alloc (.cells (ints edges).toArray 3)) w4.heap.size 0 5 edges (by omega) (by decide) (by decide) (cells_at w4 edges 3))
      clear hlt
      go_wp2_with fail
      refine P.out.mono ?_
      rintro e w5 ⟨y', hy', rfl, k1, k2⟩
      have Y2 := Lib.hid (edges_wf hy')
      have r5 := (R4.out.alloc (.cells (ints edges).toArray 3)).next k2 k1
      have a5 := (A4.out.alloc (.cells (ints edges).toArray 3)).grown k2 (fun e => NE.out (Option.some.inj e))
      have b5 := (B4.out.alloc (.cells (ints edges).toArray 3)).grown k2 (fun e => NB.out (Option.some.inj e))
      have g5 := grown_trans (grown_alloc G4.out (.cells (ints edges).toArray 3)) k2
      have d0 := b5.c0
      have d1 := b5.c1
      have e0 := b5.f0
      have e1 := b5.f1
      have R5 := Lib.hid (show Ready (w5.setCell ⟨w1.heap.size, 1, none⟩ (.int .i64 y')) g A n c bs from ⟨r5.len, r5.max, rd_set r5.rd GB.out _ _, cur_set r5.cur NB.out.symm _ _⟩)
      have a6 := a5.other 1 (.int .i64 y') NAB.out
      have b6 := b5.set1 y'
      have G5 := Lib.hid (grown_set g5 LE.out 1 (.int .i64 y'))
      have A5 := Lib.hid a6
      have B5 := Lib.hid b6
      have d4 := a6.c0
      have d5 := a6.c1
      have e4 := a6.f0
      have e5 := a6.f1
      have d6 := b6.c0
      have d7 := b6.c1
      clear k1 k2 hy' r5 a5 b5 a6 b6 g5 R4 A4 B4 G4 P
      go_wp2_with fail
      have r := (A5.out.set0 x').set1 y'
      have s0 := r.c0
      have s1 := r.c1
      clear r
      (try simp only [Exit.inBlock, Exit.then])
      refine bodyPost_ret (by simp [results, Try.results45, go_sem, s0, s1]; try rfl) rfl ?_
      exact ⟨x', y', X2.out, Y2.out, rfl, cur_set (cur_set R5.out.cur NE.out.symm _ _) NE.out.symm _ _, grown_set (grown_set G5.out (Nat.le_refl _) _ _) (Nat.le_refl _) _ _⟩

end Go.Proofs.Ytgcheplneolonab.Dr2
namespace Go.Proofs.Ytgcheplneolonab.Dr4
open Go.RowKit Go.Proofs.Ytgcheplneolonab.Mem Go.Proofs.Ytgcheplneolonab.Draw Go.Proofs.Ytgcheplneolonab.P2 Go.Proofs.Ytgcheplneolonab.Dr2 Go.Proofs.Ytgcheplneolonab.Jt Go.Proofs.Ytgcheplneolonab.Dp
set_option linter.unusedVariables false
set_option linter.unusedSimpArgs false

/-- What the draw of a valid place leaves. -/
def GotV (w : World) (g : Nat) (A : Option Addr) (n c : Nat) (e : Ending) (w' : World) : Prop :=
  ∃ x y : Int, (-64 ≤ x ∧ x ≤ 64) ∧ (-64 ≤ y ∧ y ≤ 64) ∧ e = .returned (.agg #[.int .i64 x, .int .i64 y]) ∧ Cur w' g A n c ∧ w.grownBy w' (some g)

set_option maxHeartbeats 1000000 in
theorem l2DrawV {w : World} {g n c : Nat} {A : Option Addr} {bs : List UInt8} (h : Ready w g A n c bs) :
    Calls Try.prog 62 #[.pointer (some ⟨g, 0, none⟩)] w (GotV w g A n c) := by
  have hlt := h.cur.lt
  have H1 := Lib.hid (h.alloc (.cells #[.int .i64 0, .int .i64 0] 26))
  have G0 := Lib.hid (World.grownBy_alloc w (.cells #[.int .i64 0, .int .i64 0] 26) (some g))
  have B0 := Lib.hid (HB.new w 0 0)
  have NE := Lib.hid (show w.heap.size ≠ g by omega)
  clear h hlt
  go_enter Try.func62, Try.ntmps62
  go_wp2_with fail
  refine (some_ H1.out (-64) 64 (by decide) (by decide) (by decide)).mono ?_
  rintro e w1 ⟨x, hx, rfl, k1, k2⟩
  have R1 := Lib.hid (H1.out.next k2 k1)
  have G1 := Lib.hid (Draw.grown_trans G0.out k2)
  have B1 := Lib.hid (B0.out.grown k2 (fun e => NE.out (Option.some.inj e)))
  have X := Lib.hid hx
  clear k1 k2 hx H1 G0 B0
  go_wp2_with fail
  refine (some_ R1.out (-64) 64 (by decide) (by decide) (by decide)).mono ?_
  rintro e w2 ⟨y, hy, rfl, k1, k2⟩
  have G2 := Lib.hid (Draw.grown_trans G1.out k2)
  have C2 := Lib.hid k1
  have b2 := B1.out.grown k2 (fun e => NE.out (Option.some.inj e))
  have Y := Lib.hid hy
  have B2 := Lib.hid b2
  have d0 := b2.c0
  have d1 := b2.c1
  have e0 := b2.f0
  have e1 := b2.f1
  clear k1 k2 hy R1 G1 B1 b2
  go_wp2_with fail
  have r := (B2.out.set0 x).set1 y
  have s0 := r.c0
  have s1 := r.c1
  clear r
  (try simp only [Exit.inBlock, Exit.then])
  refine bodyPost_ret (by simp [results, Try.results62, go_sem, s0, s1]; try rfl) rfl ?_
  exact ⟨x, y, X.out, Y.out, rfl, cur_set (cur_set C2.out NE.out.symm _ _) NE.out.symm _ _, Dr2.grown_set (Dr2.grown_set G2.out (Nat.le_refl _) _ _) (Nat.le_refl _) _ _⟩

/-- What the draw of a valid jet leaves. -/
def GotJ (w : World) (g : Nat) (A : Option Addr) (n c : Nat) (e : Ending) (w' : World) : Prop :=
  ∃ x y h t l : Int, jt x y h t l = true ∧ e = .returned (jv x y h t l) ∧ Cur w' g A n c ∧ w.grownBy w' (some g)

set_option maxHeartbeats 2000000 in
theorem l3Draw {w : World} {g n c : Nat} {A : Option Addr} {bs : List UInt8} (h : Ready w g A n c bs) :
    Calls Try.prog 64 #[.pointer (some ⟨g, 0, none⟩)] w (GotJ w g A n c) := by
  have hlt := h.cur.lt
  have H1 := Lib.hid (h.alloc (.cells (jc 0 0 0 0 0) 82))
  have G1 := Lib.hid (World.grownBy_alloc w (.cells (jc 0 0 0 0 0) 82) (some g))
  have B1 := Lib.hid (JB.new w 0 0 0 0 0)
  have NE := Lib.hid (show w.heap.size ≠ g by omega)
  clear h hlt
  go_enter Try.func64, Try.ntmps64
  go_wp2_with fail
  refine (l2DrawV H1.out).mono ?_
  rintro e w1 ⟨x, y, hx, hy, rfl, k1, k2⟩
  have H2 := Lib.hid (H1.out.next k2 k1)
  have G2 := Lib.hid (Draw.grown_trans G1.out k2)
  have B2 := Lib.hid (B1.out.grown k2 (fun e => NE.out (Option.some.inj e)))
  have X := Lib.hid (And.intro hx hy)
  clear k1 k2 hx hy H1 G1 B1
  go_wp2_with fail
  refine (below H2.out 4 (by decide) (by decide)).mono ?_
  rintro e w2 ⟨h, hh, rfl, k1, k2⟩
  have H3 := Lib.hid (H2.out.next k2 k1)
  have G3 := Lib.hid (Draw.grown_trans G2.out k2)
  have B3 := Lib.hid (B2.out.grown k2 (fun e => NE.out (Option.some.inj e)))
  have HH := Lib.hid hh
  clear k1 k2 hh H2 G2 B2
  go_wp2_with fail
  refine (below H3.out 17 (by decide) (by decide)).mono ?_
  rintro e w3 ⟨t, ht, rfl, k1, k2⟩
  have H4 := Lib.hid (H3.out.next k2 k1)
  have G4 := Lib.hid (Draw.grown_trans G3.out k2)
  have B4 := Lib.hid (B3.out.grown k2 (fun e => NE.out (Option.some.inj e)))
  have HT := Lib.hid ht
  clear k1 k2 ht H3 G3 B3
  go_wp2_with fail
  refine (some_ H4.out 1 32 (by decide) (by decide) (by decide)).mono ?_
  rintro e w4 ⟨l, hl, rfl, k1, k2⟩
  have C5 := Lib.hid k1
  have G5 := Lib.hid (Draw.grown_trans G4.out k2)
  have b5 := B4.out.grown k2 (fun e => NE.out (Option.some.inj e))
  have HL := Lib.hid hl
  have B5 := Lib.hid b5
  obtain ⟨d0, d1, d2, d3, d4⟩ := b5.c
  have e0 := b5.f 0
  have e1 := b5.f 1
  have e2 := b5.f 2
  have e3 := b5.f 3
  have e4 := b5.f 4
  clear k1 k2 hl H4 G4 B4 b5
  go_wp2_with fail
  obtain ⟨s0, s1, s2, s3, s4⟩ := (B5.out.set x y h t l).c
  (try simp only [Exit.inBlock, Exit.then])
  refine bodyPost_ret (by simp [results, Try.results64, go_sem, s0, s1, s2, s3, s4]; try rfl) rfl ?_
  refine ⟨x, y, h, t, l, ?_, rfl, ?_, ?_⟩
  · have hX := X.out
    have h1 := HH.out
    have h2 := HT.out
    have h3 := HL.out
    exact jt_iff.2 (by omega)
  · exact cur_set (cur_set (cur_set (cur_set (cur_set C5.out NE.out.symm _ _) NE.out.symm _ _) NE.out.symm _ _) NE.out.symm _ _) NE.out.symm _ _
  · exact Dr2.grown_set (Dr2.grown_set (Dr2.grown_set (Dr2.grown_set (Dr2.grown_set G5.out (Nat.le_refl _) _ _) (Nat.le_refl _) _ _) (Nat.le_refl _) _ _) (Nat.le_refl _) _ _) (Nat.le_refl _) _ _

/-- What the draw of a jet for a law leaves. -/
def DrawnJ (w : World) (e : Ending) (w' : World) : Prop :=
  ∃ x y h t l : Int, jt x y h t l = true ∧ e = .returned (jv x y h t l) ∧ Below w.heap.size w w'

end Go.Proofs.Ytgcheplneolonab.Dr4
namespace Go.Proofs.Ytgcheplneolonab.Dr4
open Go.RowKit Go.Proofs.Ytgcheplneolonab.Mem Go.Proofs.Ytgcheplneolonab.Draw Go.Proofs.Ytgcheplneolonab.P2 Go.Proofs.Ytgcheplneolonab.Dr2 Go.Proofs.Ytgcheplneolonab.Jt Go.Proofs.Ytgcheplneolonab.Dp
set_option linter.unusedVariables false
set_option linter.unusedSimpArgs false

theorem Ready.below' {w w' : World} {g n c : Nat} {A : Option Addr} {bs : List UInt8} (h : Ready w g A n c bs) (hb : Below w.heap.size w w') : Ready w' g A n c bs :=
  ⟨h.len, h.max, h.rd.keep fun p hp => hb.cell (Nat.lt_trans hp h.cur.lt), h.cur.kept (hb.block g h.cur.lt)⟩

/-- Where a draw of a jet stands: the cursor, the result, the jet. -/
structure St (w wr : World) (g : Nat) (A : Option Addr) (n c : Nat) (bs : List UInt8) (rb jb : Nat) (x y h t l : Int) : Prop where
  ready : Ready wr g A n c bs
  res : JB wr rb 0 0 0 0 0
  jet : JB wr jb x y h t l
  gr : w.grownBy wr (some g)
  n1 : rb ≠ g
  n2 : jb ≠ g
  n3 : rb ≠ jb
  l1 : w.heap.size ≤ rb
  l2 : w.heap.size ≤ jb
  l3 : g < jb

section
variable {w wr w' : World} {g n c rb jb : Nat} {A : Option Addr} {bs : List UInt8} {x y h t l : Int}
theorem St.next (k : St w wr g A n c bs rb jb x y h t l) (hg : wr.grownBy w' (some g)) (hc : Cur w' g A n c) : St w w' g A n c bs rb jb x y h t l :=
  ⟨k.ready.next hg hc, k.res.grown hg (fun e => k.n1 (Option.some.inj e)), k.jet.grown hg (fun e => k.n2 (Option.some.inj e)), Draw.grown_trans k.gr hg, k.n1, k.n2, k.n3, k.l1, k.l2, k.l3⟩
theorem St.alloc (k : St w wr g A n c bs rb jb x y h t l) (o : Obj) : St w (wr.alloc o) g A n c bs rb jb x y h t l :=
  ⟨k.ready.alloc o, k.res.alloc o, k.jet.alloc o, Dr2.grown_alloc k.gr o, k.n1, k.n2, k.n3, k.l1, k.l2, k.l3⟩
theorem St.put {j : Nat} {v : Value} {x' y' h' t' l' : Int} (k : St w wr g A n c bs rb jb x y h t l) (hj : JB (wr.setCell ⟨jb, j, none⟩ v) jb x' y' h' t' l') : St w (wr.setCell ⟨jb, j, none⟩ v) g A n c bs rb jb x' y' h' t' l' :=
  ⟨⟨k.ready.len, k.ready.max, rd_set k.ready.rd k.l3 _ _, cur_set k.ready.cur k.n2.symm _ _⟩, k.res.other _ _ k.n3, hj, Dr2.grown_set k.gr k.l2 _ _, k.n1, k.n2, k.n3, k.l1, k.l2, k.l3⟩
theorem St.set0 (u : Int) (k : St w wr g A n c bs rb jb x y h t l) : St w (wr.setCell ⟨jb, 0, none⟩ (.int .i64 u)) g A n c bs rb jb u y h t l := k.put (k.jet.set0 u)
theorem St.set1 (u : Int) (k : St w wr g A n c bs rb jb x y h t l) : St w (wr.setCell ⟨jb, 1, none⟩ (.int .i64 u)) g A n c bs rb jb x u h t l := k.put (k.jet.set1 u)
theorem St.set2 (u : Int) (k : St w wr g A n c bs rb jb x y h t l) : St w (wr.setCell ⟨jb, 2, none⟩ (.int .i64 u)) g A n c bs rb jb x y u t l := k.put (k.jet.set2 u)
theorem St.set3 (u : Int) (k : St w wr g A n c bs rb jb x y h t l) : St w (wr.setCell ⟨jb, 3, none⟩ (.int .i64 u)) g A n c bs rb jb x y h u l := k.put (k.jet.set3 u)
theorem St.set4 (u : Int) (k : St w wr g A n c bs rb jb x y h t l) : St w (wr.setCell ⟨jb, 4, none⟩ (.int .i64 u)) g A n c bs rb jb x y h t u := k.put (k.jet.set4 u)
theorem St.done (k : St w wr g A n c bs rb jb x y h t l) : Cur (((((wr.setCell ⟨rb, 0, none⟩ (.int .i64 x)).setCell ⟨rb, 1, none⟩ (.int .i64 y)).setCell ⟨rb, 2, none⟩ (.int .i64 h)).setCell ⟨rb, 3, none⟩ (.int .i64 t)).setCell ⟨rb, 4, none⟩ (.int .i64 l)) g A n c ∧ w.grownBy (((((wr.setCell ⟨rb, 0, none⟩ (.int .i64 x)).setCell ⟨rb, 1, none⟩ (.int .i64 y)).setCell ⟨rb, 2, none⟩ (.int .i64 h)).setCell ⟨rb, 3, none⟩ (.int .i64 t)).setCell ⟨rb, 4, none⟩ (.int .i64 l)) (some g) :=
  ⟨cur_set (cur_set (cur_set (cur_set (cur_set k.ready.cur k.n1.symm _ _) k.n1.symm _ _) k.n1.symm _ _) k.n1.symm _ _) k.n1.symm _ _, Dr2.grown_set (Dr2.grown_set (Dr2.grown_set (Dr2.grown_set (Dr2.grown_set k.gr k.l1 _ _) k.l1 _ _) k.l1 _ _) k.l1 _ _) k.l1 _ _⟩
end

/-- What the draw of a jet that may be none leaves. -/
def GotA (w : World) (g : Nat) (A : Option Addr) (n c : Nat) (e : Ending) (w' : World) : Prop :=
  ∃ x y h t l : Int, e = .returned (jv x y h t l) ∧ Cur w' g A n c ∧ w.grownBy w' (some g)

def tilts : List Int := [-1, 17, 16, 1000, 9223372036854775807]
def lifts : List Int := [0, -1, 33, 32, 9223372036854775807, -9223372036854775808]
def atXs : List Int := [1024, 1025, -1024, -1025]
def atYs : List Int := [0, 1024, -1025]

set_option maxHeartbeats 4000000 in
set_option maxRecDepth 100000 in
theorem l3Any {w : World} {g n c : Nat} {A : Option Addr} {bs : List UInt8} (h : Ready w g A n c bs) :
    Calls Try.prog 48 #[.pointer (some ⟨g, 0, none⟩)] w (GotA w g A n c) := by
  have hlt := h.cur.lt
  have H1 := Lib.hid (h.alloc (.cells (jc 0 0 0 0 0) 82))
  have G1 := Lib.hid (World.grownBy_alloc w (.cells (jc 0 0 0 0 0) 82) (some g))
  have B1 := Lib.hid (JB.new w 0 0 0 0 0)
  have NE := Lib.hid (show w.heap.size ≠ g by omega)
  clear h hlt
  go_enter Try.func48, Try.ntmps48
  go_wp2_with fail
  refine (l3Draw H1.out).mono ?_
  rintro e w1 ⟨x, y, h, t, l, hj, rfl, k1, k2⟩
  have r1 := H1.out.next k2 k1
  have j1 := B1.out.grown k2 (fun e => NE.out (Option.some.inj e))
  have S0 : St w (w1.alloc (.cells (jc x y h t l) 82)) g A n c bs w.heap.size w1.heap.size x y h t l :=
    ⟨r1.alloc _, j1.alloc _, JB.new w1 x y h t l, Dr2.grown_alloc (Draw.grown_trans G1.out k2) _, NE.out, Nat.ne_of_gt r1.cur.lt, Nat.ne_of_lt j1.lt, Nat.le_refl _, Nat.le_of_lt j1.lt, r1.cur.lt⟩
  have S1 := Lib.hid S0
  clear k1 k2 r1 j1 S0 hj H1 G1 B1
  go_wp2_with fail
  refine (below S1.out.ready 12 (by decide) (by decide)).mono ?_
  rintro e w2 ⟨i, ⟨i1, i2⟩, rfl, k1, k2⟩
  have S := Lib.hid (S1.out.next k2 k1)
  generalize w1.heap.size = jb at *
  have NJ := Lib.hid S.out.n2
  clear k1 k2 S1
  rcases (by omega : i = 0 ∨ i = 1 ∨ i = 2 ∨ i = 3 ∨ i = 4 ∨ 5 ≤ i) with rfl | rfl | rfl | rfl | rfl | h5
  · clear i1 i2
    go_wp2_with fail
    refine (l2Any S.out.ready).mono ?_
    rintro e w3 ⟨x', y', hx, hy, rfl, k1, k2⟩
    have S := Lib.hid (S.out.next k2 k1)
    have T := Lib.hid ((S.out.set0 x').set1 y')
    clear k1 k2 hx hy
    obtain ⟨a0, a1, a2, a3, a4⟩ := S.out.jet.c
    have f0 := S.out.jet.f 0
    have f1 := S.out.jet.f 1
    have f2 := S.out.jet.f 2
    have f3 := S.out.jet.f 3
    have f4 := S.out.jet.f 4
    obtain ⟨b0, b1, b2, b3, b4⟩ := S.out.res.c
    have g0 := S.out.res.f 0
    have g1 := S.out.res.f 1
    have g2 := S.out.res.f 2
    have g3 := S.out.res.f 3
    have g4 := S.out.res.f 4
    have m3 := S.out.n3
    have m4 := m3.symm
    go_wp2_with fail
    obtain ⟨s0, s1, s2, s3, s4⟩ := (T.out.res.set x' y' h t l).c
    (try simp only [Exit.inBlock, Exit.then])
    refine bodyPost_ret (by simp [results, Try.results48, go_sem, s0, s1, s2, s3, s4]; try rfl) rfl ?_
    exact ⟨_, _, _, _, _, rfl, T.out.done⟩
  · clear i1 i2
    go_wp2_with fail
    refine (odd S.out.ready).mono ?_
    rintro e w3 ⟨h', hh, rfl, k1, k2⟩
    have S := Lib.hid (S.out.next k2 k1)
    have T := Lib.hid (S.out.set2 h')
    clear k1 k2 hh
    obtain ⟨a0, a1, a2, a3, a4⟩ := S.out.jet.c
    have f0 := S.out.jet.f 0
    have f1 := S.out.jet.f 1
    have f2 := S.out.jet.f 2
    have f3 := S.out.jet.f 3
    have f4 := S.out.jet.f 4
    obtain ⟨b0, b1, b2, b3, b4⟩ := S.out.res.c
    have g0 := S.out.res.f 0
    have g1 := S.out.res.f 1
    have g2 := S.out.res.f 2
    have g3 := S.out.res.f 3
    have g4 := S.out.res.f 4
    have m3 := S.out.n3
    have m4 := m3.symm
    go_wp2_with fail
    obtain ⟨s0, s1, s2, s3, s4⟩ := (T.out.res.set x y h' t l).c
    (try simp only [Exit.inBlock, Exit.then])
    refine bodyPost_ret (by simp [results, Try.results48, go_sem, s0, s1, s2, s3, s4]; try rfl) rfl ?_
    exact ⟨_, _, _, _, _, rfl, T.out.done⟩
  · clear i1 i2
    have hlt := S.out.ready.cur.lt
    have P := Lib.hid (pick (S.out.ready.alloc (.cells (ints tilts).toArray 3)) w2.heap.size 0 5 tilts (by omega) (by decide) (by decide) (cells_at w2 tilts 3))
    clear hlt
    go_wp2_with fail
    refine P.out.mono ?_
    rintro e w3 ⟨t', hv, rfl, k1, k2⟩
    have S := Lib.hid ((S.out.alloc (.cells (ints tilts).toArray 3)).next k2 k1)
    have T := Lib.hid (S.out.set3 t')
    clear k1 k2 hv P
    obtain ⟨a0, a1, a2, a3, a4⟩ := S.out.jet.c
    have f0 := S.out.jet.f 0
    have f1 := S.out.jet.f 1
    have f2 := S.out.jet.f 2
    have f3 := S.out.jet.f 3
    have f4 := S.out.jet.f 4
    obtain ⟨b0, b1, b2, b3, b4⟩ := S.out.res.c
    have g0 := S.out.res.f 0
    have g1 := S.out.res.f 1
    have g2 := S.out.res.f 2
    have g3 := S.out.res.f 3
    have g4 := S.out.res.f 4
    have m3 := S.out.n3
    have m4 := m3.symm
    go_wp2_with fail
    obtain ⟨s0, s1, s2, s3, s4⟩ := (T.out.res.set x y h t' l).c
    (try simp only [Exit.inBlock, Exit.then])
    refine bodyPost_ret (by simp [results, Try.results48, go_sem, s0, s1, s2, s3, s4]; try rfl) rfl ?_
    exact ⟨_, _, _, _, _, rfl, T.out.done⟩
  · clear i1 i2
    have hlt := S.out.ready.cur.lt
    have P := Lib.hid (pick (S.out.ready.alloc (.cells (ints lifts).toArray 3)) w2.heap.size 0 6 lifts (by omega) (by decide) (by decide) (cells_at w2 lifts 3))
    clear hlt
    go_wp2_with fail
    refine P.out.mono ?_
    rintro e w3 ⟨l', hv, rfl, k1, k2⟩
    have S := Lib.hid ((S.out.alloc (.cells (ints lifts).toArray 3)).next k2 k1)
    have T := Lib.hid (S.out.set4 l')
    clear k1 k2 hv P
    obtain ⟨a0, a1, a2, a3, a4⟩ := S.out.jet.c
    have f0 := S.out.jet.f 0
    have f1 := S.out.jet.f 1
    have f2 := S.out.jet.f 2
    have f3 := S.out.jet.f 3
    have f4 := S.out.jet.f 4
    obtain ⟨b0, b1, b2, b3, b4⟩ := S.out.res.c
    have g0 := S.out.res.f 0
    have g1 := S.out.res.f 1
    have g2 := S.out.res.f 2
    have g3 := S.out.res.f 3
    have g4 := S.out.res.f 4
    have m3 := S.out.n3
    have m4 := m3.symm
    go_wp2_with fail
    obtain ⟨s0, s1, s2, s3, s4⟩ := (T.out.res.set x y h t l').c
    (try simp only [Exit.inBlock, Exit.then])
    refine bodyPost_ret (by simp [results, Try.results48, go_sem, s0, s1, s2, s3, s4]; try rfl) rfl ?_
    exact ⟨_, _, _, _, _, rfl, T.out.done⟩
  · clear i1 i2
    have hlt := S.out.ready.cur.lt
    have P := Lib.hid (pick (S.out.ready.alloc (.cells (ints atXs).toArray 3)) w2.heap.size 0 4 atXs (by omega) (by decide) (by decide) (cells_at w2 atXs 3))
    clear hlt
    go_wp2_with fail
    refine P.out.mono ?_
    rintro e w3 ⟨x', hv, rfl, k1, k2⟩
    have S := Lib.hid ((S.out.alloc (.cells (ints atXs).toArray 3)).next k2 k1)
    have hlt := S.out.ready.cur.lt
    have P := Lib.hid (pick (S.out.ready.alloc (.cells (ints atYs).toArray 3)) w3.heap.size 0 3 atYs (by omega) (by decide) (by decide) (cells_at w3 atYs 3))
    clear k1 k2 hv hlt
    go_wp2_with fail
    refine P.out.mono ?_
    rintro e w4 ⟨y', hv, rfl, k1, k2⟩
    have S := Lib.hid ((S.out.alloc (.cells (ints atYs).toArray 3)).next k2 k1)
    have T := Lib.hid ((S.out.set0 x').set1 y')
    clear k1 k2 hv P
    obtain ⟨a0, a1, a2, a3, a4⟩ := S.out.jet.c
    have f0 := S.out.jet.f 0
    have f1 := S.out.jet.f 1
    have f2 := S.out.jet.f 2
    have f3 := S.out.jet.f 3
    have f4 := S.out.jet.f 4
    obtain ⟨b0, b1, b2, b3, b4⟩ := S.out.res.c
    have g0 := S.out.res.f 0
    have g1 := S.out.res.f 1
    have g2 := S.out.res.f 2
    have g3 := S.out.res.f 3
    have g4 := S.out.res.f 4
    have m3 := S.out.n3
    have m4 := m3.symm
    go_wp2_with fail
    obtain ⟨s0, s1, s2, s3, s4⟩ := (T.out.res.set x' y' h t l).c
    (try simp only [Exit.inBlock, Exit.then])
    refine bodyPost_ret (by simp [results, Try.results48, go_sem, s0, s1, s2, s3, s4]; try rfl) rfl ?_
    exact ⟨_, _, _, _, _, rfl, T.out.done⟩
  · obtain ⟨a0, a1, a2, a3, a4⟩ := S.out.jet.c
    have f0 := S.out.jet.f 0
    have f1 := S.out.jet.f 1
    have f2 := S.out.jet.f 2
    have f3 := S.out.jet.f 3
    have f4 := S.out.jet.f 4
    obtain ⟨b0, b1, b2, b3, b4⟩ := S.out.res.c
    have g0 := S.out.res.f 0
    have g1 := S.out.res.f 1
    have g2 := S.out.res.f 2
    have g3 := S.out.res.f 3
    have g4 := S.out.res.f 4
    have m3 := S.out.n3
    have m4 := m3.symm
    go_wp2_with fail
    obtain ⟨s0, s1, s2, s3, s4⟩ := (S.out.res.set x y h t l).c
    (try simp only [Exit.inBlock, Exit.then])
    refine bodyPost_ret (by simp [results, Try.results48, go_sem, s0, s1, s2, s3, s4]; try rfl) rfl ?_
    exact ⟨_, _, _, _, _, rfl, S.out.done⟩

end Go.Proofs.Ytgcheplneolonab.Dr4
