/- The draw of a rig: some rig with short names; nothing but the cursor is written. -/
import Derived.Test.YtgcheplneolonabZ2
import Derived.Test.YtgcheplneolonabZ1
import Derived.Handy
namespace Go.Proofs.Ytgcheplneolonab.Dr6
open Go.RowKit Go.ChangeShapes Go.WideShapes Go.WideElems Go.Deep Go.Proofs.Ytgcheplneolonab.Mem Go.Proofs.Ytgcheplneolonab.Rw Go.Proofs.Ytgcheplneolonab.Pw Go.Proofs.Ytgcheplneolonab.P2 Go.Proofs.Ytgcheplneolonab.Dd Go.Proofs.Ytgcheplneolonab.Dv Go.Proofs.Ytgcheplneolonab.Dl Go.Proofs.Ytgcheplneolonab.Ds
set_option linter.unusedVariables false
set_option linter.unusedSimpArgs false
open Go.Proofs.Ytgcheplneolonab.Bxd Go.Proofs.Ytgcheplneolonab.Strs Go.Proofs.Ytgcheplneolonab.Drs Go.Proofs.Ytgcheplneolonab.Jt Go.Proofs.Ytgcheplneolonab.Dp
open Go.Proofs.Ytgcheplneolonab.Draw (Cur Ready Got GotB u8s below once some_ pick cells_at new Fresh)
open Go.Proofs.Ytgcheplneolonab.Dr2 (HB cur_set)
open Go.Proofs.Ytgcheplneolonab.Dr4
open Go.Proofs.Ytgcheplneolonab.Rw (owns_below owns_grown owns_base)

/-- A device's cells, written. -/
abbrev put8 (w : World) (b : Nat) (d : D) : World := (((((((w.setCell ⟨b, 0, none⟩ (.string d.nm)).setCell ⟨b, 1, none⟩ (.int .i64 d.kd)).setCell ⟨b, 2, none⟩ (.string d.ln)).setCell ⟨b, 3, none⟩ (.int .i64 d.x)).setCell ⟨b, 4, none⟩ (.int .i64 d.y)).setCell ⟨b, 5, none⟩ (.int .i64 d.hd)).setCell ⟨b, 6, none⟩ (.int .i64 d.tl)).setCell ⟨b, 7, none⟩ (.int .i64 d.ms)
set_option maxHeartbeats 1000000 in
theorem bx_put {w : World} {b : Nat} {e : D} (h : Bx w b e) (d : D) : Bx (put8 w b d) b d := by
  have h1 : (w.setCell ⟨b, 0, none⟩ (.string d.nm)).heap[b]? = some (.cells (ca d.nm e.kd e.ln e.x e.y e.hd e.tl e.ms) 28 (0, 0)) := heap_setCell_same _ b 0 _ _ _ h
  have h2 : ((w.setCell ⟨b, 0, none⟩ (.string d.nm)).setCell ⟨b, 1, none⟩ (.int .i64 d.kd)).heap[b]? = some (.cells (ca d.nm d.kd e.ln e.x e.y e.hd e.tl e.ms) 28 (0, 0)) := heap_setCell_same _ b 1 _ _ _ h1
  have h3 : (((w.setCell ⟨b, 0, none⟩ (.string d.nm)).setCell ⟨b, 1, none⟩ (.int .i64 d.kd)).setCell ⟨b, 2, none⟩ (.string d.ln)).heap[b]? = some (.cells (ca d.nm d.kd d.ln e.x e.y e.hd e.tl e.ms) 28 (0, 0)) := heap_setCell_same _ b 2 _ _ _ h2
  have h4 : ((((w.setCell ⟨b, 0, none⟩ (.string d.nm)).setCell ⟨b, 1, none⟩ (.int .i64 d.kd)).setCell ⟨b, 2, none⟩ (.string d.ln)).setCell ⟨b, 3, none⟩ (.int .i64 d.x)).heap[b]? = some (.cells (ca d.nm d.kd d.ln d.x e.y e.hd e.tl e.ms) 28 (0, 0)) := heap_setCell_same _ b 3 _ _ _ h3
  have h5 : (((((w.setCell ⟨b, 0, none⟩ (.string d.nm)).setCell ⟨b, 1, none⟩ (.int .i64 d.kd)).setCell ⟨b, 2, none⟩ (.string d.ln)).setCell ⟨b, 3, none⟩ (.int .i64 d.x)).setCell ⟨b, 4, none⟩ (.int .i64 d.y)).heap[b]? = some (.cells (ca d.nm d.kd d.ln d.x d.y e.hd e.tl e.ms) 28 (0, 0)) := heap_setCell_same _ b 4 _ _ _ h4
  have h6 : ((((((w.setCell ⟨b, 0, none⟩ (.string d.nm)).setCell ⟨b, 1, none⟩ (.int .i64 d.kd)).setCell ⟨b, 2, none⟩ (.string d.ln)).setCell ⟨b, 3, none⟩ (.int .i64 d.x)).setCell ⟨b, 4, none⟩ (.int .i64 d.y)).setCell ⟨b, 5, none⟩ (.int .i64 d.hd)).heap[b]? = some (.cells (ca d.nm d.kd d.ln d.x d.y d.hd e.tl e.ms) 28 (0, 0)) := heap_setCell_same _ b 5 _ _ _ h5
  have h7 : (((((((w.setCell ⟨b, 0, none⟩ (.string d.nm)).setCell ⟨b, 1, none⟩ (.int .i64 d.kd)).setCell ⟨b, 2, none⟩ (.string d.ln)).setCell ⟨b, 3, none⟩ (.int .i64 d.x)).setCell ⟨b, 4, none⟩ (.int .i64 d.y)).setCell ⟨b, 5, none⟩ (.int .i64 d.hd)).setCell ⟨b, 6, none⟩ (.int .i64 d.tl)).heap[b]? = some (.cells (ca d.nm d.kd d.ln d.x d.y d.hd d.tl e.ms) 28 (0, 0)) := heap_setCell_same _ b 6 _ _ _ h6
  have h8 : ((((((((w.setCell ⟨b, 0, none⟩ (.string d.nm)).setCell ⟨b, 1, none⟩ (.int .i64 d.kd)).setCell ⟨b, 2, none⟩ (.string d.ln)).setCell ⟨b, 3, none⟩ (.int .i64 d.x)).setCell ⟨b, 4, none⟩ (.int .i64 d.y)).setCell ⟨b, 5, none⟩ (.int .i64 d.hd)).setCell ⟨b, 6, none⟩ (.int .i64 d.tl)).setCell ⟨b, 7, none⟩ (.int .i64 d.ms)).heap[b]? = some (.cells (ca d.nm d.kd d.ln d.x d.y d.hd d.tl d.ms) 28 (0, 0)) := heap_setCell_same _ b 7 _ _ _ h7
  exact h8
theorem put8_grown {w0 w : World} {r : Option Nat} (h : w0.grownBy w r) {b : Nat} (hb : w0.heap.size ≤ b) (d : D) : w0.grownBy (put8 w b d) r :=
  Dr2.grown_set (Dr2.grown_set (Dr2.grown_set (Dr2.grown_set (Dr2.grown_set (Dr2.grown_set (Dr2.grown_set (Dr2.grown_set h hb _ _) hb _ _) hb _ _) hb _ _) hb _ _) hb _ _) hb _ _) hb _ _
theorem put8_cur {w : World} {g n c b : Nat} {A : Option Addr} (h : Cur w g A n c) (hne : g ≠ b) (d : D) : Cur (put8 w b d) g A n c :=
  cur_set (cur_set (cur_set (cur_set (cur_set (cur_set (cur_set (cur_set h hne _ _) hne _ _) hne _ _) hne _ _) hne _ _) hne _ _) hne _ _) hne _ _
theorem put8_block {w : World} {b j : Nat} (h : j ≠ b) (d : D) : (put8 w b d).heap[j]? = w.heap[j]? :=
  (Below.heap_setCell _ _ _ _ h).trans ((Below.heap_setCell _ _ _ _ h).trans ((Below.heap_setCell _ _ _ _ h).trans ((Below.heap_setCell _ _ _ _ h).trans ((Below.heap_setCell _ _ _ _ h).trans ((Below.heap_setCell _ _ _ _ h).trans ((Below.heap_setCell _ _ _ _ h).trans (Below.heap_setCell _ _ _ _ h)))))))
theorem put8_cell {w : World} {b : Nat} {p : Addr} {v : Value} (h : w.cell? p = some v) (hp : p.block ≠ b) (d : D) : (put8 w b d).cell? p = some v := (World.cell?_of_block (put8_block hp d)).trans h
theorem put8_ready {w : World} {g n c b : Nat} {A : Option Addr} {bs : List UInt8} (h : Ready w g A n c bs) (hb : g < b) (d : D) : Ready (put8 w b d) g A n c bs :=
  ⟨h.len, h.max, h.rd.keep fun p hp => World.cell?_of_block (put8_block (by omega) d), put8_cur h.cur (by omega) d⟩
theorem ready_drew {w : World} {g n c : Nat} {A : Option Addr} {bs : List UInt8} (h : Ready w g A n c bs) : Ready w.drew g A n c bs := ⟨h.len, h.max, h.rd, h.cur⟩
theorem grown_drew {w w' : World} {r : Option Nat} (h : w.grownBy w' r) : w.grownBy w'.drew r := ⟨h.os, h.tape, h.output, h.size, h.block⟩

/-- What the draw of a device leaves. -/
def GotD (P : D → Prop) (w : World) (g : Nat) (A : Option Addr) (n c : Nat) (e : Ending) (w' : World) : Prop :=
  ∃ (s : ByteArray) (q : Int) (l : ByteArray) (x y h t m : Int), P ⟨s, q, l, x, y, h, t, m⟩ ∧ e = .returned (va s q l x y h t m) ∧ Cur w' g A n c ∧ w.grownBy w' (some g)
def Noz (a b : ByteArray) (d : D) : Prop := d.nm = a ∧ d.kd = 2 ∧ d.ln = b ∧ (∃ l, jt d.x d.y d.hd d.tl l = true) ∧ 0 ≤ d.ms ∧ d.ms ≤ 32

set_option maxRecDepth 100000 in
set_option maxHeartbeats 2000000 in
theorem l6Nozzle {w : World} {g n c : Nat} {A : Option Addr} {bs : List UInt8} (h : Ready w g A n c bs) (a b : ByteArray) :
    Calls Try.prog 43 #[.pointer (some ⟨g, 0, none⟩), .string a, .string b] w (GotD (Noz a b) w g A n c) := by
  have hlt := h.cur.lt
  have H1 := Lib.hid (h.alloc (.cells (ca ⟨#[]⟩ 0 ⟨#[]⟩ 0 0 0 0 0) 28))
  have G1 := Lib.hid (World.grownBy_alloc w (.cells (ca ⟨#[]⟩ 0 ⟨#[]⟩ 0 0 0 0 0) 28) (some g))
  have B1 := Lib.hid (Bx.new w ⟨#[]⟩ 0 ⟨#[]⟩ 0 0 0 0 0)
  have NE := Lib.hid (show w.heap.size ≠ g by omega)
  have LT0 := Lib.hid hlt
  clear h hlt
  go_enter Try.func43, Try.ntmps43
  go_wp2_with fail
  refine (l3Draw H1.out).mono ?_
  rintro e w1 ⟨x, y, hh, t, l, hj, rfl, k1, k2⟩
  have H2 := H1.out.next k2 k1
  have G2 := Draw.grown_trans G1.out k2
  have B2 := B1.out.grown k2 (fun e => NE.out (Option.some.inj e))
  have X := Lib.hid hj
  have LT1 := Lib.hid k1.lt
  have LT2 := Lib.hid B2.lt
  have J3 := Lib.hid (JB.new w1 x y hh t l)
  have H3 := Lib.hid (H2.alloc (.cells (jc x y hh t l) 82))
  have G3 := Lib.hid (Draw.grown_trans G2 (World.grownBy_alloc w1 (.cells (jc x y hh t l) 82) (some g)))
  have B3 := Lib.hid (B2.alloc (.cells (jc x y hh t l) 82))
  clear k1 k2 hj H1 G1 B1 H2 G2 B2
  go_wp2_with fail
  refine wp_region_noPanic ?_
  refine wp_region_held_drew (S := (fun w' => w'.cell? ⟨w1.heap.size, 0, none⟩ = some (.int .i64 x) ∧ w'.cell? ⟨w1.heap.size, 1, none⟩ = some (.int .i64 y) ∧ w'.cell? ⟨w1.heap.size, 2, none⟩ = some (.int .i64 hh) ∧ w'.cell? ⟨w1.heap.size, 3, none⟩ = some (.int .i64 t) ∧ Ready w' g A n c bs ∧ w.grownBy w' (some g))) (by kernel_rfl) ?_ (fun hH => ?_)
  · exact ⟨J3.out.c.1, J3.out.c.2.1, J3.out.c.2.2.1, J3.out.c.2.2.2.1, ready_drew H3.out, grown_drew G3.out⟩
  refine wpAnyH_take (i := 0) (oi := { dst := some 10, op := _, type := _, pos := _, after := _, guard := _ }) (v := ?_) rfl (by kernel_rfl) (by kernel_rfl) (by kernel_rfl) (fun _ _ _ h => h) (Or.inl ⟨by rfl, ?_⟩) hH ?_
  rotate_left 1
  · intro W hSw
    (try dsimp only at hSw)
    go_simp
    (try with_reducible rfl)
  try simp only [Act.put, List.setIfInBounds_toArray, List.set_cons_zero, List.set_cons_succ]
  refine wpAnyH_take (i := 1) (oi := { dst := some 11, op := _, type := _, pos := _, after := _, guard := _ }) (v := ?_) rfl (by kernel_rfl) (by kernel_rfl) (by kernel_rfl) (fun _ _ _ h => h) (Or.inl ⟨by rfl, ?_⟩) hH ?_
  rotate_left 1
  · intro W hSw
    (try dsimp only at hSw)
    go_simp
    (try with_reducible rfl)
  try simp only [Act.put, List.setIfInBounds_toArray, List.set_cons_zero, List.set_cons_succ]
  refine wpAnyH_take (i := 2) (oi := { dst := some 12, op := _, type := _, pos := _, after := _, guard := _ }) (v := ?_) rfl (by kernel_rfl) (by kernel_rfl) (by kernel_rfl) (fun _ _ _ h => h) (Or.inl ⟨by rfl, ?_⟩) hH ?_
  rotate_left 1
  · intro W hSw
    (try dsimp only at hSw)
    go_simp
    (try with_reducible rfl)
  try simp only [Act.put, List.setIfInBounds_toArray, List.set_cons_zero, List.set_cons_succ]
  refine wpAnyH_take (i := 3) (oi := { dst := some 13, op := _, type := _, pos := _, after := _, guard := _ }) (v := ?_) rfl (by kernel_rfl) (by kernel_rfl) (by kernel_rfl) (fun _ _ _ h => h) (Or.inl ⟨by rfl, ?_⟩) hH ?_
  rotate_left 1
  · intro W hSw
    (try dsimp only at hSw)
    go_simp
    (try with_reducible rfl)
  try simp only [Act.put, List.setIfInBounds_toArray, List.set_cons_zero, List.set_cons_succ]
  refine wpAnyH_take (i := 4) (oi := { dst := some 14, op := _, type := _, pos := _, after := _, guard := _ }) (v := ?_) rfl (by kernel_rfl) (by kernel_rfl) (by kernel_rfl) (fun _ _ _ h => h) (Or.inl ⟨by rfl, ?_⟩) hH ?_
  rotate_left 1
  · intro W hSw
    (try dsimp only at hSw)
    go_simp
    (try with_reducible rfl)
  try simp only [Act.put, List.setIfInBounds_toArray, List.set_cons_zero, List.set_cons_succ]
  refine wpAnyH_take (i := 5) (oi := { dst := some 15, op := _, type := _, pos := _, after := _, guard := _ }) (v := ?_) rfl (by kernel_rfl) (by kernel_rfl) (by kernel_rfl) (fun _ _ _ h => h) (Or.inl ⟨by rfl, ?_⟩) hH ?_
  rotate_left 1
  · intro W hSw
    (try dsimp only at hSw)
    go_simp
    (try with_reducible rfl)
  try simp only [Act.put, List.setIfInBounds_toArray, List.set_cons_zero, List.set_cons_succ]
  refine wpAnyH_take (i := 6) (oi := { dst := some 16, op := _, type := _, pos := _, after := _, guard := _ }) (v := ?_) rfl (by kernel_rfl) (by kernel_rfl) (by kernel_rfl) (fun _ _ _ h => h) (Or.inl ⟨by rfl, ?_⟩) hH ?_
  rotate_left 1
  · intro W hSw
    (try dsimp only at hSw)
    go_simp
    (try with_reducible rfl)
  try simp only [Act.put, List.setIfInBounds_toArray, List.set_cons_zero, List.set_cons_succ]
  refine wpAnyH_take (i := 7) (oi := { dst := some 17, op := _, type := _, pos := _, after := _, guard := _ }) (v := ?_) rfl (by kernel_rfl) (by kernel_rfl) (by kernel_rfl) (fun _ _ _ h => h) (Or.inl ⟨by rfl, ?_⟩) hH ?_
  rotate_left 1
  · intro W hSw
    (try dsimp only at hSw)
    go_simp
    (try with_reducible rfl)
  try simp only [Act.put, List.setIfInBounds_toArray, List.set_cons_zero, List.set_cons_succ]
  refine wpAnyH_take (i := 8) (oi := { dst := some 18, op := _, type := _, pos := _, after := _, guard := _ }) (v := ?_) rfl (by kernel_rfl) (by kernel_rfl) (by kernel_rfl) (fun _ _ _ h => h) (Or.inl ⟨by rfl, ?_⟩) hH ?_
  rotate_left 1
  · intro W hSw
    (try dsimp only at hSw)
    go_simp
    (try with_reducible rfl)
  try simp only [Act.put, List.setIfInBounds_toArray, List.set_cons_zero, List.set_cons_succ]
  refine wpAnyH_ready (rs := [9]) (by kernel_rfl) (by simp) (AllReadyH.cons rfl (fun K hK => ?_) AllReadyH.nil)
  go_simp
  go_at_call 65; ((with_reducible refine (some_ hH.2.2.2.2.1 0 32 (by decide) (by decide) (by decide)).mono ?_); rintro e r1 ⟨m, hm, rfl, k1, k2⟩); have b4 := Bx.grown (w := (w1.alloc (.cells (jc x y hh t l) 82)).drew) B3.out k2 (fun e => NE.out (Option.some.inj e)); have fz := b4.f; obtain ⟨d0, d1, d2, d3, d4, d5, d6, d7⟩ := b4.c; go_wp2_with fail
  refine hK.out _ _ ?_ (fun hG => ?_)
  · exact ⟨k2.cell hH.1 (fun e => by have e : w1.heap.size = g := Option.some.inj e; have := LT1.out; omega), k2.cell hH.2.1 (fun e => by have e : w1.heap.size = g := Option.some.inj e; have := LT1.out; omega), k2.cell hH.2.2.1 (fun e => by have e : w1.heap.size = g := Option.some.inj e; have := LT1.out; omega), k2.cell hH.2.2.2.1 (fun e => by have e : w1.heap.size = g := Option.some.inj e; have := LT1.out; omega), hH.2.2.2.2.1.next k2 k1, Draw.grown_trans hH.2.2.2.2.2 k2⟩
  replace hH := hG
  clear hK K hG
  try simp only [Act.put, List.setIfInBounds_toArray, List.set_cons_zero, List.set_cons_succ]
  refine wpAnyH_take (i := 10) (oi := { dst := some 20, op := _, type := _, pos := _, after := _, guard := _ }) (v := ?_) rfl (by kernel_rfl) (by kernel_rfl) (by kernel_rfl) (fun _ _ _ h => h) (Or.inl ⟨by rfl, ?_⟩) hH ?_
  rotate_left 1
  · intro W hSw
    (try dsimp only at hSw)
    go_simp
    (try with_reducible rfl)
  try simp only [Act.put, List.setIfInBounds_toArray, List.set_cons_zero, List.set_cons_succ]
  refine wpAnyH_ready (rs := [11]) (by kernel_rfl) (by simp) (AllReadyH.cons rfl (fun K hK => ?_) AllReadyH.nil)
  go_simp
  refine hK.out _ _ ?_ (fun hG => ?_)
  · exact ⟨put8_cell hH.1 (by have := LT2.out; show w1.heap.size ≠ w.heap.size; omega) (⟨a, 2, b, x, y, hh, t, m⟩ : D), put8_cell hH.2.1 (by have := LT2.out; show w1.heap.size ≠ w.heap.size; omega) (⟨a, 2, b, x, y, hh, t, m⟩ : D), put8_cell hH.2.2.1 (by have := LT2.out; show w1.heap.size ≠ w.heap.size; omega) (⟨a, 2, b, x, y, hh, t, m⟩ : D), put8_cell hH.2.2.2.1 (by have := LT2.out; show w1.heap.size ≠ w.heap.size; omega) (⟨a, 2, b, x, y, hh, t, m⟩ : D), put8_ready hH.2.2.2.2.1 LT0.out (⟨a, 2, b, x, y, hh, t, m⟩ : D), put8_grown hH.2.2.2.2.2 (Nat.le_refl _) (⟨a, 2, b, x, y, hh, t, m⟩ : D)⟩
  replace hH := hG
  clear hK K hG
  try simp only [Act.put, List.setIfInBounds_toArray, List.set_cons_zero, List.set_cons_succ]
  refine wpAnyH_done (by kernel_rfl) ?_ _
  refine NoPanic.normal ?_
  have S9 := Lib.hid hH.2.2.2.2
  clear hH
  go_wp2_with fail
  (try simp only [Exit.inBlock, Exit.then])
  obtain ⟨s0, s1, s2, s3, s4, s5, s6, s7⟩ := (bx_put b4 (⟨a, 2, b, x, y, hh, t, m⟩ : D)).c
  have M := Lib.hid hm
  clear d0 d1 d2 d3 d4 d5 d6 d7 fz k1 k2 hm
  unfold put8 at s0 s1 s2 s3 s4 s5 s6 s7
  refine bodyPost_ret (v := va a 2 b x y hh t m) (by simp only [results, Try.results43, s0, s1, s2, s3, s4, s5, s6, s7]; simp [go_sem, s0, s1, s2, s3, s4, s5, s6, s7]; try rfl) rfl ?_
  exact ⟨a, 2, b, x, y, hh, t, m, ⟨rfl, rfl, rfl, ⟨l, X.out⟩, M.out.1, M.out.2⟩, rfl, S9.out.1.cur, S9.out.2⟩

end Go.Proofs.Ytgcheplneolonab.Dr6
namespace Go.Proofs.Ytgcheplneolonab.Dr6
open Go.RowKit Go.ChangeShapes Go.WideShapes Go.WideElems Go.Deep Go.Proofs.Ytgcheplneolonab.Mem Go.Proofs.Ytgcheplneolonab.Rw Go.Proofs.Ytgcheplneolonab.Pw Go.Proofs.Ytgcheplneolonab.P2 Go.Proofs.Ytgcheplneolonab.Dd Go.Proofs.Ytgcheplneolonab.Dv Go.Proofs.Ytgcheplneolonab.Dl Go.Proofs.Ytgcheplneolonab.Ds Go.Proofs.Ytgcheplneolonab.Fd Go.Proofs.Ytgcheplneolonab.Ch Go.Proofs.Ytgcheplneolonab.Hn Go.Proofs.Ytgcheplneolonab.Po
set_option linter.unusedVariables false
set_option linter.unusedSimpArgs false
open Go.Proofs.Ytgcheplneolonab.Ho Go.Proofs.Ytgcheplneolonab.Ig Go.Proofs.Ytgcheplneolonab.Mo Go.Proofs.Ytgcheplneolonab.Adn Go.Proofs.Ytgcheplneolonab.Ad Go.Proofs.Ytgcheplneolonab.Rz Go.Proofs.Ytgcheplneolonab.Bxd Go.Proofs.Ytgcheplneolonab.Strs Go.Proofs.Ytgcheplneolonab.Drs Go.Proofs.Ytgcheplneolonab.Jt Go.Proofs.Ytgcheplneolonab.Dp
open Go.Proofs.Ytgcheplneolonab.Draw (Cur Ready Got GotB u8s below once some_ pick cells_at new Fresh)
open Go.Proofs.Ytgcheplneolonab.Dr2 (HB cur_set)
open Go.Proofs.Ytgcheplneolonab.Dr4 (l3Draw l2DrawV)
open Go.Proofs.Ytgcheplneolonab.Rw (owns_below owns_grown owns_base)

def pumps : List ByteArray := [⟨#[112]⟩, ⟨#[113]⟩]
def nozzles : List ByteArray := [⟨#[97]⟩, ⟨#[98]⟩, ⟨#[99]⟩, ⟨#[114]⟩]
def lamps : List ByteArray := [⟨#[108, 97, 109, 112]⟩, ⟨#[122]⟩]
theorem small {x : ByteArray} (h : x ∈ pumps ∨ x ∈ nozzles ∨ x ∈ lamps) : x.size ≤ 8 := by
  unfold pumps nozzles lamps at h
  simp only [List.mem_cons, List.not_mem_nil, or_false] at h
  rcases h with (h | h) | (h | h | h | h) | (h | h) <;> subst h <;> decide
/-- What is known of a rig that was drawn. -/
def Rn (zs : List D) : Prop := Rig zs ∧ ∀ z ∈ zs, z.nm.size ≤ 8 ∧ z.ln.size ≤ 8
theorem Rn.zero : Rn [] := ⟨⟨by simp, fun k d h => by simp at h⟩, fun d hd => by cases hd⟩
theorem Rn.next {zs : List D} {d : D} (h : Rn zs) (h1 : d.nm.size ≤ 8) (h2 : d.ln.size ≤ 8) : Rn (adL zs d) :=
  ⟨ad_rig h.1, fun z hz => by rcases ad_mem hz with rfl | hz; exact ⟨h1, h2⟩; exact h.2 z hz⟩
theorem Rn.sizes {zs : List D} (h : Rn zs) : ∀ z ∈ zs, z.nm.size ≤ 1048576 ∧ z.ln.size ≤ 1048576 := fun z hz => ⟨Nat.le_trans (h.2 z hz).1 (by decide), Nat.le_trans (h.2 z hz).2 (by decide)⟩
theorem Rn.len {zs : List D} (h : Rn zs) : zs.length ≤ 8 := h.1.1

theorem pump_name {x : ByteArray} (h : x ∈ pumps) : IsName.nameB x = true := by
  unfold pumps at h
  simp only [List.mem_cons, List.not_mem_nil, or_false] at h
  rcases h with h | h <;> subst h <;> exact IsName.nameB_yes (by decide) (by decide) (fun k h1 h2 => by
    have h3 : k = 0 := by have h4 : k < 1 := h1; omega
    subst h3
    exact Or.inl rfl)
/-- The first pump finds its place. -/
theorem first_pump {x : ByteArray} {m : Int} (h : x ∈ pumps) (h0 : 0 ≤ m) (h1 : m < 80) : (adL [] ⟨x, 1, ⟨#[]⟩, 0, 0, 0, 0, m⟩).length = 1 := by
  have hd : dB ⟨x, 1, ⟨#[]⟩, 0, 0, 0, 0, m⟩ = true := by
    unfold dB devB pumpB
    rw [if_pos rfl, pump_name h]
    show (iw m 0 512 && (sb ⟨#[]⟩ ⟨#[]⟩ && zb [0, 0, 0, 0])) = true
    rw [sb_self]
    unfold iw
    simp [zb]
    omega
  have hg : adG [] ⟨x, 1, ⟨#[]⟩, 0, 0, 0, 0, m⟩ = true := by
    unfold adG
    rw [rig_yes Rn.zero.1, hd, show hgV [] 1 (⟨#[]⟩ : ByteArray) = true from hgV_o (by decide) (by decide) _ _]
    rfl
  rw [adL_yes hg]; rfl
theorem adL_more (zs : List D) (d : D) : zs.length ≤ (adL zs d).length := by
  cases h : adG zs d
  · rw [adL_no h]; exact Nat.le_refl _
  · rw [adL_yes h, ins_len]; omega

/-- What stands at every call: the draw goes on, and the names lie there. -/
structure St (w wr : World) (g : Nat) (A : Option Addr) (n c : Nat) (bs : List UInt8) (pb nb : Nat) (ps ns : List ByteArray) : Prop where
  rdy : Ready wr g A n c bs
  gr : w.grownBy wr (some g)
  pc : ∀ j z, ps[j]? = some z → wr.cell? ⟨pb, 0 + j, none⟩ = some (.string z)
  nc : ∀ j z, ns[j]? = some z → wr.cell? ⟨nb, 0 + j, none⟩ = some (.string z)
  pn : pb ≠ g
  nn : nb ≠ g
section
variable {w wr w' : World} {g : Nat} {A : Option Addr} {n c : Nat} {bs : List UInt8} {pb nb : Nat} {ps ns : List ByteArray}
theorem St.next (h : St w wr g A n c bs pb nb ps ns) (k2 : wr.grownBy w' (some g)) (k1 : Cur w' g A n c) : St w w' g A n c bs pb nb ps ns :=
  ⟨h.rdy.next k2 k1, Draw.grown_trans h.gr k2, fun j z hz => k2.cell (h.pc j z hz) (fun e => h.pn (Option.some.inj e)), fun j z hz => k2.cell (h.nc j z hz) (fun e => h.nn (Option.some.inj e)), h.pn, h.nn⟩
theorem St.below (h : St w wr g A n c bs pb nb ps ns) (k : Below wr.heap.size wr w') : St w w' g A n c bs pb nb ps ns :=
  ⟨ready_below h.rdy k, Draw.grown_trans h.gr (gr_below k), fun j z hz => cell_below k (h.pc j z hz), fun j z hz => cell_below k (h.nc j z hz), h.pn, h.nn⟩
theorem St.alloc (h : St w wr g A n c bs pb nb ps ns) (o : Obj) : St w (wr.alloc o) g A n c bs pb nb ps ns := h.below ((Below.refl _ _).alloc (Nat.le_refl _) _)
end
/-- What the draw of a rig leaves. -/
def GotR (w : World) (g : Nat) (A : Option Addr) (n c : Nat) (e : Ending) (w' : World) : Prop :=
  ∃ (zs : List D) (q gr cc : Nat), zs.length = q ∧ 1 ≤ q ∧ Rn zs ∧ e = .returned (.slice (some ⟨gr, 0, none⟩) q cc) ∧ w'.ownsRow w.heap.size 28 8 (.slice (some ⟨gr, 0, none⟩) q cc) q (dls zs) ∧ Cur w' g A n c ∧ w.grownBy w' (some g)

set_option maxRecDepth 100000 in
set_option maxHeartbeats 4000000 in
theorem l6Draw {w : World} {g n c : Nat} {A : Option Addr} {bs : List UInt8} (h : Ready w g A n c bs) :
    Calls Try.prog 41 #[.pointer (some ⟨g, 0, none⟩)] w (GotR w g A n c) := by
  have hlt := h.cur.lt
  have hu : undef = Value.tuple #[] := rfl
  have NE := Lib.hid hlt
  have O1 := Lib.hid ((World.ownsRow_lit (base := w.heap.size) (e := 28) (size := 8) w #[] 0 (Nat.le_refl _) (Nat.zero_le _) rfl).alloc (.cells (Strs.strs pumps).toArray 9))
  have T1 := Lib.hid (show St w ((w.alloc (.cells #[] 28)).alloc (.cells (Strs.strs pumps).toArray 9)) g A n c bs (w.heap.size + 1) (w.heap.size + 1) pumps [] from
    ⟨(h.alloc _).alloc _, Draw.grown_trans (World.grownBy_alloc w (.cells #[] 28) (some g)) (World.grownBy_alloc _ (.cells (Strs.strs pumps).toArray 9) (some g)), fun j z hz => by have := cells_str (w.alloc (.cells #[] 28)) pumps 9 j z hz; rw [show (w.alloc (.cells #[] 28)).heap.size = w.heap.size + 1 by simp] at this; exact this, fun j z hz => by simp at hz, by omega, by omega⟩)
  clear h hlt
  go_enter Try.func41, Try.ntmps41
  go_wp2_with fail
  refine (below T1.out.rdy 2 (by decide) (by decide)).mono ?_
  rintro e w1 ⟨x, hx, rfl, k1, k2⟩
  obtain ⟨x, rfl⟩ : ∃ k : Nat, x = (k : Int) := ⟨x.toNat, by omega⟩
  have T2 := Lib.hid (T1.out.next k2 k1)
  have O2 := Lib.hid (row_next O1.out k2 NE.out)
  clear k1 k2 T1 O1
  have hx2 : x < 2 := by omega
  obtain ⟨np, hnp⟩ : ∃ np, np = 1 + x := ⟨_, rfl⟩
  have e1 : (1 : Int) + (x : Int) = (np : Int) := by omega
  have hnp2 : np ≤ 2 := by omega
  have hnp1 : 1 ≤ np := by omega
  have PL := Lib.hid (show (pumps.take np).length = np by rw [List.length_take]; show min np 2 = np; omega)
  have T2b := Lib.hid (show St w w1 g A n c bs (w.heap.size + 1) (w.heap.size + 1) (pumps.take np) [] from ⟨T2.out.rdy, T2.out.gr, fun j z hz => T2.out.pc j z (by rw [List.getElem?_take] at hz; split at hz; exact hz; cases hz), T2.out.nc, T2.out.pn, T2.out.nn⟩)
  clear hx hnp hx2 T2
  go_wp2_with fail
  clear e1
  go_loopw [3, 18] (fun lv iv wr => ∃ (zs : List D) (q k : Nat), k ≤ np ∧ iv = .int .i64 k ∧ (∃ gr cc : Nat, lv = .slice (some ⟨gr, 0, none⟩) q cc) ∧ Hid (zs.length = q) ∧ Hid (Rn zs ∧ (k = 0 → zs = []) ∧ (0 < k → 1 ≤ zs.length)) ∧ Hid (wr.ownsRow w.heap.size 28 8 lv q (dls zs)) ∧ Hid (St w wr g A n c bs (w.heap.size + 1) (w.heap.size + 1) (pumps.take np) [])) (fun _ i _ => np - (intOf i).toNat)
  case atStart => exact ⟨[], 0, 0, Nat.zero_le _, rfl, ⟨_, _, rfl⟩, Lib.hid rfl, Lib.hid ⟨Rn.zero, fun _ => rfl, fun h => by omega⟩, O2, T2b⟩
  case round =>
    obtain ⟨zs, q, k, hk, rfl, ⟨gr, cc, rfl⟩, ZK, SK, OK, TK⟩ := hrel
    clear O2 T2b
    by_cases hlt : k < np
    · obtain ⟨x9, hx9⟩ : ∃ x, (pumps.take np)[k]? = some x := ⟨_, List.getElem?_eq_getElem (by rw [PL.out]; exact hlt)⟩
      have c1 := TK.out.pc k x9 hx9
      rw [Nat.zero_add] at c1
      have XS := Lib.hid (show x9.size ≤ 8 from small (Or.inl (List.mem_of_mem_take (List.mem_of_getElem? hx9))))
      have XM := Lib.hid (show x9 ∈ pumps from List.mem_of_mem_take (List.mem_of_getElem? hx9))
      clear hx9
      go_wp2_with fail
      refine (below TK.out.rdy 80 (by decide) (by decide)).mono ?_
      rintro e w3 ⟨m, hm, rfl, k1, k2⟩
      have T3 := Lib.hid (TK.out.next k2 k1)
      have O3 := Lib.hid (row_next OK.out k2 NE.out)
      clear k1 k2 TK OK
      have RR := Lib.hid (show Rd w3 w3.heap.size (some ⟨gr, 0, none⟩) (dls zs) from Rd.own O3.out)
      have hq8 : q ≤ 8 := by have := SK.out.1.len; have := ZK.out; omega
      have AD := Lib.hid (addS gr 0 q cc zs x9 1 ⟨#[]⟩ 0 0 0 0 m w3 ZK.out (by omega) SK.out.1.sizes (Nat.le_trans XS.out (by decide)) (Nat.le_trans (show (⟨#[]⟩ : ByteArray).size ≤ 8 by decide) (by decide)) RR.out)
      obtain ⟨L, hL⟩ : ∃ L, adL zs ⟨x9, 1, ⟨#[]⟩, 0, 0, 0, 0, m⟩ = L := ⟨_, rfl⟩
      have SL := Lib.hid (show Rn L ∧ (k + 1 = 0 → L = []) ∧ (0 < k + 1 → 1 ≤ L.length) by rw [← hL]; exact ⟨SK.out.1.next XS.out (show (⟨#[]⟩ : ByteArray).size ≤ 8 by decide), (fun h => by omega), (fun _ => (Nat.eq_zero_or_pos k).elim (fun h => by rw [SK.out.2.1 h, first_pump XM.out hm.1 hm.2]; exact Nat.le_refl _) (fun h => Nat.le_trans (SK.out.2.2 h) (adL_more _ _)))⟩)
      obtain ⟨ag, hag⟩ : ∃ b, adG zs ⟨x9, 1, ⟨#[]⟩, 0, 0, 0, 0, m⟩ = b := ⟨_, rfl⟩
      obtain ⟨q2, hq2⟩ : ∃ q2, L.length = q2 := ⟨_, rfl⟩
      rw [hL, hag] at AD
      unfold RowB at AD
      rw [hq2] at AD
      have HQ2 := Lib.hid hq2
      clear hL hag hq2 RR hq8
      clear hm c1
      go_wp2_with fail
      refine AD.out.mono ?_
      rintro e w4 ⟨g4, c4, rfl, ho, hb⟩
      have O4 := Lib.hid (owns_base ho (Nat.le_trans T3.out.gr.size (ho.lt g4 rfl).1))
      have T4 := Lib.hid (T3.out.below hb)
      clear ho hb AD O3 T3
      go_wp2_with fail
      go_roundw
      case rel => exact ⟨L, q2, k + 1, by omega, by go_num, ⟨_, _, rfl⟩, HQ2, SL, O4, T4⟩
      case measure => simp [intOf]; omega
    · obtain rfl : k = np := by omega
      clear hlt hk
      have LTB := Lib.hid TK.out.gr.size
      have SK2 := Lib.hid (And.intro SK.out.1 (SK.out.2.2 hnp1))
      have TN := Lib.hid (show St w (wr.alloc (.cells (Strs.strs nozzles).toArray 9)) g A n c bs (w.heap.size + 1) wr.heap.size (pumps.take k) nozzles from
        ⟨(TK.out.alloc _).rdy, (TK.out.alloc _).gr, (TK.out.alloc _).pc, cells_str wr nozzles 9, TK.out.pn, by have := TK.out.rdy.cur.lt; omega⟩)
      have ON := Lib.hid (OK.out.alloc (.cells (Strs.strs nozzles).toArray 9))
      clear TK OK
      go_wp2_with fail
      refine (below TN.out.rdy 5 (by decide) (by decide)).mono ?_
      rintro e w1b ⟨y, hy, rfl, k1, k2⟩
      obtain ⟨nn, rfl⟩ : ∃ k : Nat, y = (k : Int) := ⟨y.toNat, by omega⟩
      have T5 := Lib.hid (TN.out.next k2 k1)
      have O5 := Lib.hid (row_next ON.out k2 NE.out)
      clear k1 k2 TN ON
      have hnn4 : nn ≤ 4 := by omega
      obtain ⟨np, hnp⟩ : ∃ np, np = k := ⟨_, rfl⟩
      obtain rfl := hnp
      have NL := Lib.hid (show (nozzles.take nn).length = nn by rw [List.length_take]; show min nn 4 = nn; omega)
      obtain ⟨nb, hnb⟩ : ∃ nb, nb = wr.heap.size := ⟨_, rfl⟩
      have T5b := Lib.hid (show St w w1b g A n c bs (w.heap.size + 1) wr.heap.size (pumps.take np) (nozzles.take nn) from ⟨T5.out.rdy, T5.out.gr, T5.out.pc, fun j z hz => T5.out.nc j z (by rw [List.getElem?_take] at hz; split at hz; exact hz; cases hz), T5.out.pn, T5.out.nn⟩)
      rw [← hnb] at T5b
      clear hy T5
      go_wp2_with fail
      rw [← hnb]
      clear hnb
      go_loopw [3, 38] (fun lv iv wr => ∃ (zs : List D) (q k : Nat), k ≤ nn ∧ iv = .int .i64 k ∧ (∃ gr cc : Nat, lv = .slice (some ⟨gr, 0, none⟩) q cc) ∧ Hid (zs.length = q) ∧ Hid (Rn zs ∧ 1 ≤ zs.length) ∧ Hid (wr.ownsRow w.heap.size 28 8 lv q (dls zs)) ∧ Hid (St w wr g A n c bs (w.heap.size + 1) nb (pumps.take np) (nozzles.take nn))) (fun _ i _ => nn - (intOf i).toNat)
      case atStart => exact ⟨zs, q, 0, Nat.zero_le _, rfl, ⟨_, _, rfl⟩, ZK, SK2, O5, T5b⟩
      case round =>
        clear ZK SK SK2 O5 T5b
        obtain ⟨zs, q, k, hk, rfl, ⟨gr, cc, rfl⟩, ZK, SK, OK, TK⟩ := hrel
        by_cases hlt : k < nn
        · obtain ⟨x9, hx9⟩ : ∃ x, (nozzles.take nn)[k]? = some x := ⟨_, List.getElem?_eq_getElem (by rw [NL.out]; exact hlt)⟩
          have c1 := TK.out.nc k x9 hx9
          rw [Nat.zero_add] at c1
          have XS := Lib.hid (show x9.size ≤ 8 from small (Or.inr (Or.inl (List.mem_of_mem_take (List.mem_of_getElem? hx9)))))
          have P9 := pickS TK.out.rdy (w.heap.size + 1) 0 2 (pumps.take np) TK.out.pn (by rw [PL.out]; exact hnp1) (by rw [PL.out]; omega) TK.out.pc
          rw [PL.out] at P9
          have P9 := Lib.hid P9
          clear hx9
          go_wp2_with fail
          refine P9.out.mono ?_
          rintro e w3 ⟨s9, hs9, rfl, k1, k2⟩
          have T3 := Lib.hid (TK.out.next k2 k1)
          have O3 := Lib.hid (row_next OK.out k2 NE.out)
          clear k1 k2 TK OK
          have XL := Lib.hid (show s9.size ≤ 8 from small (Or.inl (List.mem_of_mem_take hs9)))
          clear hs9 P9
          go_wp2_with fail
          refine (l6Nozzle T3.out.rdy x9 s9).mono ?_
          rintro e w4 ⟨i0, i1, i2, i3, i4, i5, i6, i7, hi, rfl, k1, k2⟩
          have T4 := Lib.hid (T3.out.next k2 k1)
          have O4 := Lib.hid (row_next O3.out k2 NE.out)
          clear k1 k2 T3 O3
          have DN := Lib.hid (show i0.size ≤ 8 by have h9 : i0 = x9 := hi.1; rw [h9]; exact XS.out)
          have DL := Lib.hid (show i2.size ≤ 8 by have h9 : i2 = s9 := hi.2.2.1; rw [h9]; exact XL.out)
          clear hi c1
          have RR := Lib.hid (show Rd w4 w4.heap.size (some ⟨gr, 0, none⟩) (dls zs) from Rd.own O4.out)
          have hq8 : q ≤ 8 := by have := SK.out.1.len; have := ZK.out; omega
          have AD := Lib.hid (addS gr 0 q cc zs i0 i1 i2 i3 i4 i5 i6 i7 w4 ZK.out (by omega) SK.out.1.sizes (Nat.le_trans DN.out (by decide)) (Nat.le_trans DL.out (by decide)) RR.out)
          obtain ⟨L, hL⟩ : ∃ L, adL zs ⟨i0, i1, i2, i3, i4, i5, i6, i7⟩ = L := ⟨_, rfl⟩
          have SL := Lib.hid (show Rn L ∧ 1 ≤ L.length by rw [← hL]; exact ⟨SK.out.1.next DN.out DL.out, Nat.le_trans SK.out.2 (adL_more _ _)⟩)
          obtain ⟨ag, hag⟩ : ∃ b, adG zs ⟨i0, i1, i2, i3, i4, i5, i6, i7⟩ = b := ⟨_, rfl⟩
          obtain ⟨q2, hq2⟩ : ∃ q2, L.length = q2 := ⟨_, rfl⟩
          rw [hL, hag] at AD
          unfold RowB at AD
          rw [hq2] at AD
          have HQ2 := Lib.hid hq2
          clear hL hag hq2 RR hq8
          go_wp2_with fail
          refine AD.out.mono ?_
          rintro e w5 ⟨g4, c4, rfl, ho, hb⟩
          have O5 := Lib.hid (owns_base ho (Nat.le_trans T4.out.gr.size (ho.lt g4 rfl).1))
          have T5 := Lib.hid (T4.out.below hb)
          clear ho hb AD O4 T4
          go_wp2_with fail
          go_roundw
          case rel => exact ⟨L, q2, k + 1, by omega, by go_num, ⟨_, _, rfl⟩, HQ2, SL, O5, T5⟩
          case measure => simp [intOf]; omega
        · obtain rfl : k = nn := by omega
          clear hlt hk
          by_cases h0 : k = 0
          · subst h0
            go_wp2_with fail
            go_ret
            exact ⟨zs, q, gr, cc, ZK.out, by rw [← ZK.out]; exact SK.out.2, SK.out.1, rfl, OK.out, TK.out.rdy.cur, TK.out.gr⟩
          · have hk1 : 1 ≤ k := by omega
            have hkp : (0 : Int) < (k : Int) := by omega
            clear h0
            go_wp2_with fail
            refine (once TK.out.rdy 2 (by decide) (by decide)).mono ?_
            rintro e w3 ⟨bq, rfl, k1, k2⟩
            have T3 := Lib.hid (TK.out.next k2 k1)
            have O3 := Lib.hid (row_next OK.out k2 NE.out)
            clear k1 k2 TK OK
            cases bq
            · go_wp2_with fail
              go_ret
              exact ⟨zs, q, gr, cc, ZK.out, by rw [← ZK.out]; exact SK.out.2, SK.out.1, rfl, O3.out, T3.out.rdy.cur, T3.out.gr⟩
            · have hlt3 := T3.out.rdy.cur.lt
              have T4 := Lib.hid (T3.out.alloc (.cells (Strs.strs lamps).toArray 9))
              have O4 := Lib.hid (O3.out.alloc (.cells (Strs.strs lamps).toArray 9))
              have P9 := Lib.hid (pickS T4.out.rdy w3.heap.size 0 2 lamps (by omega) (by decide) (by decide) (cells_str w3 lamps 9))
              clear T3 O3 hlt3
              go_wp2_with fail
              refine P9.out.mono ?_
              rintro e w5 ⟨x9, hx9, rfl, k1, k2⟩
              have T5 := Lib.hid (T4.out.next k2 k1)
              have O5 := Lib.hid (row_next O4.out k2 NE.out)
              clear k1 k2 T4 O4
              have XS := Lib.hid (show x9.size ≤ 8 from small (Or.inr (Or.inr hx9)))
              clear hx9 P9
              have P9 := pickS T5.out.rdy nb 0 4 (nozzles.take k) T5.out.nn (by rw [NL.out]; exact hk1) (by rw [NL.out]; omega) T5.out.nc
              rw [NL.out] at P9
              have P9 := Lib.hid P9
              go_wp2_with fail
              refine P9.out.mono ?_
              rintro e w6 ⟨s9, hs9, rfl, k1, k2⟩
              have T6 := Lib.hid (T5.out.next k2 k1)
              have O6 := Lib.hid (row_next O5.out k2 NE.out)
              clear k1 k2 T5 O5
              have XL := Lib.hid (show s9.size ≤ 8 from small (Or.inr (Or.inl (List.mem_of_mem_take hs9))))
              clear hs9 P9
              go_wp2_with fail
              refine (l2DrawV T6.out.rdy).mono ?_
              rintro e w7 ⟨px, py, hpx, hpy, rfl, k1, k2⟩
              have T7 := Lib.hid (T6.out.next k2 k1)
              have O7 := Lib.hid (row_next O6.out k2 NE.out)
              clear k1 k2 T6 O6
              clear hpx hpy
              have RR := Lib.hid (show Rd w7 w7.heap.size (some ⟨gr, 0, none⟩) (dls zs) from Rd.own O7.out)
              have hq8 : q ≤ 8 := by have := SK.out.1.len; have := ZK.out; omega
              have AD := Lib.hid (addS gr 0 q cc zs x9 3 s9 px py 0 0 0 w7 ZK.out (by omega) SK.out.1.sizes (Nat.le_trans XS.out (by decide)) (Nat.le_trans XL.out (by decide)) RR.out)
              obtain ⟨L, hL⟩ : ∃ L, adL zs ⟨x9, 3, s9, px, py, 0, 0, 0⟩ = L := ⟨_, rfl⟩
              have SL := Lib.hid (show Rn L ∧ 1 ≤ L.length by rw [← hL]; exact ⟨SK.out.1.next XS.out XL.out, Nat.le_trans SK.out.2 (adL_more _ _)⟩)
              obtain ⟨ag, hag⟩ : ∃ b, adG zs ⟨x9, 3, s9, px, py, 0, 0, 0⟩ = b := ⟨_, rfl⟩
              obtain ⟨q2, hq2⟩ : ∃ q2, L.length = q2 := ⟨_, rfl⟩
              rw [hL, hag] at AD
              unfold RowB at AD
              rw [hq2] at AD
              have HQ2 := Lib.hid hq2
              clear hL hag hq2 RR hq8
              go_wp2_with fail
              refine AD.out.mono ?_
              rintro e w8 ⟨g4, c4, rfl, ho, hb⟩
              have O8 := Lib.hid (owns_base ho (Nat.le_trans T7.out.gr.size (ho.lt g4 rfl).1))
              have T8 := Lib.hid (T7.out.below hb)
              clear ho hb AD O7 T7
              go_wp2_with fail
              go_ret
              exact ⟨L, q2, g4, c4, HQ2.out, by rw [← HQ2.out]; exact SL.out.2, SL.out.1, rfl, O8.out, T8.out.rdy.cur, T8.out.gr⟩

/-- What the draw of a rig for a law leaves. -/
def DrawnR (w : World) (e : Ending) (w' : World) : Prop :=
  ∃ (zs : List D) (q gr cc : Nat), zs.length = q ∧ 1 ≤ q ∧ Rn zs ∧ e = .returned (.slice (some ⟨gr, 0, none⟩) q cc) ∧ w'.ownsRow w.heap.size 28 8 (.slice (some ⟨gr, 0, none⟩) q cc) q (dls zs) ∧ Below w.heap.size w w'

end Go.Proofs.Ytgcheplneolonab.Dr6
namespace Go.Proofs.Ytgcheplneolonab.Dr6
open Go.RowKit Go.ChangeShapes Go.WideShapes Go.WideElems Go.Deep Go.Proofs.Ytgcheplneolonab.Mem Go.Proofs.Ytgcheplneolonab.Rw Go.Proofs.Ytgcheplneolonab.Pw Go.Proofs.Ytgcheplneolonab.P2 Go.Proofs.Ytgcheplneolonab.Dd Go.Proofs.Ytgcheplneolonab.Dv Go.Proofs.Ytgcheplneolonab.Dl Go.Proofs.Ytgcheplneolonab.Ds Go.Proofs.Ytgcheplneolonab.Fd Go.Proofs.Ytgcheplneolonab.Ch Go.Proofs.Ytgcheplneolonab.Hn Go.Proofs.Ytgcheplneolonab.Po
set_option linter.unusedVariables false
set_option linter.unusedSimpArgs false
open Go.Proofs.Ytgcheplneolonab.Ho Go.Proofs.Ytgcheplneolonab.Ig Go.Proofs.Ytgcheplneolonab.Mo Go.Proofs.Ytgcheplneolonab.Adn Go.Proofs.Ytgcheplneolonab.Ad Go.Proofs.Ytgcheplneolonab.Rz Go.Proofs.Ytgcheplneolonab.Bxd Go.Proofs.Ytgcheplneolonab.Strs Go.Proofs.Ytgcheplneolonab.Drs Go.Proofs.Ytgcheplneolonab.Jt Go.Proofs.Ytgcheplneolonab.Dp
open Go.Proofs.Ytgcheplneolonab.Draw (Cur Ready Got GotB u8s below once some_ odd pick cells_at new Fresh)
open Go.Proofs.Ytgcheplneolonab.Dr2 (HB cur_set)
open Go.Proofs.Ytgcheplneolonab.Dr4 (l3Draw l2DrawV)
open Go.Proofs.Ytgcheplneolonab.Rw (owns_below owns_grown owns_base)

def words : List ByteArray := [⟨#[97]⟩, ⟨#[98]⟩, ⟨#[106, 101, 116, 49]⟩, ⟨#[112]⟩, ⟨#[122, 122, 57]⟩, ⟨#[108, 97, 109, 112]⟩, ⟨#[97, 98, 99, 100, 101, 102, 103, 104]⟩, ⟨#[97, 98, 99, 100, 101, 102, 103, 104, 105]⟩, ⟨#[]⟩, ⟨#[57, 97]⟩, ⟨#[65]⟩, ⟨#[97, 32, 98]⟩, ⟨#[97, 45, 98]⟩]
def anyNames : List ByteArray := [⟨#[97]⟩, ⟨#[98]⟩, ⟨#[99]⟩, ⟨#[114]⟩, ⟨#[112]⟩, ⟨#[113]⟩, ⟨#[108, 97, 109, 112]⟩, ⟨#[122]⟩, ⟨#[110, 111]⟩]
def late : List ByteArray := [⟨#[115]⟩, ⟨#[116]⟩, ⟨#[117]⟩, ⟨#[118]⟩, ⟨#[119]⟩, ⟨#[120]⟩]
theorem words9 {x : ByteArray} (h : x ∈ words) : x.size ≤ 9 := by
  unfold words at h
  simp only [List.mem_cons, List.not_mem_nil, or_false] at h
  rcases h with h | h | h | h | h | h | h | h | h | h | h | h | h <;> subst h <;> decide
theorem names9 {x : ByteArray} (h : x ∈ anyNames) : x.size ≤ 9 := by
  unfold anyNames at h
  simp only [List.mem_cons, List.not_mem_nil, or_false] at h
  rcases h with h | h | h | h | h | h | h | h | h <;> subst h <;> decide
theorem late9 {x : ByteArray} (h : x ∈ late) : x.size ≤ 9 := by
  unfold late at h
  simp only [List.mem_cons, List.not_mem_nil, or_false] at h
  rcases h with h | h | h | h | h | h <;> subst h <;> decide

set_option maxRecDepth 100000 in
set_option maxHeartbeats 1000000 in
theorem l1Word {w : World} {g n c : Nat} {A : Option Addr} {bs : List UInt8} (h : Ready w g A n c bs) :
    Calls Try.prog 47 #[.pointer (some ⟨g, 0, none⟩)] w (GotN words w g A n c) := by
  have hlt := h.cur.lt
  have P := Lib.hid (pickS (h.alloc (.cells (Strs.strs words).toArray 9)) w.heap.size 0 13 words (by omega) (by decide) (by decide) (cells_str w words 9))
  have G0 := Lib.hid (World.grownBy_alloc w (.cells (Strs.strs words).toArray 9) (some g))
  clear h hlt
  go_enter Try.func47, Try.ntmps47
  go_wp2_with fail
  refine P.out.mono ?_
  rintro e w1 ⟨x, hx, rfl, k1, k2⟩
  have K := Lib.hid k1
  have G1 := Lib.hid (Draw.grown_trans G0.out k2)
  have X := Lib.hid hx
  clear k1 k2 hx P
  go_wp2_with fail
  go_ret
  exact ⟨x, X.out, rfl, K.out, G1.out⟩

set_option maxRecDepth 100000 in
set_option maxHeartbeats 1000000 in
theorem l6Name {w : World} {g n c : Nat} {A : Option Addr} {bs : List UInt8} (h : Ready w g A n c bs) :
    Calls Try.prog 44 #[.pointer (some ⟨g, 0, none⟩)] w (GotN anyNames w g A n c) := by
  have hlt := h.cur.lt
  have P := Lib.hid (pickS (h.alloc (.cells (Strs.strs anyNames).toArray 9)) w.heap.size 0 9 anyNames (by omega) (by decide) (by decide) (cells_str w anyNames 9))
  have G0 := Lib.hid (World.grownBy_alloc w (.cells (Strs.strs anyNames).toArray 9) (some g))
  clear h hlt
  go_enter Try.func44, Try.ntmps44
  go_wp2_with fail
  refine P.out.mono ?_
  rintro e w1 ⟨x, hx, rfl, k1, k2⟩
  have K := Lib.hid k1
  have G1 := Lib.hid (Draw.grown_trans G0.out k2)
  have X := Lib.hid hx
  clear k1 k2 hx P
  go_wp2_with fail
  go_ret
  exact ⟨x, X.out, rfl, K.out, G1.out⟩

/-- One cell of a device, written. -/
theorem set_nm {w : World} {b : Nat} {n : ByteArray} {q : Int} {l : ByteArray} {x y h t m : Int} (hh : Bx w b ⟨n, q, l, x, y, h, t, m⟩) (v : ByteArray) : Bx (w.setCell ⟨b, 0, none⟩ (.string v)) b ⟨v, q, l, x, y, h, t, m⟩ := heap_setCell_same w b 0 _ _ _ hh
theorem set_kd {w : World} {b : Nat} {n : ByteArray} {q : Int} {l : ByteArray} {x y h t m : Int} (hh : Bx w b ⟨n, q, l, x, y, h, t, m⟩) (v : Int) : Bx (w.setCell ⟨b, 1, none⟩ (.int .i64 v)) b ⟨n, v, l, x, y, h, t, m⟩ := heap_setCell_same w b 1 _ _ _ hh
theorem set_ln {w : World} {b : Nat} {n : ByteArray} {q : Int} {l : ByteArray} {x y h t m : Int} (hh : Bx w b ⟨n, q, l, x, y, h, t, m⟩) (v : ByteArray) : Bx (w.setCell ⟨b, 2, none⟩ (.string v)) b ⟨n, q, v, x, y, h, t, m⟩ := heap_setCell_same w b 2 _ _ _ hh
theorem set_x {w : World} {b : Nat} {n : ByteArray} {q : Int} {l : ByteArray} {x y h t m : Int} (hh : Bx w b ⟨n, q, l, x, y, h, t, m⟩) (v : Int) : Bx (w.setCell ⟨b, 3, none⟩ (.int .i64 v)) b ⟨n, q, l, v, y, h, t, m⟩ := heap_setCell_same w b 3 _ _ _ hh
theorem set_y {w : World} {b : Nat} {n : ByteArray} {q : Int} {l : ByteArray} {x y h t m : Int} (hh : Bx w b ⟨n, q, l, x, y, h, t, m⟩) (v : Int) : Bx (w.setCell ⟨b, 4, none⟩ (.int .i64 v)) b ⟨n, q, l, x, v, h, t, m⟩ := heap_setCell_same w b 4 _ _ _ hh
theorem set_hd {w : World} {b : Nat} {n : ByteArray} {q : Int} {l : ByteArray} {x y h t m : Int} (hh : Bx w b ⟨n, q, l, x, y, h, t, m⟩) (v : Int) : Bx (w.setCell ⟨b, 5, none⟩ (.int .i64 v)) b ⟨n, q, l, x, y, v, t, m⟩ := heap_setCell_same w b 5 _ _ _ hh
theorem set_tl {w : World} {b : Nat} {n : ByteArray} {q : Int} {l : ByteArray} {x y h t m : Int} (hh : Bx w b ⟨n, q, l, x, y, h, t, m⟩) (v : Int) : Bx (w.setCell ⟨b, 6, none⟩ (.int .i64 v)) b ⟨n, q, l, x, y, h, v, m⟩ := heap_setCell_same w b 6 _ _ _ hh
theorem set_ms {w : World} {b : Nat} {n : ByteArray} {q : Int} {l : ByteArray} {x y h t m : Int} (hh : Bx w b ⟨n, q, l, x, y, h, t, m⟩) (v : Int) : Bx (w.setCell ⟨b, 7, none⟩ (.int .i64 v)) b ⟨n, q, l, x, y, h, t, v⟩ := heap_setCell_same w b 7 _ _ _ hh

/-- What stands in the draw of a device: the cursor, the block of the answer, and that of the device. -/
structure Sa (w wr : World) (g : Nat) (A : Option Addr) (n c : Nat) (bs : List UInt8) (rb jb : Nat) (s : ByteArray) (q : Int) (l : ByteArray) (x y h t m : Int) : Prop where
  rdy : Ready wr g A n c bs
  gr : w.grownBy wr (some g)
  res : Bx wr rb ⟨⟨#[]⟩, 0, ⟨#[]⟩, 0, 0, 0, 0, 0⟩
  dev : Bx wr jb ⟨s, q, l, x, y, h, t, m⟩
  n1 : rb ≠ jb
  l1 : w.heap.size ≤ rb
  l2 : w.heap.size ≤ jb
  l3 : g < rb
  l4 : g < jb
  s1 : s.size ≤ 9
  s2 : l.size ≤ 9
section
variable {w wr w' : World} {g : Nat} {A : Option Addr} {n c : Nat} {bs : List UInt8} {rb jb : Nat} {s : ByteArray} {q : Int} {l : ByteArray} {x y h t m : Int}
theorem Sa.next (k : Sa w wr g A n c bs rb jb s q l x y h t m) (k2 : wr.grownBy w' (some g)) (k1 : Cur w' g A n c) : Sa w w' g A n c bs rb jb s q l x y h t m :=
  ⟨k.rdy.next k2 k1, Draw.grown_trans k.gr k2, k.res.grown k2 (fun e => by have := Option.some.inj e; have := k.l3; omega), k.dev.grown k2 (fun e => by have := Option.some.inj e; have := k.l4; omega), k.n1, k.l1, k.l2, k.l3, k.l4, k.s1, k.s2⟩
theorem rd_other {A : Option Addr} {xs : List Value} {b j : Nat} {v : Value} (h : Rd w g A xs) (hb : g < b) : Rd (w.setCell ⟨b, j, none⟩ v) g A xs := Dr2.rd_set h hb j v
theorem Sa.one (k : Sa w wr g A n c bs rb jb s q l x y h t m) {j : Nat} {v : Value} {s' : ByteArray} {q' : Int} {l' : ByteArray} {x' y' h' t' m' : Int} (hd : Bx (wr.setCell ⟨jb, j, none⟩ v) jb ⟨s', q', l', x', y', h', t', m'⟩) (h1 : s'.size ≤ 9) (h2 : l'.size ≤ 9) : Sa w (wr.setCell ⟨jb, j, none⟩ v) g A n c bs rb jb s' q' l' x' y' h' t' m' :=
  ⟨⟨k.rdy.len, k.rdy.max, Dr2.rd_set k.rdy.rd k.l4 _ _, cur_set k.rdy.cur (by have := k.l4; omega) _ _⟩, Dr2.grown_set k.gr k.l2 _ _, k.res.other _ _ k.n1, hd, k.n1, k.l1, k.l2, k.l3, k.l4, h1, h2⟩
theorem Sa.all (k : Sa w wr g A n c bs rb jb s q l x y h t m) (d : D) (h1 : d.nm.size ≤ 9) (h2 : d.ln.size ≤ 9) : Sa w (put8 wr jb d) g A n c bs rb jb d.nm d.kd d.ln d.x d.y d.hd d.tl d.ms :=
  ⟨put8_ready k.rdy k.l4 d, put8_grown k.gr k.l2 d, (put8_block k.n1 d).trans k.res, bx_put k.dev d, k.n1, k.l1, k.l2, k.l3, k.l4, h1, h2⟩
end
def Any (d : D) : Prop := d.nm.size ≤ 9 ∧ d.ln.size ≤ 9

set_option maxRecDepth 100000 in
set_option maxHeartbeats 8000000 in
theorem l6Any {w : World} {g n c : Nat} {A : Option Addr} {bs : List UInt8} (hr : Ready w g A n c bs) :
    Calls Try.prog 23 #[.pointer (some ⟨g, 0, none⟩)] w (GotD Any w g A n c) := by
  have hlt := hr.cur.lt
  have H1 := Lib.hid (hr.alloc (.cells (ca ⟨#[]⟩ 0 ⟨#[]⟩ 0 0 0 0 0) 28))
  have G1 := Lib.hid (World.grownBy_alloc w (.cells (ca ⟨#[]⟩ 0 ⟨#[]⟩ 0 0 0 0 0) 28) (some g))
  have B1 := Lib.hid (Bx.new w ⟨#[]⟩ 0 ⟨#[]⟩ 0 0 0 0 0)
  have NE := Lib.hid (show w.heap.size ≠ g by omega)
  have LT := Lib.hid hlt
  clear hr hlt
  go_enter Try.func23, Try.ntmps23
  go_wp2_with fail
  refine (l6Name H1.out).mono ?_
  rintro e w1 ⟨s1, hs1, rfl, k1, k2⟩
  have H2 := Lib.hid (H1.out.next k2 k1)
  have G2 := Lib.hid (Draw.grown_trans G1.out k2)
  have B2 := Lib.hid (B1.out.grown k2 (fun e => NE.out (Option.some.inj e)))
  have N1 := Lib.hid (names9 hs1)
  clear k1 k2 hs1 H1 G1 B1
  go_wp2_with fail
  refine (l6Name H2.out).mono ?_
  rintro e w2 ⟨s2, hs2, rfl, k1, k2⟩
  have H3 := Lib.hid (H2.out.next k2 k1)
  have G3 := Lib.hid (Draw.grown_trans G2.out k2)
  have B3 := Lib.hid (B2.out.grown k2 (fun e => NE.out (Option.some.inj e)))
  have N2 := Lib.hid (names9 hs2)
  clear k1 k2 hs2 H2 G2 B2
  go_wp2_with fail
  refine (l6Nozzle H3.out s1 s2).mono ?_
  rintro e w3 ⟨s, q, l, x, y, h, t, m, hd, rfl, k1, k2⟩
  have H4 := H3.out.next k2 k1
  have B4 := B3.out.grown k2 (fun e => NE.out (Option.some.inj e))
  have S0 : Sa w (w3.alloc (.cells (ca s q l x y h t m) 28)) g A n c bs w.heap.size w3.heap.size s q l x y h t m :=
    ⟨H4.alloc _, Dr2.grown_alloc (Draw.grown_trans G3.out k2) _, B4.alloc _, Bx.new w3 s q l x y h t m, Nat.ne_of_lt B4.lt, Nat.le_refl _, Nat.le_of_lt B4.lt, LT.out, k1.lt, by have h9 : s = s1 := hd.1; rw [h9]; exact N1.out, by have h9 : l = s2 := hd.2.2.1; rw [h9]; exact N2.out⟩
  have S := Lib.hid S0
  clear k1 k2 H4 B4 S0 hd H3 G3 B3 N1 N2 NE LT
  go_wp2_with fail
  refine (below S.out.rdy 9 (by decide) (by decide)).mono ?_
  rintro e w4 ⟨i, ⟨i1, i2⟩, rfl, k1, k2⟩
  have S := Lib.hid (S.out.next k2 k1)
  generalize w3.heap.size = jb at *
  clear k1 k2
  rcases (by omega : i = 0 ∨ i = 1 ∨ i = 2 ∨ i = 3 ∨ i = 4 ∨ i = 5 ∨ 6 ≤ i) with rfl | rfl | rfl | rfl | rfl | rfl | h6
  · clear i1 i2
    go_wp2_with fail
    refine (l6Name S.out.rdy).mono ?_
    rintro e w5 ⟨p1, hp1, rfl, k1, k2⟩
    have S := Lib.hid (S.out.next k2 k1)
    clear k1 k2
    have P1 := Lib.hid (names9 hp1)
    clear hp1
    go_wp2_with fail
    refine (below S.out.rdy 600 (by decide) (by decide)).mono ?_
    rintro e w6 ⟨u6, hu6, rfl, k1, k2⟩
    have S := Lib.hid (S.out.next k2 k1)
    clear k1 k2
    clear hu6
    obtain ⟨a0, a1, a2, a3, a4, a5, a6, a7⟩ := S.out.dev.c
    have fz := S.out.dev.f
    have S := Lib.hid (S.out.all ⟨p1, 1, ⟨#[]⟩, 0, 0, 0, 0, u6⟩ P1.out (show (⟨#[]⟩ : ByteArray).size ≤ 9 by decide))
    go_wp2_with fail
    clear a0 a1 a2 a3 a4 a5 a6 a7 fz
    have S := Lib.hid S.out
    refine (below S.out.rdy 12 (by decide) (by decide)).mono ?_
    rintro e w8 ⟨i9, ⟨i91, i92⟩, rfl, k1, k2⟩
    have S := Lib.hid (S.out.next k2 k1)
    clear k1 k2
    rcases (by omega : i9 = 0 ∨ i9 = 1 ∨ i9 = 2 ∨ 3 ≤ i9) with rfl | rfl | rfl | h9
    · clear i91 i92
      go_wp2_with fail
      refine (l1Word S.out.rdy).mono ?_
      rintro e w9 ⟨v9, hv9, rfl, k1, k2⟩
      have S := Lib.hid (S.out.next k2 k1)
      clear k1 k2
      have V9 := Lib.hid (words9 hv9)
      clear hv9
      obtain ⟨a0, a1, a2, a3, a4, a5, a6, a7⟩ := S.out.dev.c
      have fz := S.out.dev.f
      obtain ⟨b0, b1, b2, b3, b4, b5, b6, b7⟩ := S.out.res.c
      have gz := S.out.res.f
      have m3 := S.out.n1
      have m4 := m3.symm
      have T := Lib.hid (S.out.one (set_nm S.out.dev v9) V9.out S.out.s2)
      go_wp2_with fail
      obtain ⟨s0, s1, s2, s3, s4, s5, s6, s7⟩ := (bx_put T.out.res ⟨v9, 1, ⟨#[]⟩, 0, 0, 0, 0, u6⟩).c
      have C9 := Lib.hid (put8_cur T.out.rdy.cur (Nat.ne_of_lt T.out.l3) ⟨v9, 1, ⟨#[]⟩, 0, 0, 0, 0, u6⟩)
      have G9 := Lib.hid (put8_grown T.out.gr T.out.l1 ⟨v9, 1, ⟨#[]⟩, 0, 0, 0, 0, u6⟩)
      unfold put8 at s0 s1 s2 s3 s4 s5 s6 s7
      (try simp only [Exit.inBlock, Exit.then])
      refine bodyPost_ret (v := va v9 1 ⟨#[]⟩ 0 0 0 0 u6) (by simp only [results, Try.results23, s0, s1, s2, s3, s4, s5, s6, s7]; simp [go_sem, s0, s1, s2, s3, s4, s5, s6, s7]; try rfl) rfl ?_
      exact ⟨v9, 1, ⟨#[]⟩, 0, 0, 0, 0, u6, ⟨T.out.s1, T.out.s2⟩, rfl, C9.out, G9.out⟩
    · clear i91 i92
      go_wp2_with fail
      refine (odd S.out.rdy).mono ?_
      rintro e w9 ⟨v9, hv9, rfl, k1, k2⟩
      have S := Lib.hid (S.out.next k2 k1)
      clear k1 k2
      clear hv9
      obtain ⟨a0, a1, a2, a3, a4, a5, a6, a7⟩ := S.out.dev.c
      have fz := S.out.dev.f
      obtain ⟨b0, b1, b2, b3, b4, b5, b6, b7⟩ := S.out.res.c
      have gz := S.out.res.f
      have m3 := S.out.n1
      have m4 := m3.symm
      have T := Lib.hid (S.out.one (set_tl S.out.dev v9) S.out.s1 S.out.s2)
      go_wp2_with fail
      obtain ⟨s0, s1, s2, s3, s4, s5, s6, s7⟩ := (bx_put T.out.res ⟨p1, 1, ⟨#[]⟩, 0, 0, 0, v9, u6⟩).c
      have C9 := Lib.hid (put8_cur T.out.rdy.cur (Nat.ne_of_lt T.out.l3) ⟨p1, 1, ⟨#[]⟩, 0, 0, 0, v9, u6⟩)
      have G9 := Lib.hid (put8_grown T.out.gr T.out.l1 ⟨p1, 1, ⟨#[]⟩, 0, 0, 0, v9, u6⟩)
      unfold put8 at s0 s1 s2 s3 s4 s5 s6 s7
      (try simp only [Exit.inBlock, Exit.then])
      refine bodyPost_ret (v := va p1 1 ⟨#[]⟩ 0 0 0 v9 u6) (by simp only [results, Try.results23, s0, s1, s2, s3, s4, s5, s6, s7]; simp [go_sem, s0, s1, s2, s3, s4, s5, s6, s7]; try rfl) rfl ?_
      exact ⟨p1, 1, ⟨#[]⟩, 0, 0, 0, v9, u6, ⟨T.out.s1, T.out.s2⟩, rfl, C9.out, G9.out⟩
    · clear i91 i92
      go_wp2_with fail
      refine (Dr4.l3Any S.out.rdy).mono ?_
      rintro e w9 ⟨x9, y9, h9, t9, l9, rfl, k1, k2⟩
      have S := Lib.hid (S.out.next k2 k1)
      clear k1 k2
      have hfd : ∀ W, (Instr.field 82 (jv x9 y9 h9 t9 l9) 0).run Try.prog W = .ok (.agg #[.int .i64 x9, .int .i64 y9]) W := fun W => by kernel_rfl
      obtain ⟨a0, a1, a2, a3, a4, a5, a6, a7⟩ := S.out.dev.c
      have fz := S.out.dev.f
      obtain ⟨b0, b1, b2, b3, b4, b5, b6, b7⟩ := S.out.res.c
      have gz := S.out.res.f
      have m3 := S.out.n1
      have m4 := m3.symm
      have T := Lib.hid ((S.out.one (set_x S.out.dev x9) S.out.s1 S.out.s2).one (set_y (S.out.one (set_x S.out.dev x9) S.out.s1 S.out.s2).dev y9) S.out.s1 S.out.s2)
      go_wp2_with fail
      obtain ⟨s0, s1, s2, s3, s4, s5, s6, s7⟩ := (bx_put T.out.res ⟨p1, 1, ⟨#[]⟩, x9, y9, 0, 0, u6⟩).c
      have C9 := Lib.hid (put8_cur T.out.rdy.cur (Nat.ne_of_lt T.out.l3) ⟨p1, 1, ⟨#[]⟩, x9, y9, 0, 0, u6⟩)
      have G9 := Lib.hid (put8_grown T.out.gr T.out.l1 ⟨p1, 1, ⟨#[]⟩, x9, y9, 0, 0, u6⟩)
      unfold put8 at s0 s1 s2 s3 s4 s5 s6 s7
      (try simp only [Exit.inBlock, Exit.then])
      refine bodyPost_ret (v := va p1 1 ⟨#[]⟩ x9 y9 0 0 u6) (by simp only [results, Try.results23, s0, s1, s2, s3, s4, s5, s6, s7]; simp [go_sem, s0, s1, s2, s3, s4, s5, s6, s7]; try rfl) rfl ?_
      exact ⟨p1, 1, ⟨#[]⟩, x9, y9, 0, 0, u6, ⟨T.out.s1, T.out.s2⟩, rfl, C9.out, G9.out⟩
    · have e0 : (i9 == 0) = false := by simp; omega
      have e1 : (i9 == 1) = false := by simp; omega
      have e2 : (i9 == 2) = false := by simp; omega
      clear i91 i92 h9
      obtain ⟨a0, a1, a2, a3, a4, a5, a6, a7⟩ := S.out.dev.c
      have fz := S.out.dev.f
      obtain ⟨b0, b1, b2, b3, b4, b5, b6, b7⟩ := S.out.res.c
      have gz := S.out.res.f
      have m3 := S.out.n1
      have m4 := m3.symm
      have T := Lib.hid (S.out)
      go_wp2_with fail
      obtain ⟨s0, s1, s2, s3, s4, s5, s6, s7⟩ := (bx_put T.out.res ⟨p1, 1, ⟨#[]⟩, 0, 0, 0, 0, u6⟩).c
      have C9 := Lib.hid (put8_cur T.out.rdy.cur (Nat.ne_of_lt T.out.l3) ⟨p1, 1, ⟨#[]⟩, 0, 0, 0, 0, u6⟩)
      have G9 := Lib.hid (put8_grown T.out.gr T.out.l1 ⟨p1, 1, ⟨#[]⟩, 0, 0, 0, 0, u6⟩)
      unfold put8 at s0 s1 s2 s3 s4 s5 s6 s7
      (try simp only [Exit.inBlock, Exit.then])
      refine bodyPost_ret (v := va p1 1 ⟨#[]⟩ 0 0 0 0 u6) (by simp only [results, Try.results23, s0, s1, s2, s3, s4, s5, s6, s7]; simp [go_sem, s0, s1, s2, s3, s4, s5, s6, s7]; try rfl) rfl ?_
      exact ⟨p1, 1, ⟨#[]⟩, 0, 0, 0, 0, u6, ⟨T.out.s1, T.out.s2⟩, rfl, C9.out, G9.out⟩
  · clear i1 i2
    go_wp2_with fail
    refine (l6Name S.out.rdy).mono ?_
    rintro e w5 ⟨p1, hp1, rfl, k1, k2⟩
    have S := Lib.hid (S.out.next k2 k1)
    clear k1 k2
    have P1 := Lib.hid (names9 hp1)
    clear hp1
    go_wp2_with fail
    refine (below S.out.rdy 600 (by decide) (by decide)).mono ?_
    rintro e w6 ⟨u6, hu6, rfl, k1, k2⟩
    have S := Lib.hid (S.out.next k2 k1)
    clear k1 k2
    clear hu6
    obtain ⟨a0, a1, a2, a3, a4, a5, a6, a7⟩ := S.out.dev.c
    have fz := S.out.dev.f
    have S := Lib.hid (S.out.all ⟨p1, 1, ⟨#[]⟩, 0, 0, 0, 0, u6⟩ P1.out (show (⟨#[]⟩ : ByteArray).size ≤ 9 by decide))
    go_wp2_with fail
    clear a0 a1 a2 a3 a4 a5 a6 a7 fz
    have S := Lib.hid S.out
    refine (below S.out.rdy 12 (by decide) (by decide)).mono ?_
    rintro e w8 ⟨i9, ⟨i91, i92⟩, rfl, k1, k2⟩
    have S := Lib.hid (S.out.next k2 k1)
    clear k1 k2
    rcases (by omega : i9 = 0 ∨ i9 = 1 ∨ i9 = 2 ∨ 3 ≤ i9) with rfl | rfl | rfl | h9
    · clear i91 i92
      go_wp2_with fail
      refine (l1Word S.out.rdy).mono ?_
      rintro e w9 ⟨v9, hv9, rfl, k1, k2⟩
      have S := Lib.hid (S.out.next k2 k1)
      clear k1 k2
      have V9 := Lib.hid (words9 hv9)
      clear hv9
      obtain ⟨a0, a1, a2, a3, a4, a5, a6, a7⟩ := S.out.dev.c
      have fz := S.out.dev.f
      obtain ⟨b0, b1, b2, b3, b4, b5, b6, b7⟩ := S.out.res.c
      have gz := S.out.res.f
      have m3 := S.out.n1
      have m4 := m3.symm
      have T := Lib.hid (S.out.one (set_nm S.out.dev v9) V9.out S.out.s2)
      go_wp2_with fail
      obtain ⟨s0, s1, s2, s3, s4, s5, s6, s7⟩ := (bx_put T.out.res ⟨v9, 1, ⟨#[]⟩, 0, 0, 0, 0, u6⟩).c
      have C9 := Lib.hid (put8_cur T.out.rdy.cur (Nat.ne_of_lt T.out.l3) ⟨v9, 1, ⟨#[]⟩, 0, 0, 0, 0, u6⟩)
      have G9 := Lib.hid (put8_grown T.out.gr T.out.l1 ⟨v9, 1, ⟨#[]⟩, 0, 0, 0, 0, u6⟩)
      unfold put8 at s0 s1 s2 s3 s4 s5 s6 s7
      (try simp only [Exit.inBlock, Exit.then])
      refine bodyPost_ret (v := va v9 1 ⟨#[]⟩ 0 0 0 0 u6) (by simp only [results, Try.results23, s0, s1, s2, s3, s4, s5, s6, s7]; simp [go_sem, s0, s1, s2, s3, s4, s5, s6, s7]; try rfl) rfl ?_
      exact ⟨v9, 1, ⟨#[]⟩, 0, 0, 0, 0, u6, ⟨T.out.s1, T.out.s2⟩, rfl, C9.out, G9.out⟩
    · clear i91 i92
      go_wp2_with fail
      refine (odd S.out.rdy).mono ?_
      rintro e w9 ⟨v9, hv9, rfl, k1, k2⟩
      have S := Lib.hid (S.out.next k2 k1)
      clear k1 k2
      clear hv9
      obtain ⟨a0, a1, a2, a3, a4, a5, a6, a7⟩ := S.out.dev.c
      have fz := S.out.dev.f
      obtain ⟨b0, b1, b2, b3, b4, b5, b6, b7⟩ := S.out.res.c
      have gz := S.out.res.f
      have m3 := S.out.n1
      have m4 := m3.symm
      have T := Lib.hid (S.out.one (set_tl S.out.dev v9) S.out.s1 S.out.s2)
      go_wp2_with fail
      obtain ⟨s0, s1, s2, s3, s4, s5, s6, s7⟩ := (bx_put T.out.res ⟨p1, 1, ⟨#[]⟩, 0, 0, 0, v9, u6⟩).c
      have C9 := Lib.hid (put8_cur T.out.rdy.cur (Nat.ne_of_lt T.out.l3) ⟨p1, 1, ⟨#[]⟩, 0, 0, 0, v9, u6⟩)
      have G9 := Lib.hid (put8_grown T.out.gr T.out.l1 ⟨p1, 1, ⟨#[]⟩, 0, 0, 0, v9, u6⟩)
      unfold put8 at s0 s1 s2 s3 s4 s5 s6 s7
      (try simp only [Exit.inBlock, Exit.then])
      refine bodyPost_ret (v := va p1 1 ⟨#[]⟩ 0 0 0 v9 u6) (by simp only [results, Try.results23, s0, s1, s2, s3, s4, s5, s6, s7]; simp [go_sem, s0, s1, s2, s3, s4, s5, s6, s7]; try rfl) rfl ?_
      exact ⟨p1, 1, ⟨#[]⟩, 0, 0, 0, v9, u6, ⟨T.out.s1, T.out.s2⟩, rfl, C9.out, G9.out⟩
    · clear i91 i92
      go_wp2_with fail
      refine (Dr4.l3Any S.out.rdy).mono ?_
      rintro e w9 ⟨x9, y9, h9, t9, l9, rfl, k1, k2⟩
      have S := Lib.hid (S.out.next k2 k1)
      clear k1 k2
      have hfd : ∀ W, (Instr.field 82 (jv x9 y9 h9 t9 l9) 0).run Try.prog W = .ok (.agg #[.int .i64 x9, .int .i64 y9]) W := fun W => by kernel_rfl
      obtain ⟨a0, a1, a2, a3, a4, a5, a6, a7⟩ := S.out.dev.c
      have fz := S.out.dev.f
      obtain ⟨b0, b1, b2, b3, b4, b5, b6, b7⟩ := S.out.res.c
      have gz := S.out.res.f
      have m3 := S.out.n1
      have m4 := m3.symm
      have T := Lib.hid ((S.out.one (set_x S.out.dev x9) S.out.s1 S.out.s2).one (set_y (S.out.one (set_x S.out.dev x9) S.out.s1 S.out.s2).dev y9) S.out.s1 S.out.s2)
      go_wp2_with fail
      obtain ⟨s0, s1, s2, s3, s4, s5, s6, s7⟩ := (bx_put T.out.res ⟨p1, 1, ⟨#[]⟩, x9, y9, 0, 0, u6⟩).c
      have C9 := Lib.hid (put8_cur T.out.rdy.cur (Nat.ne_of_lt T.out.l3) ⟨p1, 1, ⟨#[]⟩, x9, y9, 0, 0, u6⟩)
      have G9 := Lib.hid (put8_grown T.out.gr T.out.l1 ⟨p1, 1, ⟨#[]⟩, x9, y9, 0, 0, u6⟩)
      unfold put8 at s0 s1 s2 s3 s4 s5 s6 s7
      (try simp only [Exit.inBlock, Exit.then])
      refine bodyPost_ret (v := va p1 1 ⟨#[]⟩ x9 y9 0 0 u6) (by simp only [results, Try.results23, s0, s1, s2, s3, s4, s5, s6, s7]; simp [go_sem, s0, s1, s2, s3, s4, s5, s6, s7]; try rfl) rfl ?_
      exact ⟨p1, 1, ⟨#[]⟩, x9, y9, 0, 0, u6, ⟨T.out.s1, T.out.s2⟩, rfl, C9.out, G9.out⟩
    · have e0 : (i9 == 0) = false := by simp; omega
      have e1 : (i9 == 1) = false := by simp; omega
      have e2 : (i9 == 2) = false := by simp; omega
      clear i91 i92 h9
      obtain ⟨a0, a1, a2, a3, a4, a5, a6, a7⟩ := S.out.dev.c
      have fz := S.out.dev.f
      obtain ⟨b0, b1, b2, b3, b4, b5, b6, b7⟩ := S.out.res.c
      have gz := S.out.res.f
      have m3 := S.out.n1
      have m4 := m3.symm
      have T := Lib.hid (S.out)
      go_wp2_with fail
      obtain ⟨s0, s1, s2, s3, s4, s5, s6, s7⟩ := (bx_put T.out.res ⟨p1, 1, ⟨#[]⟩, 0, 0, 0, 0, u6⟩).c
      have C9 := Lib.hid (put8_cur T.out.rdy.cur (Nat.ne_of_lt T.out.l3) ⟨p1, 1, ⟨#[]⟩, 0, 0, 0, 0, u6⟩)
      have G9 := Lib.hid (put8_grown T.out.gr T.out.l1 ⟨p1, 1, ⟨#[]⟩, 0, 0, 0, 0, u6⟩)
      unfold put8 at s0 s1 s2 s3 s4 s5 s6 s7
      (try simp only [Exit.inBlock, Exit.then])
      refine bodyPost_ret (v := va p1 1 ⟨#[]⟩ 0 0 0 0 u6) (by simp only [results, Try.results23, s0, s1, s2, s3, s4, s5, s6, s7]; simp [go_sem, s0, s1, s2, s3, s4, s5, s6, s7]; try rfl) rfl ?_
      exact ⟨p1, 1, ⟨#[]⟩, 0, 0, 0, 0, u6, ⟨T.out.s1, T.out.s2⟩, rfl, C9.out, G9.out⟩
  · clear i1 i2
    go_wp2_with fail
    refine (l6Name S.out.rdy).mono ?_
    rintro e w5 ⟨p1, hp1, rfl, k1, k2⟩
    have S := Lib.hid (S.out.next k2 k1)
    clear k1 k2
    have P1 := Lib.hid (names9 hp1)
    clear hp1
    go_wp2_with fail
    refine (l6Name S.out.rdy).mono ?_
    rintro e w6 ⟨p2, hp2, rfl, k1, k2⟩
    have S := Lib.hid (S.out.next k2 k1)
    clear k1 k2
    have P2 := Lib.hid (names9 hp2)
    clear hp2
    go_wp2_with fail
    refine (Dr2.l2Any S.out.rdy).mono ?_
    rintro e w7 ⟨px, py, hpx, hpy, rfl, k1, k2⟩
    have S := Lib.hid (S.out.next k2 k1)
    clear k1 k2
    clear hpx hpy
    obtain ⟨a0, a1, a2, a3, a4, a5, a6, a7⟩ := S.out.dev.c
    have fz := S.out.dev.f
    have S := Lib.hid (S.out.all ⟨p1, 3, p2, px, py, 0, 0, 0⟩ P1.out P2.out)
    go_wp2_with fail
    clear a0 a1 a2 a3 a4 a5 a6 a7 fz
    refine (below S.out.rdy 12 (by decide) (by decide)).mono ?_
    rintro e w8 ⟨i9, ⟨i91, i92⟩, rfl, k1, k2⟩
    have S := Lib.hid (S.out.next k2 k1)
    clear k1 k2
    rcases (by omega : i9 = 0 ∨ i9 = 1 ∨ i9 = 2 ∨ 3 ≤ i9) with rfl | rfl | rfl | h9
    · clear i91 i92
      go_wp2_with fail
      refine (l1Word S.out.rdy).mono ?_
      rintro e w9 ⟨v9, hv9, rfl, k1, k2⟩
      have S := Lib.hid (S.out.next k2 k1)
      clear k1 k2
      have V9 := Lib.hid (words9 hv9)
      clear hv9
      obtain ⟨a0, a1, a2, a3, a4, a5, a6, a7⟩ := S.out.dev.c
      have fz := S.out.dev.f
      obtain ⟨b0, b1, b2, b3, b4, b5, b6, b7⟩ := S.out.res.c
      have gz := S.out.res.f
      have m3 := S.out.n1
      have m4 := m3.symm
      have T := Lib.hid (S.out.one (set_nm S.out.dev v9) V9.out S.out.s2)
      go_wp2_with fail
      obtain ⟨s0, s1, s2, s3, s4, s5, s6, s7⟩ := (bx_put T.out.res ⟨v9, 3, p2, px, py, 0, 0, 0⟩).c
      have C9 := Lib.hid (put8_cur T.out.rdy.cur (Nat.ne_of_lt T.out.l3) ⟨v9, 3, p2, px, py, 0, 0, 0⟩)
      have G9 := Lib.hid (put8_grown T.out.gr T.out.l1 ⟨v9, 3, p2, px, py, 0, 0, 0⟩)
      unfold put8 at s0 s1 s2 s3 s4 s5 s6 s7
      (try simp only [Exit.inBlock, Exit.then])
      refine bodyPost_ret (v := va v9 3 p2 px py 0 0 0) (by simp only [results, Try.results23, s0, s1, s2, s3, s4, s5, s6, s7]; simp [go_sem, s0, s1, s2, s3, s4, s5, s6, s7]; try rfl) rfl ?_
      exact ⟨v9, 3, p2, px, py, 0, 0, 0, ⟨T.out.s1, T.out.s2⟩, rfl, C9.out, G9.out⟩
    · clear i91 i92
      go_wp2_with fail
      refine (odd S.out.rdy).mono ?_
      rintro e w9 ⟨v9, hv9, rfl, k1, k2⟩
      have S := Lib.hid (S.out.next k2 k1)
      clear k1 k2
      clear hv9
      obtain ⟨a0, a1, a2, a3, a4, a5, a6, a7⟩ := S.out.dev.c
      have fz := S.out.dev.f
      obtain ⟨b0, b1, b2, b3, b4, b5, b6, b7⟩ := S.out.res.c
      have gz := S.out.res.f
      have m3 := S.out.n1
      have m4 := m3.symm
      have T := Lib.hid (S.out.one (set_tl S.out.dev v9) S.out.s1 S.out.s2)
      go_wp2_with fail
      obtain ⟨s0, s1, s2, s3, s4, s5, s6, s7⟩ := (bx_put T.out.res ⟨p1, 3, p2, px, py, 0, v9, 0⟩).c
      have C9 := Lib.hid (put8_cur T.out.rdy.cur (Nat.ne_of_lt T.out.l3) ⟨p1, 3, p2, px, py, 0, v9, 0⟩)
      have G9 := Lib.hid (put8_grown T.out.gr T.out.l1 ⟨p1, 3, p2, px, py, 0, v9, 0⟩)
      unfold put8 at s0 s1 s2 s3 s4 s5 s6 s7
      (try simp only [Exit.inBlock, Exit.then])
      refine bodyPost_ret (v := va p1 3 p2 px py 0 v9 0) (by simp only [results, Try.results23, s0, s1, s2, s3, s4, s5, s6, s7]; simp [go_sem, s0, s1, s2, s3, s4, s5, s6, s7]; try rfl) rfl ?_
      exact ⟨p1, 3, p2, px, py, 0, v9, 0, ⟨T.out.s1, T.out.s2⟩, rfl, C9.out, G9.out⟩
    · clear i91 i92
      go_wp2_with fail
      refine (Dr4.l3Any S.out.rdy).mono ?_
      rintro e w9 ⟨x9, y9, h9, t9, l9, rfl, k1, k2⟩
      have S := Lib.hid (S.out.next k2 k1)
      clear k1 k2
      have hfd : ∀ W, (Instr.field 82 (jv x9 y9 h9 t9 l9) 0).run Try.prog W = .ok (.agg #[.int .i64 x9, .int .i64 y9]) W := fun W => by kernel_rfl
      obtain ⟨a0, a1, a2, a3, a4, a5, a6, a7⟩ := S.out.dev.c
      have fz := S.out.dev.f
      obtain ⟨b0, b1, b2, b3, b4, b5, b6, b7⟩ := S.out.res.c
      have gz := S.out.res.f
      have m3 := S.out.n1
      have m4 := m3.symm
      have T := Lib.hid ((S.out.one (set_x S.out.dev x9) S.out.s1 S.out.s2).one (set_y (S.out.one (set_x S.out.dev x9) S.out.s1 S.out.s2).dev y9) S.out.s1 S.out.s2)
      go_wp2_with fail
      obtain ⟨s0, s1, s2, s3, s4, s5, s6, s7⟩ := (bx_put T.out.res ⟨p1, 3, p2, x9, y9, 0, 0, 0⟩).c
      have C9 := Lib.hid (put8_cur T.out.rdy.cur (Nat.ne_of_lt T.out.l3) ⟨p1, 3, p2, x9, y9, 0, 0, 0⟩)
      have G9 := Lib.hid (put8_grown T.out.gr T.out.l1 ⟨p1, 3, p2, x9, y9, 0, 0, 0⟩)
      unfold put8 at s0 s1 s2 s3 s4 s5 s6 s7
      (try simp only [Exit.inBlock, Exit.then])
      refine bodyPost_ret (v := va p1 3 p2 x9 y9 0 0 0) (by simp only [results, Try.results23, s0, s1, s2, s3, s4, s5, s6, s7]; simp [go_sem, s0, s1, s2, s3, s4, s5, s6, s7]; try rfl) rfl ?_
      exact ⟨p1, 3, p2, x9, y9, 0, 0, 0, ⟨T.out.s1, T.out.s2⟩, rfl, C9.out, G9.out⟩
    · have e0 : (i9 == 0) = false := by simp; omega
      have e1 : (i9 == 1) = false := by simp; omega
      have e2 : (i9 == 2) = false := by simp; omega
      clear i91 i92 h9
      obtain ⟨a0, a1, a2, a3, a4, a5, a6, a7⟩ := S.out.dev.c
      have fz := S.out.dev.f
      obtain ⟨b0, b1, b2, b3, b4, b5, b6, b7⟩ := S.out.res.c
      have gz := S.out.res.f
      have m3 := S.out.n1
      have m4 := m3.symm
      have T := Lib.hid (S.out)
      go_wp2_with fail
      obtain ⟨s0, s1, s2, s3, s4, s5, s6, s7⟩ := (bx_put T.out.res ⟨p1, 3, p2, px, py, 0, 0, 0⟩).c
      have C9 := Lib.hid (put8_cur T.out.rdy.cur (Nat.ne_of_lt T.out.l3) ⟨p1, 3, p2, px, py, 0, 0, 0⟩)
      have G9 := Lib.hid (put8_grown T.out.gr T.out.l1 ⟨p1, 3, p2, px, py, 0, 0, 0⟩)
      unfold put8 at s0 s1 s2 s3 s4 s5 s6 s7
      (try simp only [Exit.inBlock, Exit.then])
      refine bodyPost_ret (v := va p1 3 p2 px py 0 0 0) (by simp only [results, Try.results23, s0, s1, s2, s3, s4, s5, s6, s7]; simp [go_sem, s0, s1, s2, s3, s4, s5, s6, s7]; try rfl) rfl ?_
      exact ⟨p1, 3, p2, px, py, 0, 0, 0, ⟨T.out.s1, T.out.s2⟩, rfl, C9.out, G9.out⟩
  · clear i1 i2
    go_wp2_with fail
    refine (l6Name S.out.rdy).mono ?_
    rintro e w5 ⟨p1, hp1, rfl, k1, k2⟩
    have S := Lib.hid (S.out.next k2 k1)
    clear k1 k2
    have P1 := Lib.hid (names9 hp1)
    clear hp1
    go_wp2_with fail
    refine (l6Name S.out.rdy).mono ?_
    rintro e w6 ⟨p2, hp2, rfl, k1, k2⟩
    have S := Lib.hid (S.out.next k2 k1)
    clear k1 k2
    have P2 := Lib.hid (names9 hp2)
    clear hp2
    go_wp2_with fail
    refine (Dr2.l2Any S.out.rdy).mono ?_
    rintro e w7 ⟨px, py, hpx, hpy, rfl, k1, k2⟩
    have S := Lib.hid (S.out.next k2 k1)
    clear k1 k2
    clear hpx hpy
    obtain ⟨a0, a1, a2, a3, a4, a5, a6, a7⟩ := S.out.dev.c
    have fz := S.out.dev.f
    have S := Lib.hid (S.out.all ⟨p1, 3, p2, px, py, 0, 0, 0⟩ P1.out P2.out)
    go_wp2_with fail
    clear a0 a1 a2 a3 a4 a5 a6 a7 fz
    refine (below S.out.rdy 12 (by decide) (by decide)).mono ?_
    rintro e w8 ⟨i9, ⟨i91, i92⟩, rfl, k1, k2⟩
    have S := Lib.hid (S.out.next k2 k1)
    clear k1 k2
    rcases (by omega : i9 = 0 ∨ i9 = 1 ∨ i9 = 2 ∨ 3 ≤ i9) with rfl | rfl | rfl | h9
    · clear i91 i92
      go_wp2_with fail
      refine (l1Word S.out.rdy).mono ?_
      rintro e w9 ⟨v9, hv9, rfl, k1, k2⟩
      have S := Lib.hid (S.out.next k2 k1)
      clear k1 k2
      have V9 := Lib.hid (words9 hv9)
      clear hv9
      obtain ⟨a0, a1, a2, a3, a4, a5, a6, a7⟩ := S.out.dev.c
      have fz := S.out.dev.f
      obtain ⟨b0, b1, b2, b3, b4, b5, b6, b7⟩ := S.out.res.c
      have gz := S.out.res.f
      have m3 := S.out.n1
      have m4 := m3.symm
      have T := Lib.hid (S.out.one (set_nm S.out.dev v9) V9.out S.out.s2)
      go_wp2_with fail
      obtain ⟨s0, s1, s2, s3, s4, s5, s6, s7⟩ := (bx_put T.out.res ⟨v9, 3, p2, px, py, 0, 0, 0⟩).c
      have C9 := Lib.hid (put8_cur T.out.rdy.cur (Nat.ne_of_lt T.out.l3) ⟨v9, 3, p2, px, py, 0, 0, 0⟩)
      have G9 := Lib.hid (put8_grown T.out.gr T.out.l1 ⟨v9, 3, p2, px, py, 0, 0, 0⟩)
      unfold put8 at s0 s1 s2 s3 s4 s5 s6 s7
      (try simp only [Exit.inBlock, Exit.then])
      refine bodyPost_ret (v := va v9 3 p2 px py 0 0 0) (by simp only [results, Try.results23, s0, s1, s2, s3, s4, s5, s6, s7]; simp [go_sem, s0, s1, s2, s3, s4, s5, s6, s7]; try rfl) rfl ?_
      exact ⟨v9, 3, p2, px, py, 0, 0, 0, ⟨T.out.s1, T.out.s2⟩, rfl, C9.out, G9.out⟩
    · clear i91 i92
      go_wp2_with fail
      refine (odd S.out.rdy).mono ?_
      rintro e w9 ⟨v9, hv9, rfl, k1, k2⟩
      have S := Lib.hid (S.out.next k2 k1)
      clear k1 k2
      clear hv9
      obtain ⟨a0, a1, a2, a3, a4, a5, a6, a7⟩ := S.out.dev.c
      have fz := S.out.dev.f
      obtain ⟨b0, b1, b2, b3, b4, b5, b6, b7⟩ := S.out.res.c
      have gz := S.out.res.f
      have m3 := S.out.n1
      have m4 := m3.symm
      have T := Lib.hid (S.out.one (set_tl S.out.dev v9) S.out.s1 S.out.s2)
      go_wp2_with fail
      obtain ⟨s0, s1, s2, s3, s4, s5, s6, s7⟩ := (bx_put T.out.res ⟨p1, 3, p2, px, py, 0, v9, 0⟩).c
      have C9 := Lib.hid (put8_cur T.out.rdy.cur (Nat.ne_of_lt T.out.l3) ⟨p1, 3, p2, px, py, 0, v9, 0⟩)
      have G9 := Lib.hid (put8_grown T.out.gr T.out.l1 ⟨p1, 3, p2, px, py, 0, v9, 0⟩)
      unfold put8 at s0 s1 s2 s3 s4 s5 s6 s7
      (try simp only [Exit.inBlock, Exit.then])
      refine bodyPost_ret (v := va p1 3 p2 px py 0 v9 0) (by simp only [results, Try.results23, s0, s1, s2, s3, s4, s5, s6, s7]; simp [go_sem, s0, s1, s2, s3, s4, s5, s6, s7]; try rfl) rfl ?_
      exact ⟨p1, 3, p2, px, py, 0, v9, 0, ⟨T.out.s1, T.out.s2⟩, rfl, C9.out, G9.out⟩
    · clear i91 i92
      go_wp2_with fail
      refine (Dr4.l3Any S.out.rdy).mono ?_
      rintro e w9 ⟨x9, y9, h9, t9, l9, rfl, k1, k2⟩
      have S := Lib.hid (S.out.next k2 k1)
      clear k1 k2
      have hfd : ∀ W, (Instr.field 82 (jv x9 y9 h9 t9 l9) 0).run Try.prog W = .ok (.agg #[.int .i64 x9, .int .i64 y9]) W := fun W => by kernel_rfl
      obtain ⟨a0, a1, a2, a3, a4, a5, a6, a7⟩ := S.out.dev.c
      have fz := S.out.dev.f
      obtain ⟨b0, b1, b2, b3, b4, b5, b6, b7⟩ := S.out.res.c
      have gz := S.out.res.f
      have m3 := S.out.n1
      have m4 := m3.symm
      have T := Lib.hid ((S.out.one (set_x S.out.dev x9) S.out.s1 S.out.s2).one (set_y (S.out.one (set_x S.out.dev x9) S.out.s1 S.out.s2).dev y9) S.out.s1 S.out.s2)
      go_wp2_with fail
      obtain ⟨s0, s1, s2, s3, s4, s5, s6, s7⟩ := (bx_put T.out.res ⟨p1, 3, p2, x9, y9, 0, 0, 0⟩).c
      have C9 := Lib.hid (put8_cur T.out.rdy.cur (Nat.ne_of_lt T.out.l3) ⟨p1, 3, p2, x9, y9, 0, 0, 0⟩)
      have G9 := Lib.hid (put8_grown T.out.gr T.out.l1 ⟨p1, 3, p2, x9, y9, 0, 0, 0⟩)
      unfold put8 at s0 s1 s2 s3 s4 s5 s6 s7
      (try simp only [Exit.inBlock, Exit.then])
      refine bodyPost_ret (v := va p1 3 p2 x9 y9 0 0 0) (by simp only [results, Try.results23, s0, s1, s2, s3, s4, s5, s6, s7]; simp [go_sem, s0, s1, s2, s3, s4, s5, s6, s7]; try rfl) rfl ?_
      exact ⟨p1, 3, p2, x9, y9, 0, 0, 0, ⟨T.out.s1, T.out.s2⟩, rfl, C9.out, G9.out⟩
    · have e0 : (i9 == 0) = false := by simp; omega
      have e1 : (i9 == 1) = false := by simp; omega
      have e2 : (i9 == 2) = false := by simp; omega
      clear i91 i92 h9
      obtain ⟨a0, a1, a2, a3, a4, a5, a6, a7⟩ := S.out.dev.c
      have fz := S.out.dev.f
      obtain ⟨b0, b1, b2, b3, b4, b5, b6, b7⟩ := S.out.res.c
      have gz := S.out.res.f
      have m3 := S.out.n1
      have m4 := m3.symm
      have T := Lib.hid (S.out)
      go_wp2_with fail
      obtain ⟨s0, s1, s2, s3, s4, s5, s6, s7⟩ := (bx_put T.out.res ⟨p1, 3, p2, px, py, 0, 0, 0⟩).c
      have C9 := Lib.hid (put8_cur T.out.rdy.cur (Nat.ne_of_lt T.out.l3) ⟨p1, 3, p2, px, py, 0, 0, 0⟩)
      have G9 := Lib.hid (put8_grown T.out.gr T.out.l1 ⟨p1, 3, p2, px, py, 0, 0, 0⟩)
      unfold put8 at s0 s1 s2 s3 s4 s5 s6 s7
      (try simp only [Exit.inBlock, Exit.then])
      refine bodyPost_ret (v := va p1 3 p2 px py 0 0 0) (by simp only [results, Try.results23, s0, s1, s2, s3, s4, s5, s6, s7]; simp [go_sem, s0, s1, s2, s3, s4, s5, s6, s7]; try rfl) rfl ?_
      exact ⟨p1, 3, p2, px, py, 0, 0, 0, ⟨T.out.s1, T.out.s2⟩, rfl, C9.out, G9.out⟩
  · clear i1 i2
    go_wp2_with fail
    refine (odd S.out.rdy).mono ?_
    rintro e w5 ⟨u6, hu6, rfl, k1, k2⟩
    have S := Lib.hid (S.out.next k2 k1)
    clear k1 k2
    clear hu6
    obtain ⟨a0, a1, a2, a3, a4, a5, a6, a7⟩ := S.out.dev.c
    have fz := S.out.dev.f
    obtain ⟨b0, b1, b2, b3, b4, b5, b6, b7⟩ := S.out.res.c
    have gz := S.out.res.f
    have m3 := S.out.n1
    have m4 := m3.symm
    have S := Lib.hid (S.out.one (set_ms S.out.dev u6) S.out.s1 S.out.s2)
    go_wp2_with fail
    clear a0 a1 a2 a3 a4 a5 a6 a7 fz b0 b1 b2 b3 b4 b5 b6 b7 gz m3 m4
    refine (below S.out.rdy 12 (by decide) (by decide)).mono ?_
    rintro e w8 ⟨i9, ⟨i91, i92⟩, rfl, k1, k2⟩
    have S := Lib.hid (S.out.next k2 k1)
    clear k1 k2
    rcases (by omega : i9 = 0 ∨ i9 = 1 ∨ i9 = 2 ∨ 3 ≤ i9) with rfl | rfl | rfl | h9
    · clear i91 i92
      go_wp2_with fail
      refine (l1Word S.out.rdy).mono ?_
      rintro e w9 ⟨v9, hv9, rfl, k1, k2⟩
      have S := Lib.hid (S.out.next k2 k1)
      clear k1 k2
      have V9 := Lib.hid (words9 hv9)
      clear hv9
      obtain ⟨a0, a1, a2, a3, a4, a5, a6, a7⟩ := S.out.dev.c
      have fz := S.out.dev.f
      obtain ⟨b0, b1, b2, b3, b4, b5, b6, b7⟩ := S.out.res.c
      have gz := S.out.res.f
      have m3 := S.out.n1
      have m4 := m3.symm
      have T := Lib.hid (S.out.one (set_nm S.out.dev v9) V9.out S.out.s2)
      go_wp2_with fail
      obtain ⟨s0, s1, s2, s3, s4, s5, s6, s7⟩ := (bx_put T.out.res ⟨v9, q, l, x, y, h, t, u6⟩).c
      have C9 := Lib.hid (put8_cur T.out.rdy.cur (Nat.ne_of_lt T.out.l3) ⟨v9, q, l, x, y, h, t, u6⟩)
      have G9 := Lib.hid (put8_grown T.out.gr T.out.l1 ⟨v9, q, l, x, y, h, t, u6⟩)
      unfold put8 at s0 s1 s2 s3 s4 s5 s6 s7
      (try simp only [Exit.inBlock, Exit.then])
      refine bodyPost_ret (v := va v9 q l x y h t u6) (by simp only [results, Try.results23, s0, s1, s2, s3, s4, s5, s6, s7]; simp [go_sem, s0, s1, s2, s3, s4, s5, s6, s7]; try rfl) rfl ?_
      exact ⟨v9, q, l, x, y, h, t, u6, ⟨T.out.s1, T.out.s2⟩, rfl, C9.out, G9.out⟩
    · clear i91 i92
      go_wp2_with fail
      refine (odd S.out.rdy).mono ?_
      rintro e w9 ⟨v9, hv9, rfl, k1, k2⟩
      have S := Lib.hid (S.out.next k2 k1)
      clear k1 k2
      clear hv9
      obtain ⟨a0, a1, a2, a3, a4, a5, a6, a7⟩ := S.out.dev.c
      have fz := S.out.dev.f
      obtain ⟨b0, b1, b2, b3, b4, b5, b6, b7⟩ := S.out.res.c
      have gz := S.out.res.f
      have m3 := S.out.n1
      have m4 := m3.symm
      have T := Lib.hid (S.out.one (set_tl S.out.dev v9) S.out.s1 S.out.s2)
      go_wp2_with fail
      obtain ⟨s0, s1, s2, s3, s4, s5, s6, s7⟩ := (bx_put T.out.res ⟨s, q, l, x, y, h, v9, u6⟩).c
      have C9 := Lib.hid (put8_cur T.out.rdy.cur (Nat.ne_of_lt T.out.l3) ⟨s, q, l, x, y, h, v9, u6⟩)
      have G9 := Lib.hid (put8_grown T.out.gr T.out.l1 ⟨s, q, l, x, y, h, v9, u6⟩)
      unfold put8 at s0 s1 s2 s3 s4 s5 s6 s7
      (try simp only [Exit.inBlock, Exit.then])
      refine bodyPost_ret (v := va s q l x y h v9 u6) (by simp only [results, Try.results23, s0, s1, s2, s3, s4, s5, s6, s7]; simp [go_sem, s0, s1, s2, s3, s4, s5, s6, s7]; try rfl) rfl ?_
      exact ⟨s, q, l, x, y, h, v9, u6, ⟨T.out.s1, T.out.s2⟩, rfl, C9.out, G9.out⟩
    · clear i91 i92
      go_wp2_with fail
      refine (Dr4.l3Any S.out.rdy).mono ?_
      rintro e w9 ⟨x9, y9, h9, t9, l9, rfl, k1, k2⟩
      have S := Lib.hid (S.out.next k2 k1)
      clear k1 k2
      have hfd : ∀ W, (Instr.field 82 (jv x9 y9 h9 t9 l9) 0).run Try.prog W = .ok (.agg #[.int .i64 x9, .int .i64 y9]) W := fun W => by kernel_rfl
      obtain ⟨a0, a1, a2, a3, a4, a5, a6, a7⟩ := S.out.dev.c
      have fz := S.out.dev.f
      obtain ⟨b0, b1, b2, b3, b4, b5, b6, b7⟩ := S.out.res.c
      have gz := S.out.res.f
      have m3 := S.out.n1
      have m4 := m3.symm
      have T := Lib.hid ((S.out.one (set_x S.out.dev x9) S.out.s1 S.out.s2).one (set_y (S.out.one (set_x S.out.dev x9) S.out.s1 S.out.s2).dev y9) S.out.s1 S.out.s2)
      go_wp2_with fail
      obtain ⟨s0, s1, s2, s3, s4, s5, s6, s7⟩ := (bx_put T.out.res ⟨s, q, l, x9, y9, h, t, u6⟩).c
      have C9 := Lib.hid (put8_cur T.out.rdy.cur (Nat.ne_of_lt T.out.l3) ⟨s, q, l, x9, y9, h, t, u6⟩)
      have G9 := Lib.hid (put8_grown T.out.gr T.out.l1 ⟨s, q, l, x9, y9, h, t, u6⟩)
      unfold put8 at s0 s1 s2 s3 s4 s5 s6 s7
      (try simp only [Exit.inBlock, Exit.then])
      refine bodyPost_ret (v := va s q l x9 y9 h t u6) (by simp only [results, Try.results23, s0, s1, s2, s3, s4, s5, s6, s7]; simp [go_sem, s0, s1, s2, s3, s4, s5, s6, s7]; try rfl) rfl ?_
      exact ⟨s, q, l, x9, y9, h, t, u6, ⟨T.out.s1, T.out.s2⟩, rfl, C9.out, G9.out⟩
    · have e0 : (i9 == 0) = false := by simp; omega
      have e1 : (i9 == 1) = false := by simp; omega
      have e2 : (i9 == 2) = false := by simp; omega
      clear i91 i92 h9
      obtain ⟨a0, a1, a2, a3, a4, a5, a6, a7⟩ := S.out.dev.c
      have fz := S.out.dev.f
      obtain ⟨b0, b1, b2, b3, b4, b5, b6, b7⟩ := S.out.res.c
      have gz := S.out.res.f
      have m3 := S.out.n1
      have m4 := m3.symm
      have T := Lib.hid (S.out)
      go_wp2_with fail
      obtain ⟨s0, s1, s2, s3, s4, s5, s6, s7⟩ := (bx_put T.out.res ⟨s, q, l, x, y, h, t, u6⟩).c
      have C9 := Lib.hid (put8_cur T.out.rdy.cur (Nat.ne_of_lt T.out.l3) ⟨s, q, l, x, y, h, t, u6⟩)
      have G9 := Lib.hid (put8_grown T.out.gr T.out.l1 ⟨s, q, l, x, y, h, t, u6⟩)
      unfold put8 at s0 s1 s2 s3 s4 s5 s6 s7
      (try simp only [Exit.inBlock, Exit.then])
      refine bodyPost_ret (v := va s q l x y h t u6) (by simp only [results, Try.results23, s0, s1, s2, s3, s4, s5, s6, s7]; simp [go_sem, s0, s1, s2, s3, s4, s5, s6, s7]; try rfl) rfl ?_
      exact ⟨s, q, l, x, y, h, t, u6, ⟨T.out.s1, T.out.s2⟩, rfl, C9.out, G9.out⟩
  · clear i1 i2
    go_wp2_with fail
    refine (odd S.out.rdy).mono ?_
    rintro e w5 ⟨u6, hu6, rfl, k1, k2⟩
    have S := Lib.hid (S.out.next k2 k1)
    clear k1 k2
    clear hu6
    obtain ⟨a0, a1, a2, a3, a4, a5, a6, a7⟩ := S.out.dev.c
    have fz := S.out.dev.f
    obtain ⟨b0, b1, b2, b3, b4, b5, b6, b7⟩ := S.out.res.c
    have gz := S.out.res.f
    have m3 := S.out.n1
    have m4 := m3.symm
    have S := Lib.hid (S.out.one (set_kd S.out.dev u6) S.out.s1 S.out.s2)
    go_wp2_with fail
    clear a0 a1 a2 a3 a4 a5 a6 a7 fz b0 b1 b2 b3 b4 b5 b6 b7 gz m3 m4
    refine (below S.out.rdy 12 (by decide) (by decide)).mono ?_
    rintro e w8 ⟨i9, ⟨i91, i92⟩, rfl, k1, k2⟩
    have S := Lib.hid (S.out.next k2 k1)
    clear k1 k2
    rcases (by omega : i9 = 0 ∨ i9 = 1 ∨ i9 = 2 ∨ 3 ≤ i9) with rfl | rfl | rfl | h9
    · clear i91 i92
      go_wp2_with fail
      refine (l1Word S.out.rdy).mono ?_
      rintro e w9 ⟨v9, hv9, rfl, k1, k2⟩
      have S := Lib.hid (S.out.next k2 k1)
      clear k1 k2
      have V9 := Lib.hid (words9 hv9)
      clear hv9
      obtain ⟨a0, a1, a2, a3, a4, a5, a6, a7⟩ := S.out.dev.c
      have fz := S.out.dev.f
      obtain ⟨b0, b1, b2, b3, b4, b5, b6, b7⟩ := S.out.res.c
      have gz := S.out.res.f
      have m3 := S.out.n1
      have m4 := m3.symm
      have T := Lib.hid (S.out.one (set_nm S.out.dev v9) V9.out S.out.s2)
      go_wp2_with fail
      obtain ⟨s0, s1, s2, s3, s4, s5, s6, s7⟩ := (bx_put T.out.res ⟨v9, u6, l, x, y, h, t, m⟩).c
      have C9 := Lib.hid (put8_cur T.out.rdy.cur (Nat.ne_of_lt T.out.l3) ⟨v9, u6, l, x, y, h, t, m⟩)
      have G9 := Lib.hid (put8_grown T.out.gr T.out.l1 ⟨v9, u6, l, x, y, h, t, m⟩)
      unfold put8 at s0 s1 s2 s3 s4 s5 s6 s7
      (try simp only [Exit.inBlock, Exit.then])
      refine bodyPost_ret (v := va v9 u6 l x y h t m) (by simp only [results, Try.results23, s0, s1, s2, s3, s4, s5, s6, s7]; simp [go_sem, s0, s1, s2, s3, s4, s5, s6, s7]; try rfl) rfl ?_
      exact ⟨v9, u6, l, x, y, h, t, m, ⟨T.out.s1, T.out.s2⟩, rfl, C9.out, G9.out⟩
    · clear i91 i92
      go_wp2_with fail
      refine (odd S.out.rdy).mono ?_
      rintro e w9 ⟨v9, hv9, rfl, k1, k2⟩
      have S := Lib.hid (S.out.next k2 k1)
      clear k1 k2
      clear hv9
      obtain ⟨a0, a1, a2, a3, a4, a5, a6, a7⟩ := S.out.dev.c
      have fz := S.out.dev.f
      obtain ⟨b0, b1, b2, b3, b4, b5, b6, b7⟩ := S.out.res.c
      have gz := S.out.res.f
      have m3 := S.out.n1
      have m4 := m3.symm
      have T := Lib.hid (S.out.one (set_tl S.out.dev v9) S.out.s1 S.out.s2)
      go_wp2_with fail
      obtain ⟨s0, s1, s2, s3, s4, s5, s6, s7⟩ := (bx_put T.out.res ⟨s, u6, l, x, y, h, v9, m⟩).c
      have C9 := Lib.hid (put8_cur T.out.rdy.cur (Nat.ne_of_lt T.out.l3) ⟨s, u6, l, x, y, h, v9, m⟩)
      have G9 := Lib.hid (put8_grown T.out.gr T.out.l1 ⟨s, u6, l, x, y, h, v9, m⟩)
      unfold put8 at s0 s1 s2 s3 s4 s5 s6 s7
      (try simp only [Exit.inBlock, Exit.then])
      refine bodyPost_ret (v := va s u6 l x y h v9 m) (by simp only [results, Try.results23, s0, s1, s2, s3, s4, s5, s6, s7]; simp [go_sem, s0, s1, s2, s3, s4, s5, s6, s7]; try rfl) rfl ?_
      exact ⟨s, u6, l, x, y, h, v9, m, ⟨T.out.s1, T.out.s2⟩, rfl, C9.out, G9.out⟩
    · clear i91 i92
      go_wp2_with fail
      refine (Dr4.l3Any S.out.rdy).mono ?_
      rintro e w9 ⟨x9, y9, h9, t9, l9, rfl, k1, k2⟩
      have S := Lib.hid (S.out.next k2 k1)
      clear k1 k2
      have hfd : ∀ W, (Instr.field 82 (jv x9 y9 h9 t9 l9) 0).run Try.prog W = .ok (.agg #[.int .i64 x9, .int .i64 y9]) W := fun W => by kernel_rfl
      obtain ⟨a0, a1, a2, a3, a4, a5, a6, a7⟩ := S.out.dev.c
      have fz := S.out.dev.f
      obtain ⟨b0, b1, b2, b3, b4, b5, b6, b7⟩ := S.out.res.c
      have gz := S.out.res.f
      have m3 := S.out.n1
      have m4 := m3.symm
      have T := Lib.hid ((S.out.one (set_x S.out.dev x9) S.out.s1 S.out.s2).one (set_y (S.out.one (set_x S.out.dev x9) S.out.s1 S.out.s2).dev y9) S.out.s1 S.out.s2)
      go_wp2_with fail
      obtain ⟨s0, s1, s2, s3, s4, s5, s6, s7⟩ := (bx_put T.out.res ⟨s, u6, l, x9, y9, h, t, m⟩).c
      have C9 := Lib.hid (put8_cur T.out.rdy.cur (Nat.ne_of_lt T.out.l3) ⟨s, u6, l, x9, y9, h, t, m⟩)
      have G9 := Lib.hid (put8_grown T.out.gr T.out.l1 ⟨s, u6, l, x9, y9, h, t, m⟩)
      unfold put8 at s0 s1 s2 s3 s4 s5 s6 s7
      (try simp only [Exit.inBlock, Exit.then])
      refine bodyPost_ret (v := va s u6 l x9 y9 h t m) (by simp only [results, Try.results23, s0, s1, s2, s3, s4, s5, s6, s7]; simp [go_sem, s0, s1, s2, s3, s4, s5, s6, s7]; try rfl) rfl ?_
      exact ⟨s, u6, l, x9, y9, h, t, m, ⟨T.out.s1, T.out.s2⟩, rfl, C9.out, G9.out⟩
    · have e0 : (i9 == 0) = false := by simp; omega
      have e1 : (i9 == 1) = false := by simp; omega
      have e2 : (i9 == 2) = false := by simp; omega
      clear i91 i92 h9
      obtain ⟨a0, a1, a2, a3, a4, a5, a6, a7⟩ := S.out.dev.c
      have fz := S.out.dev.f
      obtain ⟨b0, b1, b2, b3, b4, b5, b6, b7⟩ := S.out.res.c
      have gz := S.out.res.f
      have m3 := S.out.n1
      have m4 := m3.symm
      have T := Lib.hid (S.out)
      go_wp2_with fail
      obtain ⟨s0, s1, s2, s3, s4, s5, s6, s7⟩ := (bx_put T.out.res ⟨s, u6, l, x, y, h, t, m⟩).c
      have C9 := Lib.hid (put8_cur T.out.rdy.cur (Nat.ne_of_lt T.out.l3) ⟨s, u6, l, x, y, h, t, m⟩)
      have G9 := Lib.hid (put8_grown T.out.gr T.out.l1 ⟨s, u6, l, x, y, h, t, m⟩)
      unfold put8 at s0 s1 s2 s3 s4 s5 s6 s7
      (try simp only [Exit.inBlock, Exit.then])
      refine bodyPost_ret (v := va s u6 l x y h t m) (by simp only [results, Try.results23, s0, s1, s2, s3, s4, s5, s6, s7]; simp [go_sem, s0, s1, s2, s3, s4, s5, s6, s7]; try rfl) rfl ?_
      exact ⟨s, u6, l, x, y, h, t, m, ⟨T.out.s1, T.out.s2⟩, rfl, C9.out, G9.out⟩
  · have e0 : (i == 0) = false := by simp; omega
    have e1 : (i == 1) = false := by simp; omega
    have e2 : (i == 2) = false := by simp; omega
    have e3 : (i == 3) = false := by simp; omega
    have e4 : (i == 4) = false := by simp; omega
    have e5 : (i == 5) = false := by simp; omega
    clear i1 i2 h6
    go_wp2_with fail
    clear e0 e1 e2 e3 e4 e5
    refine (below S.out.rdy 12 (by decide) (by decide)).mono ?_
    rintro e w8 ⟨i9, ⟨i91, i92⟩, rfl, k1, k2⟩
    have S := Lib.hid (S.out.next k2 k1)
    clear k1 k2
    rcases (by omega : i9 = 0 ∨ i9 = 1 ∨ i9 = 2 ∨ 3 ≤ i9) with rfl | rfl | rfl | h9
    · clear i91 i92
      go_wp2_with fail
      refine (l1Word S.out.rdy).mono ?_
      rintro e w9 ⟨v9, hv9, rfl, k1, k2⟩
      have S := Lib.hid (S.out.next k2 k1)
      clear k1 k2
      have V9 := Lib.hid (words9 hv9)
      clear hv9
      obtain ⟨a0, a1, a2, a3, a4, a5, a6, a7⟩ := S.out.dev.c
      have fz := S.out.dev.f
      obtain ⟨b0, b1, b2, b3, b4, b5, b6, b7⟩ := S.out.res.c
      have gz := S.out.res.f
      have m3 := S.out.n1
      have m4 := m3.symm
      have T := Lib.hid (S.out.one (set_nm S.out.dev v9) V9.out S.out.s2)
      go_wp2_with fail
      obtain ⟨s0, s1, s2, s3, s4, s5, s6, s7⟩ := (bx_put T.out.res ⟨v9, q, l, x, y, h, t, m⟩).c
      have C9 := Lib.hid (put8_cur T.out.rdy.cur (Nat.ne_of_lt T.out.l3) ⟨v9, q, l, x, y, h, t, m⟩)
      have G9 := Lib.hid (put8_grown T.out.gr T.out.l1 ⟨v9, q, l, x, y, h, t, m⟩)
      unfold put8 at s0 s1 s2 s3 s4 s5 s6 s7
      (try simp only [Exit.inBlock, Exit.then])
      refine bodyPost_ret (v := va v9 q l x y h t m) (by simp only [results, Try.results23, s0, s1, s2, s3, s4, s5, s6, s7]; simp [go_sem, s0, s1, s2, s3, s4, s5, s6, s7]; try rfl) rfl ?_
      exact ⟨v9, q, l, x, y, h, t, m, ⟨T.out.s1, T.out.s2⟩, rfl, C9.out, G9.out⟩
    · clear i91 i92
      go_wp2_with fail
      refine (odd S.out.rdy).mono ?_
      rintro e w9 ⟨v9, hv9, rfl, k1, k2⟩
      have S := Lib.hid (S.out.next k2 k1)
      clear k1 k2
      clear hv9
      obtain ⟨a0, a1, a2, a3, a4, a5, a6, a7⟩ := S.out.dev.c
      have fz := S.out.dev.f
      obtain ⟨b0, b1, b2, b3, b4, b5, b6, b7⟩ := S.out.res.c
      have gz := S.out.res.f
      have m3 := S.out.n1
      have m4 := m3.symm
      have T := Lib.hid (S.out.one (set_tl S.out.dev v9) S.out.s1 S.out.s2)
      go_wp2_with fail
      obtain ⟨s0, s1, s2, s3, s4, s5, s6, s7⟩ := (bx_put T.out.res ⟨s, q, l, x, y, h, v9, m⟩).c
      have C9 := Lib.hid (put8_cur T.out.rdy.cur (Nat.ne_of_lt T.out.l3) ⟨s, q, l, x, y, h, v9, m⟩)
      have G9 := Lib.hid (put8_grown T.out.gr T.out.l1 ⟨s, q, l, x, y, h, v9, m⟩)
      unfold put8 at s0 s1 s2 s3 s4 s5 s6 s7
      (try simp only [Exit.inBlock, Exit.then])
      refine bodyPost_ret (v := va s q l x y h v9 m) (by simp only [results, Try.results23, s0, s1, s2, s3, s4, s5, s6, s7]; simp [go_sem, s0, s1, s2, s3, s4, s5, s6, s7]; try rfl) rfl ?_
      exact ⟨s, q, l, x, y, h, v9, m, ⟨T.out.s1, T.out.s2⟩, rfl, C9.out, G9.out⟩
    · clear i91 i92
      go_wp2_with fail
      refine (Dr4.l3Any S.out.rdy).mono ?_
      rintro e w9 ⟨x9, y9, h9, t9, l9, rfl, k1, k2⟩
      have S := Lib.hid (S.out.next k2 k1)
      clear k1 k2
      have hfd : ∀ W, (Instr.field 82 (jv x9 y9 h9 t9 l9) 0).run Try.prog W = .ok (.agg #[.int .i64 x9, .int .i64 y9]) W := fun W => by kernel_rfl
      obtain ⟨a0, a1, a2, a3, a4, a5, a6, a7⟩ := S.out.dev.c
      have fz := S.out.dev.f
      obtain ⟨b0, b1, b2, b3, b4, b5, b6, b7⟩ := S.out.res.c
      have gz := S.out.res.f
      have m3 := S.out.n1
      have m4 := m3.symm
      have T := Lib.hid ((S.out.one (set_x S.out.dev x9) S.out.s1 S.out.s2).one (set_y (S.out.one (set_x S.out.dev x9) S.out.s1 S.out.s2).dev y9) S.out.s1 S.out.s2)
      go_wp2_with fail
      obtain ⟨s0, s1, s2, s3, s4, s5, s6, s7⟩ := (bx_put T.out.res ⟨s, q, l, x9, y9, h, t, m⟩).c
      have C9 := Lib.hid (put8_cur T.out.rdy.cur (Nat.ne_of_lt T.out.l3) ⟨s, q, l, x9, y9, h, t, m⟩)
      have G9 := Lib.hid (put8_grown T.out.gr T.out.l1 ⟨s, q, l, x9, y9, h, t, m⟩)
      unfold put8 at s0 s1 s2 s3 s4 s5 s6 s7
      (try simp only [Exit.inBlock, Exit.then])
      refine bodyPost_ret (v := va s q l x9 y9 h t m) (by simp only [results, Try.results23, s0, s1, s2, s3, s4, s5, s6, s7]; simp [go_sem, s0, s1, s2, s3, s4, s5, s6, s7]; try rfl) rfl ?_
      exact ⟨s, q, l, x9, y9, h, t, m, ⟨T.out.s1, T.out.s2⟩, rfl, C9.out, G9.out⟩
    · have e0 : (i9 == 0) = false := by simp; omega
      have e1 : (i9 == 1) = false := by simp; omega
      have e2 : (i9 == 2) = false := by simp; omega
      clear i91 i92 h9
      obtain ⟨a0, a1, a2, a3, a4, a5, a6, a7⟩ := S.out.dev.c
      have fz := S.out.dev.f
      obtain ⟨b0, b1, b2, b3, b4, b5, b6, b7⟩ := S.out.res.c
      have gz := S.out.res.f
      have m3 := S.out.n1
      have m4 := m3.symm
      have T := Lib.hid (S.out)
      go_wp2_with fail
      obtain ⟨s0, s1, s2, s3, s4, s5, s6, s7⟩ := (bx_put T.out.res ⟨s, q, l, x, y, h, t, m⟩).c
      have C9 := Lib.hid (put8_cur T.out.rdy.cur (Nat.ne_of_lt T.out.l3) ⟨s, q, l, x, y, h, t, m⟩)
      have G9 := Lib.hid (put8_grown T.out.gr T.out.l1 ⟨s, q, l, x, y, h, t, m⟩)
      unfold put8 at s0 s1 s2 s3 s4 s5 s6 s7
      (try simp only [Exit.inBlock, Exit.then])
      refine bodyPost_ret (v := va s q l x y h t m) (by simp only [results, Try.results23, s0, s1, s2, s3, s4, s5, s6, s7]; simp [go_sem, s0, s1, s2, s3, s4, s5, s6, s7]; try rfl) rfl ?_
      exact ⟨s, q, l, x, y, h, t, m, ⟨T.out.s1, T.out.s2⟩, rfl, C9.out, G9.out⟩

end Go.Proofs.Ytgcheplneolonab.Dr6
namespace Go.Proofs.Ytgcheplneolonab.Dr6
open Go.RowKit Go.ChangeShapes Go.WideShapes Go.WideElems Go.Deep Go.Proofs.Ytgcheplneolonab.Mem Go.Proofs.Ytgcheplneolonab.Rw Go.Proofs.Ytgcheplneolonab.Pw Go.Proofs.Ytgcheplneolonab.P2 Go.Proofs.Ytgcheplneolonab.Dd Go.Proofs.Ytgcheplneolonab.Dv Go.Proofs.Ytgcheplneolonab.Dl Go.Proofs.Ytgcheplneolonab.Ds Go.Proofs.Ytgcheplneolonab.Fd Go.Proofs.Ytgcheplneolonab.Ch Go.Proofs.Ytgcheplneolonab.Hn Go.Proofs.Ytgcheplneolonab.Po
set_option linter.unusedVariables false
set_option linter.unusedSimpArgs false
open Go.Proofs.Ytgcheplneolonab.Ho Go.Proofs.Ytgcheplneolonab.Ig Go.Proofs.Ytgcheplneolonab.Mo Go.Proofs.Ytgcheplneolonab.Adn Go.Proofs.Ytgcheplneolonab.Ad Go.Proofs.Ytgcheplneolonab.Rz Go.Proofs.Ytgcheplneolonab.Bxd Go.Proofs.Ytgcheplneolonab.Strs Go.Proofs.Ytgcheplneolonab.Drs Go.Proofs.Ytgcheplneolonab.Jt Go.Proofs.Ytgcheplneolonab.Dp
open Go.Proofs.Ytgcheplneolonab.Draw (Cur Ready Got GotB u8s below once some_ odd pick cells_at new Fresh)
open Go.Proofs.Ytgcheplneolonab.Dr2 (HB cur_set)
open Go.Proofs.Ytgcheplneolonab.Rw (owns_below owns_grown owns_base)

/-- A list of devices lies there, apart from the cursor. -/
def Lies (w : World) (g gr og : Nat) (zs : List D) : Prop := gr ≠ g ∧ gr < w.heap.size ∧ ∀ j u, (dls zs)[j]? = some u → w.cell? ⟨gr, og + j, none⟩ = some u
theorem Lies.next {w w' : World} {g gr og : Nat} {zs : List D} (h : Lies w g gr og zs) (k : w.grownBy w' (some g)) : Lies w' g gr og zs :=
  ⟨h.1, Nat.lt_of_lt_of_le h.2.1 k.size, fun j u hu => k.cell (h.2.2 j u hu) (fun e => h.1 (Option.some.inj e))⟩
theorem Lies.rd {w : World} {g gr og : Nat} {zs : List D} (h : Lies w g gr og zs) : Rd w w.heap.size (some ⟨gr, og, none⟩) (dls zs) := Or.inr ⟨gr, og, rfl, h.2.1, h.2.2⟩
theorem lies_own {w : World} {base g gr q c : Nat} {zs : List D} (h : w.ownsRow base 28 8 (.slice (some ⟨gr, 0, none⟩) q c) q (dls zs)) (hg : g < base) : Lies w g gr 0 zs := by
  have hl := h.lt gr rfl
  refine ⟨by omega, hl.2, fun j u hu => ?_⟩
  obtain ⟨b, o, e, _, hc⟩ := (Rd.own h).get (List.getElem?_eq_some_iff.1 hu).1
  cases e
  exact hc j u hu
theorem lies_tail {w : World} {g gr : Nat} {zs : List D} (h : Lies w g gr 0 zs) : Lies w g gr 8 (zs.drop 1) := by
  refine ⟨h.1, h.2.1, fun j u hu => ?_⟩
  cases zs with
  | nil => simp [dls] at hu
  | cons d r =>
    have := h.2.2 (8 + j) u (by
      show (dc d ++ dls r)[8 + j]? = some u
      rw [List.getElem?_append_right (by rw [dc_len]; omega), dc_len, show 8 + j - 8 = j by omega]
      exact hu)
    rw [Nat.zero_add] at this
    exact this
theorem grown_widen {a b c : World} {g r : Nat} (h : a.grownBy b (some g)) (k : b.grownBy c (some r)) (hr : a.heap.size ≤ r) : a.grownBy c (some g) :=
  ⟨k.os.trans h.os, k.tape.trans h.tape, k.output.trans h.output, Nat.le_trans h.size k.size, fun j hj hg => (k.block j (Nat.lt_of_lt_of_le hj h.size) (fun e => by have e := Option.some.inj e; omega)).trans (h.block j hj hg)⟩
/-- The block of a row of devices is no block of texts. -/
theorem row_text {w : World} {base g c q b : Nat} {xs : List Value} {cs : Array Value} (h : w.ownsRow base 28 8 (.slice (some ⟨g, 0, none⟩) q c) q xs) (hb : w.heap[b]? = some (.cells cs 9 (0, 0))) : g ≠ b := by
  intro e
  subst e
  rcases h.2 with ⟨e1, _⟩ | ⟨g', cap, cur, e1, _, e3, _⟩
  · cases e1
  · injection e1 with e1
    injection e1 with e1
    injection e1 with e1
    subst e1
    rw [e3] at hb
    injection hb with hb
    injection hb with _ hb
    exact absurd hb (by decide)
theorem ready_row {w w' : World} {g r n c : Nat} {A : Option Addr} {bs : List UInt8} (h : Ready w g A n c bs) (k : w.grownBy w' (some r)) (hr : g < r) : Ready w' g A n c bs := by
  refine ⟨h.len, h.max, ?_, h.cur.kept (k.block g h.cur.lt (fun e => by have e := Option.some.inj e; omega))⟩
  rcases h.rd with h1 | ⟨b, o, e, hb, hx⟩
  · exact Or.inl h1
  · exact Or.inr ⟨b, o, e, hb, fun j v hv => k.cell (hx j v hv) (fun e => by have e : b = r := Option.some.inj e; omega)⟩
def Short (zs : List D) : Prop := zs.length ≤ 16 ∧ ∀ z ∈ zs, z.nm.size ≤ 9 ∧ z.ln.size ≤ 9
theorem Short.of {zs : List D} (h : Rn zs) : Short zs := ⟨Nat.le_trans h.len (by decide), fun z hz => ⟨Nat.le_trans (h.2 z hz).1 (by decide), Nat.le_trans (h.2 z hz).2 (by decide)⟩⟩
theorem Short.snoc {zs : List D} {d : D} (h : ∀ z ∈ zs, z.nm.size ≤ 9 ∧ z.ln.size ≤ 9) (hd : d.nm.size ≤ 9 ∧ d.ln.size ≤ 9) : ∀ z ∈ zs ++ [d], z.nm.size ≤ 9 ∧ z.ln.size ≤ 9 := fun z hz => by
  rcases List.mem_append.1 hz with hz | hz
  · exact h z hz
  · rw [List.mem_singleton.1 hz]; exact hd
/-- What the draw of a list leaves. -/
def GotL (w : World) (g : Nat) (A : Option Addr) (n c : Nat) (e : Ending) (w' : World) : Prop :=
  ∃ (zs : List D) (q gr og cc : Nat), zs.length = q ∧ Short zs ∧ e = .returned (.slice (some ⟨gr, og, none⟩) q cc) ∧ Lies w' g gr og zs ∧ w.heap.size ≤ gr ∧ Cur w' g A n c ∧ w.grownBy w' (some g)

set_option maxRecDepth 100000 in
set_option maxHeartbeats 8000000 in
theorem l6List {w : World} {g n c : Nat} {A : Option Addr} {bs : List UInt8} (hr : Ready w g A n c bs) :
    Calls Try.prog 22 #[.pointer (some ⟨g, 0, none⟩)] w (GotL w g A n c) := by
  have hlt := hr.cur.lt
  have LT := Lib.hid hlt
  have H1 := Lib.hid hr
  obtain ⟨i0, hi, hz0, hz1, hz2⟩ := info_of infoD
  clear hr hlt
  go_enter Try.func22, Try.ntmps22
  go_wp2_with fail
  refine (l6Draw H1.out).mono ?_
  rintro e w1 ⟨zs, q, gr, cc, hq, hq1, hs, rfl, ho, k1, k2⟩
  have R1 := Lib.hid (H1.out.next k2 k1)
  have G1 := Lib.hid k2
  have O1 := Lib.hid ho
  have ZQ := Lib.hid hq
  have ZS := Lib.hid hs
  have hq8 : q ≤ 8 := by have := hs.len; omega
  have hcap := Rm.owns_cap ho
  clear k1 k2 ho hq hs H1
  go_wp2_with fail
  refine (below R1.out 12 (by decide) (by decide)).mono ?_
  rintro e w2 ⟨i, ⟨i1, i2⟩, rfl, k1, k2⟩
  have R2 := Lib.hid (R1.out.next k2 k1)
  have G2 := Lib.hid (Draw.grown_trans G1.out k2)
  have O2 := Lib.hid (row_next O1.out k2 LT.out)
  clear k1 k2 R1 G1 O1
  rcases (by omega : i = 0 ∨ i = 1 ∨ i = 2 ∨ 3 ≤ i) with rfl | rfl | rfl | h3
  · clear i1 i2
    go_wp2_with fail
    refine (l6Any R2.out).mono ?_
    rintro e w3 ⟨s, q9, l, x, y, h, t, m, hd, rfl, k1, k2⟩
    have R3 := Lib.hid (R2.out.next k2 k1)
    have G3 := Lib.hid (Draw.grown_trans G2.out k2)
    have O3 := Lib.hid (row_next O2.out k2 LT.out)
    have DA := Lib.hid hd
    have hown := O3.out.alloc
    have hsz3 : w.heap.size ≤ w3.heap.size := G3.out.size
    have hg0 : w.heap.size ≤ gr := (O3.out.lt gr rfl).1
    clear k1 k2 hd R2 G2 O2
    go_wp2_with (at_builtin; refine wpList_append_own _ rfl _ _ 24 rfl w.heap.size 28 i0 (.agg #[.string ⟨#[]⟩, .int .i64 0, .string ⟨#[]⟩, .int .i64 0, .int .i64 0, .int .i64 0, .int .i64 0, .int .i64 0]) 8 80 Try.underlying24 hi hz0 hz1 hz2 rfl (by decide) _ _ _ rfl (hown _) ⟨w3.heap.size, 0, none⟩ 1 1 [.string s, .int .i64 q9, .string l, .int .i64 x, .int .i64 y, .int .i64 h, .int .i64 t, .int .i64 m] rfl rfl (by intro j u hj; match j, hj with | 0, hj => (simp at hj; subst hj; simp [Addr.add]) | 1, hj => (simp at hj; subst hj; simp [Addr.add]) | 2, hj => (simp at hj; subst hj; simp [Addr.add]) | 3, hj => (simp at hj; subst hj; simp [Addr.add]) | 4, hj => (simp at hj; subst hj; simp [Addr.add]) | 5, hj => (simp at hj; subst hj; simp [Addr.add]) | 6, hj => (simp at hj; subst hj; simp [Addr.add]) | 7, hj => (simp at hj; subst hj; simp [Addr.add])) (by intro u hu9; simp at hu9; rcases hu9 with rfl | rfl | rfl | rfl | rfl | rfl | rfl | rfl <;> rfl) (by unfold maxLen; omega) (by omega) (by simp; omega) ?_)
    intro v' w5 hown' hgrow hnil
    rw [show dls zs ++ [.string s, .int .i64 q9, .string l, .int .i64 x, .int .i64 y, .int .i64 h, .int .i64 t, .int .i64 m] = dls (zs ++ [⟨s, q9, l, x, y, h, t, m⟩]) from dls_snoc _ ⟨s, q9, l, x, y, h, t, m⟩] at hown'
    obtain ⟨g5, cq5, rfl⟩ := Mo.own_mk hown'
    have L6 := Lib.hid (lies_own hown' LT.out)
    have G5 := Lib.hid (hown'.lt g5 rfl).1
    have LL := Lib.hid (show (zs ++ [(⟨s, q9, l, x, y, h, t, m⟩ : D)]).length = q + 1 by rw [List.length_append, ZQ.out]; rfl)
    have SS := Lib.hid (show Short (zs ++ [(⟨s, q9, l, x, y, h, t, m⟩ : D)]) from ⟨by rw [LL.out]; omega, Short.snoc (Short.of ZS.out).2 DA.out⟩)
    have G6 := Lib.hid (show w.grownBy w5 (some g) from grown_widen (Draw.grown_trans G3.out (World.grownBy_alloc _ _ (some g))) hgrow hg0)
    have C6 := Lib.hid (ready_row (R3.out.alloc _) hgrow (Nat.lt_of_lt_of_le LT.out hg0)).cur
    clear hown' hgrow hnil hown O3 R3 G3
    go_wp2_with fail
    go_ret
    exact ⟨_, q + 1, g5, 0, cq5, LL.out, SS.out, rfl, L6.out, G5.out, C6.out, G6.out⟩
  · clear i1 i2
    have L2 := Lib.hid (lies_own O2.out LT.out)
    have GE := Lib.hid (O2.out.lt gr rfl).1
    by_cases hc : cc = 1
    · subst hc
      obtain rfl : q = 1 := by omega
      have E := Lib.hid (show zs.drop 1 = [] from List.drop_eq_nil_of_le (by rw [ZQ.out]; exact Nat.le_refl _))
      go_wp2_with fail
      go_ret
      exact ⟨[], 0, gr, 0, _, rfl, ⟨by decide, fun z hz => by cases hz⟩, rfl, ⟨L2.out.1, L2.out.2.1, fun j u hu => by simp [dls] at hu⟩, GE.out, R2.out.cur, G2.out⟩
    · have LL := Lib.hid (show (zs.drop 1).length = q - 1 by rw [List.length_drop, ZQ.out])
      have SS := Lib.hid (show Short (zs.drop 1) from ⟨by rw [LL.out]; omega, fun z hz => (Short.of ZS.out).2 z (List.mem_of_mem_drop hz)⟩)
      go_wp2_with fail
      go_ret
      exact ⟨zs.drop 1, q - 1, gr, 8, _, LL.out, SS.out, rfl, lies_tail L2.out, GE.out, R2.out.cur, G2.out⟩
  · clear i1 i2
    have R3 := Lib.hid (R2.out.alloc (.cells (Strs.strs late).toArray 9))
    have G3 := Lib.hid (Draw.grown_trans G2.out (World.grownBy_alloc w2 (.cells (Strs.strs late).toArray 9) (some g)))
    have O3 := Lib.hid (O2.out.alloc (.cells (Strs.strs late).toArray 9))
    have C3 := Lib.hid (show (w2.alloc (.cells (Strs.strs late).toArray 9)).heap[w2.heap.size]? = some (.cells (Strs.strs late).toArray 9 (0, 0)) from heap_alloc_new w2 _)
    clear R2 G2 O2
    go_wp2_with fail
    go_loopw [3, 25] (fun lv iv wr => ∃ (k q2 : Nat) (ys : List D), k ≤ 6 ∧ q2 = q + k ∧ iv = .int .i64 k ∧ (∃ gr cc : Nat, lv = .slice (some ⟨gr, 0, none⟩) q2 cc) ∧ Hid (ys.length = q2) ∧ Hid (∀ z ∈ ys, z.nm.size ≤ 9 ∧ z.ln.size ≤ 9) ∧ Hid (wr.ownsRow w.heap.size 28 8 lv q2 (dls ys)) ∧ Hid (Ready wr g A n c bs) ∧ Hid (w.grownBy wr (some g)) ∧ Hid (wr.heap[w2.heap.size]? = some (.cells (Strs.strs late).toArray 9 (0, 0)))) (fun _ i _ => 6 - (intOf i).toNat)
    case atStart => exact ⟨0, q, zs, by omega, rfl, rfl, ⟨_, _, rfl⟩, ZQ, Lib.hid (Short.of ZS.out).2, O3, R3, G3, C3⟩
    case round =>
      clear R3 G3 O3 C3
      obtain ⟨k, q2, ys, hk, hq2, rfl, ⟨g4, c4, rfl⟩, YL, YS, OK, RK, GK, CK⟩ := hrel
      have HQ2 := Lib.hid hq2
      have hq9 : q2 ≤ 14 := by omega
      clear hq2
      by_cases hlt : k < 6
      · obtain ⟨x9, hx9⟩ : ∃ x, late[k]? = some x := ⟨_, List.getElem?_eq_getElem hlt⟩
        have c1 : wr.cell? ⟨w2.heap.size, k, none⟩ = some (.string x9) := by
          rw [cell_of_row wr w2.heap.size k _ _ _ CK.out, List.getElem?_toArray]
          unfold Strs.strs
          rw [List.getElem?_map, hx9]; rfl
        have XS := Lib.hid (late9 (List.mem_of_getElem? hx9))
        have HG0 := Lib.hid (OK.out.lt g4 rfl)
        have NEK := Lib.hid (row_text OK.out CK.out)
        have HSZ := Lib.hid GK.out.size
        have hszr : w.heap.size ≤ wr.heap.size := GK.out.size
        have hown := OK.out.alloc
        clear hx9
        go_wp2_with (at_builtin; refine wpList_append_own _ rfl _ _ 24 rfl w.heap.size 28 i0 (.agg #[.string ⟨#[]⟩, .int .i64 0, .string ⟨#[]⟩, .int .i64 0, .int .i64 0, .int .i64 0, .int .i64 0, .int .i64 0]) 8 80 Try.underlying24 hi hz0 hz1 hz2 rfl (by decide) _ _ _ rfl (hown _) ⟨wr.heap.size, 0, none⟩ 1 1 [.string x9, .int .i64 1, .string ⟨#[]⟩, .int .i64 0, .int .i64 0, .int .i64 0, .int .i64 0, .int .i64 0] rfl rfl (by intro j u hj; match j, hj with | 0, hj => (simp at hj; subst hj; simp [Addr.add]) | 1, hj => (simp at hj; subst hj; simp [Addr.add]) | 2, hj => (simp at hj; subst hj; simp [Addr.add]) | 3, hj => (simp at hj; subst hj; simp [Addr.add]) | 4, hj => (simp at hj; subst hj; simp [Addr.add]) | 5, hj => (simp at hj; subst hj; simp [Addr.add]) | 6, hj => (simp at hj; subst hj; simp [Addr.add]) | 7, hj => (simp at hj; subst hj; simp [Addr.add])) (by intro u hu9; simp at hu9; rcases hu9 with rfl | rfl | rfl | rfl | rfl | rfl | rfl | rfl <;> rfl) (by unfold maxLen; omega) (by omega) (by simp; omega) ?_)
        intro v' w5 hown' hgrow hnil
        rw [show dls ys ++ [.string x9, .int .i64 1, .string ⟨#[]⟩, .int .i64 0, .int .i64 0, .int .i64 0, .int .i64 0, .int .i64 0] = dls (ys ++ [⟨x9, 1, ⟨#[]⟩, 0, 0, 0, 0, 0⟩]) from dls_snoc _ ⟨x9, 1, ⟨#[]⟩, 0, 0, 0, 0, 0⟩] at hown'
        obtain ⟨g5, cq5, rfl⟩ := Mo.own_mk hown'
        have O6 := Lib.hid hown'
        have LL := Lib.hid (show (ys ++ [(⟨x9, 1, ⟨#[]⟩, 0, 0, 0, 0, 0⟩ : D)]).length = q2 + 1 by rw [List.length_append, YL.out]; rfl)
        have S6 := Lib.hid (Short.snoc (d := ⟨x9, 1, ⟨#[]⟩, 0, 0, 0, 0, 0⟩) YS.out ⟨XS.out, show (⟨#[]⟩ : ByteArray).size ≤ 9 by decide⟩)
        have G6 := Lib.hid (grown_widen (Draw.grown_trans GK.out (World.grownBy_alloc _ _ (some g))) hgrow HG0.out.1)
        have R6 := Lib.hid (ready_row (RK.out.alloc _) hgrow (Nat.lt_of_lt_of_le LT.out HG0.out.1))
        have C6 := Lib.hid ((hgrow.block w2.heap.size (by have := (Array.getElem?_eq_some_iff.1 CK.out).1; simp; omega) (fun e => NEK.out (Option.some.inj e).symm)).trans ((Below.heap_alloc _ _ _ (Array.getElem?_eq_some_iff.1 CK.out).1).trans CK.out))
        clear hown' hgrow hnil hown OK RK GK CK c1
        go_wp2_with fail
        go_roundw
        case rel => exact ⟨k + 1, q2 + 1, _, by omega, by have := HQ2.out; omega, by go_num, ⟨_, _, rfl⟩, LL, S6, O6, R6, G6, C6⟩
        case measure => simp [intOf]; omega
      · obtain rfl : k = 6 := by omega
        have L2 := Lib.hid (lies_own OK.out LT.out)
        go_wp2_with fail
        go_ret
        exact ⟨ys, q2, g4, 0, c4, YL.out, ⟨by rw [YL.out]; omega, YS.out⟩, rfl, L2.out, (OK.out.lt g4 rfl).1, RK.out.cur, GK.out⟩
  · have e0 : (i == 0) = false := by simp; omega
    have e1 : (i == 1) = false := by simp; omega
    have e2 : (i == 2) = false := by simp; omega
    have L2 := Lib.hid (lies_own O2.out LT.out)
    clear i1 i2 h3
    go_wp2_with fail
    go_ret
    exact ⟨zs, q, gr, 0, cc, ZQ.out, Short.of ZS.out, rfl, L2.out, (O2.out.lt gr rfl).1, R2.out.cur, G2.out⟩

/-- What the draw for TurnRig leaves. -/
def DrawnN (w : World) (e : Ending) (w' : World) : Prop :=
  ∃ (v : Value) (k : Int), e = .returned (.tuple #[v, .int .i64 k]) ∧ Below w.heap.size w w'

end Go.Proofs.Ytgcheplneolonab.Dr6
namespace Go.Proofs.Ytgcheplneolonab.Dr6
open Go.RowKit Go.ChangeShapes Go.WideShapes Go.WideElems Go.Deep Go.Proofs.Ytgcheplneolonab.Mem Go.Proofs.Ytgcheplneolonab.Rw Go.Proofs.Ytgcheplneolonab.Pw Go.Proofs.Ytgcheplneolonab.P2 Go.Proofs.Ytgcheplneolonab.Dd Go.Proofs.Ytgcheplneolonab.Dv Go.Proofs.Ytgcheplneolonab.Dl Go.Proofs.Ytgcheplneolonab.Ds Go.Proofs.Ytgcheplneolonab.Fd Go.Proofs.Ytgcheplneolonab.Ch Go.Proofs.Ytgcheplneolonab.Hn Go.Proofs.Ytgcheplneolonab.Po
set_option linter.unusedVariables false
set_option linter.unusedSimpArgs false
open Go.Proofs.Ytgcheplneolonab.Bxd Go.Proofs.Ytgcheplneolonab.Strs Go.Proofs.Ytgcheplneolonab.Drs Go.Proofs.Ytgcheplneolonab.Jt Go.Proofs.Ytgcheplneolonab.Dp
open Go.Proofs.Ytgcheplneolonab.Draw (Cur Ready Got GotB u8s below new)
open Go.Proofs.Ytgcheplneolonab.Rw (owns_below owns_grown owns_base)

theorem put8_size (w : World) (b : Nat) (d : D) : (put8 w b d).heap.size = w.heap.size := by simp [World.setCell]
theorem Lies.put {w : World} {g gr og b : Nat} {zs : List D} (h : Lies w g gr og zs) (hb : gr ≠ b) (d : D) : Lies (put8 w b d) g gr og zs :=
  ⟨h.1, Nat.lt_of_lt_of_eq h.2.1 (put8_size w b d).symm, fun j u hu => put8_cell (p := ⟨gr, og + j, none⟩) (h.2.2 j u hu) hb d⟩
theorem below_set {w0 w : World} {B : Nat} (h : Below B w0 w) {b : Nat} (hb : B ≤ b) (j : Nat) (v : Value) : Below B w0 (w.setCell ⟨b, j, none⟩ v) :=
  ⟨h.os, h.tape, h.output, by simp [World.setCell]; exact h.size, fun k hk => (Below.heap_setCell _ _ _ _ (by show k ≠ b; omega)).trans (h.block k hk)⟩
theorem put8_below {w0 w : World} {B : Nat} (h : Below B w0 w) {b : Nat} (hb : B ≤ b) (d : D) : Below B w0 (put8 w b d) :=
  below_set (below_set (below_set (below_set (below_set (below_set (below_set (below_set h hb _ _) hb _ _) hb _ _) hb _ _) hb _ _) hb _ _) hb _ _) hb _ _
def DrawnA (w : World) (e : Ending) (w' : World) : Prop :=
  ∃ (zs : List D) (q gr og cc : Nat) (s : ByteArray) (q9 : Int) (l : ByteArray) (x y h t m : Int), zs.length = q ∧ Short zs ∧ (s.size ≤ 9 ∧ l.size ≤ 9) ∧ e = .returned (.tuple #[.slice (some ⟨gr, og, none⟩) q cc, va s q9 l x y h t m]) ∧ Rd w' w'.heap.size (some ⟨gr, og, none⟩) (dls zs) ∧ Below w.heap.size w w'

set_option maxRecDepth 100000 in
set_option maxHeartbeats 4000000 in
theorem drawAdd (w : World) (A : Option Addr) (n c : Nat) (bs : List UInt8) (hn : bs.length = n) (hb : n ≤ 4096) (hr : Rd w w.heap.size A (u8s bs)) :
    Calls Try.prog 6 #[.slice A n c] w (DrawnA w) := by
  have f0 : Below w.heap.size w (w.alloc (.cells (ca ⟨#[]⟩ 0 ⟨#[]⟩ 0 0 0 0 0) 28)) := by go_grown
  have FB := Lib.hid f0
  have X0 := Lib.hid (Bx.new w ⟨#[]⟩ 0 ⟨#[]⟩ 0 0 0 0 0)
  have N0 := Lib.hid (new (w.alloc (.cells (ca ⟨#[]⟩ 0 ⟨#[]⟩ 0 0 0 0 0) 28)) A n c bs hn hb ((hr.below f0).more f0.size))
  clear hn hb hr
  go_enter Try.func6, Try.ntmps6
  go_wp2_with fail
  refine N0.out.mono ?_
  rintro e w1 ⟨g, rfl, hg, hR, hB⟩
  have R1 := Lib.hid hR
  have B1 := Lib.hid hB
  have HG := Lib.hid hg
  have NE := Lib.hid (show w.heap.size ≠ g by have := hg; simp at this; omega)
  have SZ := Lib.hid (show w.heap.size < w1.heap.size by have := hB.size; simp at this; omega)
  have X1 := Lib.hid (X0.out.below hB (by simp))
  clear hg hR hB N0
  go_wp2_with fail
  refine (l6List R1.out).mono ?_
  rintro e w2 ⟨zs, q, gr, og, cc, hq, hs, rfl, ho, hge, k1, k2⟩
  have R2 := Lib.hid (R1.out.next k2 k1)
  have B2 := Lib.hid (B1.out.grown k2 B1.out.size (fun j hj => by cases hj; exact HG.out))
  have L2 := Lib.hid ho
  have ZQ := Lib.hid (And.intro hq hs)
  have GE := Lib.hid hge
  have X2 := Lib.hid (X1.out.grown k2 (fun e => NE.out (Option.some.inj e)))
  clear k1 k2 ho hq hs hge R1
  go_wp2_with fail
  refine (l6Any R2.out).mono ?_
  rintro e w3 ⟨s, q9, l, x, y, h, t, m, hd, rfl, k1, k2⟩
  have B3 := Lib.hid (B2.out.grown k2 B2.out.size (fun j hj => by cases hj; exact HG.out))
  have L3 := Lib.hid (L2.out.next k2)
  have X3 := Lib.hid (X2.out.grown k2 (fun e => NE.out (Option.some.inj e)))
  have DA := Lib.hid hd
  clear k1 k2 hd B2 L2 R2 X2
  obtain ⟨b0, b1, b2, b3, b4, b5, b6, b7⟩ := X3.out.c
  have gz := X3.out.f
  go_wp2_with fail
  obtain ⟨s0, s1, s2, s3, s4, s5, s6, s7⟩ := (bx_put X3.out ⟨s, q9, l, x, y, h, t, m⟩).c
  have L4 := Lib.hid (L3.out.put (by have := GE.out; have := SZ.out; omega : gr ≠ w.heap.size) ⟨s, q9, l, x, y, h, t, m⟩)
  have B4 := Lib.hid (put8_below (FB.out.trans (B3.out.mono (by simp))) (Nat.le_refl _) ⟨s, q9, l, x, y, h, t, m⟩)
  (try simp only [Exit.inBlock, Exit.then])
  refine bodyPost_ret (v := .tuple #[.slice (some ⟨gr, og, none⟩) q cc, va s q9 l x y h t m]) (by simp only [results, Try.results6, s0, s1, s2, s3, s4, s5, s6, s7]; simp [go_sem, s0, s1, s2, s3, s4, s5, s6, s7]; try rfl) rfl ?_
  exact ⟨zs, q, gr, og, cc, s, q9, l, x, y, h, t, m, ZQ.out.1, ZQ.out.2, DA.out, rfl, L4.out.rd, B4.out⟩
end Go.Proofs.Ytgcheplneolonab.Dr6
