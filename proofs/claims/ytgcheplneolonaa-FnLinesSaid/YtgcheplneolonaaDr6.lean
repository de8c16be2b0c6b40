/- The draw of a rig: some rig with short names; nothing but the cursor is written. -/
import Derived.Test.YtgcheplneolonaaBxd
import Derived.Test.YtgcheplneolonaaDrs
import Derived.Test.YtgcheplneolonaaDr4
import Derived.Handy
namespace Go.Proofs.Ytgcheplneolonaa.Dr6
open Go.RowKit Go.ChangeShapes Go.WideShapes Go.WideElems Go.Deep Go.Proofs.Ytgcheplneolonaa.Mem Go.Proofs.Ytgcheplneolonaa.Rw Go.Proofs.Ytgcheplneolonaa.Pw Go.Proofs.Ytgcheplneolonaa.P2 Go.Proofs.Ytgcheplneolonaa.Dd Go.Proofs.Ytgcheplneolonaa.Dv Go.Proofs.Ytgcheplneolonaa.Dl Go.Proofs.Ytgcheplneolonaa.Ds
set_option linter.unusedVariables false
set_option linter.unusedSimpArgs false
open Go.Proofs.Ytgcheplneolonaa.Bxd Go.Proofs.Ytgcheplneolonaa.Strs Go.Proofs.Ytgcheplneolonaa.Drs Go.Proofs.Ytgcheplneolonaa.Jt Go.Proofs.Ytgcheplneolonaa.Dp
open Go.Proofs.Ytgcheplneolonaa.Draw (Cur Ready Got GotB u8s below once some_ pick cells_at new Fresh)
open Go.Proofs.Ytgcheplneolonaa.Dr2 (HB cur_set)
open Go.Proofs.Ytgcheplneolonaa.Dr4
open Go.Proofs.Ytgcheplneolonaa.Rw (owns_below owns_grown owns_base)

/-- A device's cells, written. -/
abbrev put8 (w : World) (b : Nat) (d : D) : World := (((((((w.setCell ⟨b, 0, none⟩ (.string d.nm)).setCell ⟨b, 1, none⟩ (.int .i64 d.kd)).setCell ⟨b, 2, none⟩ (.string d.ln)).setCell ⟨b, 3, none⟩ (.int .i64 d.x)).setCell ⟨b, 4, none⟩ (.int .i64 d.y)).setCell ⟨b, 5, none⟩ (.int .i64 d.hd)).setCell ⟨b, 6, none⟩ (.int .i64 d.tl)).setCell ⟨b, 7, none⟩ (.int .i64 d.ms)
set_option maxHeartbeats 1000000 in
theorem bx_put {w : World} {b : Nat} {e : D} (h : Bx w b e) (d : D) : Bx (put8 w b d) b d := by
  have h1 : (w.setCell ⟨b, 0, none⟩ (.string d.nm)).heap[b]? = some (.cells (ca d.nm e.kd e.ln e.x e.y e.hd e.tl e.ms) 31 (0, 0)) := heap_setCell_same _ b 0 _ _ _ h
  have h2 : ((w.setCell ⟨b, 0, none⟩ (.string d.nm)).setCell ⟨b, 1, none⟩ (.int .i64 d.kd)).heap[b]? = some (.cells (ca d.nm d.kd e.ln e.x e.y e.hd e.tl e.ms) 31 (0, 0)) := heap_setCell_same _ b 1 _ _ _ h1
  have h3 : (((w.setCell ⟨b, 0, none⟩ (.string d.nm)).setCell ⟨b, 1, none⟩ (.int .i64 d.kd)).setCell ⟨b, 2, none⟩ (.string d.ln)).heap[b]? = some (.cells (ca d.nm d.kd d.ln e.x e.y e.hd e.tl e.ms) 31 (0, 0)) := heap_setCell_same _ b 2 _ _ _ h2
  have h4 : ((((w.setCell ⟨b, 0, none⟩ (.string d.nm)).setCell ⟨b, 1, none⟩ (.int .i64 d.kd)).setCell ⟨b, 2, none⟩ (.string d.ln)).setCell ⟨b, 3, none⟩ (.int .i64 d.x)).heap[b]? = some (.cells (ca d.nm d.kd d.ln d.x e.y e.hd e.tl e.ms) 31 (0, 0)) := heap_setCell_same _ b 3 _ _ _ h3
  have h5 : (((((w.setCell ⟨b, 0, none⟩ (.string d.nm)).setCell ⟨b, 1, none⟩ (.int .i64 d.kd)).setCell ⟨b, 2, none⟩ (.string d.ln)).setCell ⟨b, 3, none⟩ (.int .i64 d.x)).setCell ⟨b, 4, none⟩ (.int .i64 d.y)).heap[b]? = some (.cells (ca d.nm d.kd d.ln d.x d.y e.hd e.tl e.ms) 31 (0, 0)) := heap_setCell_same _ b 4 _ _ _ h4
  have h6 : ((((((w.setCell ⟨b, 0, none⟩ (.string d.nm)).setCell ⟨b, 1, none⟩ (.int .i64 d.kd)).setCell ⟨b, 2, none⟩ (.string d.ln)).setCell ⟨b, 3, none⟩ (.int .i64 d.x)).setCell ⟨b, 4, none⟩ (.int .i64 d.y)).setCell ⟨b, 5, none⟩ (.int .i64 d.hd)).heap[b]? = some (.cells (ca d.nm d.kd d.ln d.x d.y d.hd e.tl e.ms) 31 (0, 0)) := heap_setCell_same _ b 5 _ _ _ h5
  have h7 : (((((((w.setCell ⟨b, 0, none⟩ (.string d.nm)).setCell ⟨b, 1, none⟩ (.int .i64 d.kd)).setCell ⟨b, 2, none⟩ (.string d.ln)).setCell ⟨b, 3, none⟩ (.int .i64 d.x)).setCell ⟨b, 4, none⟩ (.int .i64 d.y)).setCell ⟨b, 5, none⟩ (.int .i64 d.hd)).setCell ⟨b, 6, none⟩ (.int .i64 d.tl)).heap[b]? = some (.cells (ca d.nm d.kd d.ln d.x d.y d.hd d.tl e.ms) 31 (0, 0)) := heap_setCell_same _ b 6 _ _ _ h6
  have h8 : ((((((((w.setCell ⟨b, 0, none⟩ (.string d.nm)).setCell ⟨b, 1, none⟩ (.int .i64 d.kd)).setCell ⟨b, 2, none⟩ (.string d.ln)).setCell ⟨b, 3, none⟩ (.int .i64 d.x)).setCell ⟨b, 4, none⟩ (.int .i64 d.y)).setCell ⟨b, 5, none⟩ (.int .i64 d.hd)).setCell ⟨b, 6, none⟩ (.int .i64 d.tl)).setCell ⟨b, 7, none⟩ (.int .i64 d.ms)).heap[b]? = some (.cells (ca d.nm d.kd d.ln d.x d.y d.hd d.tl d.ms) 31 (0, 0)) := heap_setCell_same _ b 7 _ _ _ h7
  exact h8
theorem put8_grown {w0 w : World} {r : Option Nat} (h : w0.grownBy w r) {b : Nat} (hb : w0.heap.size ≤ b) (d : D) : w0.grownBy (put8 w b d) r :=
  Dr2.grown_set (Dr2.grown_set (Dr2.grown_set (Dr2.grown_set (Dr2.grown_set (Dr2.grown_set (Dr2.grown_set (Dr2.grown_set h hb _ _) hb _ _) hb _ _) hb _ _) hb _ _) hb _ _) hb _ _) hb _ _
theorem put8_cur {w : World} {g n c b : Nat} {A : Option Addr} (h : Cur w g A n c) (hne : g ≠ b) (d : D) : Cur (put8 w b d) g A n c :=
  cur_set (cur_set (cur_set (cur_set (cur_set (cur_set (cur_set (cur_set h hne _ _) hne _ _) hne _ _) hne _ _) hne _ _) hne _ _) hne _ _) hne _ _
theorem put8_block {w : World} {b j : Nat} (h : j ≠ b) (d : D) : (put8 w b d).heap[j]? = w.heap[j]? :=
  (Below.heap_setCell _ _ _ _ h).trans ((Below.heap_setCell _ _ _ _ h).trans ((Below.heap_setCell _ _ _ _ h).trans ((Below.heap_setCell _ _ _ _ h).trans ((Below.heap_setCell _ _ _ _ h).trans ((Below.heap_setCell _ _ _ _ h).trans ((Below.heap_setCell _ _ _ _ h).trans (Below.heap_setCell _ _ _ _ h)))))))
theorem put8_cell {w : World} {b : Nat} {p : Addr} {v : Value} (h : w.cell? p = some v) (hp : p.block ≠ b) (d : D) : (put8 w b d).cell? p = some v := (World.cell?_of_block (put8_block hp d)).trans h
theorem put8_ready {w : World} {g n c b : Nat} {A : Option Addr} {bs : List UInt8} (h : Ready w g A n c bs) (hb : g < b) (d : D) : Ready (put8 w b d) g A n c bs :=
  ⟨h.len, h.max, h.rd.keep fun p hp => World.cell?_of_block (put8_block (by omega) d), put8_cur h.cur (by omega) d⟩
theorem ready_drew {w : World} {g n c : Nat} {A : Option Addr} {bs : List UInt8} (h : Ready w g A n c bs) : Ready w.drew g A n c bs := ⟨h.len, h.max, h.rd, h.cur⟩
theorem grown_drew {w w' : World} {r : Option Nat} (h : w.grownBy w' r) : w.grownBy w'.drew r := ⟨h.os, h.tape, h.output, h.size, h.block⟩

/-- What the draw of a device leaves. -/
def GotD (P : D → Prop) (w : World) (g : Nat) (A : Option Addr) (n c : Nat) (e : Ending) (w' : World) : Prop :=
  ∃ (s : ByteArray) (q : Int) (l : ByteArray) (x y h t m : Int), P ⟨s, q, l, x, y, h, t, m⟩ ∧ e = .returned (va s q l x y h t m) ∧ Cur w' g A n c ∧ w.grownBy w' (some g)
def Noz (a b : ByteArray) (d : D) : Prop := d.nm = a ∧ d.kd = 2 ∧ d.ln = b ∧ (∃ l, jt d.x d.y d.hd d.tl l = true) ∧ 0 ≤ d.ms ∧ d.ms ≤ 32

set_option maxRecDepth 100000 in
set_option maxHeartbeats 2000000 in
theorem l6Nozzle {w : World} {g n c : Nat} {A : Option Addr} {bs : List UInt8} (h : Ready w g A n c bs) (a b : ByteArray) :
    Calls Try.prog 32 #[.pointer (some ⟨g, 0, none⟩), .string a, .string b] w (GotD (Noz a b) w g A n c) := by
  have hlt := h.cur.lt
  have H1 := Lib.hid (h.alloc (.cells (ca ⟨#[]⟩ 0 ⟨#[]⟩ 0 0 0 0 0) 31))
  have G1 := Lib.hid (World.grownBy_alloc w (.cells (ca ⟨#[]⟩ 0 ⟨#[]⟩ 0 0 0 0 0) 31) (some g))
  have B1 := Lib.hid (Bx.new w ⟨#[]⟩ 0 ⟨#[]⟩ 0 0 0 0 0)
  have NE := Lib.hid (show w.heap.size ≠ g by omega)
  have LT0 := Lib.hid hlt
  clear h hlt
  go_enter Try.func32, Try.ntmps32
  go_wp2_with fail
  refine (l3Draw H1.out).mono ?_
  rintro e w1 ⟨x, y, hh, t, l, hj, rfl, k1, k2⟩
  have H2 := H1.out.next k2 k1
  have G2 := Draw.grown_trans G1.out k2
  have B2 := B1.out.grown k2 (fun e => NE.out (Option.some.inj e))
  have X := Lib.hid hj
  have LT1 := Lib.hid k1.lt
  have LT2 := Lib.hid B2.lt
  have J3 := Lib.hid (JB.new w1 x y hh t l)
  have H3 := Lib.hid (H2.alloc (.cells (jc x y hh t l) 84))
  have G3 := Lib.hid (Draw.grown_trans G2 (World.grownBy_alloc w1 (.cells (jc x y hh t l) 84) (some g)))
  have B3 := Lib.hid (B2.alloc (.cells (jc x y hh t l) 84))
  clear k1 k2 hj H1 G1 B1 H2 G2 B2
  go_wp2_with fail
  refine wp_region_noPanic ?_
  refine wp_region_held_drew (S := (fun w' => w'.cell? ⟨w1.heap.size, 0, none⟩ = some (.int .i64 x) ∧ w'.cell? ⟨w1.heap.size, 1, none⟩ = some (.int .i64 y) ∧ w'.cell? ⟨w1.heap.size, 2, none⟩ = some (.int .i64 hh) ∧ w'.cell? ⟨w1.heap.size, 3, none⟩ = some (.int .i64 t) ∧ Ready w' g A n c bs ∧ w.grownBy w' (some g))) (by kernel_rfl) ?_ (fun hH => ?_)
  · exact ⟨J3.out.c.1, J3.out.c.2.1, J3.out.c.2.2.1, J3.out.c.2.2.2.1, ready_drew H3.out, grown_drew G3.out⟩
  refine wpAnyH_take (i := 0) (oi := { dst := some 10, op := _, type := _, pos := _, after := _, guard := _ }) (v := ?_) rfl (by kernel_rfl) (by kernel_rfl) (by kernel_rfl) (fun _ _ _ h => h) (Or.inl ⟨by rfl, ?_⟩) hH ?_
  rotate_left 1
  · intro W hSw
    (try dsimp only at hSw)
    go_simp
    (try with_reducible rfl)
  try simp only [Act.put, List.setIfInBounds_toArray, List.set_cons_zero, List.set_cons_succ]
  refine wpAnyH_take (i := 1) (oi := { dst := some 11, op := _, type := _, pos := _, after := _, guard := _ }) (v := ?_) rfl (by kernel_rfl) (by kernel_rfl) (by kernel_rfl) (fun _ _ _ h => h) (Or.inl ⟨by rfl, ?_⟩) hH ?_
  rotate_left 1
  · intro W hSw
    (try dsimp only at hSw)
    go_simp
    (try with_reducible rfl)
  try simp only [Act.put, List.setIfInBounds_toArray, List.set_cons_zero, List.set_cons_succ]
  refine wpAnyH_take (i := 2) (oi := { dst := some 12, op := _, type := _, pos := _, after := _, guard := _ }) (v := ?_) rfl (by kernel_rfl) (by kernel_rfl) (by kernel_rfl) (fun _ _ _ h => h) (Or.inl ⟨by rfl, ?_⟩) hH ?_
  rotate_left 1
  · intro W hSw
    (try dsimp only at hSw)
    go_simp
    (try with_reducible rfl)
  try simp only [Act.put, List.setIfInBounds_toArray, List.set_cons_zero, List.set_cons_succ]
  refine wpAnyH_take (i := 3) (oi := { dst := some 13, op := _, type := _, pos := _, after := _, guard := _ }) (v := ?_) rfl (by kernel_rfl) (by kernel_rfl) (by kernel_rfl) (fun _ _ _ h => h) (Or.inl ⟨by rfl, ?_⟩) hH ?_
  rotate_left 1
  · intro W hSw
    (try dsimp only at hSw)
    go_simp
    (try with_reducible rfl)
  try simp only [Act.put, List.setIfInBounds_toArray, List.set_cons_zero, List.set_cons_succ]
  refine wpAnyH_take (i := 4) (oi := { dst := some 14, op := _, type := _, pos := _, after := _, guard := _ }) (v := ?_) rfl (by kernel_rfl) (by kernel_rfl) (by kernel_rfl) (fun _ _ _ h => h) (Or.inl ⟨by rfl, ?_⟩) hH ?_
  rotate_left 1
  · intro W hSw
    (try dsimp only at hSw)
    go_simp
    (try with_reducible rfl)
  try simp only [Act.put, List.setIfInBounds_toArray, List.set_cons_zero, List.set_cons_succ]
  refine wpAnyH_take (i := 5) (oi := { dst := some 15, op := _, type := _, pos := _, after := _, guard := _ }) (v := ?_) rfl (by kernel_rfl) (by kernel_rfl) (by kernel_rfl) (fun _ _ _ h => h) (Or.inl ⟨by rfl, ?_⟩) hH ?_
  rotate_left 1
  · intro W hSw
    (try dsimp only at hSw)
    go_simp
    (try with_reducible rfl)
  try simp only [Act.put, List.setIfInBounds_toArray, List.set_cons_zero, List.set_cons_succ]
  refine wpAnyH_take (i := 6) (oi := { dst := some 16, op := _, type := _, pos := _, after := _, guard := _ }) (v := ?_) rfl (by kernel_rfl) (by kernel_rfl) (by kernel_rfl) (fun _ _ _ h => h) (Or.inl ⟨by rfl, ?_⟩) hH ?_
  rotate_left 1
  · intro W hSw
    (try dsimp only at hSw)
    go_simp
    (try with_reducible rfl)
  try simp only [Act.put, List.setIfInBounds_toArray, List.set_cons_zero, List.set_cons_succ]
  refine wpAnyH_take (i := 7) (oi := { dst := some 17, op := _, type := _, pos := _, after := _, guard := _ }) (v := ?_) rfl (by kernel_rfl) (by kernel_rfl) (by kernel_rfl) (fun _ _ _ h => h) (Or.inl ⟨by rfl, ?_⟩) hH ?_
  rotate_left 1
  · intro W hSw
    (try dsimp only at hSw)
    go_simp
    (try with_reducible rfl)
  try simp only [Act.put, List.setIfInBounds_toArray, List.set_cons_zero, List.set_cons_succ]
  refine wpAnyH_take (i := 8) (oi := { dst := some 18, op := _, type := _, pos := _, after := _, guard := _ }) (v := ?_) rfl (by kernel_rfl) (by kernel_rfl) (by kernel_rfl) (fun _ _ _ h => h) (Or.inl ⟨by rfl, ?_⟩) hH ?_
  rotate_left 1
  · intro W hSw
    (try dsimp only at hSw)
    go_simp
    (try with_reducible rfl)
  try simp only [Act.put, List.setIfInBounds_toArray, List.set_cons_zero, List.set_cons_succ]
  refine wpAnyH_ready (rs := [9]) (by kernel_rfl) (by simp) (AllReadyH.cons rfl (fun K hK => ?_) AllReadyH.nil)
  go_simp
  go_at_call 49; ((with_reducible refine (some_ hH.2.2.2.2.1 0 32 (by decide) (by decide) (by decide)).mono ?_); rintro e r1 ⟨m, hm, rfl, k1, k2⟩); have b4 := Bx.grown (w := (w1.alloc (.cells (jc x y hh t l) 84)).drew) B3.out k2 (fun e => NE.out (Option.some.inj e)); have fz := b4.f; obtain ⟨d0, d1, d2, d3, d4, d5, d6, d7⟩ := b4.c; go_wp2_with fail
  refine hK.out _ _ ?_ (fun hG => ?_)
  · exact ⟨k2.cell hH.1 (fun e => by have e : w1.heap.size = g := Option.some.inj e; have := LT1.out; omega), k2.cell hH.2.1 (fun e => by have e : w1.heap.size = g := Option.some.inj e; have := LT1.out; omega), k2.cell hH.2.2.1 (fun e => by have e : w1.heap.size = g := Option.some.inj e; have := LT1.out; omega), k2.cell hH.2.2.2.1 (fun e => by have e : w1.heap.size = g := Option.some.inj e; have := LT1.out; omega), hH.2.2.2.2.1.next k2 k1, Draw.grown_trans hH.2.2.2.2.2 k2⟩
  replace hH := hG
  clear hK K hG
  try simp only [Act.put, List.setIfInBounds_toArray, List.set_cons_zero, List.set_cons_succ]
  refine wpAnyH_take (i := 10) (oi := { dst := some 20, op := _, type := _, pos := _, after := _, guard := _ }) (v := ?_) rfl (by kernel_rfl) (by kernel_rfl) (by kernel_rfl) (fun _ _ _ h => h) (Or.inl ⟨by rfl, ?_⟩) hH ?_
  rotate_left 1
  · intro W hSw
    (try dsimp only at hSw)
    go_simp
    (try with_reducible rfl)
  try simp only [Act.put, List.setIfInBounds_toArray, List.set_cons_zero, List.set_cons_succ]
  refine wpAnyH_ready (rs := [11]) (by kernel_rfl) (by simp) (AllReadyH.cons rfl (fun K hK => ?_) AllReadyH.nil)
  go_simp
  refine hK.out _ _ ?_ (fun hG => ?_)
  · exact ⟨put8_cell hH.1 (by have := LT2.out; show w1.heap.size ≠ w.heap.size; omega) (⟨a, 2, b, x, y, hh, t, m⟩ : D), put8_cell hH.2.1 (by have := LT2.out; show w1.heap.size ≠ w.heap.size; omega) (⟨a, 2, b, x, y, hh, t, m⟩ : D), put8_cell hH.2.2.1 (by have := LT2.out; show w1.heap.size ≠ w.heap.size; omega) (⟨a, 2, b, x, y, hh, t, m⟩ : D), put8_cell hH.2.2.2.1 (by have := LT2.out; show w1.heap.size ≠ w.heap.size; omega) (⟨a, 2, b, x, y, hh, t, m⟩ : D), put8_ready hH.2.2.2.2.1 LT0.out (⟨a, 2, b, x, y, hh, t, m⟩ : D), put8_grown hH.2.2.2.2.2 (Nat.le_refl _) (⟨a, 2, b, x, y, hh, t, m⟩ : D)⟩
  replace hH := hG
  clear hK K hG
  try simp only [Act.put, List.setIfInBounds_toArray, List.set_cons_zero, List.set_cons_succ]
  refine wpAnyH_done (by kernel_rfl) ?_ _
  refine NoPanic.normal ?_
  have S9 := Lib.hid hH.2.2.2.2
  clear hH
  go_wp2_with fail
  (try simp only [Exit.inBlock, Exit.then])
  obtain ⟨s0, s1, s2, s3, s4, s5, s6, s7⟩ := (bx_put b4 (⟨a, 2, b, x, y, hh, t, m⟩ : D)).c
  have M := Lib.hid hm
  clear d0 d1 d2 d3 d4 d5 d6 d7 fz k1 k2 hm
  unfold put8 at s0 s1 s2 s3 s4 s5 s6 s7
  refine bodyPost_ret (v := va a 2 b x y hh t m) (by simp only [results, Try.results32, s0, s1, s2, s3, s4, s5, s6, s7]; simp [go_sem, s0, s1, s2, s3, s4, s5, s6, s7]; try rfl) rfl ?_
  exact ⟨a, 2, b, x, y, hh, t, m, ⟨rfl, rfl, rfl, ⟨l, X.out⟩, M.out.1, M.out.2⟩, rfl, S9.out.1.cur, S9.out.2⟩

end Go.Proofs.Ytgcheplneolonaa.Dr6
