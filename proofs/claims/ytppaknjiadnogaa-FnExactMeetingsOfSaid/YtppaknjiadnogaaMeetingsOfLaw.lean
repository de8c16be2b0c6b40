/- The law FnExactMeetingsOf holds at every input. The step from the walk to the row follows the guide's own template. -/
import Derived.Test.YtppaknjiadnogaaMem
import Derived.Test.YtppaknjiadnogaaJl
import Derived.Test.YtppaknjiadnogaaMj
import Derived.Test.YtppaknjiadnogaaIm
import Derived.Test.YtppaknjiadnogaaTj
namespace Go.Proofs.Ytppaknjiadnogaa.fnExactMeetingsOf
open Go.ChangeShapes Go.WideShapes Go.ChangeAt Go.RowKit Go.WideMaps Go.WideElems Go.Proofs.Ytppaknjiadnogaa.Mem
open Go.ChangeMaps (open_string shut_string)
set_option linter.unusedVariables false
set_option linter.unusedSimpArgs false

theorem own : ownKnob Try.prog.godebug = none := by kernel_rfl
theorem laidOut : laidOutB Try.prog = true := by kernel_rfl

open Go.Proofs.Ytppaknjiadnogaa.Cx Go.Proofs.Ytppaknjiadnogaa.Cm Go.Proofs.Ytppaknjiadnogaa.Pl Go.Proofs.Ytppaknjiadnogaa.Str Go.Proofs.Ytppaknjiadnogaa.Pw Go.Proofs.Ytppaknjiadnogaa.P2 Go.Proofs.Ytppaknjiadnogaa.Hd Go.Proofs.Ytppaknjiadnogaa.Jt Go.Proofs.Ytppaknjiadnogaa.Dp
open Go.Proofs.Ytppaknjiadnogaa.Rw (mk owns_below owns_grown owns_base)
open Go.Proofs.Ytppaknjiadnogaa.Im (markIntS heldIntS Laid eqI)

theorem J5.grown {w w' : World} {b : Nat} {x y h t l : Int} {r : Option Nat} (k : J5 w b x y h t l) (g : w.grownBy w' r) (hr : some b ≠ r) : J5 w' b x y h t l :=
  ⟨g.cell k.1 hr, g.cell k.2.1 hr, g.cell k.2.2.1 hr, g.cell k.2.2.2.1 hr, g.cell k.2.2.2.2 hr⟩
theorem mto_len (x1 y1 h1 t1 l1 x2 y2 h2 t2 l2 : Int) : (mto x1 y1 h1 t1 l1 x2 y2 h2 t2 l2).length ≤ 1048576 := by
  unfold mto
  split
  · rename_i h
    have := (jt_iff.1 h.1).2.2.2.2
    refine Nat.le_trans (mts_len _ _) ?_
    omega
  · simp

set_option maxRecDepth 100000 in
set_option maxHeartbeats 4000000 in
theorem walk (x1 y1 h1 t1 l1 : Int) (wx1 : (Lit.int .i64 x1).wf = true) (wy1 : (Lit.int .i64 y1).wf = true) (wh1 : (Lit.int .i64 h1).wf = true) (wt1 : (Lit.int .i64 t1).wf = true) (wl1 : (Lit.int .i64 l1).wf = true) (x2 y2 h2 t2 l2 : Int) (wx2 : (Lit.int .i64 x2).wf = true) (wy2 : (Lit.int .i64 y2).wf = true) (wh2 : (Lit.int .i64 h2).wf = true) (wt2 : (Lit.int .i64 t2).wf = true) (wl2 : (Lit.int .i64 l2).wf = true) (w : World) :
    Calls Try.prog 6 #[jv x1 y1 h1 t1 l1, jv x2 y2 h2 t2 l2] w fun e w' => e = .returned (.bool true) ∧ Below w.heap.size w w' := by
  obtain ⟨zr, hzr⟩ : ∃ z, mto x1 y1 h1 t1 l1 x2 y2 h2 t2 l2 = z := ⟨_, rfl⟩
  obtain ⟨m, hm⟩ : ∃ m, zr.length = m := ⟨_, rfl⟩
  have hbm : m ≤ 1048576 := by rw [← hm, ← hzr]; exact mto_len _ _ _ _ _ _ _ _ _ _
  have HM := Lib.hid hm
  have CS := meetS x1 y1 h1 t1 l1 x2 y2 h2 t2 l2
  have CI := meetI x1 y1 h1 t1 l1 x2 y2 h2 t2 l2
  unfold RowI at CS CI
  rw [hzr] at CS CI
  rw [hm] at CS CI
  replace CS := Lib.hid CS
  replace CI := Lib.hid CI
  have T1 := Lib.hid (fun W => toJet x1 y1 h1 t1 l1 W)
  have T2 := Lib.hid (fun W => toJet x2 y2 h2 t2 l2 W)
  have hu : undef = Value.tuple #[] := rfl
  obtain ⟨K2, hK2⟩ : ∃ K : Int, 1 + (m : Int) = K := ⟨_, rfl⟩
  have pK2 : ¬ K2 < 0 := by omega
  have MG := Lib.hid (show ∀ (B g c : Nat) (W : World), W.ownsRow B 3 1 (.slice (some ⟨g, 0, none⟩) m c) m (ints zr) → Calls Try.prog 41 #[.slice (some ⟨g, 0, none⟩) m c, .int .i64 1] W (fun e w' => e = .returned (.int .i64 K2) ∧ w'.ownsRow B 3 1 (.slice (some ⟨g, 0, none⟩) m c) m (mk 1 m) ∧ W.grownBy w' (some g)) from fun B g c W h => by have := markIntS B g m c 1 (ints zr) W (by rw [ints_len, HM.out]) hbm (by omega) h; unfold Laid at this; rw [show (((1 : Nat) : Int) + (m : Int)) = K2 by omega, show ((1 : Nat) : Int) = 1 by omega] at this; exact this)
  have HG := Lib.hid (show ∀ (A : Option Addr) (c : Nat) (W : World), Rd W W.heap.size A (mk 1 m) → Calls Try.prog 42 #[.slice A m c, .int .i64 1] W fun e w' => e = .returned (.int .i64 K2) ∧ W = w' from fun A c W h => by have := heldIntS A m c 1 W.heap.size W hbm (by omega) h; rw [show (((1 : Nat) : Int) + (m : Int)) = K2 by omega, show ((1 : Nat) : Int) = 1 by omega] at this; exact this)
  have BB := Lib.hid (show Below w.heap.size w ((w.alloc (.cells (jc x1 y1 h1 t1 l1) 64)).alloc (.cells (jc x2 y2 h2 t2 l2) 64)) from by go_grown)
  have JA := Lib.hid (show J5 ((w.alloc (.cells (jc x1 y1 h1 t1 l1) 64)).alloc (.cells (jc x2 y2 h2 t2 l2) 64)) w.heap.size x1 y1 h1 t1 l1 from (J5.new w x1 y1 h1 t1 l1 _).alloc)
  have JJ := Lib.hid (show J5 ((w.alloc (.cells (jc x1 y1 h1 t1 l1) 64)).alloc (.cells (jc x2 y2 h2 t2 l2) 64)) (w.heap.size + 1) x2 y2 h2 t2 l2 from by simpa using J5.new (w.alloc (.cells (jc x1 y1 h1 t1 l1) 64)) x2 y2 h2 t2 l2 64)
  clear hzr hm hK2 wx1 wy1 wh1 wt1 wl1 wx2 wy2 wh2 wt2 wl2
  go_enter Try.func6, Try.ntmps6
  go_upto_region 1 with fail
  generalize ((w.alloc (.cells (jc x1 y1 h1 t1 l1) 64)).alloc (.cells (jc x2 y2 h2 t2 l2) 64)) = W0 at *
  obtain ⟨a0, a1, a2, a3, a4⟩ := JA.out
  obtain ⟨b0, b1, b2, b3, b4⟩ := JJ.out
  refine wp_region_held_drew (S := (fun w' => w'.cell? ⟨w.heap.size, 0, none⟩ = some (.int .i64 x1) ∧ w'.cell? ⟨w.heap.size, 1, none⟩ = some (.int .i64 y1) ∧ w'.cell? ⟨w.heap.size, 2, none⟩ = some (.int .i64 h1) ∧ w'.cell? ⟨w.heap.size, 3, none⟩ = some (.int .i64 t1) ∧ w'.cell? ⟨w.heap.size, 4, none⟩ = some (.int .i64 l1) ∧ w'.cell? ⟨w.heap.size + 1, 0, none⟩ = some (.int .i64 x2) ∧ w'.cell? ⟨w.heap.size + 1, 1, none⟩ = some (.int .i64 y2) ∧ w'.cell? ⟨w.heap.size + 1, 2, none⟩ = some (.int .i64 h2) ∧ w'.cell? ⟨w.heap.size + 1, 3, none⟩ = some (.int .i64 t2) ∧ w'.cell? ⟨w.heap.size + 1, 4, none⟩ = some (.int .i64 l2) ∧ Below W0.heap.size W0 w')) (by kernel_rfl) ?_ (fun hH => ?_)
  · exact ⟨a0, a1, a2, a3, a4, b0, b1, b2, b3, b4, (Below.refl _ _).drew⟩
  refine wpAnyH_take (i := 0) (oi := { dst := some 10, op := _, type := _, pos := _, after := _, guard := _ }) (v := ?_) rfl (by kernel_rfl) (by kernel_rfl) (by kernel_rfl) (fun _ _ _ h => h) (Or.inl ⟨by rfl, ?_⟩) hH ?_
  rotate_left 1
  · intro W hSw
    (try dsimp only at hSw)
    go_simp
    (try with_reducible rfl)
  try simp only [Act.put, List.setIfInBounds_toArray, List.set_cons_zero, List.set_cons_succ]
  refine wpAnyH_take (i := 2) (oi := { dst := some 12, op := _, type := _, pos := _, after := _, guard := _ }) (v := ?_) rfl (by kernel_rfl) (by kernel_rfl) (by kernel_rfl) (fun _ _ _ h => h) (Or.inl ⟨by rfl, ?_⟩) hH ?_
  rotate_left 1
  · intro W hSw
    (try dsimp only at hSw)
    go_simp
    (try with_reducible rfl)
  try simp only [Act.put, List.setIfInBounds_toArray, List.set_cons_zero, List.set_cons_succ]
  refine wpAnyH_ready (rs := [1]) (by kernel_rfl) (by simp) (AllReadyH.cons rfl (fun K hK => ?_) AllReadyH.nil)
  go_simp
  go_at_call 39; ((with_reducible refine (T1.out _).mono ?_); rintro e v1a ⟨rfl, hb⟩); go_wp2_with fail
  refine hK.out _ _ ?_ (fun hG => ?_)
  · exact ⟨cell_below hb hH.1, cell_below hb hH.2.1, cell_below hb hH.2.2.1, cell_below hb hH.2.2.2.1, cell_below hb hH.2.2.2.2.1, cell_below hb hH.2.2.2.2.2.1, cell_below hb hH.2.2.2.2.2.2.1, cell_below hb hH.2.2.2.2.2.2.2.1, cell_below hb hH.2.2.2.2.2.2.2.2.1, cell_below hb hH.2.2.2.2.2.2.2.2.2.1, hH.2.2.2.2.2.2.2.2.2.2.trans (hb.mono hH.2.2.2.2.2.2.2.2.2.2.size)⟩
  replace hH := hG
  clear hK K hG
  try simp only [Act.put, List.setIfInBounds_toArray, List.set_cons_zero, List.set_cons_succ]
  refine wpAnyH_ready (rs := [3]) (by kernel_rfl) (by simp) (AllReadyH.cons rfl (fun K hK => ?_) AllReadyH.nil)
  go_simp
  go_at_call 39; ((with_reducible refine (T2.out _).mono ?_); rintro e v1b ⟨rfl, hb⟩); go_wp2_with fail
  refine hK.out _ _ ?_ (fun hG => ?_)
  · exact ⟨cell_below hb hH.1, cell_below hb hH.2.1, cell_below hb hH.2.2.1, cell_below hb hH.2.2.2.1, cell_below hb hH.2.2.2.2.1, cell_below hb hH.2.2.2.2.2.1, cell_below hb hH.2.2.2.2.2.2.1, cell_below hb hH.2.2.2.2.2.2.2.1, cell_below hb hH.2.2.2.2.2.2.2.2.1, cell_below hb hH.2.2.2.2.2.2.2.2.2.1, hH.2.2.2.2.2.2.2.2.2.2.trans (hb.mono hH.2.2.2.2.2.2.2.2.2.2.size)⟩
  replace hH := hG
  clear hK K hG
  try simp only [Act.put, List.setIfInBounds_toArray, List.set_cons_zero, List.set_cons_succ]
  refine wpAnyH_ready (rs := [4]) (by kernel_rfl) (by simp) (AllReadyH.cons rfl (fun K hK => ?_) AllReadyH.nil)
  go_simp
  go_at_call 38; ((with_reducible refine (CS.out _).mono ?_); rintro e v1 ⟨gW, cW, rfl, ho, hb⟩); have wlW : w.heap.size ≤ gW := Nat.le_trans (Nat.le_trans BB.out.size hH.2.2.2.2.2.2.2.2.2.2.size) (own_base ho gW rfl); have wmW : w.heap.size + 1 < gW := Nat.lt_of_lt_of_le (World.block_lt_of_cell? _ _ JJ.out.1) (Nat.le_trans hH.2.2.2.2.2.2.2.2.2.2.size (own_base ho gW rfl)); have XN := Lib.hid (owns_base ho wlW); clear ho; go_wp2_with fail
  refine hK.out _ _ ?_ (fun hG => ?_)
  · exact ⟨cell_below hb hH.1, cell_below hb hH.2.1, cell_below hb hH.2.2.1, cell_below hb hH.2.2.2.1, cell_below hb hH.2.2.2.2.1, cell_below hb hH.2.2.2.2.2.1, cell_below hb hH.2.2.2.2.2.2.1, cell_below hb hH.2.2.2.2.2.2.2.1, cell_below hb hH.2.2.2.2.2.2.2.2.1, cell_below hb hH.2.2.2.2.2.2.2.2.2.1, hH.2.2.2.2.2.2.2.2.2.2.trans (hb.mono hH.2.2.2.2.2.2.2.2.2.2.size)⟩
  replace hH := hG
  clear hK K hG
  try simp only [Act.put, List.setIfInBounds_toArray, List.set_cons_zero, List.set_cons_succ]
  refine wpAnyH_take (i := 5) (oi := { dst := some 5, op := _, type := _, pos := _, after := _, guard := _ }) (v := ?_) rfl (by kernel_rfl) (by kernel_rfl) (by kernel_rfl) (fun _ _ _ h => h) (Or.inl ⟨by rfl, ?_⟩) hH ?_
  rotate_left 1
  · intro W hSw
    (try dsimp only at hSw)
    go_simp
    (try with_reducible rfl)
  try simp only [Act.put, List.setIfInBounds_toArray, List.set_cons_zero, List.set_cons_succ]
  refine wpAnyH_done (by kernel_rfl) ?_ _
  have hb0 := Lib.hid hH.2.2.2.2.2.2.2.2.2.2
  clear hH hb a0 a1 a2 a3 a4 b0 b1 b2 b3 b4
  have hb := hb0.out
  clear hb0
  have BB2 := Lib.hid (BB.out.trans (hb.mono BB.out.size))
  have JA2 := Lib.hid (J5.below JA.out hb)
  have JJ2 := Lib.hid (J5.below JJ.out hb)
  clear hb BB JA JJ
  have BB := BB2
  have JA := JA2
  have JJ := JJ2
  clear BB2 JA2 JJ2
  have W := XN
  clear XN
  go_upto_region 2 with fail
  obtain ⟨a0, a1, a2, a3, a4⟩ := JA.out
  obtain ⟨b0, b1, b2, b3, b4⟩ := JJ.out
  refine wp_region_held_drew (S := (fun w' => w'.cell? ⟨w.heap.size, 0, none⟩ = some (.int .i64 x1) ∧ w'.cell? ⟨w.heap.size, 1, none⟩ = some (.int .i64 y1) ∧ w'.cell? ⟨w.heap.size, 2, none⟩ = some (.int .i64 h1) ∧ w'.cell? ⟨w.heap.size, 3, none⟩ = some (.int .i64 t1) ∧ w'.cell? ⟨w.heap.size, 4, none⟩ = some (.int .i64 l1) ∧ w'.cell? ⟨w.heap.size + 1, 0, none⟩ = some (.int .i64 x2) ∧ w'.cell? ⟨w.heap.size + 1, 1, none⟩ = some (.int .i64 y2) ∧ w'.cell? ⟨w.heap.size + 1, 2, none⟩ = some (.int .i64 h2) ∧ w'.cell? ⟨w.heap.size + 1, 3, none⟩ = some (.int .i64 t2) ∧ w'.cell? ⟨w.heap.size + 1, 4, none⟩ = some (.int .i64 l2) ∧ Below v1.heap.size v1 w')) (by kernel_rfl) ?_ (fun hH => ?_)
  · exact ⟨a0, a1, a2, a3, a4, b0, b1, b2, b3, b4, (Below.refl _ _).drew⟩
  refine wpAnyH_take (i := 0) (oi := { dst := some 15, op := _, type := _, pos := _, after := _, guard := _ }) (v := ?_) rfl (by kernel_rfl) (by kernel_rfl) (by kernel_rfl) (fun _ _ _ h => h) (Or.inl ⟨by rfl, ?_⟩) hH ?_
  rotate_left 1
  · intro W hSw
    (try dsimp only at hSw)
    go_simp
    (try with_reducible rfl)
  try simp only [Act.put, List.setIfInBounds_toArray, List.set_cons_zero, List.set_cons_succ]
  refine wpAnyH_take (i := 2) (oi := { dst := some 17, op := _, type := _, pos := _, after := _, guard := _ }) (v := ?_) rfl (by kernel_rfl) (by kernel_rfl) (by kernel_rfl) (fun _ _ _ h => h) (Or.inl ⟨by rfl, ?_⟩) hH ?_
  rotate_left 1
  · intro W hSw
    (try dsimp only at hSw)
    go_simp
    (try with_reducible rfl)
  try simp only [Act.put, List.setIfInBounds_toArray, List.set_cons_zero, List.set_cons_succ]
  refine wpAnyH_ready (rs := [1]) (by kernel_rfl) (by simp) (AllReadyH.cons rfl (fun K hK => ?_) AllReadyH.nil)
  go_simp
  go_at_call 39; ((with_reducible refine (T1.out _).mono ?_); rintro e v2a ⟨rfl, hb⟩); go_wp2_with fail
  refine hK.out _ _ ?_ (fun hG => ?_)
  · exact ⟨cell_below hb hH.1, cell_below hb hH.2.1, cell_below hb hH.2.2.1, cell_below hb hH.2.2.2.1, cell_below hb hH.2.2.2.2.1, cell_below hb hH.2.2.2.2.2.1, cell_below hb hH.2.2.2.2.2.2.1, cell_below hb hH.2.2.2.2.2.2.2.1, cell_below hb hH.2.2.2.2.2.2.2.2.1, cell_below hb hH.2.2.2.2.2.2.2.2.2.1, hH.2.2.2.2.2.2.2.2.2.2.trans (hb.mono hH.2.2.2.2.2.2.2.2.2.2.size)⟩
  replace hH := hG
  clear hK K hG
  try simp only [Act.put, List.setIfInBounds_toArray, List.set_cons_zero, List.set_cons_succ]
  refine wpAnyH_ready (rs := [3]) (by kernel_rfl) (by simp) (AllReadyH.cons rfl (fun K hK => ?_) AllReadyH.nil)
  go_simp
  go_at_call 39; ((with_reducible refine (T2.out _).mono ?_); rintro e v2b ⟨rfl, hb⟩); go_wp2_with fail
  refine hK.out _ _ ?_ (fun hG => ?_)
  · exact ⟨cell_below hb hH.1, cell_below hb hH.2.1, cell_below hb hH.2.2.1, cell_below hb hH.2.2.2.1, cell_below hb hH.2.2.2.2.1, cell_below hb hH.2.2.2.2.2.1, cell_below hb hH.2.2.2.2.2.2.1, cell_below hb hH.2.2.2.2.2.2.2.1, cell_below hb hH.2.2.2.2.2.2.2.2.1, cell_below hb hH.2.2.2.2.2.2.2.2.2.1, hH.2.2.2.2.2.2.2.2.2.2.trans (hb.mono hH.2.2.2.2.2.2.2.2.2.2.size)⟩
  replace hH := hG
  clear hK K hG
  try simp only [Act.put, List.setIfInBounds_toArray, List.set_cons_zero, List.set_cons_succ]
  refine wpAnyH_ready (rs := [4]) (by kernel_rfl) (by simp) (AllReadyH.cons rfl (fun K hK => ?_) AllReadyH.nil)
  go_simp
  go_at_call 27; ((with_reducible refine (CI.out _).mono ?_); rintro e v2 ⟨gG, cG, rfl, ho, hb⟩); have wlG : w.heap.size ≤ gG := Nat.le_trans (Nat.le_trans BB.out.size hH.2.2.2.2.2.2.2.2.2.2.size) (own_base ho gG rfl); have wmG : w.heap.size + 1 < gG := Nat.lt_of_lt_of_le (World.block_lt_of_cell? _ _ JJ.out.1) (Nat.le_trans hH.2.2.2.2.2.2.2.2.2.2.size (own_base ho gG rfl)); have ne_W_G : gW < gG := Nat.lt_of_lt_of_le (W.out.lt _ rfl).2 (Nat.le_trans hH.2.2.2.2.2.2.2.2.2.2.size (own_base ho gG rfl)); have XN := Lib.hid (owns_base ho wlG); clear ho; go_wp2_with fail
  refine hK.out _ _ ?_ (fun hG => ?_)
  · exact ⟨cell_below hb hH.1, cell_below hb hH.2.1, cell_below hb hH.2.2.1, cell_below hb hH.2.2.2.1, cell_below hb hH.2.2.2.2.1, cell_below hb hH.2.2.2.2.2.1, cell_below hb hH.2.2.2.2.2.2.1, cell_below hb hH.2.2.2.2.2.2.2.1, cell_below hb hH.2.2.2.2.2.2.2.2.1, cell_below hb hH.2.2.2.2.2.2.2.2.2.1, hH.2.2.2.2.2.2.2.2.2.2.trans (hb.mono hH.2.2.2.2.2.2.2.2.2.2.size)⟩
  replace hH := hG
  clear hK K hG
  try simp only [Act.put, List.setIfInBounds_toArray, List.set_cons_zero, List.set_cons_succ]
  refine wpAnyH_take (i := 5) (oi := { dst := some 6, op := _, type := _, pos := _, after := _, guard := _ }) (v := ?_) rfl (by kernel_rfl) (by kernel_rfl) (by kernel_rfl) (fun _ _ _ h => h) (Or.inl ⟨by rfl, ?_⟩) hH ?_
  rotate_left 1
  · intro W hSw
    (try dsimp only at hSw)
    go_simp
    (try with_reducible rfl)
  try simp only [Act.put, List.setIfInBounds_toArray, List.set_cons_zero, List.set_cons_succ]
  refine wpAnyH_done (by kernel_rfl) ?_ _
  have hb0 := Lib.hid hH.2.2.2.2.2.2.2.2.2.2
  clear hH hb a0 a1 a2 a3 a4 b0 b1 b2 b3 b4
  have hb := hb0.out
  clear hb0
  have BB2 := Lib.hid (BB.out.trans (hb.mono BB.out.size))
  have JA2 := Lib.hid (J5.below JA.out hb)
  have JJ2 := Lib.hid (J5.below JJ.out hb)
  have Wn := Lib.hid (owns_below W.out hb)
  clear hb BB JA JJ W
  have BB := BB2
  have JA := JA2
  have JJ := JJ2
  clear BB2 JA2 JJ2
  have W := Wn
  clear Wn
  have G := XN
  clear XN
  go_wp2_with fail
  refine (eqI _ _ m cG cW zr _ HM.out hbm (Rd.own G.out) (Rd.own W.out)).mono ?_
  rintro e v3 ⟨rfl, hb⟩
  have BB2 := Lib.hid (BB.out.trans (hb.mono BB.out.size))
  have JA2 := Lib.hid (J5.below JA.out hb)
  have JJ2 := Lib.hid (J5.below JJ.out hb)
  have Wn := Lib.hid (owns_below W.out hb)
  have Gn := Lib.hid (owns_below G.out hb)
  clear hb BB JA JJ W G
  have BB := BB2
  have JA := JA2
  have JJ := JJ2
  clear BB2 JA2 JJ2
  have W := Wn
  clear Wn
  have G := Gn
  clear Gn
  go_wp2_with fail
  refine (MG.out _ _ _ _ G.out).mono ?_
  rintro e v4 ⟨rfl, ho, hg⟩
  have BB2 := Lib.hid (BB.out.grown hg BB.out.size (fun k hk => by cases hk; exact wlG))
  have Wn := Lib.hid (owns_grown W.out hg (fun k hk => by cases hk; intro hk2; cases hk2; exact absurd ne_W_G (Nat.lt_irrefl _)))
  have JA2 := Lib.hid (J5.grown JA.out hg (by intro e; injection e with e; have := wmG; omega))
  have JJ2 := Lib.hid (J5.grown JJ.out hg (by intro e; injection e with e; have := wmG; omega))
  have Gn := Lib.hid ho
  clear ho hg BB JA JJ W G
  have BB := BB2
  have JA := JA2
  have JJ := JJ2
  clear BB2 JA2 JJ2
  have W := Wn
  clear Wn
  have G := Gn
  clear Gn
  go_wp2_with fail
  refine (HG.out _ _ _ (Rd.own G.out)).mono ?_
  rintro e w' ⟨rfl, rfl⟩
  go_upto_region 13 with fail
  obtain ⟨a0, a1, a2, a3, a4⟩ := JA.out
  obtain ⟨b0, b1, b2, b3, b4⟩ := JJ.out
  refine wp_region_held_drew (S := (fun w' => w'.cell? ⟨w.heap.size, 0, none⟩ = some (.int .i64 x1) ∧ w'.cell? ⟨w.heap.size, 1, none⟩ = some (.int .i64 y1) ∧ w'.cell? ⟨w.heap.size, 2, none⟩ = some (.int .i64 h1) ∧ w'.cell? ⟨w.heap.size, 3, none⟩ = some (.int .i64 t1) ∧ w'.cell? ⟨w.heap.size, 4, none⟩ = some (.int .i64 l1) ∧ w'.cell? ⟨w.heap.size + 1, 0, none⟩ = some (.int .i64 x2) ∧ w'.cell? ⟨w.heap.size + 1, 1, none⟩ = some (.int .i64 y2) ∧ w'.cell? ⟨w.heap.size + 1, 2, none⟩ = some (.int .i64 h2) ∧ w'.cell? ⟨w.heap.size + 1, 3, none⟩ = some (.int .i64 t2) ∧ w'.cell? ⟨w.heap.size + 1, 4, none⟩ = some (.int .i64 l2) ∧ Below v4.heap.size v4 w')) (by kernel_rfl) ?_ (fun hH => ?_)
  · exact ⟨a0, a1, a2, a3, a4, b0, b1, b2, b3, b4, (Below.refl _ _).drew⟩
  refine wpAnyH_take (i := 0) (oi := { dst := some 35, op := _, type := _, pos := _, after := _, guard := _ }) (v := ?_) rfl (by kernel_rfl) (by kernel_rfl) (by kernel_rfl) (fun _ _ _ h => h) (Or.inl ⟨by rfl, ?_⟩) hH ?_
  rotate_left 1
  · intro W hSw
    (try dsimp only at hSw)
    go_simp
    (try with_reducible rfl)
  try simp only [Act.put, List.setIfInBounds_toArray, List.set_cons_zero, List.set_cons_succ]
  refine wpAnyH_take (i := 2) (oi := { dst := some 37, op := _, type := _, pos := _, after := _, guard := _ }) (v := ?_) rfl (by kernel_rfl) (by kernel_rfl) (by kernel_rfl) (fun _ _ _ h => h) (Or.inl ⟨by rfl, ?_⟩) hH ?_
  rotate_left 1
  · intro W hSw
    (try dsimp only at hSw)
    go_simp
    (try with_reducible rfl)
  try simp only [Act.put, List.setIfInBounds_toArray, List.set_cons_zero, List.set_cons_succ]
  refine wpAnyH_ready (rs := [1]) (by kernel_rfl) (by simp) (AllReadyH.cons rfl (fun K hK => ?_) AllReadyH.nil)
  go_simp
  go_at_call 39; ((with_reducible refine (T1.out _).mono ?_); rintro e v5a ⟨rfl, hb⟩); go_wp2_with fail
  refine hK.out _ _ ?_ (fun hG => ?_)
  · exact ⟨cell_below hb hH.1, cell_below hb hH.2.1, cell_below hb hH.2.2.1, cell_below hb hH.2.2.2.1, cell_below hb hH.2.2.2.2.1, cell_below hb hH.2.2.2.2.2.1, cell_below hb hH.2.2.2.2.2.2.1, cell_below hb hH.2.2.2.2.2.2.2.1, cell_below hb hH.2.2.2.2.2.2.2.2.1, cell_below hb hH.2.2.2.2.2.2.2.2.2.1, hH.2.2.2.2.2.2.2.2.2.2.trans (hb.mono hH.2.2.2.2.2.2.2.2.2.2.size)⟩
  replace hH := hG
  clear hK K hG
  try simp only [Act.put, List.setIfInBounds_toArray, List.set_cons_zero, List.set_cons_succ]
  refine wpAnyH_ready (rs := [3]) (by kernel_rfl) (by simp) (AllReadyH.cons rfl (fun K hK => ?_) AllReadyH.nil)
  go_simp
  go_at_call 39; ((with_reducible refine (T2.out _).mono ?_); rintro e v5b ⟨rfl, hb⟩); go_wp2_with fail
  refine hK.out _ _ ?_ (fun hG => ?_)
  · exact ⟨cell_below hb hH.1, cell_below hb hH.2.1, cell_below hb hH.2.2.1, cell_below hb hH.2.2.2.1, cell_below hb hH.2.2.2.2.1, cell_below hb hH.2.2.2.2.2.1, cell_below hb hH.2.2.2.2.2.2.1, cell_below hb hH.2.2.2.2.2.2.2.1, cell_below hb hH.2.2.2.2.2.2.2.2.1, cell_below hb hH.2.2.2.2.2.2.2.2.2.1, hH.2.2.2.2.2.2.2.2.2.2.trans (hb.mono hH.2.2.2.2.2.2.2.2.2.2.size)⟩
  replace hH := hG
  clear hK K hG
  try simp only [Act.put, List.setIfInBounds_toArray, List.set_cons_zero, List.set_cons_succ]
  refine wpAnyH_ready (rs := [4]) (by kernel_rfl) (by simp) (AllReadyH.cons rfl (fun K hK => ?_) AllReadyH.nil)
  go_simp
  go_at_call 27; ((with_reducible refine (CI.out _).mono ?_); rintro e v5 ⟨gH, cH, rfl, ho, hb⟩); have wlH : w.heap.size ≤ gH := Nat.le_trans (Nat.le_trans BB.out.size hH.2.2.2.2.2.2.2.2.2.2.size) (own_base ho gH rfl); have wmH : w.heap.size + 1 < gH := Nat.lt_of_lt_of_le (World.block_lt_of_cell? _ _ JJ.out.1) (Nat.le_trans hH.2.2.2.2.2.2.2.2.2.2.size (own_base ho gH rfl)); have ne_W_H : gW < gH := Nat.lt_of_lt_of_le (W.out.lt _ rfl).2 (Nat.le_trans hH.2.2.2.2.2.2.2.2.2.2.size (own_base ho gH rfl)); have ne_G_H : gG < gH := Nat.lt_of_lt_of_le (G.out.lt _ rfl).2 (Nat.le_trans hH.2.2.2.2.2.2.2.2.2.2.size (own_base ho gH rfl)); have XN := Lib.hid (owns_base ho wlH); clear ho; go_wp2_with fail
  refine hK.out _ _ ?_ (fun hG => ?_)
  · exact ⟨cell_below hb hH.1, cell_below hb hH.2.1, cell_below hb hH.2.2.1, cell_below hb hH.2.2.2.1, cell_below hb hH.2.2.2.2.1, cell_below hb hH.2.2.2.2.2.1, cell_below hb hH.2.2.2.2.2.2.1, cell_below hb hH.2.2.2.2.2.2.2.1, cell_below hb hH.2.2.2.2.2.2.2.2.1, cell_below hb hH.2.2.2.2.2.2.2.2.2.1, hH.2.2.2.2.2.2.2.2.2.2.trans (hb.mono hH.2.2.2.2.2.2.2.2.2.2.size)⟩
  replace hH := hG
  clear hK K hG
  try simp only [Act.put, List.setIfInBounds_toArray, List.set_cons_zero, List.set_cons_succ]
  refine wpAnyH_take (i := 5) (oi := { dst := some 9, op := _, type := _, pos := _, after := _, guard := _ }) (v := ?_) rfl (by kernel_rfl) (by kernel_rfl) (by kernel_rfl) (fun _ _ _ h => h) (Or.inl ⟨by rfl, ?_⟩) hH ?_
  rotate_left 1
  · intro W hSw
    (try dsimp only at hSw)
    go_simp
    (try with_reducible rfl)
  try simp only [Act.put, List.setIfInBounds_toArray, List.set_cons_zero, List.set_cons_succ]
  refine wpAnyH_done (by kernel_rfl) ?_ _
  have hb0 := Lib.hid hH.2.2.2.2.2.2.2.2.2.2
  clear hH hb a0 a1 a2 a3 a4 b0 b1 b2 b3 b4
  have hb := hb0.out
  clear hb0
  have BB2 := Lib.hid (BB.out.trans (hb.mono BB.out.size))
  have JA2 := Lib.hid (J5.below JA.out hb)
  have JJ2 := Lib.hid (J5.below JJ.out hb)
  have Wn := Lib.hid (owns_below W.out hb)
  have Gn := Lib.hid (owns_below G.out hb)
  clear hb BB JA JJ W G
  have BB := BB2
  have JA := JA2
  have JJ := JJ2
  clear BB2 JA2 JJ2
  have W := Wn
  clear Wn
  have G := Gn
  clear Gn
  have H := XN
  clear XN
  go_wp2_with fail
  refine (eqI _ _ m cH cW zr _ HM.out hbm (Rd.own H.out) (Rd.own W.out)).mono ?_
  rintro e v6 ⟨rfl, hb⟩
  have BB2 := Lib.hid (BB.out.trans (hb.mono BB.out.size))
  have JA2 := Lib.hid (J5.below JA.out hb)
  have JJ2 := Lib.hid (J5.below JJ.out hb)
  have Wn := Lib.hid (owns_below W.out hb)
  have Gn := Lib.hid (owns_below G.out hb)
  have Hn := Lib.hid (owns_below H.out hb)
  clear hb BB JA JJ W G H
  have BB := BB2
  have JA := JA2
  have JJ := JJ2
  clear BB2 JA2 JJ2
  have W := Wn
  clear Wn
  have G := Gn
  clear Gn
  have H := Hn
  clear Hn
  go_wp2_with fail
  refine (HG.out _ _ _ (Rd.own G.out)).mono ?_
  rintro e w' ⟨rfl, rfl⟩
  go_wp2_with fail
  go_ret
  exact ⟨rfl, BB.out⟩

set_option maxRecDepth 100000 in
theorem lifted (os : Os) (started : os.Started) (H : Type) (enc : TypeId × Value → H) :
    ReturnsInHanded {} Try.checked os 6 .any (Rows.fnExactMeetingsOfSpec.pre6 enc Try.prog Try.f6 Rows.fnExactMeetingsOfRow.domain false) (Rows.fnExactMeetingsOfSpec.post enc Try.prog Try.f6 false true false false) := by
  refine returnsInHanded_of_change (C := Try.checked) own started (by kernel_rfl) Try.func6
    (ChangeSpec.witness6 (enc := enc) (C := Try.checked) false ⟨#[], #[.agg #[.int .i64 0, .int .i64 0, .int .i64 0, .int .i64 0, .int .i64 0], .agg #[.int .i64 0, .int .i64 0, .int .i64 0, .int .i64 0, .int .i64 0]], []⟩ 8 (by kernel_rfl) (by kernel_rfl) (by kernel_rfl) (by kernel_rfl)) ?_
  intro W base args ds gs before hval0 hW hcnd hsz
  have hval : ∀ (j : Nat) t v, Try.f6.params[j]? = some t → args[j]? = some v → Value.okWide Try.prog W .any base t v := hval0
  have hW' := hW
  obtain ⟨p, q, hA0, hV, rfl, hfz, hnd⟩ := hW
  have hA1 := hA0
  have hA : DataW.TrodAll enc Try.prog W 0 (fun _ => true) true Try.f6.params.toList args.toList ds p := hA0
  rw [Try.params6] at hA hval
  obtain ⟨v0, vs0, d0, ds0, p0, q0, hargs, rfl, rfl, h0, r0⟩ := trodAll_cons hA
  obtain ⟨v1, vs1, d1, ds1, p1, q1, rfl, rfl, rfl, h1, r1⟩ := trodAll_cons r0
  obtain ⟨rfl, rfl, rfl⟩ := trodAll_nil r1
  obtain rfl : args = #[v0, v1] := by cases args; simp_all
  obtain ⟨rfl, rfl⟩ := trodVars_none hV
  obtain ⟨jx0, jy0, jh0, jt0, jl0, rfl, wx0, wy0, wh0, wt0, wl0⟩ := Str.take_jet Try.underlying64 (by kernel_rfl) rfl rfl rfl rfl rfl (by kernel_rfl) (by kernel_rfl) (by kernel_rfl) Try.underlying3 Try.underlying3 Try.underlying3 Try.underlying62 (by kernel_rfl) (by kernel_rfl) Try.underlying3 Try.underlying3 (hval 0 64 v0 rfl rfl) h0
  obtain ⟨jx1, jy1, jh1, jt1, jl1, rfl, wx1, wy1, wh1, wt1, wl1⟩ := Str.take_jet Try.underlying64 (by kernel_rfl) rfl rfl rfl rfl rfl (by kernel_rfl) (by kernel_rfl) (by kernel_rfl) Try.underlying3 Try.underlying3 Try.underlying3 Try.underlying62 (by kernel_rfl) (by kernel_rfl) Try.underlying3 Try.underlying3 (hval 1 64 v1 rfl rfl) h1
  clear hA0 hval0
  rw [List.append_nil] at hW'
  refine (walk jx0 jy0 jh0 jt0 jl0 wx0 wy0 wh0 wt0 wl0 jx1 jy1 jh1 jt1 jl1 wx1 wy1 wh1 wt1 wl1 W).mono fun e W' ⟨he, hb⟩ => ?_
  subst he
  exact ⟨_, rfl, post_law rfl hW' hA1 laidOut (by rw [Try.params6]; exact of_decide_eq_true (by kernel_rfl)) 4 (by kernel_rfl) Try.underlying4 rfl hb⟩

theorem over : Rows.fnExactMeetingsOfRow.holds Try.pinned (OpenSpec.ofChange Rows.fnExactMeetingsOfSpec) :=
  OpenClaim.holds_of_wide 6 Try.f6 rfl rfl rfl rfl rfl rfl rfl ⟨rfl, rfl, rfl, rfl, rfl⟩ rfl rfl rfl rfl rfl (by kernel_rfl) Try.func6 (by kernel_rfl)
    (of_decide_eq_true (by kernel_rfl)) (by unfold Func.isWrapper; first | (rw [if_pos (by decide +kernel)]; kernel_rfl) | (rw [if_neg (by decide +kernel)]; exact ⟨rfl, rfl⟩))
    (fun os started H enc _ => lifted os started H enc)

/-- The statement. -/
theorem proved : Rows.FnExactMeetingsOfSaid :=
  over
#print axioms proved
end Go.Proofs.Ytppaknjiadnogaa.fnExactMeetingsOf
