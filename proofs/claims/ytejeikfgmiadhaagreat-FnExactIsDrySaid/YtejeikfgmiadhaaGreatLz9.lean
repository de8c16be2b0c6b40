/- The drops of the model. -/
import Derived.Test.YtejeikfgmiadhaaGreatTm9
import Derived.Test.YtejeikfgmiadhaaGreatM25
import Derived.Test.YtejeikfgmiadhaaGreatM2
import Derived.Test.YtejeikfgmiadhaaGreatM20
import Derived.Test.YtejeikfgmiadhaaGreatPl9
import Derived.Test.YtejeikfgmiadhaaGreatM21
import Derived.Test.YtejeikfgmiadhaaGreatM5
import Derived.Test.YtejeikfgmiadhaaGreatTi9
import Derived.Maps.OwnOps
import Derived.Deep.RegionHeld3
import Derived.Deep.MidRow
import Derived.StillTailTactics
namespace Go.Proofs.YtejeikfgmiadhaaGreat.Lz9
open Go.RowKit Go.ChangeShapes Go.WideShapes Go.WideElems Go.Deep Go.Proofs.YtejeikfgmiadhaaGreat.Mem Go.Proofs.YtejeikfgmiadhaaGreat.Rw Go.Proofs.YtejeikfgmiadhaaGreat.P2 Go.Proofs.YtejeikfgmiadhaaGreat.Bk Go.Proofs.YtejeikfgmiadhaaGreat.Sp Go.Proofs.YtejeikfgmiadhaaGreat.Sq Go.Proofs.YtejeikfgmiadhaaGreat.Jt Go.Proofs.YtejeikfgmiadhaaGreat.Cm Go.Proofs.YtejeikfgmiadhaaGreat.Cx Go.Proofs.YtejeikfgmiadhaaGreat.Pl
open Go.Proofs.YtejeikfgmiadhaaGreat.Sv hiding D C G
open Go.Proofs.YtejeikfgmiadhaaGreat.Pd9
open Go.Proofs.YtejeikfgmiadhaaGreat.Tw9 (step_store_row row_grown row_bk)
open Go.Proofs.YtejeikfgmiadhaaGreat.Tm9 (bls bls_get bls_len RowM)
open Go.Proofs.YtejeikfgmiadhaaGreat.Wm (wd dr drs plus sum2 dr_bound drs_get drs_len)
open Go.Proofs.YtejeikfgmiadhaaGreat.Gs (gls)
open Go.Proofs.YtejeikfgmiadhaaGreat.Wc (infoC made_c zs2 zv zs2_len zs2_get)
open Go.Proofs.YtejeikfgmiadhaaGreat.Pl9 (RowP pls pls_len pls_get pls_snoc infoP d0 pls_made)
open Go.Proofs.YtejeikfgmiadhaaGreat.Dp (ha heightI)
open Go.Proofs.YtejeikfgmiadhaaGreat.Pl9 (mixed mixed_zero mixed_all mixed_at mixed_put)
set_option linter.unusedVariables false
set_option linter.unusedSimpArgs false


abbrev bv (z : B) : Value := .agg #[.string z.d.nm, .int .i64 z.b, .int .i64 z.d.x, .int .i64 z.d.y, .int .i64 z.d.hd, .int .i64 z.d.tl, .int .i64 z.l]
abbrev bca (z : B) : Array Value := #[.string z.d.nm, .int .i64 z.b, .int .i64 z.d.x, .int .i64 z.d.y, .int .i64 z.d.hd, .int .i64 z.d.tl, .int .i64 z.l]
theorem cB {w : World} {base g n c k : Nat} {zs : List B} {z : B} (o : w.ownsRow base 67 7 (.slice (some ⟨g, 0, none⟩) n c) n (bls zs)) (h : zs[k]? = some z) (hk : k < n) :
    w.cell? ⟨g, k * 7, none⟩ = some (.string z.d.nm) ∧ w.cell? ⟨g, k * 7 + 1, none⟩ = some (.int .i64 z.b) ∧ w.cell? ⟨g, k * 7 + 2, none⟩ = some (.int .i64 z.d.x) ∧ w.cell? ⟨g, k * 7 + 3, none⟩ = some (.int .i64 z.d.y) ∧ w.cell? ⟨g, k * 7 + 4, none⟩ = some (.int .i64 z.d.hd) ∧ w.cell? ⟨g, k * 7 + 5, none⟩ = some (.int .i64 z.d.tl) ∧ w.cell? ⟨g, k * 7 + 6, none⟩ = some (.int .i64 z.l) :=
  have g := bls_get h
  ⟨(o.cellAt (k * 7) (by omega)).trans g.1, (o.cellAt (k * 7 + 1) (by omega)).trans g.2.1, (o.cellAt (k * 7 + 2) (by omega)).trans g.2.2.1, (o.cellAt (k * 7 + 3) (by omega)).trans g.2.2.2.1, (o.cellAt (k * 7 + 4) (by omega)).trans g.2.2.2.2.1, (o.cellAt (k * 7 + 5) (by omega)).trans g.2.2.2.2.2.1, (o.cellAt (k * 7 + 6) (by omega)).trans g.2.2.2.2.2.2⟩
theorem append_drop (w : World) (base g n c : Nat) (xs : List Value) (hown : w.ownsRow base 69 5 (.slice (some ⟨g, 0, none⟩) n c) n xs) (a : Addr) (m c2 : Nat) (news : List Value) (hl : news.length = m * 5) (hnews : ∀ j u, news[j]? = some u → w.cell? (a.add j) = some u) (h1 : ∀ u ∈ news, u.oneCell' = true) (hs : n + m ≤ 2097152) (hbase : base ≤ w.heap.size) :
    ∃ (g' c' : Nat) (w' : World), (Builtin.append_ #[28, 28] 28 #[.slice (some ⟨g, 0, none⟩) n c, .slice (some a) m c2]).run Tryz.prog w = .ok (.slice (some ⟨g', 0, none⟩) (n + m) c') w' ∧ w'.ownsRow base 69 5 (.slice (some ⟨g', 0, none⟩) (n + m) c') (n + m) (xs ++ news) ∧ w.grownBy w' (some g) := by
  obtain ⟨i0, hi, hz0, hz1, hz2⟩ := info_of infoP
  obtain ⟨v', w', hr, h2, h3, h4, _⟩ := run_append_own_at (P := Tryz.prog) w base 28 28 69 i0 (.agg #[.string ⟨#[]⟩, .int .i64 0, .int .i64 0, .int .i64 0, .int .i64 0]) 5 48 Tryz.underlying28 hi hz0 hz1 hz2 rfl (by decide) _ n xs hown a m c2 news hl hnews h1 (by unfold maxLen; omega) (by omega) hbase
  have hg : ∃ g c, v' = .slice (some ⟨g, 0, none⟩) (n + m) c := by
    rcases h2.2 with ⟨e1, _⟩ | ⟨g, cap, cur, e1, _⟩
    · exact absurd (h4.1 e1).1 (by intro h; cases h)
    · exact ⟨g, cap, e1⟩
  obtain ⟨g', c', rfl⟩ := hg
  exact ⟨g', c', w', hr, h2, h3⟩
theorem step_append_drop {ops : Array Oper} {o : Oper} {a : Act} {w w' : World} {K : Act → World → Prop} {Q : Exit → Act → World → Prop} {E : Prop}
    (hg : o.guard = none) (s x : Operand) (hop : o.op = Op.call { callee := Callee.builtin Builtin.append, args := #[s, x], argTypes := #[28, 28] }) (hty : o.type = 28)
    (v v2 v' : Value) (hs : a.eval s = v) (hx : a.eval x = v2) (hrun : (Builtin.append_ #[28, 28] 28 #[v, v2]).run Tryz.prog w = .ok v' w') (hK : K (a.put o.dst v') w') :
    if Region.wanted o (yielded ops a.tmps) = true then Oper.wp Tryz.prog o a w K Q else E := by
  have hw : Region.wanted o (yielded ops a.tmps) = true := by simp [Region.wanted, hg]
  rw [if_pos hw]
  unfold Oper.wp
  simp [execOp, hop, hty, resolve, invoke, builtin, hs, hx, hrun, Result.andThen]
  exact hK
theorem l2AddW (x y a b : Int) (h1 : wrap64 (x + a) = x + a) (h2 : wrap64 (y + b) = y + b) (w : World) :
    Calls Tryz.prog 75 #[.agg #[.int .i64 x, .int .i64 y], .agg #[.int .i64 a, .int .i64 b]] w fun e w' => e = .returned (.agg #[.int .i64 (x + a), .int .i64 (y + b)]) ∧ Below w.heap.size w w' := by
  go_enter Tryz.func75, Tryz.ntmps75
  go_wp2
  go_returns
  exact ⟨rfl, by go_grown⟩
abbrev z5 : Array Value := #[.string ⟨#[]⟩, .int .i64 0, .int .i64 0, .int .i64 0, .int .i64 0]

set_option maxRecDepth 100000 in
set_option maxHeartbeats 4000000 in
theorem l9Drop (A0 : Option Addr) (n0 c0 : Nat) (A1 : Option Addr) (n1 c1 : Nat) (A2 : Option Addr) (n2 c2 : Nat) (T : Int) (gs : List G) (z : B) (N : Nat) (w : World) (hN : (N : Int) ≤ z.l + 1) (hj : BOk z) (hb : z.b < 64) (hw : wd gs = true) (hn2 : gs.length = n2) (hb2 : n2 ≤ 1048576) (hr2 : Rd w w.heap.size A2 (gls gs)) :
    Calls Tryz.prog 33 #[sv A0 n0 c0 A1 n1 c1 A2 n2 c2 T, bv z, .int .i64 ((z.b : Int) + N)] w fun e w' => ∃ x y h : Int, e = .returned (.agg #[.string z.d.nm, .int .i64 z.b, .int .i64 x, .int .i64 y, .int .i64 h]) ∧ mod gs z N = ⟨z.d.nm, z.b, x, y, h⟩ ∧ Below w.heap.size w w' := by
  have hl := (jt_iff.1 hj).2.2.2.2
  have hm := mod_air (gs := gs) hN (t := z.b + N) rfl
  have hple := pAt_le (gs := gs) hw hj (z.b + N)
  have hwl := way_le hj
  have hax := (jt_iff.1 hj).1
  have hay := (jt_iff.1 hj).2.1
  have hwx := Dp.wy_le (k := N) hax hwl.1 (by omega)
  have hwy := Dp.wy_le (k := N) hay hwl.2 (by omega)
  obtain ⟨sx, hsx⟩ : ∃ x, (sum2 (drs gs z.b N)).1 = x := ⟨_, rfl⟩
  obtain ⟨sy, hsy⟩ : ∃ x, (sum2 (drs gs z.b N)).2 = x := ⟨_, rfl⟩
  have hsum := We.sum_near (zs := gs) hw z.b N N (Nat.le_refl _) (by omega)
  rw [Wm.drs_take (Nat.le_refl N), hsx, hsy] at hsum
  obtain ⟨wx, hwx9⟩ : ∃ x, Dp.wy z.d.x (way z).1 N = x := ⟨_, rfl⟩
  obtain ⟨wy, hwy9⟩ : ∃ x, Dp.wy z.d.y (way z).2 N = x := ⟨_, rfl⟩
  obtain ⟨hh, hhh⟩ : ∃ x, ha z.d.x z.d.y z.d.hd z.d.tl z.l (N : Int) = x := ⟨_, rfl⟩
  rw [hwx9] at hwx
  rw [hwy9] at hwy
  have HMOD := Lib.hid (show mod gs z N = ⟨z.d.nm, z.b, wx + sx, wy + sy, hh⟩ by unfold mod; rw [hwx9, hwy9, hsx, hsy, hhh])
  have CO := Lib.hid (fun (W : World) (h : Below w.heap.size w W) => (by have := We.driftOverS A2 n2 c2 gs w.heap.size (z.b : Int) ((z.b : Int) + N) W hn2 hb2 h.size (hr2.below h); rw [We.over_yes hw (by omega)] at this; simp only [Wa.pq, hsx, hsy] at this; exact this :
    Calls Tryz.prog 74 #[.slice A2 n2 c2, .int .i64 z.b, .int .i64 ((z.b : Int) + N)] W fun e w' => e = .returned (.tuple #[.agg #[.int .i64 sx, .int .i64 sy], .bool true]) ∧ Below W.heap.size W w'))
  have CP := Lib.hid (fun (W : World) => (by have := Dp.l3Place (N := N) hj hN W; have e1 : Dp.wy z.d.x (tx z.d.hd.toNat z.d.tl 0) N = wx := hwx9; have e2 : Dp.wy z.d.y (ty z.d.hd.toNat z.d.tl 0) N = wy := hwy9; rw [e1, e2] at this; exact this :
    Calls Tryz.prog 76 #[jv z.d.x z.d.y z.d.hd z.d.tl z.l, .int .i64 (N : Int)] W fun e w' => e = .returned (.agg #[.int .i64 wx, .int .i64 wy]) ∧ Below W.heap.size W w'))
  have CA := Lib.hid (fun (W : World) => l2AddW wx wy sx sy (IntWalk.wrap64_in _ (by omega)) (IntWalk.wrap64_in _ (by omega)) W)
  have CH := Lib.hid (fun (W : World) => (by have := Dp.heightS z.d.x z.d.y z.d.hd z.d.tl z.l (N : Int) (by omega) (by omega) W; rw [hhh] at this; exact this :
    Calls Tryz.prog 77 #[jv z.d.x z.d.y z.d.hd z.d.tl z.l, .int .i64 (N : Int)] W fun e w' => e = .returned (.int .i64 hh) ∧ Below W.heap.size W w'))
  obtain ⟨t, ht⟩ : ∃ t : Int, (z.b : Int) + N = t := ⟨_, rfl⟩
  rw [ht] at CO ⊢
  have q1 : IntKind.i64.wrap (t - (z.b : Int)) = (N : Int) := by rw [← ht, show (z.b : Int) + N - z.b = N by omega]; exact IntWalk.i64_in _ (by omega)
  have q2 : wrap64 (t - (z.b : Int)) = (N : Int) := by rw [← ht, show (z.b : Int) + N - z.b = N by omega]; exact IntWalk.wrap64_in _ (by omega)
  have hu : undef = Value.tuple #[] := rfl
  have hz1 : (w.alloc (.cells (sc A0 n0 c0 A1 n1 c1 A2 n2 c2 T) 34)).heap.size = w.heap.size + 1 := by simp [go_sem]
  have hz2 : ((w.alloc (.cells (sc A0 n0 c0 A1 n1 c1 A2 n2 c2 T) 34)).alloc (.cells (bca z) 67)).heap.size = w.heap.size + 1 + 1 := by simp [go_sem]
  have KS := Lib.hid (((Bk.new w (sc A0 n0 c0 A1 n1 c1 A2 n2 c2 T) 34).alloc (o := .cells (bca z) 67)).alloc (o := .cells z5 69))
  have KZ := (Bk.new (w.alloc (.cells (sc A0 n0 c0 A1 n1 c1 A2 n2 c2 T) 34)) (bca z) 67).alloc (o := .cells z5 69)
  have KR := Bk.new ((w.alloc (.cells (sc A0 n0 c0 A1 n1 c1 A2 n2 c2 T) 34)).alloc (.cells (bca z) 67)) z5 69
  rw [hz1] at KZ
  rw [hz2] at KR
  have b0a := (Below.refl w.heap.size w).alloc (Nat.le_refl _) (.cells (sc A0 n0 c0 A1 n1 c1 A2 n2 c2 T) 34)
  have b0b := b0a.alloc b0a.size (.cells (bca z) 67)
  have B0 := Lib.hid (b0b.alloc b0b.size (.cells z5 69))
  have KZ := Lib.hid KZ
  have KR := Lib.hid KR
  have n2a := KS.out.cell (i := 2) rfl
  have z1a := KZ.out.cell (i := 1) rfl
  clear hl hm hple hwl hax hay hwx hwy hsx hsy hsum hwx9 hwy9 hhh hN hj hw hn2 hb2 hr2 ht hz1 hz2 b0a b0b
  go_enter Tryz.func33, Tryz.ntmps33
  go_wp2_with fail
  refine (CO.out _ B0.out).mono ?_
  rintro e u1 ⟨rfl, hb1⟩
  have KZ1 := Lib.hid ((KZ.out.below hb1).alloc (o := .cells #[.int .i64 sx, .int .i64 sy] 47))
  have KR1 := Lib.hid ((KR.out.below hb1).alloc (o := .cells #[.int .i64 sx, .int .i64 sy] 47))
  have KP := Lib.hid (Bk.new u1 #[.int .i64 sx, .int .i64 sy] 47)
  have B1a := B0.out.trans (hb1.mono B0.out.size)
  have hlt : w.heap.size + 1 + 1 < u1.heap.size := (KR.out.below hb1).lt
  have B1 := Lib.hid (B1a.alloc B1a.size (.cells #[.int .i64 sx, .int .i64 sy] 47))
  clear hb1 B1a KS KZ KR B0 CO n2a z1a
  go_upto_region 2 with fail
  refine wp_region_noPanic ?_
  refine wp_region_held_drew (S := (fun w' => w'.cell? ⟨w.heap.size + 1, 0, none⟩ = some (.string z.d.nm) ∧ w'.cell? ⟨w.heap.size + 1, 1, none⟩ = some (.int .i64 z.b) ∧ w'.cell? ⟨w.heap.size + 1, 2, none⟩ = some (.int .i64 z.d.x) ∧ w'.cell? ⟨w.heap.size + 1, 3, none⟩ = some (.int .i64 z.d.y) ∧ w'.cell? ⟨w.heap.size + 1, 4, none⟩ = some (.int .i64 z.d.hd) ∧ w'.cell? ⟨w.heap.size + 1, 5, none⟩ = some (.int .i64 z.d.tl) ∧ w'.cell? ⟨w.heap.size + 1, 6, none⟩ = some (.int .i64 z.l) ∧ w'.cell? ⟨u1.heap.size, 0, none⟩ = some (.int .i64 sx) ∧ w'.cell? ⟨u1.heap.size, 1, none⟩ = some (.int .i64 sy) ∧ Below w.heap.size w w')) (by kernel_rfl) ?_ (fun hH => ?_)
  · exact ⟨KZ1.out.drew.cell (i := 0) rfl, KZ1.out.drew.cell (i := 1) rfl, KZ1.out.drew.cell (i := 2) rfl, KZ1.out.drew.cell (i := 3) rfl, KZ1.out.drew.cell (i := 4) rfl, KZ1.out.drew.cell (i := 5) rfl, KZ1.out.drew.cell (i := 6) rfl, KP.out.drew.cell (i := 0) rfl, KP.out.drew.cell (i := 1) rfl, B1.out.drew⟩
  refine wpAnyH_take (i := 0) (oi := { dst := some 18, op := _, type := _, pos := _, after := _, guard := _ }) (v := ?_) rfl (by kernel_rfl) (by kernel_rfl) (by kernel_rfl) (fun _ _ _ h => h) (Or.inl ⟨by rfl, ?_⟩) hH ?_
  rotate_left 1
  · intro W hSw
    (try dsimp only at hSw)
    go_simp
    (try with_reducible rfl)
  try simp only [Act.put, List.setIfInBounds_toArray, List.set_cons_zero, List.set_cons_succ]
  refine wpAnyH_take (i := 1) (oi := { dst := some 19, op := _, type := _, pos := _, after := _, guard := _ }) (v := ?_) rfl (by kernel_rfl) (by kernel_rfl) (by kernel_rfl) (fun _ _ _ h => h) (Or.inl ⟨by rfl, ?_⟩) hH ?_
  rotate_left 1
  · intro W hSw
    (try dsimp only at hSw)
    go_simp
    (try with_reducible rfl)
  try simp only [Act.put, List.setIfInBounds_toArray, List.set_cons_zero, List.set_cons_succ]
  refine wpAnyH_take (i := 2) (oi := { dst := some 20, op := _, type := _, pos := _, after := _, guard := _ }) (v := ?_) rfl (by kernel_rfl) (by kernel_rfl) (by kernel_rfl) (fun _ _ _ h => h) (Or.inl ⟨by rfl, ?_⟩) hH ?_
  rotate_left 1
  · intro W hSw
    (try dsimp only at hSw)
    go_simp
    (try with_reducible rfl)
  try simp only [Act.put, List.setIfInBounds_toArray, List.set_cons_zero, List.set_cons_succ]
  refine wpAnyH_take (i := 3) (oi := { dst := some 21, op := _, type := _, pos := _, after := _, guard := _ }) (v := ?_) rfl (by kernel_rfl) (by kernel_rfl) (by kernel_rfl) (fun _ _ _ h => h) (Or.inl ⟨by rfl, ?_⟩) hH ?_
  rotate_left 1
  · intro W hSw
    (try dsimp only at hSw)
    go_simp
    (try with_reducible rfl)
  try simp only [Act.put, List.setIfInBounds_toArray, List.set_cons_zero, List.set_cons_succ]
  refine wpAnyH_take (i := 4) (oi := { dst := some 22, op := _, type := _, pos := _, after := _, guard := _ }) (v := ?_) rfl (by kernel_rfl) (by kernel_rfl) (by kernel_rfl) (fun _ _ _ h => h) (Or.inl ⟨by rfl, ?_⟩) hH ?_
  rotate_left 1
  · intro W hSw
    (try dsimp only at hSw)
    go_simp
    (try with_reducible rfl)
  try simp only [Act.put, List.setIfInBounds_toArray, List.set_cons_zero, List.set_cons_succ]
  refine wpAnyH_take (i := 5) (oi := { dst := some 23, op := _, type := _, pos := _, after := _, guard := _ }) (v := ?_) rfl (by kernel_rfl) (by kernel_rfl) (by kernel_rfl) (fun _ _ _ h => h) (Or.inl ⟨by rfl, ?_⟩) hH ?_
  rotate_left 1
  · intro W hSw
    (try dsimp only at hSw)
    go_simp
    (try with_reducible rfl)
  try simp only [Act.put, List.setIfInBounds_toArray, List.set_cons_zero, List.set_cons_succ]
  refine wpAnyH_take (i := 6) (oi := { dst := some 24, op := _, type := _, pos := _, after := _, guard := _ }) (v := ?_) rfl (by kernel_rfl) (by kernel_rfl) (by kernel_rfl) (fun _ _ _ h => h) (Or.inl ⟨by rfl, ?_⟩) hH ?_
  rotate_left 1
  · intro W hSw
    (try dsimp only at hSw)
    go_simp
    (try with_reducible rfl)
  try simp only [Act.put, List.setIfInBounds_toArray, List.set_cons_zero, List.set_cons_succ]
  refine wpAnyH_take (i := 7) (oi := { dst := some 25, op := _, type := _, pos := _, after := _, guard := _ }) (v := ?_) rfl (by kernel_rfl) (by kernel_rfl) (by kernel_rfl) (fun _ _ _ h => h) (Or.inl ⟨by rfl, ?_⟩) hH ?_
  rotate_left 1
  · intro W hSw
    (try dsimp only at hSw)
    go_simp
    (try with_reducible rfl)
  try simp only [Act.put, List.setIfInBounds_toArray, List.set_cons_zero, List.set_cons_succ]
  refine wpAnyH_take (i := 8) (oi := { dst := some 26, op := _, type := _, pos := _, after := _, guard := _ }) (v := ?_) rfl (by kernel_rfl) (by kernel_rfl) (by kernel_rfl) (fun _ _ _ h => h) (Or.inl ⟨by rfl, ?_⟩) hH ?_
  rotate_left 1
  · intro W hSw
    (try dsimp only at hSw)
    go_simp
    (try with_reducible rfl)
  try simp only [Act.put, List.setIfInBounds_toArray, List.set_cons_zero, List.set_cons_succ]
  refine wpAnyH_take (i := 9) (oi := { dst := some 27, op := _, type := _, pos := _, after := _, guard := _ }) (v := ?_) rfl (by kernel_rfl) (by kernel_rfl) (by kernel_rfl) (fun _ _ _ h => h) (Or.inl ⟨by rfl, ?_⟩) hH ?_
  rotate_left 1
  · intro W hSw
    (try dsimp only at hSw)
    go_simp
    (try with_reducible rfl)
  try simp only [Act.put, List.setIfInBounds_toArray, List.set_cons_zero, List.set_cons_succ]
  refine wpAnyH_take (i := 11) (oi := { dst := some 29, op := _, type := _, pos := _, after := _, guard := _ }) (v := ?_) rfl (by kernel_rfl) (by kernel_rfl) (by kernel_rfl) (fun _ _ _ h => h) (Or.inl ⟨by rfl, ?_⟩) hH ?_
  rotate_left 1
  · intro W hSw
    (try dsimp only at hSw)
    go_simp
    (try with_reducible rfl)
  try simp only [Act.put, List.setIfInBounds_toArray, List.set_cons_zero, List.set_cons_succ]
  refine wpAnyH_take (i := 13) (oi := { dst := some 31, op := _, type := _, pos := _, after := _, guard := _ }) (v := ?_) rfl (by kernel_rfl) (by kernel_rfl) (by kernel_rfl) (fun _ _ _ h => h) (Or.inl ⟨by rfl, ?_⟩) hH ?_
  rotate_left 1
  · intro W hSw
    (try dsimp only at hSw)
    go_simp
    (try with_reducible rfl)
  try simp only [Act.put, List.setIfInBounds_toArray, List.set_cons_zero, List.set_cons_succ]
  refine wpAnyH_take (i := 14) (oi := { dst := some 32, op := _, type := _, pos := _, after := _, guard := _ }) (v := ?_) rfl (by kernel_rfl) (by kernel_rfl) (by kernel_rfl) (fun _ _ _ h => h) (Or.inl ⟨by rfl, ?_⟩) hH ?_
  rotate_left 1
  · intro W hSw
    (try dsimp only at hSw)
    go_simp
    (try with_reducible rfl)
  try simp only [Act.put, List.setIfInBounds_toArray, List.set_cons_zero, List.set_cons_succ]
  refine wpAnyH_take (i := 15) (oi := { dst := some 33, op := _, type := _, pos := _, after := _, guard := _ }) (v := ?_) rfl (by kernel_rfl) (by kernel_rfl) (by kernel_rfl) (fun _ _ _ h => h) (Or.inl ⟨by rfl, ?_⟩) hH ?_
  rotate_left 1
  · intro W hSw
    (try dsimp only at hSw)
    go_simp
    (try with_reducible rfl)
  try simp only [Act.put, List.setIfInBounds_toArray, List.set_cons_zero, List.set_cons_succ]
  refine wpAnyH_take (i := 16) (oi := { dst := some 34, op := _, type := _, pos := _, after := _, guard := _ }) (v := ?_) rfl (by kernel_rfl) (by kernel_rfl) (by kernel_rfl) (fun _ _ _ h => h) (Or.inl ⟨by rfl, ?_⟩) hH ?_
  rotate_left 1
  · intro W hSw
    (try dsimp only at hSw)
    go_simp
    (try with_reducible rfl)
  try simp only [Act.put, List.setIfInBounds_toArray, List.set_cons_zero, List.set_cons_succ]
  refine wpAnyH_take (i := 17) (oi := { dst := some 35, op := _, type := _, pos := _, after := _, guard := _ }) (v := ?_) rfl (by kernel_rfl) (by kernel_rfl) (by kernel_rfl) (fun _ _ _ h => h) (Or.inl ⟨by rfl, ?_⟩) hH ?_
  rotate_left 1
  · intro W hSw
    (try dsimp only at hSw)
    go_simp
    (try with_reducible rfl)
  try simp only [Act.put, List.setIfInBounds_toArray, List.set_cons_zero, List.set_cons_succ]
  refine wpAnyH_take (i := 18) (oi := { dst := some 36, op := _, type := _, pos := _, after := _, guard := _ }) (v := ?_) rfl (by kernel_rfl) (by kernel_rfl) (by kernel_rfl) (fun _ _ _ h => h) (Or.inl ⟨by rfl, ?_⟩) hH ?_
  rotate_left 1
  · intro W hSw
    (try dsimp only at hSw)
    go_simp
    (try with_reducible rfl)
  try simp only [Act.put, List.setIfInBounds_toArray, List.set_cons_zero, List.set_cons_succ]
  refine wpAnyH_ready (rs := [10]) (by kernel_rfl) (by simp) (AllReadyH.cons rfl (fun K hK => ?_) AllReadyH.nil)
  go_simp
  go_at_call 76; ((with_reducible refine (CP.out _).mono ?_); rintro e9 r1 ⟨rfl, hb1⟩); have R1 := KR1.out.drew.below hb1; go_wp2_with fail
  refine hK.out _ _ ?_ (fun hG => ?_)
  · exact ⟨cell_below hb1 hH.1, cell_below hb1 hH.2.1, cell_below hb1 hH.2.2.1, cell_below hb1 hH.2.2.2.1, cell_below hb1 hH.2.2.2.2.1, cell_below hb1 hH.2.2.2.2.2.1, cell_below hb1 hH.2.2.2.2.2.2.1, cell_below hb1 hH.2.2.2.2.2.2.2.1, cell_below hb1 hH.2.2.2.2.2.2.2.2.1, hH.2.2.2.2.2.2.2.2.2.trans (hb1.mono hH.2.2.2.2.2.2.2.2.2.size)⟩
  replace hH := hG
  clear hK K hG
  try simp only [Act.put, List.setIfInBounds_toArray, List.set_cons_zero, List.set_cons_succ]
  refine wpAnyH_ready (rs := [12]) (by kernel_rfl) (by simp) (AllReadyH.cons rfl (fun K hK => ?_) AllReadyH.nil)
  go_simp
  go_at_call 75; ((with_reducible refine (CA.out _).mono ?_); rintro e9 r2 ⟨rfl, hb2⟩); have R2 := R1.below hb2; go_wp2_with fail
  refine hK.out _ _ ?_ (fun hG => ?_)
  · exact ⟨cell_below hb2 hH.1, cell_below hb2 hH.2.1, cell_below hb2 hH.2.2.1, cell_below hb2 hH.2.2.2.1, cell_below hb2 hH.2.2.2.2.1, cell_below hb2 hH.2.2.2.2.2.1, cell_below hb2 hH.2.2.2.2.2.2.1, cell_below hb2 hH.2.2.2.2.2.2.2.1, cell_below hb2 hH.2.2.2.2.2.2.2.2.1, hH.2.2.2.2.2.2.2.2.2.trans (hb2.mono hH.2.2.2.2.2.2.2.2.2.size)⟩
  replace hH := hG
  clear hK K hG
  try simp only [Act.put, List.setIfInBounds_toArray, List.set_cons_zero, List.set_cons_succ]
  refine wpAnyH_ready (rs := [19]) (by kernel_rfl) (by simp) (AllReadyH.cons rfl (fun K hK => ?_) AllReadyH.nil)
  go_simp
  go_at_call 77; ((with_reducible refine (CH.out _).mono ?_); rintro e9 r3 ⟨rfl, hb3⟩); have R3 := R2.below hb3; go_wp2_with fail
  refine hK.out _ _ ?_ (fun hG => ?_)
  · exact ⟨cell_below hb3 hH.1, cell_below hb3 hH.2.1, cell_below hb3 hH.2.2.1, cell_below hb3 hH.2.2.2.1, cell_below hb3 hH.2.2.2.2.1, cell_below hb3 hH.2.2.2.2.2.1, cell_below hb3 hH.2.2.2.2.2.2.1, cell_below hb3 hH.2.2.2.2.2.2.2.1, cell_below hb3 hH.2.2.2.2.2.2.2.2.1, hH.2.2.2.2.2.2.2.2.2.trans (hb3.mono hH.2.2.2.2.2.2.2.2.2.size)⟩
  replace hH := hG
  clear hK K hG
  try simp only [Act.put, List.setIfInBounds_toArray, List.set_cons_zero, List.set_cons_succ]
  refine wpAnyH_take (i := 20) (oi := { dst := some 38, op := _, type := _, pos := _, after := _, guard := _ }) (v := ?_) rfl (by kernel_rfl) (by kernel_rfl) (by kernel_rfl) (fun _ _ _ h => h) (Or.inl ⟨by rfl, ?_⟩) hH ?_
  rotate_left 1
  · intro W hSw
    (try dsimp only at hSw)
    go_simp
    (try with_reducible rfl)
  try simp only [Act.put, List.setIfInBounds_toArray, List.set_cons_zero, List.set_cons_succ]
  refine wpAnyH_ready (rs := [21]) (by kernel_rfl) (by simp) (AllReadyH.cons rfl (fun K hK => ?_) AllReadyH.nil)
  (refine step_store_row rfl 69 (.tmp 6) (.tmp 38) rfl (w.heap.size + 1 + 1) #[.string z.d.nm, .int .i64 z.b, .int .i64 (wx + sx), .int .i64 (wy + sy), .int .i64 hh] (by simp [Act.eval, Act.put]) (by simp [Act.eval, Act.put]) 69 z5 R3 (by kernel_rfl) rfl (by simp [Value.oneCell']) ?_; refine (show K (Act.put _ none _) _ from ?_); have hgR := row_grown r3 (w.heap.size + 1 + 1) #[.string z.d.nm, .int .i64 z.b, .int .i64 (wx + sx), .int .i64 (wy + sy), .int .i64 hh])
  refine hK.out _ _ ?_ (fun hG => ?_)
  · exact ⟨hgR.cell hH.1 (fun e => by have e := Option.some.inj e; (have e9 : w.heap.size + 1 = w.heap.size + 1 + 1 := e); omega), hgR.cell hH.2.1 (fun e => by have e := Option.some.inj e; (have e9 : w.heap.size + 1 = w.heap.size + 1 + 1 := e); omega), hgR.cell hH.2.2.1 (fun e => by have e := Option.some.inj e; (have e9 : w.heap.size + 1 = w.heap.size + 1 + 1 := e); omega), hgR.cell hH.2.2.2.1 (fun e => by have e := Option.some.inj e; (have e9 : w.heap.size + 1 = w.heap.size + 1 + 1 := e); omega), hgR.cell hH.2.2.2.2.1 (fun e => by have e := Option.some.inj e; (have e9 : w.heap.size + 1 = w.heap.size + 1 + 1 := e); omega), hgR.cell hH.2.2.2.2.2.1 (fun e => by have e := Option.some.inj e; (have e9 : w.heap.size + 1 = w.heap.size + 1 + 1 := e); omega), hgR.cell hH.2.2.2.2.2.2.1 (fun e => by have e := Option.some.inj e; (have e9 : w.heap.size + 1 = w.heap.size + 1 + 1 := e); omega), hgR.cell hH.2.2.2.2.2.2.2.1 (fun e => by have e := Option.some.inj e; (have e9 : u1.heap.size = w.heap.size + 1 + 1 := e); omega), hgR.cell hH.2.2.2.2.2.2.2.2.1 (fun e => by have e := Option.some.inj e; (have e9 : u1.heap.size = w.heap.size + 1 + 1 := e); omega), hH.2.2.2.2.2.2.2.2.2.grown hgR hH.2.2.2.2.2.2.2.2.2.size (fun z9 e9 => by have e9 := Option.some.inj e9; omega)⟩
  replace hH := hG
  clear hK K hG
  try simp only [Act.put, List.setIfInBounds_toArray, List.set_cons_zero, List.set_cons_succ]
  refine wpAnyH_done (by kernel_rfl) ?_ _
  refine NoPanic.normal ?_
  have KX := row_bk #[.string z.d.nm, .int .i64 z.b, .int .i64 (wx + sx), .int .i64 (wy + sy), .int .i64 hh] R3
  have t0 := KX.cell (i := 0) rfl
  have t1 := KX.cell (i := 1) rfl
  have t2 := KX.cell (i := 2) rfl
  have t3 := KX.cell (i := 3) rfl
  have t4 := KX.cell (i := 4) rfl
  have BX := hH.2.2.2.2.2.2.2.2.2
  clear hH
  go_wp2_with fail
  refine bodyPost_ret (v := .agg #[.string z.d.nm, .int .i64 z.b, .int .i64 (wx + sx), .int .i64 (wy + sy), .int .i64 hh]) (by simp [results, Tryz.results33, go_sem, t0, t1, t2, t3, t4]; try rfl) rfl ?_
  exact ⟨wx + sx, wy + sy, hh, rfl, HMOD.out, BX⟩

theorem blk_ne {w : World} {base g n c b : Nat} {e T : TypeId} {size : Nat} {xs : List Value} {cs : Array Value} (h : w.ownsRow base e size (.slice (some ⟨g, 0, none⟩) n c) n xs) (k : Bk w b cs T) (hT : e ≠ T) : g ≠ b := by
  intro hg
  subst hg
  rcases h.2 with ⟨x1, _⟩ | ⟨g', cap, cur, x1, _, x3, _⟩
  · cases x1
  · injection x1 with x1; injection x1 with x1; injection x1 with x1
    subst x1
    rw [show w.heap[g]? = _ from k] at x3
    injection x3 with x3
    injection x3 with _ x3
    exact hT x3.symm
/-- All drops as they have landed. -/
noncomputable def ldS (ds : List D) (cs : List C) (gs : List G) (T : Int) : List Pd9.P := (all9 ds cs gs T).map (tell gs 128)

set_option maxRecDepth 100000 in
set_option maxHeartbeats 4000000 in
theorem landingsS (A0 : Option Addr) (n0 c0 : Nat) (A1 : Option Addr) (n1 c1 : Nat) (A2 : Option Addr) (n2 c2 : Nat) (T : Int) (ds : List D) (cs : List C) (gs : List G) (w : World) (hf : Fit n0 n1 n2 ds cs gs) (hr : SR w A0 A1 A2 ds cs gs) (hsz : ∀ z ∈ ds, z.nm.size ≤ 1048576 ∧ z.ln.size ≤ 1048576) (hsc : ∀ z ∈ cs, z.nm.size ≤ 1048576) :
    Calls Tryz.prog 9 #[sv A0 n0 c0 A1 n1 c1 A2 n2 c2 T] w (RowP w (ldS ds cs gs T)) := by
  have K0 := Lib.hid ((Bk.new w (sc A0 n0 c0 A1 n1 c1 A2 n2 c2 T) 34).alloc (o := .cells #[] 69))
  have b0a := (Below.refl w.heap.size w).alloc (Nat.le_refl _) (.cells (sc A0 n0 c0 A1 n1 c1 A2 n2 c2 T) 34)
  have B0 := Lib.hid (b0a.alloc b0a.size (.cells #[] 69))
  have hzz : (w.alloc (.cells (sc A0 n0 c0 A1 n1 c1 A2 n2 c2 T) 34)).heap.size = w.heap.size + 1 := by simp [go_sem]
  have R0 := Lib.hid (by have := World.ownsRow_lit (base := w.heap.size) (e := 69) (size := 5) (w.alloc (.cells (sc A0 n0 c0 A1 n1 c1 A2 n2 c2 T) 34)) #[] 0 (by rw [hzz]; omega) (Nat.zero_le _) rfl; rw [hzz] at this; exact this : ((w.alloc (.cells (sc A0 n0 c0 A1 n1 c1 A2 n2 c2 T) 34)).alloc (.cells #[] 69)).ownsRow w.heap.size 69 5 (.slice (some ⟨w.heap.size + 1, 0, none⟩) 0 0) 0 [])
  have HS := Lib.hid (hr.below B0.out)
  obtain ⟨r, hrr⟩ : ∃ r, show9 ds cs gs T = r := ⟨_, rfl⟩
  have CS := Lib.hid (fun (W : World) (h : SR W A0 A1 A2 ds cs gs) => (by have := Sw9.isShowS A0 n0 c0 A1 n1 c1 A2 n2 c2 T ds cs gs W hf h hsz hsc; rw [hrr] at this; exact this : Calls Tryz.prog 31 #[sv A0 n0 c0 A1 n1 c1 A2 n2 c2 T] W fun e w' => e = .returned (.bool r) ∧ Below W.heap.size W w'))
  have hu : undef = Value.tuple #[] := rfl
  have z0 := K0.out.cell (i := 0) rfl
  have z1 := K0.out.cell (i := 1) rfl
  have z2 := K0.out.cell (i := 2) rfl
  have z3 := K0.out.cell (i := 3) rfl
  cases r
  · have HV := Lib.hid (show (ldS ds cs gs T) = [] by unfold ldS; rw [all9_no hrr]; rfl)
    clear hf hr hrr hsz hsc b0a hzz
    go_enter Tryz.func9, Tryz.ntmps9
    go_wp2_with fail
    refine (CS.out _ HS.out).mono ?_
    rintro e w1 ⟨rfl, hb⟩
    have B1 := Lib.hid (B0.out.trans (hb.mono B0.out.size))
    have R1 := Lib.hid (owns_below R0.out hb)
    clear hb CS HS K0 B0 R0 z0 z1 z2 z3
    go_wp2_with fail
    go_ret
    exact ⟨w.heap.size + 1, 0, by rw [HV.out]; rfl, by rw [HV.out]; exact R1.out, B1.out⟩
  obtain ⟨zs, hzs⟩ : ∃ zs, all9 ds cs gs T = zs := ⟨_, rfl⟩
  obtain ⟨m, hm⟩ : ∃ m, zs.length = m := ⟨_, rfl⟩
  have hmb : m ≤ 512 := by have := all9_len ds cs gs T; rw [hzs, hm] at this; exact this
  have HZ := Lib.hid (show ∀ z ∈ zs, BOk z ∧ z.b < 64 from fun z hz => by have := all9_ok z (by rw [hzs]; exact hz); exact ⟨this.1.1, this.2⟩)
  have CA := Lib.hid (fun (W : World) (h : SR W A0 A1 A2 ds cs gs) => (by have := Tm9.l9All A0 n0 c0 A1 n1 c1 A2 n2 c2 T ds cs gs W hf h hrr; unfold RowM at this; rw [hzs, hm] at this; exact this :
    Calls Tryz.prog 32 #[sv A0 n0 c0 A1 n1 c1 A2 n2 c2 T] W (fun e w' => ∃ g c, e = .returned (.slice (some ⟨g, 0, none⟩) m c) ∧ w'.ownsRow W.heap.size 67 7 (.slice (some ⟨g, 0, none⟩) m c) m (bls zs) ∧ Below W.heap.size W w')))
  have HM := Lib.hid hm
  have HWD := Lib.hid (show_iff.1 hrr).2.2.1
  have HF := Lib.hid hf
  have HS0 := Lib.hid hr
  have HVAL := Lib.hid (show (fun l : List B => l.map (tell gs 128)) zs = ldS ds cs gs T by unfold ldS; rw [hzs])
  clear hf hr hrr hsz hsc hzs hm b0a hzz
  go_enter Tryz.func9, Tryz.ntmps9
  go_wp2_with fail
  refine (CS.out _ HS.out).mono ?_
  rintro e w1 ⟨rfl, hb⟩
  have B1 := Lib.hid (B0.out.trans (hb.mono B0.out.size))
  have S1 := Lib.hid (HS.out.below hb)
  have K1 := Lib.hid (K0.out.below hb)
  have R1 := Lib.hid (owns_below R0.out hb)
  clear z0 z1 z2 z3
  have b0 := K1.out.cell (i := 0) rfl
  have b1 := K1.out.cell (i := 1) rfl
  have b2 := K1.out.cell (i := 2) rfl
  have b3 := K1.out.cell (i := 3) rfl
  clear hb CS HS K0 B0 R0
  go_wp2_with fail
  refine (CA.out _ S1.out).mono ?_
  rintro e w2 ⟨g, c, rfl, o, hb⟩
  have B2 := Lib.hid (B1.out.trans (hb.mono B1.out.size))
  have K2 := Lib.hid (K1.out.below hb)
  have R2 := Lib.hid (owns_below R1.out hb)
  have O2 := Lib.hid (owns_base o (Nat.le_trans B1.out.size (o.lt g rfl).1))
  clear hb o CA S1 B1 K1 R1 b0 b1 b2 b3
  go_wp2_with fail
  go_loopw [3, 14] (fun v i wr => ∃ k : Nat, k ≤ m ∧ i = .int .i64 k ∧ (∃ q gv cv, q ≤ k ∧ v = .slice (some ⟨gv, 0, none⟩) q cv ∧ Hid (((fun l : List B => l.map (tell gs 128)) (zs.take k)).length = q) ∧ Hid (wr.ownsRow w.heap.size 69 5 (.slice (some ⟨gv, 0, none⟩) q cv) q (pls ((fun l : List B => l.map (tell gs 128)) (zs.take k))))) ∧ Hid (wr.ownsRow w.heap.size 67 7 (.slice (some ⟨g, 0, none⟩) m c) m (bls zs)) ∧ Hid (Bk wr w.heap.size (sc A0 n0 c0 A1 n1 c1 A2 n2 c2 T) 34) ∧ Hid (Below w.heap.size w wr)) (fun _ i _ => m - (intOf i).toNat)
  case atStart => exact ⟨0, Nat.zero_le _, rfl, ⟨0, w.heap.size + 1, 0, Nat.le_refl _, rfl, Lib.hid rfl, R2⟩, O2, K2, B2⟩
  case round =>
    obtain ⟨k, hk, rfl, ⟨q, gv, cv, hqk, rfl, HQ, RK⟩, OK, KK, BK⟩ := hrel
    clear O2 B2 K2 R2
    have hbs := BK.out.size
    by_cases hlt : k < m
    · obtain ⟨z, hz⟩ : ∃ z, zs[k]? = some z := ⟨_, List.getElem?_eq_getElem (by rw [HM.out]; exact hlt)⟩
      obtain ⟨x0, x1, x2, x3, x4, x5, x6⟩ := cB OK.out hz hlt
      have HV := Lib.hid hz
      have hj := HZ.out z (List.mem_of_getElem? hz)
      have hl := (jt_iff.1 hj.1).2.2.2.2
      obtain ⟨N, hN, hN2⟩ : ∃ N : Nat, (N : Int) = z.l + 1 ∧ z.b + N ≤ 128 := ⟨(z.l + 1).toNat, by omega, by omega⟩
      have CL := Lib.hid (fun (W : World) => (by have := Dp.flightS z.d.x z.d.y z.d.hd z.d.tl z.l W; rw [Dp.fl_yes hj.1, ← hN] at this; exact this : Calls Tryz.prog 34 #[jv z.d.x z.d.y z.d.hd z.d.tl z.l] W fun e w' => e = .returned (.int .i64 (N : Int)) ∧ Below W.heap.size W w'))
      have CD := Lib.hid (fun (W : World) (h : SR W A0 A1 A2 ds cs gs) => (by have := l9Drop A0 n0 c0 A1 n1 c1 A2 n2 c2 T gs z N W (by omega) hj.1 hj.2 HWD.out HF.out.2.2.1 HF.out.2.2.2 h.r2; rw [mod_land hN hN2] at this; exact this))
      have q1 : IntKind.i64.wrap ((z.b : Int) + (N : Int)) = (z.b : Int) + N := IntWalk.i64_in _ (by omega)
      have q2 : wrap64 ((z.b : Int) + (N : Int)) = (z.b : Int) + N := IntWalk.wrap64_in _ (by omega)
      have O1 := Lib.hid (OK.out.alloc (.cells (bca z) 67))
      have R1 := Lib.hid (RK.out.alloc (.cells (bca z) 67))
      have K1 := Lib.hid (KK.out.alloc (o := .cells (bca z) 67))
      have B1 := Lib.hid (BK.out.alloc hbs (.cells (bca z) 67))
      have KU := Lib.hid (Bk.new wr (bca z) 67)
      have hgo : w.heap.size ≤ gv := (RK.out.lt _ rfl).1
      have hwk : w.heap.size < wr.heap.size := KK.out.lt
      have hgw : gv < wr.heap.size := (RK.out.lt _ rfl).2
      have hgn : gv ≠ g := Ti9.own_ne_own RK.out OK.out (by decide)
      have hgk : gv ≠ w.heap.size := blk_ne RK.out KK.out (by decide)
      clear hz hj hl hN hN2 RK OK KK BK hbs
      go_upto_region 7 with fail
      clear x0 x1 x2 x3 x4 x5 x6
      refine wp_region_noPanic ?_
      refine wp_region_held_drew (S := (fun w' => w'.cell? ⟨w.heap.size, 0, none⟩ = some (.slice A0 n0 c0) ∧ w'.cell? ⟨w.heap.size, 1, none⟩ = some (.slice A1 n1 c1) ∧ w'.cell? ⟨w.heap.size, 2, none⟩ = some (.slice A2 n2 c2) ∧ w'.cell? ⟨w.heap.size, 3, none⟩ = some (.int .i64 T) ∧ w'.cell? ⟨wr.heap.size, 0, none⟩ = some (.string z.d.nm) ∧ w'.cell? ⟨wr.heap.size, 1, none⟩ = some (.int .i64 z.b) ∧ w'.cell? ⟨wr.heap.size, 2, none⟩ = some (.int .i64 z.d.x) ∧ w'.cell? ⟨wr.heap.size, 3, none⟩ = some (.int .i64 z.d.y) ∧ w'.cell? ⟨wr.heap.size, 4, none⟩ = some (.int .i64 z.d.hd) ∧ w'.cell? ⟨wr.heap.size, 5, none⟩ = some (.int .i64 z.d.tl) ∧ w'.cell? ⟨wr.heap.size, 6, none⟩ = some (.int .i64 z.l) ∧ Below w.heap.size w w')) (by kernel_rfl) ?_ (fun hH => ?_)
      · exact ⟨K1.out.drew.cell (i := 0) rfl, K1.out.drew.cell (i := 1) rfl, K1.out.drew.cell (i := 2) rfl, K1.out.drew.cell (i := 3) rfl, KU.out.drew.cell (i := 0) rfl, KU.out.drew.cell (i := 1) rfl, KU.out.drew.cell (i := 2) rfl, KU.out.drew.cell (i := 3) rfl, KU.out.drew.cell (i := 4) rfl, KU.out.drew.cell (i := 5) rfl, KU.out.drew.cell (i := 6) rfl, B1.out.drew⟩
      refine wpAnyH_take (i := 0) (oi := { dst := some 18, op := _, type := _, pos := _, after := _, guard := _ }) (v := ?_) rfl (by kernel_rfl) (by kernel_rfl) (by kernel_rfl) (fun _ _ _ h => h) (Or.inl ⟨by rfl, ?_⟩) hH ?_
      rotate_left 1
      · intro W hSw
        (try dsimp only at hSw)
        go_simp
        (try with_reducible rfl)
      try simp only [Act.put, List.setIfInBounds_toArray, List.set_cons_zero, List.set_cons_succ]
      refine wpAnyH_take (i := 1) (oi := { dst := some 19, op := _, type := _, pos := _, after := _, guard := _ }) (v := ?_) rfl (by kernel_rfl) (by kernel_rfl) (by kernel_rfl) (fun _ _ _ h => h) (Or.inl ⟨by rfl, ?_⟩) hH ?_
      rotate_left 1
      · intro W hSw
        (try dsimp only at hSw)
        go_simp
        (try with_reducible rfl)
      try simp only [Act.put, List.setIfInBounds_toArray, List.set_cons_zero, List.set_cons_succ]
      refine wpAnyH_take (i := 2) (oi := { dst := some 20, op := _, type := _, pos := _, after := _, guard := _ }) (v := ?_) rfl (by kernel_rfl) (by kernel_rfl) (by kernel_rfl) (fun _ _ _ h => h) (Or.inl ⟨by rfl, ?_⟩) hH ?_
      rotate_left 1
      · intro W hSw
        (try dsimp only at hSw)
        go_simp
        (try with_reducible rfl)
      try simp only [Act.put, List.setIfInBounds_toArray, List.set_cons_zero, List.set_cons_succ]
      refine wpAnyH_take (i := 3) (oi := { dst := some 21, op := _, type := _, pos := _, after := _, guard := _ }) (v := ?_) rfl (by kernel_rfl) (by kernel_rfl) (by kernel_rfl) (fun _ _ _ h => h) (Or.inl ⟨by rfl, ?_⟩) hH ?_
      rotate_left 1
      · intro W hSw
        (try dsimp only at hSw)
        go_simp
        (try with_reducible rfl)
      try simp only [Act.put, List.setIfInBounds_toArray, List.set_cons_zero, List.set_cons_succ]
      refine wpAnyH_take (i := 4) (oi := { dst := some 22, op := _, type := _, pos := _, after := _, guard := _ }) (v := ?_) rfl (by kernel_rfl) (by kernel_rfl) (by kernel_rfl) (fun _ _ _ h => h) (Or.inl ⟨by rfl, ?_⟩) hH ?_
      rotate_left 1
      · intro W hSw
        (try dsimp only at hSw)
        go_simp
        (try with_reducible rfl)
      try simp only [Act.put, List.setIfInBounds_toArray, List.set_cons_zero, List.set_cons_succ]
      refine wpAnyH_take (i := 5) (oi := { dst := some 23, op := _, type := _, pos := _, after := _, guard := _ }) (v := ?_) rfl (by kernel_rfl) (by kernel_rfl) (by kernel_rfl) (fun _ _ _ h => h) (Or.inl ⟨by rfl, ?_⟩) hH ?_
      rotate_left 1
      · intro W hSw
        (try dsimp only at hSw)
        go_simp
        (try with_reducible rfl)
      try simp only [Act.put, List.setIfInBounds_toArray, List.set_cons_zero, List.set_cons_succ]
      refine wpAnyH_take (i := 6) (oi := { dst := some 24, op := _, type := _, pos := _, after := _, guard := _ }) (v := ?_) rfl (by kernel_rfl) (by kernel_rfl) (by kernel_rfl) (fun _ _ _ h => h) (Or.inl ⟨by rfl, ?_⟩) hH ?_
      rotate_left 1
      · intro W hSw
        (try dsimp only at hSw)
        go_simp
        (try with_reducible rfl)
      try simp only [Act.put, List.setIfInBounds_toArray, List.set_cons_zero, List.set_cons_succ]
      refine wpAnyH_ready (rs := [7]) (by kernel_rfl) (by simp) (AllReadyH.cons rfl (fun K hK => ?_) AllReadyH.nil)
      go_simp
      go_at_call 34; ((with_reducible refine (CL.out _).mono ?_); rintro e9 r1 ⟨rfl, hb1⟩); have R2 := owns_below R1.out.drew hb1; have O2 := owns_below O1.out.drew hb1; have K2 := K1.out.drew.below hb1; go_wp2_with fail
      refine hK.out _ _ ?_ (fun hG => ?_)
      · exact ⟨cell_below hb1 hH.1, cell_below hb1 hH.2.1, cell_below hb1 hH.2.2.1, cell_below hb1 hH.2.2.2.1, cell_below hb1 hH.2.2.2.2.1, cell_below hb1 hH.2.2.2.2.2.1, cell_below hb1 hH.2.2.2.2.2.2.1, cell_below hb1 hH.2.2.2.2.2.2.2.1, cell_below hb1 hH.2.2.2.2.2.2.2.2.1, cell_below hb1 hH.2.2.2.2.2.2.2.2.2.1, cell_below hb1 hH.2.2.2.2.2.2.2.2.2.2.1, hH.2.2.2.2.2.2.2.2.2.2.2.trans (hb1.mono hH.2.2.2.2.2.2.2.2.2.2.2.size)⟩
      replace hH := hG
      clear hK K hG
      try simp only [Act.put, List.setIfInBounds_toArray, List.set_cons_zero, List.set_cons_succ]
      refine wpAnyH_take (i := 8) (oi := { dst := some 26, op := _, type := _, pos := _, after := _, guard := _ }) (v := ?_) rfl (by kernel_rfl) (by kernel_rfl) (by kernel_rfl) (fun _ _ _ h => h) (Or.inl ⟨by rfl, ?_⟩) hH ?_
      rotate_left 1
      · intro W hSw
        (try dsimp only at hSw)
        go_simp
        (try with_reducible rfl)
      try simp only [Act.put, List.setIfInBounds_toArray, List.set_cons_zero, List.set_cons_succ]
      refine wpAnyH_ready (rs := [9]) (by kernel_rfl) (by simp) (AllReadyH.cons rfl (fun K hK => ?_) AllReadyH.nil)
      go_simp
      go_at_call 33; ((with_reducible refine (CD.out _ (HS0.out.below hH.2.2.2.2.2.2.2.2.2.2.2)).mono ?_); rintro e9 r2 ⟨px, py, ph, rfl, hpt, hb2⟩); have R3 := owns_below R2 hb2; have O3 := owns_below O2 hb2; have K3 := K2.below hb2; go_wp2_with fail
      refine hK.out _ _ ?_ (fun hG => ?_)
      · exact ⟨cell_below hb2 hH.1, cell_below hb2 hH.2.1, cell_below hb2 hH.2.2.1, cell_below hb2 hH.2.2.2.1, cell_below hb2 hH.2.2.2.2.1, cell_below hb2 hH.2.2.2.2.2.1, cell_below hb2 hH.2.2.2.2.2.2.1, cell_below hb2 hH.2.2.2.2.2.2.2.1, cell_below hb2 hH.2.2.2.2.2.2.2.2.1, cell_below hb2 hH.2.2.2.2.2.2.2.2.2.1, cell_below hb2 hH.2.2.2.2.2.2.2.2.2.2.1, hH.2.2.2.2.2.2.2.2.2.2.2.trans (hb2.mono hH.2.2.2.2.2.2.2.2.2.2.2.size)⟩
      replace hH := hG
      clear hK K hG
      try simp only [Act.put, List.setIfInBounds_toArray, List.set_cons_zero, List.set_cons_succ]
      refine wpAnyH_ready (rs := [10]) (by kernel_rfl) (by simp) (AllReadyH.cons rfl (fun K hK => ?_) AllReadyH.nil)
      go_simp
      refine hK.out _ _ ?_ (fun hG => ?_)
      · exact ⟨cell_alloc hH.1, cell_alloc hH.2.1, cell_alloc hH.2.2.1, cell_alloc hH.2.2.2.1, cell_alloc hH.2.2.2.2.1, cell_alloc hH.2.2.2.2.2.1, cell_alloc hH.2.2.2.2.2.2.1, cell_alloc hH.2.2.2.2.2.2.2.1, cell_alloc hH.2.2.2.2.2.2.2.2.1, cell_alloc hH.2.2.2.2.2.2.2.2.2.1, cell_alloc hH.2.2.2.2.2.2.2.2.2.2.1, hH.2.2.2.2.2.2.2.2.2.2.2.alloc hH.2.2.2.2.2.2.2.2.2.2.2.size _⟩
      replace hH := hG
      clear hK K hG
      try simp only [Act.put, List.setIfInBounds_toArray, List.set_cons_zero, List.set_cons_succ]
      refine wpAnyH_ready (rs := [11]) (by kernel_rfl) (by simp) (AllReadyH.cons rfl (fun K hK => ?_) AllReadyH.nil)
      (obtain ⟨gX, cX, u9, hrun, ho9, hg9⟩ := append_drop (r2.alloc (.cells #[.string z.d.nm, .int .i64 (z.b : Int), .int .i64 px, .int .i64 py, .int .i64 ph] 69)) w.heap.size gv q cv _ (R3.alloc _) ⟨r2.heap.size, 0, none⟩ 1 1 [.string z.d.nm, .int .i64 (z.b : Int), .int .i64 px, .int .i64 py, .int .i64 ph] rfl (by intro j z9 hj9; match j, hj9 with | 0, hj9 => (simp at hj9; subst hj9; simp [Addr.add, go_sem]) | 1, hj9 => (simp at hj9; subst hj9; simp [Addr.add, go_sem]) | 2, hj9 => (simp at hj9; subst hj9; simp [Addr.add, go_sem]) | 3, hj9 => (simp at hj9; subst hj9; simp [Addr.add, go_sem]) | 4, hj9 => (simp at hj9; subst hj9; simp [Addr.add, go_sem])) (by intro z9 hz9; simp at hz9; rcases hz9 with rfl | rfl | rfl | rfl | rfl <;> rfl) (by omega) (by have := hH.2.2.2.2.2.2.2.2.2.2.2.size; simpa using this); refine step_append_drop rfl (.tmp 18) (.tmp 28) rfl rfl _ _ _ (by simp [Act.eval, Act.put]) (by simp [Act.eval, Act.put]) hrun ?_; refine (show K (Act.put _ (some 29) _) _ from ?_))
      refine hK.out _ _ ?_ (fun hG => ?_)
      · exact ⟨hg9.cell hH.1 (fun e => by have e := Option.some.inj e; (have e9 : w.heap.size = gv := e); omega), hg9.cell hH.2.1 (fun e => by have e := Option.some.inj e; (have e9 : w.heap.size = gv := e); omega), hg9.cell hH.2.2.1 (fun e => by have e := Option.some.inj e; (have e9 : w.heap.size = gv := e); omega), hg9.cell hH.2.2.2.1 (fun e => by have e := Option.some.inj e; (have e9 : w.heap.size = gv := e); omega), hg9.cell hH.2.2.2.2.1 (fun e => by have e := Option.some.inj e; (have e9 : wr.heap.size = gv := e); omega), hg9.cell hH.2.2.2.2.2.1 (fun e => by have e := Option.some.inj e; (have e9 : wr.heap.size = gv := e); omega), hg9.cell hH.2.2.2.2.2.2.1 (fun e => by have e := Option.some.inj e; (have e9 : wr.heap.size = gv := e); omega), hg9.cell hH.2.2.2.2.2.2.2.1 (fun e => by have e := Option.some.inj e; (have e9 : wr.heap.size = gv := e); omega), hg9.cell hH.2.2.2.2.2.2.2.2.1 (fun e => by have e := Option.some.inj e; (have e9 : wr.heap.size = gv := e); omega), hg9.cell hH.2.2.2.2.2.2.2.2.2.1 (fun e => by have e := Option.some.inj e; (have e9 : wr.heap.size = gv := e); omega), hg9.cell hH.2.2.2.2.2.2.2.2.2.2.1 (fun e => by have e := Option.some.inj e; (have e9 : wr.heap.size = gv := e); omega), hH.2.2.2.2.2.2.2.2.2.2.2.grown hg9 hH.2.2.2.2.2.2.2.2.2.2.2.size (fun z9 e9 => by have e9 := Option.some.inj e9; omega)⟩
      replace hH := hG
      clear hK K hG
      try simp only [Act.put, List.setIfInBounds_toArray, List.set_cons_zero, List.set_cons_succ]
      refine wpAnyH_take (i := 12) (oi := { dst := some 3, op := _, type := _, pos := _, after := _, guard := _ }) (v := ?_) rfl (by kernel_rfl) (by kernel_rfl) (by kernel_rfl) (fun _ _ _ h => h) (Or.inl ⟨by rfl, ?_⟩) hH ?_
      rotate_left 1
      · intro W hSw
        (try dsimp only at hSw)
        go_simp
        (try with_reducible rfl)
      try simp only [Act.put, List.setIfInBounds_toArray, List.set_cons_zero, List.set_cons_succ]
      refine wpAnyH_done (by kernel_rfl) ?_ _
      refine NoPanic.normal ?_
      have PT := Lib.hid (show (fun l : List B => l.map (tell gs 128)) (zs.take (k + 1)) = (fun l : List B => l.map (tell gs 128)) (zs.take k) ++ [⟨z.d.nm, z.b, px, py, ph⟩] by rw [← hpt]; exact (by show (zs.take (k + 1)).map _ = _; obtain ⟨hk9, hz9⟩ := List.getElem?_eq_some_iff.1 HV.out; rw [List.take_succ_eq_append_getElem hk9, List.map_append, hz9]; rfl))
      have QN := Lib.hid (show ((fun l : List B => l.map (tell gs 128)) (zs.take (k + 1))).length = q + 1 by rw [PT.out, List.length_append, HQ.out]; rfl)
      rw [show pls ((fun l : List B => l.map (tell gs 128)) (zs.take k)) ++ [.string z.d.nm, .int .i64 (z.b : Int), .int .i64 px, .int .i64 py, .int .i64 ph] = pls ((fun l : List B => l.map (tell gs 128)) (zs.take (k + 1))) from (by rw [PT.out]; exact pls_snoc _ ⟨z.d.nm, z.b, px, py, ph⟩)] at ho9
      have RX := Lib.hid ho9
      have OX := Lib.hid (owns_grown (O3.alloc (.cells #[.string z.d.nm, .int .i64 (z.b : Int), .int .i64 px, .int .i64 py, .int .i64 ph] 69)) hg9 (Ti9.ne_blk hgn))
      have KX := Lib.hid ((K3.alloc (o := .cells #[.string z.d.nm, .int .i64 (z.b : Int), .int .i64 px, .int .i64 py, .int .i64 ph] 69)).grown hg9 (fun e => by have e := Option.some.inj e; omega))
      have BX := Lib.hid hH.2.2.2.2.2.2.2.2.2.2.2
      clear hH hb1 hb2 ho9 hg9 hrun R1 R2 R3 O1 O2 O3 K1 K2 K3 B1 KU CL CD hpt
      go_wp2_with fail
      go_roundw
      case rel => exact ⟨k + 1, by omega, by go_num, ⟨q + 1, gX, cX, by omega, rfl, QN, RX⟩, OX, KX, BX⟩
      case measure => simp [intOf]; omega
    · obtain rfl : m = k := by omega
      have HV := Lib.hid (show (fun l : List B => l.map (tell gs 128)) (zs.take m) = (ldS ds cs gs T) by rw [List.take_of_length_le (by rw [HM.out]; exact Nat.le_refl _)]; exact HVAL.out)
      rw [HV.out] at HQ RK
      clear OK KK
      go_wp2_with fail
      go_ret
      exact ⟨gv, cv, by rw [HQ.out]; rfl, by rw [HQ.out]; exact RK.out, BK.out⟩
end Go.Proofs.YtejeikfgmiadhaaGreat.Lz9
