/- The drops that the program throws. -/
import Derived.Test.YtokncfhpmjohdabGreatM20
import Derived.Test.YtokncfhpmjohdabGreatM11
import Derived.Test.YtokncfhpmjohdabGreatFf
import Derived.Deep.RegionHeld3
import Derived.Test.YtokncfhpmjohdabGreatM21
import Derived.Maps.AppendAt
set_option linter.unusedVariables false
set_option linter.unusedSimpArgs false
namespace Go.Proofs.YtokncfhpmjohdabGreat.Tw9
open Go.RowKit Go.ChangeShapes Go.WideShapes Go.WideElems Go.Deep Go.Proofs.YtokncfhpmjohdabGreat.Mem Go.Proofs.YtokncfhpmjohdabGreat.Rw Go.Proofs.YtokncfhpmjohdabGreat.P2 Go.Proofs.YtokncfhpmjohdabGreat.Bk Go.Proofs.YtokncfhpmjohdabGreat.Sp Go.Proofs.YtokncfhpmjohdabGreat.Sq Go.Proofs.YtokncfhpmjohdabGreat.Jt Go.Proofs.YtokncfhpmjohdabGreat.Cm Go.Proofs.YtokncfhpmjohdabGreat.Cx Go.Proofs.YtokncfhpmjohdabGreat.Pl
open Go.Proofs.YtokncfhpmjohdabGreat.Sv hiding D C G
open Go.Proofs.YtokncfhpmjohdabGreat.Ig (rig)
set_option linter.unusedVariables false
set_option linter.unusedSimpArgs false
open Go.Proofs.YtokncfhpmjohdabGreat.Wp (RowI rd_cell)
open Go.Proofs.YtokncfhpmjohdabGreat.Dp
open Go.Proofs.YtokncfhpmjohdabGreat.Lf9 (row_of)

/-- A drop with the words of its way. -/
structure T9 where
  z : B
  re : Nat
  im : Nat
instance : Inhabited T9 := ⟨⟨default, 0, 0⟩⟩
def WOk (u : T9) : Prop := I32 (tx u.z.d.hd.toNat u.z.d.tl 0) u.re ∧ I32 (ty u.z.d.hd.toNat u.z.d.tl 0) u.im

/-- The cells of a drop. -/
def tc (u : T9) : List Value := [.string u.z.d.nm, .int .i64 u.z.b, .int .i64 (u.z.b + (u.z.l + 1)), .int .i64 u.z.d.x, .int .i64 u.z.d.y, .int .i64 u.z.d.hd, .int .i64 u.z.d.tl, .int .i64 u.z.l, .complex .f32 u.re u.im]
theorem tc_len (u : T9) : (tc u).length = 9 := rfl
def tls (us : List T9) : List Value := us.flatMap tc
theorem tls_len (us : List T9) : (tls us).length = us.length * 9 := flat_len tc_len us
theorem tls_get {us : List T9} {k : Nat} {u : T9} (h : us[k]? = some u) :
    (tls us)[k * 9]? = some (.string u.z.d.nm) ∧ (tls us)[k * 9 + 1]? = some (.int .i64 u.z.b) ∧ (tls us)[k * 9 + 2]? = some (.int .i64 (u.z.b + (u.z.l + 1))) ∧ (tls us)[k * 9 + 3]? = some (.int .i64 u.z.d.x) ∧ (tls us)[k * 9 + 4]? = some (.int .i64 u.z.d.y) ∧ (tls us)[k * 9 + 5]? = some (.int .i64 u.z.d.hd) ∧ (tls us)[k * 9 + 6]? = some (.int .i64 u.z.d.tl) ∧ (tls us)[k * 9 + 7]? = some (.int .i64 u.z.l) ∧ (tls us)[k * 9 + 8]? = some (.complex .f32 u.re u.im) :=
  ⟨(flat_get tc_len h 0 (by omega)).trans rfl, (flat_get tc_len h 1 (by omega)).trans rfl, (flat_get tc_len h 2 (by omega)).trans rfl, (flat_get tc_len h 3 (by omega)).trans rfl, (flat_get tc_len h 4 (by omega)).trans rfl, (flat_get tc_len h 5 (by omega)).trans rfl, (flat_get tc_len h 6 (by omega)).trans rfl, (flat_get tc_len h 7 (by omega)).trans rfl, (flat_get tc_len h 8 (by omega)).trans rfl⟩
theorem tls_snoc (us : List T9) (u : T9) : tls us ++ tc u = tls (us ++ [u]) := (flat_snoc us u).symm
theorem info_tls : (Tryz.prog.info? 73).map (fun i => (i.zero, i.size, i.bytes)) = some (some (.agg #[.string ⟨#[]⟩, .int .i64 0, .int .i64 0, .int .i64 0, .int .i64 0, .int .i64 0, .int .i64 0, .int .i64 0, .complex .f32 0 0]), 9, 80) := by kernel_rfl

/-- A row of the call's own with these drops. -/
def Thr (w : World) (base : Nat) (v : Value) (q : Nat) (zs : List B) : Prop := ∃ ts : List T9, ts.map T9.z = zs ∧ (∀ u ∈ ts, WOk u) ∧ ts.length = q ∧ w.ownsRow base 73 9 v q (tls ts)
theorem Thr.below {w w' : World} {base q : Nat} {v : Value} {zs : List B} (h : Thr w base v q zs) (hb : Below w.heap.size w w') : Thr w' base v q zs :=
  let ⟨ts, a, b, c, d⟩ := h; ⟨ts, a, b, c, owns_below d hb⟩
theorem Thr.alloc {w : World} {base q : Nat} {v : Value} {zs : List B} (h : Thr w base v q zs) (o : Obj) : Thr (w.alloc o) base v q zs :=
  let ⟨ts, a, b, c, d⟩ := h; ⟨ts, a, b, c, d.alloc o⟩
/-- What comes back. -/
def RowT (w : World) (zs : List B) (e : Ending) (w' : World) : Prop :=
  ∃ g c, e = .returned (.slice (some ⟨g, 0, none⟩) zs.length c) ∧ Thr w' w.heap.size (.slice (some ⟨g, 0, none⟩) zs.length c) zs.length zs ∧ Below w.heap.size w w'
theorem own_mk {w : World} {base n : Nat} {v : Value} {xs : List Value} (h : w.ownsRow base 73 9 v (n + 1) xs) : ∃ g c, v = .slice (some ⟨g, 0, none⟩) (n + 1) c := by
  rcases h.2 with ⟨_, e⟩ | ⟨g, cap, cur, e, _⟩
  · omega
  · exact ⟨g, cap, e⟩
set_option maxHeartbeats 1000000 in
theorem jetOf (d : D) (l : Int) (w : World) : Calls Tryz.prog 46 #[Dd.va d.nm d.kd d.ln d.x d.y d.hd d.tl d.ms, .int .i64 l] w fun e w' => e = .returned (jv d.x d.y d.hd d.tl l) ∧ Below w.heap.size w w' := by
  obtain ⟨dn, dk, dl, dx, dy, dh, dt, dm⟩ := d
  go_enter Tryz.func46, Tryz.ntmps46
  go_wp2
  go_returns
  exact ⟨rfl, by go_grown⟩

theorem step_store_row {ops : Array Oper} {o : Oper} {a : Act} {w : World} {K : Act → World → Prop} {Q : Exit → Act → World → Prop} {E : Prop} (hgd : o.guard = none) (ty : TypeId) (x y : Operand) (ho : o.op = .store ty x y)
    (g : Nat) (cells : Array Value) (hx : a.eval x = .pointer (some ⟨g, 0, none⟩)) (hy : a.eval y = .agg cells) (t : TypeId) (old : Array Value) (hg : Bk w g old t) (hi : (Tryz.prog.info? ty).map (·.size) = some cells.size)
    (hold : old.size = cells.size) (h1 : cells.all (·.oneCell') = true) (h : K (a.put o.dst undef) (w.setRow g cells)) : if Region.wanted o (yielded ops a.tmps) = true then Oper.wp Tryz.prog o a w K Q else E := by
  have hw : Region.wanted o (yielded ops a.tmps) = true := by simp [Region.wanted, hgd]
  rw [if_pos hw]
  exact wp_store_row ty x y ho g cells hx hy t old hg hi hold h1 h
theorem row_grown (w : World) (g : Nat) (cells : Array Value) : w.grownBy (w.setRow g cells) (some g) := ⟨rfl, rfl, rfl, by simp, fun k _ hk => setRow_other w g k _ (fun e => hk (by rw [e]))⟩
theorem row_bk {w : World} {g : Nat} {old : Array Value} {T : TypeId} (cells : Array Value) (h : Bk w g old T) : Bk (w.setRow g cells) g cells T := setRow_heap w g old cells T (0, 0) h
abbrev z9 : Array Value := #[.string ⟨#[]⟩, .int .i64 0, .int .i64 0, .int .i64 0, .int .i64 0, .int .i64 0, .int .i64 0, .int .i64 0, .complex .f32 0 0]
set_option maxRecDepth 100000 in
set_option maxHeartbeats 4000000 in
theorem newThrow (d : D) (b : Nat) (l : Int) (hj : jt d.x d.y d.hd d.tl l = true) (hb : b ≤ 64) (w : World) :
    Calls Tryz.prog 72 #[Dd.va d.nm d.kd d.ln d.x d.y d.hd d.tl d.ms, .int .i64 (b : Int), .int .i64 l] w fun e w' => ∃ u : T9, u.z = ⟨b, d, l⟩ ∧ WOk u ∧ e = .returned (.agg #[.string u.z.d.nm, .int .i64 u.z.b, .int .i64 (u.z.b + (u.z.l + 1)), .int .i64 u.z.d.x, .int .i64 u.z.d.y, .int .i64 u.z.d.hd, .int .i64 u.z.d.tl, .int .i64 u.z.l, .complex .f32 u.re u.im]) ∧ Below w.heap.size w w' := by
  have CJ := Lib.hid (fun (W : World) => jetOf d l W)
  have CF := Lib.hid (fun (W : World) => (by have := flightI d.x d.y d.hd d.tl l W; rw [fl_yes hj] at this; exact this : Calls Tryz.prog 113 #[jv d.x d.y d.hd d.tl l] W fun e w' => e = .returned (.int .i64 (l + 1)) ∧ Below W.heap.size W w'))
  have CN := Lib.hid (fun (W : World) => newDrop hj W)
  have hl := (jt_iff.1 hj).2.2.2.2
  have s1 : wrap64 ((b : Int) + (l + 1)) = (b : Int) + (l + 1) := IntWalk.wrap64_in _ (by omega)
  have s2 : IntKind.i64.wrap ((b : Int) + (l + 1)) = (b : Int) + (l + 1) := IntWalk.i64_in _ (by omega)
  have hu : undef = Value.tuple #[] := rfl
  clear hj
  obtain ⟨dn, dk, dl, dx, dy, dh, dt, dm⟩ := d
  have K0 := Lib.hid ((Bk.new w (Dd.ca dn dk dl dx dy dh dt dm) 36).alloc (o := .cells z9 73))
  have KR := Lib.hid (Bk.new (w.alloc (.cells (Dd.ca dn dk dl dx dy dh dt dm) 36)) z9 73)
  have hz : (w.alloc (.cells (Dd.ca dn dk dl dx dy dh dt dm) 36)).heap.size = w.heap.size + 1 := by simp [go_sem]
  rw [hz] at KR
  have B0 := Lib.hid (((Below.refl w.heap.size w).alloc (Nat.le_refl _) (.cells (Dd.ca dn dk dl dx dy dh dt dm) 36)).alloc ((Below.refl w.heap.size w).alloc (Nat.le_refl _) (.cells (Dd.ca dn dk dl dx dy dh dt dm) 36)).size (.cells z9 73))
  clear hz
  go_enter Tryz.func72, Tryz.ntmps72
  go_wp2_with fail
  refine (CJ.out _).mono ?_
  rintro e u1 ⟨rfl, hb1⟩
  have K1 := (K0.out.below hb1).alloc (o := .cells #[.int .i64 dx, .int .i64 dy, .int .i64 dh, .int .i64 dt, .int .i64 l] 47)
  have KR1 := Lib.hid ((KR.out.below hb1).alloc (o := .cells #[.int .i64 dx, .int .i64 dy, .int .i64 dh, .int .i64 dt, .int .i64 l] 47))
  have B1a := B0.out.trans (hb1.mono B0.out.size)
  have B1 := Lib.hid (B1a.alloc B1a.size (.cells #[.int .i64 dx, .int .i64 dy, .int .i64 dh, .int .i64 dt, .int .i64 l] 47))
  have KJ := Bk.new u1 #[.int .i64 dx, .int .i64 dy, .int .i64 dh, .int .i64 dt, .int .i64 l] 47
  have hlt : w.heap.size + 1 < u1.heap.size := (KR.out.below hb1).lt
  have n0 := K1.cell (i := 0) rfl
  have j0 := KJ.cell (i := 0) rfl
  have j1 := KJ.cell (i := 1) rfl
  have j2 := KJ.cell (i := 2) rfl
  have j3 := KJ.cell (i := 3) rfl
  have j4 := KJ.cell (i := 4) rfl
  clear hb1 K0 KR B0 CJ K1 KJ B1a
  go_upto_region 2 with fail
  refine wp_region_noPanic ?_
  refine wp_region_held_drew (S := (fun w' => w'.cell? ⟨w.heap.size, 0, none⟩ = some (.string dn) ∧ w'.cell? ⟨u1.heap.size, 0, none⟩ = some (.int .i64 dx) ∧ w'.cell? ⟨u1.heap.size, 1, none⟩ = some (.int .i64 dy) ∧ w'.cell? ⟨u1.heap.size, 2, none⟩ = some (.int .i64 dh) ∧ w'.cell? ⟨u1.heap.size, 3, none⟩ = some (.int .i64 dt) ∧ w'.cell? ⟨u1.heap.size, 4, none⟩ = some (.int .i64 l) ∧ Below w.heap.size w w')) (by kernel_rfl) ?_ (fun hH => ?_)
  · exact ⟨n0, j0, j1, j2, j3, j4, B1.out.drew⟩
  refine wpAnyH_take (i := 0) (oi := { dst := some 11, op := _, type := _, pos := _, after := _, guard := _ }) (v := ?_) rfl (by kernel_rfl) (by kernel_rfl) (by kernel_rfl) (fun _ _ _ h => h) (Or.inl ⟨by rfl, ?_⟩) hH ?_
  rotate_left 1
  · intro W hSw
    (try dsimp only at hSw)
    go_simp
    (try with_reducible rfl)
  try simp only [Act.put, List.setIfInBounds_toArray, List.set_cons_zero, List.set_cons_succ]
  refine wpAnyH_take (i := 1) (oi := { dst := some 12, op := _, type := _, pos := _, after := _, guard := _ }) (v := ?_) rfl (by kernel_rfl) (by kernel_rfl) (by kernel_rfl) (fun _ _ _ h => h) (Or.inl ⟨by rfl, ?_⟩) hH ?_
  rotate_left 1
  · intro W hSw
    (try dsimp only at hSw)
    go_simp
    (try with_reducible rfl)
  try simp only [Act.put, List.setIfInBounds_toArray, List.set_cons_zero, List.set_cons_succ]
  refine wpAnyH_take (i := 2) (oi := { dst := some 13, op := _, type := _, pos := _, after := _, guard := _ }) (v := ?_) rfl (by kernel_rfl) (by kernel_rfl) (by kernel_rfl) (fun _ _ _ h => h) (Or.inl ⟨by rfl, ?_⟩) hH ?_
  rotate_left 1
  · intro W hSw
    (try dsimp only at hSw)
    go_simp
    (try with_reducible rfl)
  try simp only [Act.put, List.setIfInBounds_toArray, List.set_cons_zero, List.set_cons_succ]
  refine wpAnyH_take (i := 3) (oi := { dst := some 14, op := _, type := _, pos := _, after := _, guard := _ }) (v := ?_) rfl (by kernel_rfl) (by kernel_rfl) (by kernel_rfl) (fun _ _ _ h => h) (Or.inl ⟨by rfl, ?_⟩) hH ?_
  rotate_left 1
  · intro W hSw
    (try dsimp only at hSw)
    go_simp
    (try with_reducible rfl)
  try simp only [Act.put, List.setIfInBounds_toArray, List.set_cons_zero, List.set_cons_succ]
  refine wpAnyH_take (i := 4) (oi := { dst := some 15, op := _, type := _, pos := _, after := _, guard := _ }) (v := ?_) rfl (by kernel_rfl) (by kernel_rfl) (by kernel_rfl) (fun _ _ _ h => h) (Or.inl ⟨by rfl, ?_⟩) hH ?_
  rotate_left 1
  · intro W hSw
    (try dsimp only at hSw)
    go_simp
    (try with_reducible rfl)
  try simp only [Act.put, List.setIfInBounds_toArray, List.set_cons_zero, List.set_cons_succ]
  refine wpAnyH_take (i := 7) (oi := { dst := some 18, op := _, type := _, pos := _, after := _, guard := _ }) (v := ?_) rfl (by kernel_rfl) (by kernel_rfl) (by kernel_rfl) (fun _ _ _ h => h) (Or.inl ⟨by rfl, ?_⟩) hH ?_
  rotate_left 1
  · intro W hSw
    (try dsimp only at hSw)
    go_simp
    (try with_reducible rfl)
  try simp only [Act.put, List.setIfInBounds_toArray, List.set_cons_zero, List.set_cons_succ]
  refine wpAnyH_take (i := 8) (oi := { dst := some 19, op := _, type := _, pos := _, after := _, guard := _ }) (v := ?_) rfl (by kernel_rfl) (by kernel_rfl) (by kernel_rfl) (fun _ _ _ h => h) (Or.inl ⟨by rfl, ?_⟩) hH ?_
  rotate_left 1
  · intro W hSw
    (try dsimp only at hSw)
    go_simp
    (try with_reducible rfl)
  try simp only [Act.put, List.setIfInBounds_toArray, List.set_cons_zero, List.set_cons_succ]
  refine wpAnyH_ready (rs := [5]) (by kernel_rfl) (by simp) (AllReadyH.cons rfl (fun K hK => ?_) AllReadyH.nil)
  go_simp
  go_at_call 113; ((with_reducible refine (CF.out _).mono ?_); rintro e r1 ⟨rfl, hb1⟩); go_wp2_with fail
  refine hK.out _ _ ?_ (fun hG => ?_)
  · exact ⟨cell_below hb1 hH.1, cell_below hb1 hH.2.1, cell_below hb1 hH.2.2.1, cell_below hb1 hH.2.2.2.1, cell_below hb1 hH.2.2.2.2.1, cell_below hb1 hH.2.2.2.2.2.1, hH.2.2.2.2.2.2.trans (hb1.mono hH.2.2.2.2.2.2.size)⟩
  replace hH := hG
  clear hK K hG
  try simp only [Act.put, List.setIfInBounds_toArray, List.set_cons_zero, List.set_cons_succ]
  refine wpAnyH_take (i := 6) (oi := { dst := some 17, op := _, type := _, pos := _, after := _, guard := _ }) (v := ?_) rfl (by kernel_rfl) (by kernel_rfl) (by kernel_rfl) (fun _ _ _ h => h) (Or.inl ⟨by rfl, ?_⟩) hH ?_
  rotate_left 1
  · intro W hSw
    (try dsimp only at hSw)
    go_simp
    (try with_reducible rfl)
  try simp only [Act.put, List.setIfInBounds_toArray, List.set_cons_zero, List.set_cons_succ]
  refine wpAnyH_ready (rs := [9]) (by kernel_rfl) (by simp) (AllReadyH.cons rfl (fun K hK => ?_) AllReadyH.nil)
  go_simp
  go_at_call 48; ((with_reducible refine (CN.out _).mono ?_); rintro e r2 ⟨bb, rfl, hbb, ⟨x9, y9, p9, q9, h9, s9, kD, i1, i2, i3, i4, _⟩, hb2⟩); have c9 := kD.c1; have KR2 := (KR1.out.drew.below hb1).below hb2; go_wp2_with fail
  refine hK.out _ _ ?_ (fun hG => ?_)
  · exact ⟨cell_below hb2 hH.1, cell_below hb2 hH.2.1, cell_below hb2 hH.2.2.1, cell_below hb2 hH.2.2.2.1, cell_below hb2 hH.2.2.2.2.1, cell_below hb2 hH.2.2.2.2.2.1, hH.2.2.2.2.2.2.trans (hb2.mono hH.2.2.2.2.2.2.size)⟩
  replace hH := hG
  clear hK K hG
  try simp only [Act.put, List.setIfInBounds_toArray, List.set_cons_zero, List.set_cons_succ]
  refine wpAnyH_take (i := 10) (oi := { dst := some 21, op := _, type := _, pos := _, after := _, guard := _ }) (v := ?_) rfl (by kernel_rfl) (by kernel_rfl) (by kernel_rfl) (fun _ _ _ h => h) (Or.inl ⟨by rfl, ?_⟩) hH ?_
  rotate_left 1
  · intro W hSw
    (try dsimp only at hSw)
    go_simp
    (try with_reducible rfl)
  try simp only [Act.put, List.setIfInBounds_toArray, List.set_cons_zero, List.set_cons_succ]
  refine wpAnyH_take (i := 11) (oi := { dst := some 22, op := _, type := _, pos := _, after := _, guard := _ }) (v := ?_) rfl (by kernel_rfl) (by kernel_rfl) (by kernel_rfl) (fun _ _ _ h => h) (Or.inl ⟨by rfl, ?_⟩) hH ?_
  rotate_left 1
  · intro W hSw
    (try dsimp only at hSw)
    go_simp
    (try with_reducible rfl)
  try simp only [Act.put, List.setIfInBounds_toArray, List.set_cons_zero, List.set_cons_succ]
  refine wpAnyH_ready (rs := [12]) (by kernel_rfl) (by simp) (AllReadyH.cons rfl (fun K hK => ?_) AllReadyH.nil)
  go_simp
  refine hK.out _ _ ?_ (fun hG => ?_)
  · exact hH
  replace hH := hG
  clear hK K hG
  try simp only [Act.put, List.setIfInBounds_toArray, List.set_cons_zero, List.set_cons_succ]
  refine wpAnyH_take (i := 13) (oi := { dst := some 24, op := _, type := _, pos := _, after := _, guard := _ }) (v := ?_) rfl (by kernel_rfl) (by kernel_rfl) (by kernel_rfl) (fun _ _ _ h => h) (Or.inl ⟨by rfl, ?_⟩) hH ?_
  rotate_left 1
  · intro W hSw
    (try dsimp only at hSw)
    go_simp
    (try with_reducible rfl)
  try simp only [Act.put, List.setIfInBounds_toArray, List.set_cons_zero, List.set_cons_succ]
  refine wpAnyH_ready (rs := [14]) (by kernel_rfl) (by simp) (AllReadyH.cons rfl (fun K hK => ?_) AllReadyH.nil)
  (refine step_store_row rfl 73 (.tmp 6) (.tmp 24) rfl (w.heap.size + 1) #[.string dn, .int .i64 (b : Int), .int .i64 ((b : Int) + (l + 1)), .int .i64 dx, .int .i64 dy, .int .i64 dh, .int .i64 dt, .int .i64 l, .complex .f32 p9 q9] (by simp [Act.eval, Act.put]) (by simp [Act.eval, Act.put]) 73 z9 KR2 (by kernel_rfl) rfl (by simp [Value.oneCell']) ?_; refine (show K (Act.put _ none _) _ from ?_); have hgR := row_grown r2 (w.heap.size + 1) #[.string dn, .int .i64 (b : Int), .int .i64 ((b : Int) + (l + 1)), .int .i64 dx, .int .i64 dy, .int .i64 dh, .int .i64 dt, .int .i64 l, .complex .f32 p9 q9])
  refine hK.out _ _ ?_ (fun hG => ?_)
  · exact ⟨hgR.cell hH.1 (fun e => by have e := Option.some.inj e; (have e9 : w.heap.size = w.heap.size + 1 := e); omega), hgR.cell hH.2.1 (fun e => by have e := Option.some.inj e; (have e9 : u1.heap.size = w.heap.size + 1 := e); omega), hgR.cell hH.2.2.1 (fun e => by have e := Option.some.inj e; (have e9 : u1.heap.size = w.heap.size + 1 := e); omega), hgR.cell hH.2.2.2.1 (fun e => by have e := Option.some.inj e; (have e9 : u1.heap.size = w.heap.size + 1 := e); omega), hgR.cell hH.2.2.2.2.1 (fun e => by have e := Option.some.inj e; (have e9 : u1.heap.size = w.heap.size + 1 := e); omega), hgR.cell hH.2.2.2.2.2.1 (fun e => by have e := Option.some.inj e; (have e9 : u1.heap.size = w.heap.size + 1 := e); omega), hH.2.2.2.2.2.2.grown hgR hH.2.2.2.2.2.2.size (fun z9 e9 => by have e9 := Option.some.inj e9; omega)⟩
  replace hH := hG
  clear hK K hG
  try simp only [Act.put, List.setIfInBounds_toArray, List.set_cons_zero, List.set_cons_succ]
  refine wpAnyH_done (by kernel_rfl) ?_ _
  refine NoPanic.normal ?_
  have KX := row_bk #[.string dn, .int .i64 (b : Int), .int .i64 ((b : Int) + (l + 1)), .int .i64 dx, .int .i64 dy, .int .i64 dh, .int .i64 dt, .int .i64 l, .complex .f32 p9 q9] KR2
  have t0 := KX.cell (i := 0) rfl
  have t1 := KX.cell (i := 1) rfl
  have t2 := KX.cell (i := 2) rfl
  have t3 := KX.cell (i := 3) rfl
  have t4 := KX.cell (i := 4) rfl
  have t5 := KX.cell (i := 5) rfl
  have t6 := KX.cell (i := 6) rfl
  have t7 := KX.cell (i := 7) rfl
  have t8 := KX.cell (i := 8) rfl
  have BX := hH.2.2.2.2.2.2
  clear hH
  go_wp2_with fail
  refine bodyPost_ret (v := .agg #[.string dn, .int .i64 (b : Int), .int .i64 ((b : Int) + (l + 1)), .int .i64 dx, .int .i64 dy, .int .i64 dh, .int .i64 dt, .int .i64 l, .complex .f32 p9 q9]) (by simp [results, Tryz.results72, go_sem, t0, t1, t2, t3, t4, t5, t6, t7, t8]; try rfl) rfl ?_
  exact ⟨⟨⟨b, ⟨dn, dk, dl, dx, dy, dh, dt, dm⟩, l⟩, p9, q9⟩, rfl, ⟨i3, i4⟩, rfl, BX⟩
end Go.Proofs.YtokncfhpmjohdabGreat.Tw9
namespace Go.Proofs.YtokncfhpmjohdabGreat.Ti9
open Go.RowKit Go.ChangeShapes Go.WideShapes Go.WideElems Go.Deep Go.Proofs.YtokncfhpmjohdabGreat.Mem Go.Proofs.YtokncfhpmjohdabGreat.Rw Go.Proofs.YtokncfhpmjohdabGreat.P2 Go.Proofs.YtokncfhpmjohdabGreat.Bk Go.Proofs.YtokncfhpmjohdabGreat.Sp Go.Proofs.YtokncfhpmjohdabGreat.Sq Go.Proofs.YtokncfhpmjohdabGreat.Jt Go.Proofs.YtokncfhpmjohdabGreat.Cm Go.Proofs.YtokncfhpmjohdabGreat.Cx Go.Proofs.YtokncfhpmjohdabGreat.Pl
open Go.Proofs.YtokncfhpmjohdabGreat.Sv hiding D C G
open Go.Proofs.YtokncfhpmjohdabGreat.Ig (rig)
set_option linter.unusedVariables false
set_option linter.unusedSimpArgs false
open Go.Proofs.YtokncfhpmjohdabGreat.Wp (RowI rd_cell)
open Go.Proofs.YtokncfhpmjohdabGreat.Tw9
open Go.Proofs.YtokncfhpmjohdabGreat.Lf9 (row_of)


theorem own_ne_own {w : World} {b1 b2 s1 s2 g1 g2 n1 n2 c1 c2 : Nat} {e1 e2 : TypeId} {xs ys : List Value} (h : w.ownsRow b1 e1 s1 (.slice (some ⟨g1, 0, none⟩) n1 c1) n1 xs) (k : w.ownsRow b2 e2 s2 (.slice (some ⟨g2, 0, none⟩) n2 c2) n2 ys) (hT : e1 ≠ e2) : g1 ≠ g2 := by
  intro hg
  subst hg
  rcases h.2 with ⟨x1, _⟩ | ⟨g', cap, cur, x1, _, x3, _⟩
  · cases x1
  · rcases k.2 with ⟨y1, _⟩ | ⟨g'', cap2, cur2, y1, _, y3, _⟩
    · cases y1
    · injection x1 with x1; injection x1 with x1; injection x1 with x1
      injection y1 with y1; injection y1 with y1; injection y1 with y1
      subst x1 y1
      rw [x3] at y3
      injection y3 with y3
      injection y3 with _ y3
      exact hT y3
theorem ne_blk {g : Nat} {n c b : Nat} (hb : b ≠ g) : ∀ k, (Value.slice (some ⟨g, 0, none⟩) n c).ownBlock = some k → some b ≠ some k := by
  intro k hk e
  have hk : g = k := Option.some.inj hk
  have e := Option.some.inj e
  omega
theorem thr_of {w w' : World} {zs : List B} {q g c : Nat} (hq : zs.length = q) (o : Thr w' w.heap.size (.slice (some ⟨g, 0, none⟩) q c) q zs) (b : Below w.heap.size w w') : RowT w zs (.returned (.slice (some ⟨g, 0, none⟩) q c)) w' := by
  subst hq; exact ⟨g, c, rfl, o, b⟩
theorem thr_nil (w : World) : Thr (w.alloc (.cells #[] 73)) w.heap.size (.slice (some ⟨w.heap.size, 0, none⟩) 0 0) 0 [] :=
  ⟨[], rfl, fun _ h => (by cases h), rfl, World.ownsRow_lit (base := w.heap.size) (e := 73) (size := 9) w #[] 0 (Nat.le_refl _) (Nat.zero_le _) rfl⟩
theorem thr_more {w : World} {base base' q g c : Nat} {zs : List B} (h : Thr w base (.slice (some ⟨g, 0, none⟩) q c) q zs) (hb : base' ≤ base) : Thr w base' (.slice (some ⟨g, 0, none⟩) q c) q zs :=
  let ⟨ts, a, b, l, d⟩ := h; ⟨ts, a, b, l, owns_base d (Nat.le_trans hb (d.lt g rfl).1)⟩
set_option maxRecDepth 100000 in
set_option maxHeartbeats 8000000 in
theorem thrownIn (A0 : Option Addr) (n0 c0 : Nat) (A1 : Option Addr) (n1 c1 : Nat) (A2 : Option Addr) (n2 c2 : Nat) (T : Int) (ds : List D) (cs : List C) (gs : List G) (w : World)
    (hf : Fit n0 n1 n2 ds cs gs) (hr : SR w A0 A1 A2 ds cs gs) :
    Calls Tryz.prog 37 #[sv A0 n0 c0 A1 n1 c1 A2 n2 c2 T] w (RowT w (all9 ds cs gs T)) := by
  obtain ⟨i0, hi, hz0, hz1, hz2⟩ := info_of info_tls
  have HF := Lib.hid hf
  have hu : undef = Value.tuple #[] := rfl
  have HS := Lib.hid hr
  have HN := Lib.hid hf.1.1
  have hb0 : n0 ≤ 1048576 := hf.1.2
  obtain ⟨r, hrr⟩ : ∃ r, show9 ds cs gs T = r := ⟨_, rfl⟩
  have CS := Lib.hid (fun (W : World) (h : SR W A0 A1 A2 ds cs gs) => (by have := Sw9.isShowI A0 n0 c0 A1 n1 c1 A2 n2 c2 T ds cs gs W HF.out h; rw [hrr] at this; exact this : Calls Tryz.prog 27 #[sv A0 n0 c0 A1 n1 c1 A2 n2 c2 T] W fun e w' => e = .returned (.bool r) ∧ Below W.heap.size W w'))
  have hz : (w.alloc (.cells (sc A0 n0 c0 A1 n1 c1 A2 n2 c2 T) 28)).heap.size = w.heap.size + 1 := by simp [go_sem]
  have K0 := Lib.hid ((Bk.new w (sc A0 n0 c0 A1 n1 c1 A2 n2 c2 T) 28).alloc (o := .cells #[] 73))
  have B0a := (Below.refl w.heap.size w).alloc (Nat.le_refl _) (.cells (sc A0 n0 c0 A1 n1 c1 A2 n2 c2 T) 28)
  have B0 := Lib.hid (B0a.alloc B0a.size (.cells #[] 73))
  have R0 := Lib.hid (thr_more (base' := w.heap.size) (thr_nil (w.alloc (.cells (sc A0 n0 c0 A1 n1 c1 A2 n2 c2 T) 28))) B0a.size)
  rw [hz] at R0
  have hb9 : w.heap.size < w.heap.size + 1 := by omega
  clear hr hf hz B0a
  have b0 := K0.out.cell (i := 0) rfl
  have b1 := K0.out.cell (i := 1) rfl
  have b2 := K0.out.cell (i := 2) rfl
  have b3 := K0.out.cell (i := 3) rfl
  cases r
  · rw [all9_no hrr]
    clear hrr
    go_enter Tryz.func37, Tryz.ntmps37
    go_wp2_with fail
    refine (CS.out _ (HS.out.below B0.out)).mono ?_
    rintro e w1 ⟨rfl, hb⟩
    have B1 := Lib.hid (B0.out.trans (hb.mono B0.out.size))
    have R1 := Lib.hid (R0.out.below hb)
    clear hb CS HS K0 B0 R0 b0 b1 b2 b3
    go_wp2_with fail
    go_ret
    exact thr_of rfl R1.out B1.out
  rw [all9_yes hrr]
  obtain ⟨hrig, _, _, hT0, hT1⟩ := show_iff.1 hrr
  obtain ⟨N, rfl⟩ : ∃ N : Nat, T = N := ⟨T.toNat, by omega⟩
  have CL := Lib.hid (fun (k : Nat) (hk : k ≤ 64) (W : World) (h : SR W A0 A1 A2 ds cs gs) => (by have := Li9.liftsAt A0 n0 c0 A1 n1 c1 A2 n2 c2 N ds cs gs (k : Int) W HF.out h hrig ⟨hT0, hT1⟩ (Ld.wf64 (by omega) (by omega)); unfold Wp.RowI at this; rw [lifts_len, HN.out] at this; exact this :
    Calls Tryz.prog 28 #[sv A0 n0 c0 A1 n1 c1 A2 n2 c2 N, .int .i64 (k : Int)] W (fun e w' => ∃ g c, e = .returned (.slice (some ⟨g, 0, none⟩) n0 c) ∧ w'.ownsRow W.heap.size 3 1 (.slice (some ⟨g, 0, none⟩) n0 c) n0 (ints (lifts ds cs N (k : Int))) ∧ Below W.heap.size W w')))
  have HOK := Lib.hid (fun (k : Nat) => ok_lifts cs N (k : Int) hrig)
  have HLen := Lib.hid (fun (k : Nat) => lifts_len ds cs N (k : Int))
  have H8 := Lib.hid (Rz.rig_set.1 (Ig.rig_of hrig)).1
  have hN : N ≤ 64 := by omega
  rw [Int.toNat_natCast]
  clear hrr hrig hT0 hT1
  go_enter Tryz.func37, Tryz.ntmps37
  go_wp2_with fail
  refine (CS.out _ (HS.out.below B0.out)).mono ?_
  rintro e w1 ⟨rfl, hb⟩
  have B1 := Lib.hid (B0.out.trans (hb.mono B0.out.size))
  have R1 := Lib.hid (R0.out.below hb)
  have K1 := Lib.hid (K0.out.below hb)
  clear hb CS K0 B0 R0 b0 b1 b2 b3 hb9
  have b3 := K1.out.cell (i := 3) rfl
  go_wp2_with fail
  go_loopw [3, 14] (fun v i wr => ∃ k q g c : Nat, k ≤ N ∧ i = .int .i64 k ∧ v = .slice (some ⟨g, 0, none⟩) q c ∧ Hid ((allK ds cs N k).length = q) ∧ Hid (Thr wr w.heap.size v q (allK ds cs N k)) ∧ Hid (Bk wr w.heap.size (sc A0 n0 c0 A1 n1 c1 A2 n2 c2 N) 28) ∧ Hid (Below w.heap.size w wr)) (fun _ i _ => N - (intOf i).toNat)
  case atStart => exact ⟨0, 0, _, _, Nat.zero_le _, rfl, rfl, Lib.hid rfl, R1, K1, B1⟩
  case round =>
    obtain ⟨k, q, g, c, hk, rfl, rfl, QK, RK, KK, BK⟩ := hrel
    clear R1 K1 B1 b3
    by_cases hlt : k < N
    · have b0 := KK.out.cell (i := 0) rfl
      have b1 := KK.out.cell (i := 1) rfl
      have b2 := KK.out.cell (i := 2) rfl
      have b3 := KK.out.cell (i := 3) rfl
      have CLk := Lib.hid (CL.out k (by omega))
      obtain ⟨LI, hLI⟩ : ∃ LI, lifts ds cs N (k : Int) = LI := ⟨_, rfl⟩
      have HO := Lib.hid (show LiftOk ds LI by rw [← hLI]; exact HOK.out k)
      have HLL := Lib.hid (show LI.length = n0 by rw [← hLI, HLen.out k]; exact HN.out)
      have HAK := Lib.hid (show allK ds cs N (k + 1) = allK ds cs N k ++ rowK ds LI k ds.length by rw [← hLI]; rfl)
      rw [hLI] at CLk
      clear hLI
      go_wp2_with fail
      refine (CLk.out _ (HS.out.below BK.out)).mono ?_
      rintro e u1 ⟨g5, c5, rfl, o5, hb⟩
      have RA := Lib.hid (show Thr u1 w.heap.size (.slice (some ⟨g, 0, none⟩) q c) q (allK ds cs N k ++ rowK ds LI k 0) by rw [show rowK ds LI k 0 = [] from rfl, List.append_nil]; exact RK.out.below hb)
      have QA := Lib.hid (show (allK ds cs N k ++ rowK ds LI k 0).length = q by rw [show rowK ds LI k 0 = [] from rfl, List.append_nil]; exact QK.out)
      have LA := Lib.hid (owns_base o5 (Nat.le_trans BK.out.size (o5.lt g5 rfl).1))
      have KA := Lib.hid (KK.out.below hb)
      have BA := Lib.hid (BK.out.trans (hb.mono BK.out.size))
      clear hb o5 RK KK BK QK CLk b0 b1 b2 b3
      go_wp2_with fail
      go_loopw [3, 21] (fun v i wr => ∃ i9 q g c : Nat, i9 ≤ n0 ∧ i = .int .i64 i9 ∧ v = .slice (some ⟨g, 0, none⟩) q c ∧ Hid ((allK ds cs N k ++ rowK ds LI k i9).length = q) ∧ Hid (Thr wr w.heap.size v q (allK ds cs N k ++ rowK ds LI k i9)) ∧ Hid (wr.ownsRow w.heap.size 3 1 (.slice (some ⟨g5, 0, none⟩) n0 c5) n0 (ints LI)) ∧ Hid (Bk wr w.heap.size (sc A0 n0 c0 A1 n1 c1 A2 n2 c2 N) 28) ∧ Hid (Below w.heap.size w wr)) (fun _ i _ => n0 - (intOf i).toNat)
      case atStart => exact ⟨0, q, g, c, Nat.zero_le _, rfl, rfl, QA, RA, LA, KA, BA⟩
      case round =>
        obtain ⟨i, q, g, c, hi9, rfl, rfl, QI, RI, LI9, KI, BI⟩ := hrel
        clear QA RA LA KA BA
        by_cases hli : i < n0
        · obtain ⟨x, hx⟩ : ∃ x, LI[i]? = some x := ⟨_, List.getElem?_eq_getElem (by rw [HLL.out]; exact hli)⟩
          obtain ⟨z, hz⟩ : ∃ z, ds[i]? = some z := ⟨_, List.getElem?_eq_getElem (by rw [HN.out]; exact hli)⟩
          have HZ := Lib.hid hz
          have cL : wr.cell? ⟨g5, i, none⟩ = some (.int .i64 x) := (LI9.out.cellAt i (by omega)).trans (by unfold ints; rw [List.getElem?_map, hx]; rfl)
          by_cases hx0 : x = 0
          · have RN := Lib.hid (row_no (t := k) hz hx hx0)
            subst hx0
            clear hx hz
            go_wp2_with fail
            go_roundw
            case rel => exact ⟨i + 1, q, g, c, by omega, by go_num, rfl, by rw [RN.out]; exact QI, by rw [RN.out]; exact RI, LI9, KI, BI⟩
            case measure => simp [intOf]; omega
          · have RY := Lib.hid (row_yes (t := k) hz hx hx0)
            have hj : jt z.x z.y z.hd z.tl x = true := by
              rcases HO.out i x hx with e | ⟨a, b, d', e, _, n, _⟩
              · exact absurd e hx0
              · rw [hz] at e; injection e with e; subst e
                exact noz_jet n (by omega) b
            have CT := Lib.hid (fun (W : World) => newThrow z k x hj (by omega) W)
            clear hj hx hz
            obtain ⟨dn, dk, dl, dx, dy, dh, dt, dm⟩ := z
            obtain ⟨bD, oD, eA, hbl, hcell⟩ := (HS.out.1.below BI.out).get (k := i * 8) (by rw [Dd.dls_len, HN.out]; omega)
            obtain ⟨z0, z1, z2, z3, z4, z5, z6, z7⟩ := Dd.dls_get HZ.out
            have c0 := hcell (i * 8) _ z0
            have c1 := hcell (i * 8 + 1) _ z1
            rw [← Nat.add_assoc] at c1
            have c2 := hcell (i * 8 + 2) _ z2
            rw [← Nat.add_assoc] at c2
            have c3 := hcell (i * 8 + 3) _ z3
            rw [← Nat.add_assoc] at c3
            have c4 := hcell (i * 8 + 4) _ z4
            rw [← Nat.add_assoc] at c4
            have c5 := hcell (i * 8 + 5) _ z5
            rw [← Nat.add_assoc] at c5
            have c6 := hcell (i * 8 + 6) _ z6
            rw [← Nat.add_assoc] at c6
            have c7 := hcell (i * 8 + 7) _ z7
            rw [← Nat.add_assoc] at c7
            clear hcell hbl z0 z1 z2 z3 z4 z5 z6 z7
            subst eA
            have b0 := KI.out.cell (i := 0) rfl
            go_wp2_with fail
            refine (CT.out _).mono ?_
            rintro e u2 ⟨u, huz, huw, rfl, hb⟩
            have RA := Lib.hid (RI.out.below hb)
            have LA := Lib.hid (owns_below LI9.out hb)
            have KA := Lib.hid (KI.out.below hb)
            have BA := Lib.hid (BI.out.trans (hb.mono BI.out.size))
            clear hb RI LI9 KI BI c0 c1 c2 c3 c4 c5 c6 c7 cL b0 CT
            obtain ⟨ts, ht1, ht2, ht3, ht4⟩ := RA.out
            have nL : g ≠ g5 := own_ne_own ht4 LA.out (by decide)
            have nB : g ≠ w.heap.size := fun e => own_ne ht4 KA.out (by decide) (by rw [e]; rfl)
            have lg : w.heap.size ≤ g := (ht4.lt g rfl).1
            have hq : q ≤ 600 := by
              have h1 := QI.out; rw [List.length_append] at h1
              have := all_len (cs := cs) (T := N) H8.out k
              have := row_len ds LI k i
              have := HN.out; have := H8.out
              omega
            have hown := ht4.alloc
            have HT1 := Lib.hid ht1
            have HT2 := Lib.hid ht2
            have HT3 := Lib.hid ht3
            have HW := Lib.hid BA.out.size
            have HUZ := Lib.hid huz
            have HUW := Lib.hid huw
            clear ht1 ht2 ht3 ht4 huz huw RA
            go_wp2_with (at_builtin; refine wpList_append_own _ rfl _ _ 69 rfl w.heap.size 73 i0 (.agg #[.string ⟨#[]⟩, .int .i64 0, .int .i64 0, .int .i64 0, .int .i64 0, .int .i64 0, .int .i64 0, .int .i64 0, .complex .f32 0 0]) 9 80 Tryz.underlying69 hi hz0 hz1 hz2 rfl (by decide) _ _ _ rfl (hown _) ⟨u2.heap.size, 0, none⟩ 1 1 (tc u) rfl rfl (by intro j z9 hj; match j, hj with | 0, hj => (simp [tc] at hj; subst hj; simp [Addr.add, go_sem]) | 1, hj => (simp [tc] at hj; subst hj; simp [Addr.add, go_sem]) | 2, hj => (simp [tc] at hj; subst hj; simp [Addr.add, go_sem]) | 3, hj => (simp [tc] at hj; subst hj; simp [Addr.add, go_sem]) | 4, hj => (simp [tc] at hj; subst hj; simp [Addr.add, go_sem]) | 5, hj => (simp [tc] at hj; subst hj; simp [Addr.add, go_sem]) | 6, hj => (simp [tc] at hj; subst hj; simp [Addr.add, go_sem]) | 7, hj => (simp [tc] at hj; subst hj; simp [Addr.add, go_sem]) | 8, hj => (simp [tc] at hj; subst hj; simp [Addr.add, go_sem])) (by intro z9 hz; simp [tc] at hz; rcases hz with rfl | rfl | rfl | rfl | rfl | rfl | rfl | rfl | rfl <;> rfl) (by unfold maxLen; omega) (by omega) (by have := HW.out; simp; omega) ?_)
            intro v' w5 hown' hgrow hnil
            have hgr : (u2.alloc (.cells #[.string u.z.d.nm, .int .i64 u.z.b, .int .i64 (u.z.b + (u.z.l + 1)), .int .i64 u.z.d.x, .int .i64 u.z.d.y, .int .i64 u.z.d.hd, .int .i64 u.z.d.tl, .int .i64 u.z.l, .complex .f32 u.re u.im] 73)).grownBy w5 (some g) := hgrow
            rw [tls_snoc] at hown'
            obtain ⟨gY, cY, rfl⟩ := own_mk hown'
            have OT := Lib.hid (show Thr w5 w.heap.size (.slice (some ⟨gY, 0, none⟩) (q + 1) cY) (q + 1) (allK ds cs N k ++ rowK ds LI k (i + 1)) from ⟨ts ++ [u], by rw [List.map_append, HT1.out, RY.out, List.append_assoc, List.map_singleton, HUZ.out], fun u9 h9 => by rcases List.mem_append.1 h9 with h9 | h9; exact HT2.out u9 h9; (rw [List.mem_singleton] at h9; subst h9; exact HUW.out), by rw [List.length_append, HT3.out]; rfl, hown'⟩)
            have QN := Lib.hid (show (allK ds cs N k ++ rowK ds LI k (i + 1)).length = q + 1 by rw [RY.out, ← List.append_assoc, List.length_append, QI.out]; rfl)
            have OL := Lib.hid (owns_grown (LA.out.alloc (.cells #[.string u.z.d.nm, .int .i64 u.z.b, .int .i64 (u.z.b + (u.z.l + 1)), .int .i64 u.z.d.x, .int .i64 u.z.d.y, .int .i64 u.z.d.hd, .int .i64 u.z.d.tl, .int .i64 u.z.l, .complex .f32 u.re u.im] 73)) hgr (ne_blk nL))
            have OK := Lib.hid ((KA.out.alloc (o := .cells #[.string u.z.d.nm, .int .i64 u.z.b, .int .i64 (u.z.b + (u.z.l + 1)), .int .i64 u.z.d.x, .int .i64 u.z.d.y, .int .i64 u.z.d.hd, .int .i64 u.z.d.tl, .int .i64 u.z.l, .complex .f32 u.re u.im] 73)).grown hgr (fun e => by have e := Option.some.inj e; omega))
            have OB := Lib.hid ((BA.out.alloc BA.out.size (.cells #[.string u.z.d.nm, .int .i64 u.z.b, .int .i64 (u.z.b + (u.z.l + 1)), .int .i64 u.z.d.x, .int .i64 u.z.d.y, .int .i64 u.z.d.hd, .int .i64 u.z.d.tl, .int .i64 u.z.l, .complex .f32 u.re u.im] 73)).grown hgr (BA.out.alloc BA.out.size (.cells #[.string u.z.d.nm, .int .i64 u.z.b, .int .i64 (u.z.b + (u.z.l + 1)), .int .i64 u.z.d.x, .int .i64 u.z.d.y, .int .i64 u.z.d.hd, .int .i64 u.z.d.tl, .int .i64 u.z.l, .complex .f32 u.re u.im] 73)).size (fun z9 e9 => by have e9 := Option.some.inj e9; omega))
            clear hown' hgrow hgr hnil hown LA KA BA
            go_wp2_with fail
            go_roundw
            case rel => exact ⟨i + 1, q + 1, gY, cY, by omega, by go_num, rfl, QN, OT, OL, OK, OB⟩
            case measure => simp [intOf]; omega
        · obtain rfl : i = n0 := by omega
          have E := Lib.hid (show allK ds cs N k ++ rowK ds LI k i = allK ds cs N (k + 1) by rw [HAK.out, HN.out])
          rw [E.out] at QI RI
          clear LI9
          go_wp2_with fail
          go_roundw
          case rel => exact ⟨k + 1, q, g, c, by omega, by go_num, rfl, QI, RI, KI, BI⟩
          case measure => simp [intOf]; omega
    · obtain rfl : k = N := by omega
      clear KK CL
      go_wp2_with fail
      go_ret
      exact thr_of QK.out RK.out BK.out
end Go.Proofs.YtokncfhpmjohdabGreat.Ti9
namespace Go.Proofs.YtokncfhpmjohdabGreat.Tm9
open Go.RowKit Go.ChangeShapes Go.WideShapes Go.WideElems Go.Deep Go.Proofs.YtokncfhpmjohdabGreat.Mem Go.Proofs.YtokncfhpmjohdabGreat.Rw Go.Proofs.YtokncfhpmjohdabGreat.P2 Go.Proofs.YtokncfhpmjohdabGreat.Bk Go.Proofs.YtokncfhpmjohdabGreat.Sp Go.Proofs.YtokncfhpmjohdabGreat.Sq Go.Proofs.YtokncfhpmjohdabGreat.Jt Go.Proofs.YtokncfhpmjohdabGreat.Cm Go.Proofs.YtokncfhpmjohdabGreat.Cx Go.Proofs.YtokncfhpmjohdabGreat.Pl
open Go.Proofs.YtokncfhpmjohdabGreat.Sv hiding D C G
open Go.Proofs.YtokncfhpmjohdabGreat.Ig (rig)
set_option linter.unusedVariables false
set_option linter.unusedSimpArgs false
open Go.Proofs.YtokncfhpmjohdabGreat.Wp (RowI rd_cell)
open Go.Proofs.YtokncfhpmjohdabGreat.Ti9 (own_ne_own ne_blk)


/-- The cells of a drop. -/
def bc (u : B) : List Value := [.string u.d.nm, .int .i64 u.b, .int .i64 u.d.x, .int .i64 u.d.y, .int .i64 u.d.hd, .int .i64 u.d.tl, .int .i64 u.l]
theorem bc_len (u : B) : (bc u).length = 7 := rfl
def bls (us : List B) : List Value := us.flatMap bc
theorem bls_get {us : List B} {k : Nat} {u : B} (h : us[k]? = some u) :
    (bls us)[k * 7]? = some (.string u.d.nm) ∧ (bls us)[k * 7 + 1]? = some (.int .i64 u.b) ∧ (bls us)[k * 7 + 2]? = some (.int .i64 u.d.x) ∧ (bls us)[k * 7 + 3]? = some (.int .i64 u.d.y) ∧ (bls us)[k * 7 + 4]? = some (.int .i64 u.d.hd) ∧ (bls us)[k * 7 + 5]? = some (.int .i64 u.d.tl) ∧ (bls us)[k * 7 + 6]? = some (.int .i64 u.l) :=
  ⟨(flat_get bc_len h 0 (by omega)).trans rfl, (flat_get bc_len h 1 (by omega)).trans rfl, (flat_get bc_len h 2 (by omega)).trans rfl, (flat_get bc_len h 3 (by omega)).trans rfl, (flat_get bc_len h 4 (by omega)).trans rfl, (flat_get bc_len h 5 (by omega)).trans rfl, (flat_get bc_len h 6 (by omega)).trans rfl⟩
theorem bls_snoc (us : List B) (u : B) : bls us ++ bc u = bls (us ++ [u]) := (flat_snoc us u).symm
theorem info_bls : (Tryz.prog.info? 77).map (fun i => (i.zero, i.size, i.bytes)) = some (some (.agg #[.string ⟨#[]⟩, .int .i64 0, .int .i64 0, .int .i64 0, .int .i64 0, .int .i64 0, .int .i64 0]), 7, 64) := by kernel_rfl

def RowM (w : World) (zs : List B) (e : Ending) (w' : World) : Prop :=
  ∃ g c, e = .returned (.slice (some ⟨g, 0, none⟩) zs.length c) ∧ w'.ownsRow w.heap.size 77 7 (.slice (some ⟨g, 0, none⟩) zs.length c) zs.length (bls zs) ∧ Below w.heap.size w w'
theorem row_of {w w' : World} {l : List B} {q g c : Nat} (hq : l.length = q) (o : w'.ownsRow w.heap.size 77 7 (.slice (some ⟨g, 0, none⟩) q c) q (bls l)) (b : Below w.heap.size w w') : RowM w l (.returned (.slice (some ⟨g, 0, none⟩) q c)) w' := by
  subst hq; exact ⟨g, c, rfl, o, b⟩
set_option maxHeartbeats 1000000 in
theorem l9Jet (d : D) (l : Int) (w : World) : Calls Tryz.prog 78 #[Dd.va d.nm d.kd d.ln d.x d.y d.hd d.tl d.ms, .int .i64 l] w fun e w' => e = .returned (jv d.x d.y d.hd d.tl l) ∧ Below w.heap.size w w' := by
  obtain ⟨dn, dk, dl, dx, dy, dh, dt, dm⟩ := d
  go_enter Tryz.func78, Tryz.ntmps78
  go_wp2
  go_returns
  exact ⟨rfl, by go_grown⟩
theorem append_born (w : World) (base g n c : Nat) (xs : List Value) (hown : w.ownsRow base 77 7 (.slice (some ⟨g, 0, none⟩) n c) n xs) (a : Addr) (m c2 : Nat) (news : List Value) (hl : news.length = m * 7) (hnews : ∀ j u, news[j]? = some u → w.cell? (a.add j) = some u) (h1 : ∀ u ∈ news, u.oneCell' = true) (hs : n + m ≤ 2097152) (hbase : base ≤ w.heap.size) :
    ∃ (g' c' : Nat) (w' : World), (Builtin.append_ #[74, 74] 74 #[.slice (some ⟨g, 0, none⟩) n c, .slice (some a) m c2]).run Tryz.prog w = .ok (.slice (some ⟨g', 0, none⟩) (n + m) c') w' ∧ w'.ownsRow base 77 7 (.slice (some ⟨g', 0, none⟩) (n + m) c') (n + m) (xs ++ news) ∧ w.grownBy w' (some g) := by
  obtain ⟨i0, hi, hz0, hz1, hz2⟩ := info_of info_bls
  obtain ⟨v', w', hr, h2, h3, h4, _⟩ := run_append_own_at (P := Tryz.prog) w base 74 74 77 i0 (.agg #[.string ⟨#[]⟩, .int .i64 0, .int .i64 0, .int .i64 0, .int .i64 0, .int .i64 0, .int .i64 0]) 7 64 Tryz.underlying74 hi hz0 hz1 hz2 rfl (by decide) _ n xs hown a m c2 news hl hnews h1 (by unfold maxLen; omega) (by omega) hbase
  have hg : ∃ g c, v' = .slice (some ⟨g, 0, none⟩) (n + m) c := by
    rcases h2.2 with ⟨e1, _⟩ | ⟨g, cap, cur, e1, _⟩
    · exact absurd (h4.1 e1).1 (by intro h; cases h)
    · exact ⟨g, cap, e1⟩
  obtain ⟨g', c', rfl⟩ := hg
  exact ⟨g', c', w', hr, h2, h3⟩
theorem step_append_born {ops : Array Oper} {o : Oper} {a : Act} {w w' : World} {K : Act → World → Prop} {Q : Exit → Act → World → Prop} {E : Prop}
    (hg : o.guard = none) (s x : Operand) (hop : o.op = Op.call { callee := Callee.builtin Builtin.append, args := #[s, x], argTypes := #[74, 74] }) (hty : o.type = 74)
    (v v2 v' : Value) (hs : a.eval s = v) (hx : a.eval x = v2) (hrun : (Builtin.append_ #[74, 74] 74 #[v, v2]).run Tryz.prog w = .ok v' w') (hK : K (a.put o.dst v') w') :
    if Region.wanted o (yielded ops a.tmps) = true then Oper.wp Tryz.prog o a w K Q else E := by
  have hw : Region.wanted o (yielded ops a.tmps) = true := by simp [Region.wanted, hg]
  rw [if_pos hw]
  unfold Oper.wp
  simp [execOp, hop, hty, resolve, invoke, builtin, hs, hx, hrun, Result.andThen]
  exact hK

set_option maxRecDepth 100000 in
set_option maxHeartbeats 8000000 in
theorem l9All (A0 : Option Addr) (n0 c0 : Nat) (A1 : Option Addr) (n1 c1 : Nat) (A2 : Option Addr) (n2 c2 : Nat) (T : Int) (ds : List D) (cs : List C) (gs : List G) (w : World)
    (hf : Fit n0 n1 n2 ds cs gs) (hr : SR w A0 A1 A2 ds cs gs) (hrr : show9 ds cs gs T = true) :
    Calls Tryz.prog 39 #[sv A0 n0 c0 A1 n1 c1 A2 n2 c2 T] w (RowM w (all9 ds cs gs T)) := by
  have HF := Lib.hid hf
  have hu : undef = Value.tuple #[] := rfl
  have HS := Lib.hid hr
  have HN := Lib.hid hf.1.1
  have hb0 : n0 ≤ 1048576 := hf.1.2
  rw [all9_yes hrr]
  obtain ⟨hrig, hsco, _, hT0, hT1⟩ := show_iff.1 hrr
  obtain ⟨N, rfl⟩ : ∃ N : Nat, T = N := ⟨T.toNat, by omega⟩
  have hz : (w.alloc (.cells (sc A0 n0 c0 A1 n1 c1 A2 n2 c2 N) 28)).heap.size = w.heap.size + 1 := by simp [go_sem]
  have K1 := Lib.hid ((Bk.new w (sc A0 n0 c0 A1 n1 c1 A2 n2 c2 N) 28).alloc (o := .cells #[] 77))
  have B0a := (Below.refl w.heap.size w).alloc (Nat.le_refl _) (.cells (sc A0 n0 c0 A1 n1 c1 A2 n2 c2 N) 28)
  have B1 := Lib.hid (B0a.alloc B0a.size (.cells #[] 77))
  have R1 := World.ownsRow_lit (base := w.heap.size) (e := 77) (size := 7) (w.alloc (.cells (sc A0 n0 c0 A1 n1 c1 A2 n2 c2 N) 28)) #[] 0 B0a.size (Nat.zero_le _) rfl
  rw [hz] at R1
  have R1 := Lib.hid R1
  have CL := Lib.hid (fun (k : Nat) (hk : k ≤ 64) (W : World) (h : SR W A0 A1 A2 ds cs gs) => (by have := Lg9.l9Lifts A0 n0 c0 A1 n1 c1 A2 n2 c2 N ds cs gs (k : Int) W HF.out h hrig hsco ⟨hT0, hT1⟩ (Ld.wf64 (by omega) (by omega)); unfold Wp.RowI at this; rw [lifts_len, HN.out] at this; exact this :
    Calls Tryz.prog 77 #[sv A0 n0 c0 A1 n1 c1 A2 n2 c2 N, .int .i64 (k : Int)] W (fun e w' => ∃ g c, e = .returned (.slice (some ⟨g, 0, none⟩) n0 c) ∧ w'.ownsRow W.heap.size 3 1 (.slice (some ⟨g, 0, none⟩) n0 c) n0 (ints (lifts ds cs N (k : Int))) ∧ Below W.heap.size W w')))
  have HOK := Lib.hid (fun (k : Nat) => ok_lifts cs N (k : Int) hrig)
  have HLen := Lib.hid (fun (k : Nat) => lifts_len ds cs N (k : Int))
  have H8 := Lib.hid (Rz.rig_set.1 (Ig.rig_of hrig)).1
  have hN : N ≤ 64 := by omega
  rw [Int.toNat_natCast]
  clear hrr hrig hsco hT0 hT1 hr hf hz B0a
  go_enter Tryz.func39, Tryz.ntmps39
  go_wp2_with fail
  go_loopw [3, 4] (fun v i wr => ∃ k q g c : Nat, k ≤ N ∧ i = .int .i64 k ∧ v = .slice (some ⟨g, 0, none⟩) q c ∧ Hid ((allK ds cs N k).length = q) ∧ Hid (wr.ownsRow w.heap.size 77 7 (.slice (some ⟨g, 0, none⟩) q c) q (bls (allK ds cs N k))) ∧ Hid (Bk wr w.heap.size (sc A0 n0 c0 A1 n1 c1 A2 n2 c2 N) 28) ∧ Hid (Below w.heap.size w wr)) (fun _ i _ => N - (intOf i).toNat)
  case atStart => exact ⟨0, 0, _, _, Nat.zero_le _, rfl, rfl, Lib.hid rfl, R1, K1, B1⟩
  case round =>
    obtain ⟨k, q, g, c, hk, rfl, rfl, QK, RK, KK, BK⟩ := hrel
    clear R1 K1 B1
    have b3 := KK.out.cell (i := 3) rfl
    by_cases hlt : k < N
    · have b0 := KK.out.cell (i := 0) rfl
      have b1 := KK.out.cell (i := 1) rfl
      have b2 := KK.out.cell (i := 2) rfl
      have CLk := Lib.hid (CL.out k (by omega))
      obtain ⟨LI, hLI⟩ : ∃ LI, lifts ds cs N (k : Int) = LI := ⟨_, rfl⟩
      have HO := Lib.hid (show LiftOk ds LI by rw [← hLI]; exact HOK.out k)
      have HLL := Lib.hid (show LI.length = n0 by rw [← hLI, HLen.out k]; exact HN.out)
      have HAK := Lib.hid (show allK ds cs N (k + 1) = allK ds cs N k ++ rowK ds LI k ds.length by rw [← hLI]; rfl)
      rw [hLI] at CLk
      clear hLI
      go_wp2_with fail
      refine (CLk.out _ (HS.out.below BK.out)).mono ?_
      rintro e u1 ⟨g5, c5, rfl, o5, hb⟩
      have RA := Lib.hid (show u1.ownsRow w.heap.size 77 7 (.slice (some ⟨g, 0, none⟩) q c) q (bls (allK ds cs N k ++ rowK ds LI k 0)) by rw [show rowK ds LI k 0 = [] from rfl, List.append_nil]; exact owns_below RK.out hb)
      have QA := Lib.hid (show (allK ds cs N k ++ rowK ds LI k 0).length = q by rw [show rowK ds LI k 0 = [] from rfl, List.append_nil]; exact QK.out)
      have LA := Lib.hid (owns_base o5 (Nat.le_trans BK.out.size (o5.lt g5 rfl).1))
      have KA := Lib.hid (KK.out.below hb)
      have BA := Lib.hid (BK.out.trans (hb.mono BK.out.size))
      clear hb o5 RK KK BK QK CLk b0 b1 b2 b3
      go_wp2_with fail
      go_loopw [3, 18] (fun v i wr => ∃ i9 q g c : Nat, i9 ≤ n0 ∧ i = .int .i64 i9 ∧ v = .slice (some ⟨g, 0, none⟩) q c ∧ Hid ((allK ds cs N k ++ rowK ds LI k i9).length = q) ∧ Hid (wr.ownsRow w.heap.size 77 7 (.slice (some ⟨g, 0, none⟩) q c) q (bls (allK ds cs N k ++ rowK ds LI k i9))) ∧ Hid (wr.ownsRow w.heap.size 3 1 (.slice (some ⟨g5, 0, none⟩) n0 c5) n0 (ints LI)) ∧ Hid (Bk wr w.heap.size (sc A0 n0 c0 A1 n1 c1 A2 n2 c2 N) 28) ∧ Hid (Below w.heap.size w wr)) (fun _ i _ => n0 - (intOf i).toNat)
      case atStart => exact ⟨0, q, g, c, Nat.zero_le _, rfl, rfl, QA, RA, LA, KA, BA⟩
      case round =>
        obtain ⟨i, q, g, c, hi9, rfl, rfl, QI, RI, LI9, KI, BI⟩ := hrel
        clear QA RA LA KA BA
        by_cases hli : i < n0
        · obtain ⟨x, hx⟩ : ∃ x, LI[i]? = some x := ⟨_, List.getElem?_eq_getElem (by rw [HLL.out]; exact hli)⟩
          obtain ⟨z, hz⟩ : ∃ z, ds[i]? = some z := ⟨_, List.getElem?_eq_getElem (by rw [HN.out]; exact hli)⟩
          have HZ := Lib.hid hz
          have cL : wr.cell? ⟨g5, i, none⟩ = some (.int .i64 x) := (LI9.out.cellAt i (by omega)).trans (by unfold ints; rw [List.getElem?_map, hx]; rfl)
          by_cases hx0 : x = 0
          · have RN := Lib.hid (row_no (t := k) hz hx hx0)
            subst hx0
            clear hx hz
            go_wp2_with fail
            go_roundw
            case rel => exact ⟨i + 1, q, g, c, by omega, by go_num, rfl, by rw [RN.out]; exact QI, by rw [RN.out]; exact RI, LI9, KI, BI⟩
            case measure => simp [intOf]; omega
          · have RY := Lib.hid (row_yes (t := k) hz hx hx0)
            have hxp : 0 < x := by
              rcases HO.out i x hx with e | ⟨a, b, d', e, _, n, _⟩
              · exact absurd e hx0
              · omega
            clear hx hz hx0
            obtain ⟨dn, dk, dl, dx, dy, dh, dt, dm⟩ := z
            obtain ⟨bD, oD, eA, hbl, hcell⟩ := (HS.out.1.below BI.out).get (k := i * 8) (by rw [Dd.dls_len, HN.out]; omega)
            obtain ⟨z0, z1, z2, z3, z4, z5, z6, z7⟩ := Dd.dls_get HZ.out
            have v0 := hcell (i * 8) _ z0
            have v1 := hcell (i * 8 + 1) _ z1
            rw [← Nat.add_assoc] at v1
            have v2 := hcell (i * 8 + 2) _ z2
            rw [← Nat.add_assoc] at v2
            have v3 := hcell (i * 8 + 3) _ z3
            rw [← Nat.add_assoc] at v3
            have v4 := hcell (i * 8 + 4) _ z4
            rw [← Nat.add_assoc] at v4
            have v5 := hcell (i * 8 + 5) _ z5
            rw [← Nat.add_assoc] at v5
            have v6 := hcell (i * 8 + 6) _ z6
            rw [← Nat.add_assoc] at v6
            have v7 := hcell (i * 8 + 7) _ z7
            rw [← Nat.add_assoc] at v7
            have hbD : bD < w.heap.size := hbl; clear hcell hbl z0 z1 z2 z3 z4 z5 z6 z7
            subst eA
            have b0 := KI.out.cell (i := 0) rfl
            have nL : g ≠ g5 := own_ne_own RI.out LI9.out (by decide)
            have nB : g ≠ w.heap.size := fun e => own_ne RI.out KI.out (by decide) (by rw [e]; rfl)
            have lg : w.heap.size ≤ g := (RI.out.lt g rfl).1
            have hq : q ≤ 600 := by
              have h1 := QI.out; rw [List.length_append] at h1
              have := all_len (cs := cs) (T := N) H8.out k
              have := row_len ds LI k i
              have := HN.out; have := H8.out
              omega
            go_upto_region 9 with fail
            clear cL
            refine wp_region_noPanic ?_
            refine wp_region_held_drew (S := (fun w' => w'.cell? ⟨w.heap.size, 0, none⟩ = some (.slice (some ⟨bD, oD, none⟩) n0 c0) ∧ w'.cell? ⟨bD, oD + i * 8, none⟩ = some (.string dn) ∧ w'.cell? ⟨bD, oD + i * 8 + 1, none⟩ = some (.int .i64 dk) ∧ w'.cell? ⟨bD, oD + i * 8 + 2, none⟩ = some (.string dl) ∧ w'.cell? ⟨bD, oD + i * 8 + 3, none⟩ = some (.int .i64 dx) ∧ w'.cell? ⟨bD, oD + i * 8 + 4, none⟩ = some (.int .i64 dy) ∧ w'.cell? ⟨bD, oD + i * 8 + 5, none⟩ = some (.int .i64 dh) ∧ w'.cell? ⟨bD, oD + i * 8 + 6, none⟩ = some (.int .i64 dt) ∧ w'.cell? ⟨bD, oD + i * 8 + 7, none⟩ = some (.int .i64 dm) ∧ Below w.heap.size w w')) (by kernel_rfl) ?_ (fun hH => ?_)
            · exact ⟨b0, v0, v1, v2, v3, v4, v5, v6, v7, BI.out.drew⟩
            refine wpAnyH_take (i := 0) (oi := { dst := some 25, op := _, type := _, pos := _, after := _, guard := _ }) (v := ?_) rfl (by kernel_rfl) (by kernel_rfl) (by kernel_rfl) (fun _ _ _ h => h) (Or.inl ⟨by rfl, ?_⟩) hH ?_
            rotate_left 1
            · intro W hSw
              (try dsimp only at hSw)
              go_simp
              (try with_reducible rfl)
            try simp only [Act.put, List.setIfInBounds_toArray, List.set_cons_zero, List.set_cons_succ]
            refine wpAnyH_take (i := 1) (oi := { dst := some 26, op := _, type := _, pos := _, after := _, guard := _ }) (v := ?_) rfl (by kernel_rfl) (by kernel_rfl) (by kernel_rfl) (fun _ _ _ h => h) (Or.inl ⟨by rfl, ?_⟩) hH ?_
            rotate_left 1
            · intro W hSw
              (try dsimp only at hSw)
              go_simp
              (try with_reducible rfl)
            try simp only [Act.put, List.setIfInBounds_toArray, List.set_cons_zero, List.set_cons_succ]
            refine wpAnyH_take (i := 2) (oi := { dst := some 27, op := _, type := _, pos := _, after := _, guard := _ }) (v := ?_) rfl (by kernel_rfl) (by kernel_rfl) (by kernel_rfl) (fun _ _ _ h => h) (Or.inl ⟨by rfl, ?_⟩) hH ?_
            rotate_left 1
            · intro W hSw
              (try dsimp only at hSw)
              go_simp
              (try with_reducible rfl)
            try simp only [Act.put, List.setIfInBounds_toArray, List.set_cons_zero, List.set_cons_succ]
            refine wpAnyH_take (i := 3) (oi := { dst := some 28, op := _, type := _, pos := _, after := _, guard := _ }) (v := ?_) rfl (by kernel_rfl) (by kernel_rfl) (by kernel_rfl) (fun _ _ _ h => h) (Or.inl ⟨by rfl, ?_⟩) hH ?_
            rotate_left 1
            · intro W hSw
              (try dsimp only at hSw)
              go_simp
              (try with_reducible rfl)
            try simp only [Act.put, List.setIfInBounds_toArray, List.set_cons_zero, List.set_cons_succ]
            refine wpAnyH_take (i := 4) (oi := { dst := some 29, op := _, type := _, pos := _, after := _, guard := _ }) (v := ?_) rfl (by kernel_rfl) (by kernel_rfl) (by kernel_rfl) (fun _ _ _ h => h) (Or.inl ⟨by rfl, ?_⟩) hH ?_
            rotate_left 1
            · intro W hSw
              (try dsimp only at hSw)
              go_simp
              (try with_reducible rfl)
            try simp only [Act.put, List.setIfInBounds_toArray, List.set_cons_zero, List.set_cons_succ]
            refine wpAnyH_take (i := 5) (oi := { dst := some 30, op := _, type := _, pos := _, after := _, guard := _ }) (v := ?_) rfl (by kernel_rfl) (by kernel_rfl) (by kernel_rfl) (fun _ _ _ h => h) (Or.inl ⟨by rfl, ?_⟩) hH ?_
            rotate_left 1
            · intro W hSw
              (try dsimp only at hSw)
              go_simp
              (try with_reducible rfl)
            try simp only [Act.put, List.setIfInBounds_toArray, List.set_cons_zero, List.set_cons_succ]
            refine wpAnyH_take (i := 6) (oi := { dst := some 31, op := _, type := _, pos := _, after := _, guard := _ }) (v := ?_) rfl (by kernel_rfl) (by kernel_rfl) (by kernel_rfl) (fun _ _ _ h => h) (Or.inl ⟨by rfl, ?_⟩) hH ?_
            rotate_left 1
            · intro W hSw
              (try dsimp only at hSw)
              go_simp
              (try with_reducible rfl)
            try simp only [Act.put, List.setIfInBounds_toArray, List.set_cons_zero, List.set_cons_succ]
            refine wpAnyH_take (i := 7) (oi := { dst := some 32, op := _, type := _, pos := _, after := _, guard := _ }) (v := ?_) rfl (by kernel_rfl) (by kernel_rfl) (by kernel_rfl) (fun _ _ _ h => h) (Or.inl ⟨by rfl, ?_⟩) hH ?_
            rotate_left 1
            · intro W hSw
              (try dsimp only at hSw)
              go_simp
              (try with_reducible rfl)
            try simp only [Act.put, List.setIfInBounds_toArray, List.set_cons_zero, List.set_cons_succ]
            refine wpAnyH_take (i := 8) (oi := { dst := some 33, op := _, type := _, pos := _, after := _, guard := _ }) (v := ?_) rfl (by kernel_rfl) (by kernel_rfl) (by kernel_rfl) (fun _ _ _ h => h) (Or.inl ⟨by rfl, ?_⟩) hH ?_
            rotate_left 1
            · intro W hSw
              (try dsimp only at hSw)
              go_simp
              (try with_reducible rfl)
            try simp only [Act.put, List.setIfInBounds_toArray, List.set_cons_zero, List.set_cons_succ]
            refine wpAnyH_take (i := 9) (oi := { dst := some 34, op := _, type := _, pos := _, after := _, guard := _ }) (v := ?_) rfl (by kernel_rfl) (by kernel_rfl) (by kernel_rfl) (fun _ _ _ h => h) (Or.inl ⟨by rfl, ?_⟩) hH ?_
            rotate_left 1
            · intro W hSw
              (try dsimp only at hSw)
              go_simp
              (try with_reducible rfl)
            try simp only [Act.put, List.setIfInBounds_toArray, List.set_cons_zero, List.set_cons_succ]
            refine wpAnyH_take (i := 10) (oi := { dst := some 35, op := _, type := _, pos := _, after := _, guard := _ }) (v := ?_) rfl (by kernel_rfl) (by kernel_rfl) (by kernel_rfl) (fun _ _ _ h => h) (Or.inl ⟨by rfl, ?_⟩) hH ?_
            rotate_left 1
            · intro W hSw
              (try dsimp only at hSw)
              go_simp
              (try with_reducible rfl)
            try simp only [Act.put, List.setIfInBounds_toArray, List.set_cons_zero, List.set_cons_succ]
            refine wpAnyH_take (i := 11) (oi := { dst := some 36, op := _, type := _, pos := _, after := _, guard := _ }) (v := ?_) rfl (by kernel_rfl) (by kernel_rfl) (by kernel_rfl) (fun _ _ _ h => h) (Or.inl ⟨by rfl, ?_⟩) hH ?_
            rotate_left 1
            · intro W hSw
              (try dsimp only at hSw)
              go_simp
              (try with_reducible rfl)
            try simp only [Act.put, List.setIfInBounds_toArray, List.set_cons_zero, List.set_cons_succ]
            refine wpAnyH_take (i := 12) (oi := { dst := some 37, op := _, type := _, pos := _, after := _, guard := _ }) (v := ?_) rfl (by kernel_rfl) (by kernel_rfl) (by kernel_rfl) (fun _ _ _ h => h) (Or.inl ⟨by rfl, ?_⟩) hH ?_
            rotate_left 1
            · intro W hSw
              (try dsimp only at hSw)
              go_simp
              (try with_reducible rfl)
            try simp only [Act.put, List.setIfInBounds_toArray, List.set_cons_zero, List.set_cons_succ]
            refine wpAnyH_take (i := 13) (oi := { dst := some 38, op := _, type := _, pos := _, after := _, guard := _ }) (v := ?_) rfl (by kernel_rfl) (by kernel_rfl) (by kernel_rfl) (fun _ _ _ h => h) (Or.inl ⟨by rfl, ?_⟩) hH ?_
            rotate_left 1
            · intro W hSw
              (try dsimp only at hSw)
              go_simp
              (try with_reducible rfl)
            try simp only [Act.put, List.setIfInBounds_toArray, List.set_cons_zero, List.set_cons_succ]
            refine wpAnyH_ready (rs := [14]) (by kernel_rfl) (by simp) (AllReadyH.cons rfl (fun K hK => ?_) AllReadyH.nil)
            go_simp
            go_at_call 78; ((with_reducible refine (l9Jet ⟨dn, dk, dl, dx, dy, dh, dt, dm⟩ x _).mono ?_); rintro e r1 ⟨rfl, hb1⟩); have R1 := owns_below RI.out.drew hb1; have q1 : wr.heap.size ≤ r1.heap.size := hb1.size; go_wp2_with fail
            refine hK.out _ _ ?_ (fun hG => ?_)
            · exact ⟨cell_below hb1 hH.1, cell_below hb1 hH.2.1, cell_below hb1 hH.2.2.1, cell_below hb1 hH.2.2.2.1, cell_below hb1 hH.2.2.2.2.1, cell_below hb1 hH.2.2.2.2.2.1, cell_below hb1 hH.2.2.2.2.2.2.1, cell_below hb1 hH.2.2.2.2.2.2.2.1, cell_below hb1 hH.2.2.2.2.2.2.2.2.1, hH.2.2.2.2.2.2.2.2.2.trans (hb1.mono hH.2.2.2.2.2.2.2.2.2.size)⟩
            replace hH := hG
            clear hK K hG
            try simp only [Act.put, List.setIfInBounds_toArray, List.set_cons_zero, List.set_cons_succ]
            refine wpAnyH_take (i := 15) (oi := { dst := some 40, op := _, type := _, pos := _, after := _, guard := _ }) (v := ?_) rfl (by kernel_rfl) (by kernel_rfl) (by kernel_rfl) (fun _ _ _ h => h) (Or.inl ⟨by rfl, ?_⟩) hH ?_
            rotate_left 1
            · intro W hSw
              (try dsimp only at hSw)
              go_simp
              (try with_reducible rfl)
            try simp only [Act.put, List.setIfInBounds_toArray, List.set_cons_zero, List.set_cons_succ]
            refine wpAnyH_ready (rs := [16]) (by kernel_rfl) (by simp) (AllReadyH.cons rfl (fun K hK => ?_) AllReadyH.nil)
            go_simp
            refine hK.out _ _ ?_ (fun hG => ?_)
            · exact ⟨cell_alloc hH.1, cell_alloc hH.2.1, cell_alloc hH.2.2.1, cell_alloc hH.2.2.2.1, cell_alloc hH.2.2.2.2.1, cell_alloc hH.2.2.2.2.2.1, cell_alloc hH.2.2.2.2.2.2.1, cell_alloc hH.2.2.2.2.2.2.2.1, cell_alloc hH.2.2.2.2.2.2.2.2.1, hH.2.2.2.2.2.2.2.2.2.alloc hH.2.2.2.2.2.2.2.2.2.size _⟩
            replace hH := hG
            clear hK K hG
            try simp only [Act.put, List.setIfInBounds_toArray, List.set_cons_zero, List.set_cons_succ]
            refine wpAnyH_ready (rs := [17]) (by kernel_rfl) (by simp) (AllReadyH.cons rfl (fun K hK => ?_) AllReadyH.nil)
            (obtain ⟨gX, cX, u9, hrun, ho9, hg9⟩ := append_born (r1.alloc (.cells #[.string dn, .int .i64 (k : Int), .int .i64 dx, .int .i64 dy, .int .i64 dh, .int .i64 dt, .int .i64 x] 77)) w.heap.size g q c _ (R1.alloc _) ⟨r1.heap.size, 0, none⟩ 1 1 [.string dn, .int .i64 (k : Int), .int .i64 dx, .int .i64 dy, .int .i64 dh, .int .i64 dt, .int .i64 x] rfl (by intro j z9 hj; match j, hj with | 0, hj => (simp at hj; subst hj; simp [Addr.add, go_sem]) | 1, hj => (simp at hj; subst hj; simp [Addr.add, go_sem]) | 2, hj => (simp at hj; subst hj; simp [Addr.add, go_sem]) | 3, hj => (simp at hj; subst hj; simp [Addr.add, go_sem]) | 4, hj => (simp at hj; subst hj; simp [Addr.add, go_sem]) | 5, hj => (simp at hj; subst hj; simp [Addr.add, go_sem]) | 6, hj => (simp at hj; subst hj; simp [Addr.add, go_sem])) (by intro z9 hz; simp at hz; rcases hz with rfl | rfl | rfl | rfl | rfl | rfl | rfl <;> rfl) (by omega) (by have := hH.2.2.2.2.2.2.2.2.2.size; simpa using this); refine step_append_born rfl (.tmp 25) (.tmp 41) rfl rfl _ _ _ (by simp [Act.eval, Act.put]) (by simp [Act.eval, Act.put]) hrun ?_; refine (show K (Act.put _ (some 42) _) _ from ?_))
            refine hK.out _ _ ?_ (fun hG => ?_)
            · exact ⟨hg9.cell hH.1 (fun e => by have e := Option.some.inj e; (have e9 : w.heap.size = g := e); omega), hg9.cell hH.2.1 (fun e => by have e := Option.some.inj e; (have e9 : bD = g := e); omega), hg9.cell hH.2.2.1 (fun e => by have e := Option.some.inj e; (have e9 : bD = g := e); omega), hg9.cell hH.2.2.2.1 (fun e => by have e := Option.some.inj e; (have e9 : bD = g := e); omega), hg9.cell hH.2.2.2.2.1 (fun e => by have e := Option.some.inj e; (have e9 : bD = g := e); omega), hg9.cell hH.2.2.2.2.2.1 (fun e => by have e := Option.some.inj e; (have e9 : bD = g := e); omega), hg9.cell hH.2.2.2.2.2.2.1 (fun e => by have e := Option.some.inj e; (have e9 : bD = g := e); omega), hg9.cell hH.2.2.2.2.2.2.2.1 (fun e => by have e := Option.some.inj e; (have e9 : bD = g := e); omega), hg9.cell hH.2.2.2.2.2.2.2.2.1 (fun e => by have e := Option.some.inj e; (have e9 : bD = g := e); omega), hH.2.2.2.2.2.2.2.2.2.grown hg9 hH.2.2.2.2.2.2.2.2.2.size (fun q hq => by have hq := Option.some.inj hq; omega)⟩
            replace hH := hG
            clear hK K hG
            try simp only [Act.put, List.setIfInBounds_toArray, List.set_cons_zero, List.set_cons_succ]
            refine wpAnyH_take (i := 18) (oi := { dst := some 3, op := _, type := _, pos := _, after := _, guard := _ }) (v := ?_) rfl (by kernel_rfl) (by kernel_rfl) (by kernel_rfl) (fun _ _ _ h => h) (Or.inl ⟨by rfl, ?_⟩) hH ?_
            rotate_left 1
            · intro W hSw
              (try dsimp only at hSw)
              go_simp
              (try with_reducible rfl)
            try simp only [Act.put, List.setIfInBounds_toArray, List.set_cons_zero, List.set_cons_succ]
            refine wpAnyH_done (by kernel_rfl) ?_ _
            refine NoPanic.normal ?_
            have QN := Lib.hid (show (allK ds cs N k ++ rowK ds LI k (i + 1)).length = q + 1 by rw [RY.out, ← List.append_assoc, List.length_append, QI.out]; rfl)
            rw [show bls (allK ds cs N k ++ rowK ds LI k i) ++ [.string dn, .int .i64 (k : Int), .int .i64 dx, .int .i64 dy, .int .i64 dh, .int .i64 dt, .int .i64 x] = bls (allK ds cs N k ++ rowK ds LI k (i + 1)) from (by rw [RY.out, ← List.append_assoc]; exact bls_snoc _ ⟨k, ⟨dn, dk, dl, dx, dy, dh, dt, dm⟩, x⟩)] at ho9
            have OT := Lib.hid ho9
            have OL := Lib.hid (owns_grown ((owns_below LI9.out.drew hb1).alloc (.cells #[.string dn, .int .i64 (k : Int), .int .i64 dx, .int .i64 dy, .int .i64 dh, .int .i64 dt, .int .i64 x] 77)) hg9 (ne_blk nL))
            have OK := Lib.hid (((KI.out.drew.below hb1).alloc (o := .cells #[.string dn, .int .i64 (k : Int), .int .i64 dx, .int .i64 dy, .int .i64 dh, .int .i64 dt, .int .i64 x] 77)).grown hg9 (fun e => by have e := Option.some.inj e; omega))
            have OB := Lib.hid hH.2.2.2.2.2.2.2.2.2
            clear hH hb1 ho9 hg9 hrun R1 RI LI9 KI BI b0 v0 v1 v2 v3 v4 v5 v6 v7
            go_wp2_with fail
            go_roundw
            case rel => exact ⟨i + 1, q + 1, gX, cX, by omega, by go_num, rfl, QN, OT, OL, OK, OB⟩
            case measure => simp [intOf]; omega
        · obtain rfl : i = n0 := by omega
          have E := Lib.hid (show allK ds cs N k ++ rowK ds LI k i = allK ds cs N (k + 1) by rw [HAK.out, HN.out])
          rw [E.out] at QI RI
          clear LI9
          go_wp2_with fail
          go_roundw
          case rel => exact ⟨k + 1, q, g, c, by omega, by go_num, rfl, QI, RI, KI, BI⟩
          case measure => simp [intOf]; omega
    · obtain rfl : k = N := by omega
      clear KK CL
      go_wp2_with fail
      go_ret
      exact row_of QK.out RK.out BK.out
end Go.Proofs.YtokncfhpmjohdabGreat.Tm9
