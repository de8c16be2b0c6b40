/- The drops that the program throws. -/
import Derived.Test.YtkndejjfndjcoabGreatLi9
import Derived.Test.YtkndejjfndjcoabGreatNd
import Derived.Test.YtkndejjfndjcoabGreatFf
import Derived.Deep.RegionHeld3
namespace Go.Proofs.YtkndejjfndjcoabGreat.Tw9
open Go.RowKit Go.ChangeShapes Go.WideShapes Go.WideElems Go.Deep Go.Proofs.YtkndejjfndjcoabGreat.Mem Go.Proofs.YtkndejjfndjcoabGreat.Rw Go.Proofs.YtkndejjfndjcoabGreat.P2 Go.Proofs.YtkndejjfndjcoabGreat.Bk Go.Proofs.YtkndejjfndjcoabGreat.Sp Go.Proofs.YtkndejjfndjcoabGreat.Sq Go.Proofs.YtkndejjfndjcoabGreat.Jt Go.Proofs.YtkndejjfndjcoabGreat.Cm Go.Proofs.YtkndejjfndjcoabGreat.Cx Go.Proofs.YtkndejjfndjcoabGreat.Pl
open Go.Proofs.YtkndejjfndjcoabGreat.Sv hiding D C G
open Go.Proofs.YtkndejjfndjcoabGreat.Ig (rig)
set_option linter.unusedVariables false
set_option linter.unusedSimpArgs false
open Go.Proofs.YtkndejjfndjcoabGreat.Wp (RowI rd_cell)
open Go.Proofs.YtkndejjfndjcoabGreat.Dp
open Go.Proofs.YtkndejjfndjcoabGreat.Lf9 (row_of)

/-- A drop with the words of its way. -/
structure T9 where
  z : B
  re : Nat
  im : Nat
instance : Inhabited T9 := ⟨⟨default, 0, 0⟩⟩
def WOk (u : T9) : Prop := I32 (tx u.z.d.hd.toNat u.z.d.tl 0) u.re ∧ I32 (ty u.z.d.hd.toNat u.z.d.tl 0) u.im

/-- The cells of a drop. -/
def tc (u : T9) : List Value := [.string u.z.d.nm, .int .i64 u.z.b, .int .i64 (u.z.b + (u.z.l + 1)), .int .i64 u.z.d.x, .int .i64 u.z.d.y, .int .i64 u.z.d.hd, .int .i64 u.z.d.tl, .int .i64 u.z.l, .complex .f32 u.re u.im]
theorem tc_len (u : T9) : (tc u).length = 9 := rfl
def tls (us : List T9) : List Value := us.flatMap tc
theorem tls_len (us : List T9) : (tls us).length = us.length * 9 := flat_len tc_len us
theorem tls_get {us : List T9} {k : Nat} {u : T9} (h : us[k]? = some u) :
    (tls us)[k * 9]? = some (.string u.z.d.nm) ∧ (tls us)[k * 9 + 1]? = some (.int .i64 u.z.b) ∧ (tls us)[k * 9 + 2]? = some (.int .i64 (u.z.b + (u.z.l + 1))) ∧ (tls us)[k * 9 + 3]? = some (.int .i64 u.z.d.x) ∧ (tls us)[k * 9 + 4]? = some (.int .i64 u.z.d.y) ∧ (tls us)[k * 9 + 5]? = some (.int .i64 u.z.d.hd) ∧ (tls us)[k * 9 + 6]? = some (.int .i64 u.z.d.tl) ∧ (tls us)[k * 9 + 7]? = some (.int .i64 u.z.l) ∧ (tls us)[k * 9 + 8]? = some (.complex .f32 u.re u.im) :=
  ⟨(flat_get tc_len h 0 (by omega)).trans rfl, (flat_get tc_len h 1 (by omega)).trans rfl, (flat_get tc_len h 2 (by omega)).trans rfl, (flat_get tc_len h 3 (by omega)).trans rfl, (flat_get tc_len h 4 (by omega)).trans rfl, (flat_get tc_len h 5 (by omega)).trans rfl, (flat_get tc_len h 6 (by omega)).trans rfl, (flat_get tc_len h 7 (by omega)).trans rfl, (flat_get tc_len h 8 (by omega)).trans rfl⟩
theorem tls_snoc (us : List T9) (u : T9) : tls us ++ tc u = tls (us ++ [u]) := (flat_snoc us u).symm
theorem info_tls : (Tryz.prog.info? 62).map (fun i => (i.zero, i.size, i.bytes)) = some (some (.agg #[.string ⟨#[]⟩, .int .i64 0, .int .i64 0, .int .i64 0, .int .i64 0, .int .i64 0, .int .i64 0, .int .i64 0, .complex .f32 0 0]), 9, 80) := by kernel_rfl

/-- A row of the call's own with these drops. -/
def Thr (w : World) (base : Nat) (v : Value) (q : Nat) (zs : List B) : Prop := ∃ ts : List T9, ts.map T9.z = zs ∧ (∀ u ∈ ts, WOk u) ∧ ts.length = q ∧ w.ownsRow base 62 9 v q (tls ts)
theorem Thr.below {w w' : World} {base q : Nat} {v : Value} {zs : List B} (h : Thr w base v q zs) (hb : Below w.heap.size w w') : Thr w' base v q zs :=
  let ⟨ts, a, b, c, d⟩ := h; ⟨ts, a, b, c, owns_below d hb⟩
theorem Thr.alloc {w : World} {base q : Nat} {v : Value} {zs : List B} (h : Thr w base v q zs) (o : Obj) : Thr (w.alloc o) base v q zs :=
  let ⟨ts, a, b, c, d⟩ := h; ⟨ts, a, b, c, d.alloc o⟩
/-- What comes back. -/
def RowT (w : World) (zs : List B) (e : Ending) (w' : World) : Prop :=
  ∃ g c, e = .returned (.slice (some ⟨g, 0, none⟩) zs.length c) ∧ Thr w' w.heap.size (.slice (some ⟨g, 0, none⟩) zs.length c) zs.length zs ∧ Below w.heap.size w w'
theorem own_mk {w : World} {base n : Nat} {v : Value} {xs : List Value} (h : w.ownsRow base 62 9 v (n + 1) xs) : ∃ g c, v = .slice (some ⟨g, 0, none⟩) (n + 1) c := by
  rcases h.2 with ⟨_, e⟩ | ⟨g, cap, cur, e, _⟩
  · omega
  · exact ⟨g, cap, e⟩
theorem own_base {w : World} {base n : Nat} {v : Value} {xs : List Value} (h : w.ownsRow base 62 9 v n xs) : ∀ k, v.ownBlock = some k → base ≤ k := fun k e => (h.lt k e).1

set_option maxHeartbeats 1000000 in
theorem jetOf (d : D) (l : Int) (w : World) : Calls Tryz.prog 107 #[Dd.va d.nm d.kd d.ln d.x d.y d.hd d.tl d.ms, .int .i64 l] w fun e w' => e = .returned (jv d.x d.y d.hd d.tl l) ∧ Below w.heap.size w w' := by
  obtain ⟨dn, dk, dl, dx, dy, dh, dt, dm⟩ := d
  go_enter Tryz.func107, Tryz.ntmps107
  go_wp2
  go_returns
  exact ⟨rfl, by go_grown⟩

theorem below_set {w0 w : World} (h : Below w0.heap.size w0 w) {b : Nat} (hb : w0.heap.size ≤ b) (i : Nat) (v : Value) : Below w0.heap.size w0 (w.setCell ⟨b, i, none⟩ v) :=
  h.grown (Bk.setG w b i v) h.size (fun j hj => by have hj := Option.some.inj hj; omega)
theorem step_store_row {ops : Array Oper} {o : Oper} {a : Act} {w : World} {K : Act → World → Prop} {Q : Exit → Act → World → Prop} {E : Prop} (hgd : o.guard = none) (ty : TypeId) (x y : Operand) (ho : o.op = .store ty x y)
    (g : Nat) (cells : Array Value) (hx : a.eval x = .pointer (some ⟨g, 0, none⟩)) (hy : a.eval y = .agg cells) (t : TypeId) (old : Array Value) (hg : Bk w g old t) (hi : (Tryz.prog.info? ty).map (·.size) = some cells.size)
    (hold : old.size = cells.size) (h1 : cells.all (·.oneCell') = true) (h : K (a.put o.dst undef) (w.setRow g cells)) : if Region.wanted o (yielded ops a.tmps) = true then Oper.wp Tryz.prog o a w K Q else E := by
  have hw : Region.wanted o (yielded ops a.tmps) = true := by simp [Region.wanted, hgd]
  rw [if_pos hw]
  exact wp_store_row ty x y ho g cells hx hy t old hg hi hold h1 h
theorem row_grown (w : World) (g : Nat) (cells : Array Value) : w.grownBy (w.setRow g cells) (some g) := ⟨rfl, rfl, rfl, by simp, fun k _ hk => setRow_other w g k _ (fun e => hk (by rw [e]))⟩
theorem row_bk {w : World} {g : Nat} {old : Array Value} {T : TypeId} (cells : Array Value) (h : Bk w g old T) : Bk (w.setRow g cells) g cells T := setRow_heap w g old cells T (0, 0) h
abbrev z9 : Array Value := #[.string ⟨#[]⟩, .int .i64 0, .int .i64 0, .int .i64 0, .int .i64 0, .int .i64 0, .int .i64 0, .int .i64 0, .complex .f32 0 0]
set_option maxRecDepth 100000 in
set_option maxHeartbeats 4000000 in
theorem newThrow (d : D) (b : Nat) (l : Int) (hj : jt d.x d.y d.hd d.tl l = true) (hb : b ≤ 64) (w : World) :
    Calls Tryz.prog 75 #[Dd.va d.nm d.kd d.ln d.x d.y d.hd d.tl d.ms, .int .i64 (b : Int), .int .i64 l] w fun e w' => ∃ u : T9, u.z = ⟨b, d, l⟩ ∧ WOk u ∧ e = .returned (.agg #[.string u.z.d.nm, .int .i64 u.z.b, .int .i64 (u.z.b + (u.z.l + 1)), .int .i64 u.z.d.x, .int .i64 u.z.d.y, .int .i64 u.z.d.hd, .int .i64 u.z.d.tl, .int .i64 u.z.l, .complex .f32 u.re u.im]) ∧ Below w.heap.size w w' := by
  have CJ := Lib.hid (fun (W : World) => jetOf d l W)
  have CF := Lib.hid (fun (W : World) => (by have := flightI d.x d.y d.hd d.tl l W; rw [fl_yes hj] at this; exact this : Calls Tryz.prog 108 #[jv d.x d.y d.hd d.tl l] W fun e w' => e = .returned (.int .i64 (l + 1)) ∧ Below W.heap.size W w'))
  have CN := Lib.hid (fun (W : World) => newDrop hj W)
  have hl := (jt_iff.1 hj).2.2.2.2
  have s1 : wrap64 ((b : Int) + (l + 1)) = (b : Int) + (l + 1) := IntWalk.wrap64_in _ (by omega)
  have s2 : IntKind.i64.wrap ((b : Int) + (l + 1)) = (b : Int) + (l + 1) := IntWalk.i64_in _ (by omega)
  have hu : undef = Value.tuple #[] := rfl
  clear hj
  obtain ⟨dn, dk, dl, dx, dy, dh, dt, dm⟩ := d
  have K0 := Lib.hid ((Bk.new w (Dd.ca dn dk dl dx dy dh dt dm) 98).alloc (o := .cells z9 62))
  have KR := Lib.hid (Bk.new (w.alloc (.cells (Dd.ca dn dk dl dx dy dh dt dm) 98)) z9 62)
  have hz : (w.alloc (.cells (Dd.ca dn dk dl dx dy dh dt dm) 98)).heap.size = w.heap.size + 1 := by simp [go_sem]
  rw [hz] at KR
  have B0 := Lib.hid (((Below.refl w.heap.size w).alloc (Nat.le_refl _) (.cells (Dd.ca dn dk dl dx dy dh dt dm) 98)).alloc ((Below.refl w.heap.size w).alloc (Nat.le_refl _) (.cells (Dd.ca dn dk dl dx dy dh dt dm) 98)).size (.cells z9 62))
  clear hz
  go_enter Tryz.func75, Tryz.ntmps75
  go_wp2_with fail
  refine (CJ.out _).mono ?_
  rintro e u1 ⟨rfl, hb1⟩
  have K1 := (K0.out.below hb1).alloc (o := .cells #[.int .i64 dx, .int .i64 dy, .int .i64 dh, .int .i64 dt, .int .i64 l] 53)
  have KR1 := Lib.hid ((KR.out.below hb1).alloc (o := .cells #[.int .i64 dx, .int .i64 dy, .int .i64 dh, .int .i64 dt, .int .i64 l] 53))
  have B1a := B0.out.trans (hb1.mono B0.out.size)
  have B1 := Lib.hid (B1a.alloc B1a.size (.cells #[.int .i64 dx, .int .i64 dy, .int .i64 dh, .int .i64 dt, .int .i64 l] 53))
  have KJ := Bk.new u1 #[.int .i64 dx, .int .i64 dy, .int .i64 dh, .int .i64 dt, .int .i64 l] 53
  have hlt : w.heap.size + 1 < u1.heap.size := (KR.out.below hb1).lt
  have n0 := K1.cell (i := 0) rfl
  have j0 := KJ.cell (i := 0) rfl
  have j1 := KJ.cell (i := 1) rfl
  have j2 := KJ.cell (i := 2) rfl
  have j3 := KJ.cell (i := 3) rfl
  have j4 := KJ.cell (i := 4) rfl
  clear hb1 K0 KR B0 CJ K1 KJ B1a
  go_upto_region 2 with fail
  refine wp_region_noPanic ?_
  refine wp_region_held_drew (S := (fun w' => w'.cell? ⟨w.heap.size, 0, none⟩ = some (.string dn) ∧ w'.cell? ⟨u1.heap.size, 0, none⟩ = some (.int .i64 dx) ∧ w'.cell? ⟨u1.heap.size, 1, none⟩ = some (.int .i64 dy) ∧ w'.cell? ⟨u1.heap.size, 2, none⟩ = some (.int .i64 dh) ∧ w'.cell? ⟨u1.heap.size, 3, none⟩ = some (.int .i64 dt) ∧ w'.cell? ⟨u1.heap.size, 4, none⟩ = some (.int .i64 l) ∧ Below w.heap.size w w')) (by kernel_rfl) ?_ (fun hH => ?_)
  · exact ⟨n0, j0, j1, j2, j3, j4, B1.out.drew⟩
  refine wpAnyH_take (i := 0) (oi := { dst := some 11, op := _, type := _, pos := _, after := _, guard := _ }) (v := ?_) rfl (by kernel_rfl) (by kernel_rfl) (by kernel_rfl) (fun _ _ _ h => h) (Or.inl ⟨by rfl, ?_⟩) hH ?_
  rotate_left 1
  · intro W hSw
    (try dsimp only at hSw)
    go_simp
    (try with_reducible rfl)
  try simp only [Act.put, List.setIfInBounds_toArray, List.set_cons_zero, List.set_cons_succ]
  refine wpAnyH_take (i := 1) (oi := { dst := some 12, op := _, type := _, pos := _, after := _, guard := _ }) (v := ?_) rfl (by kernel_rfl) (by kernel_rfl) (by kernel_rfl) (fun _ _ _ h => h) (Or.inl ⟨by rfl, ?_⟩) hH ?_
  rotate_left 1
  · intro W hSw
    (try dsimp only at hSw)
    go_simp
    (try with_reducible rfl)
  try simp only [Act.put, List.setIfInBounds_toArray, List.set_cons_zero, List.set_cons_succ]
  refine wpAnyH_take (i := 2) (oi := { dst := some 13, op := _, type := _, pos := _, after := _, guard := _ }) (v := ?_) rfl (by kernel_rfl) (by kernel_rfl) (by kernel_rfl) (fun _ _ _ h => h) (Or.inl ⟨by rfl, ?_⟩) hH ?_
  rotate_left 1
  · intro W hSw
    (try dsimp only at hSw)
    go_simp
    (try with_reducible rfl)
  try simp only [Act.put, List.setIfInBounds_toArray, List.set_cons_zero, List.set_cons_succ]
  refine wpAnyH_take (i := 3) (oi := { dst := some 14, op := _, type := _, pos := _, after := _, guard := _ }) (v := ?_) rfl (by kernel_rfl) (by kernel_rfl) (by kernel_rfl) (fun _ _ _ h => h) (Or.inl ⟨by rfl, ?_⟩) hH ?_
  rotate_left 1
  · intro W hSw
    (try dsimp only at hSw)
    go_simp
    (try with_reducible rfl)
  try simp only [Act.put, List.setIfInBounds_toArray, List.set_cons_zero, List.set_cons_succ]
  refine wpAnyH_take (i := 4) (oi := { dst := some 15, op := _, type := _, pos := _, after := _, guard := _ }) (v := ?_) rfl (by kernel_rfl) (by kernel_rfl) (by kernel_rfl) (fun _ _ _ h => h) (Or.inl ⟨by rfl, ?_⟩) hH ?_
  rotate_left 1
  · intro W hSw
    (try dsimp only at hSw)
    go_simp
    (try with_reducible rfl)
  try simp only [Act.put, List.setIfInBounds_toArray, List.set_cons_zero, List.set_cons_succ]
  refine wpAnyH_take (i := 7) (oi := { dst := some 18, op := _, type := _, pos := _, after := _, guard := _ }) (v := ?_) rfl (by kernel_rfl) (by kernel_rfl) (by kernel_rfl) (fun _ _ _ h => h) (Or.inl ⟨by rfl, ?_⟩) hH ?_
  rotate_left 1
  · intro W hSw
    (try dsimp only at hSw)
    go_simp
    (try with_reducible rfl)
  try simp only [Act.put, List.setIfInBounds_toArray, List.set_cons_zero, List.set_cons_succ]
  refine wpAnyH_take (i := 8) (oi := { dst := some 19, op := _, type := _, pos := _, after := _, guard := _ }) (v := ?_) rfl (by kernel_rfl) (by kernel_rfl) (by kernel_rfl) (fun _ _ _ h => h) (Or.inl ⟨by rfl, ?_⟩) hH ?_
  rotate_left 1
  · intro W hSw
    (try dsimp only at hSw)
    go_simp
    (try with_reducible rfl)
  try simp only [Act.put, List.setIfInBounds_toArray, List.set_cons_zero, List.set_cons_succ]
  refine wpAnyH_ready (rs := [5]) (by kernel_rfl) (by simp) (AllReadyH.cons rfl (fun K hK => ?_) AllReadyH.nil)
  go_simp
  go_at_call 108; ((with_reducible refine (CF.out _).mono ?_); rintro e r1 ⟨rfl, hb1⟩); go_wp2_with fail
  refine hK.out _ _ ?_ (fun hG => ?_)
  · exact ⟨cell_below hb1 hH.1, cell_below hb1 hH.2.1, cell_below hb1 hH.2.2.1, cell_below hb1 hH.2.2.2.1, cell_below hb1 hH.2.2.2.2.1, cell_below hb1 hH.2.2.2.2.2.1, hH.2.2.2.2.2.2.trans (hb1.mono hH.2.2.2.2.2.2.size)⟩
  replace hH := hG
  clear hK K hG
  try simp only [Act.put, List.setIfInBounds_toArray, List.set_cons_zero, List.set_cons_succ]
  refine wpAnyH_take (i := 6) (oi := { dst := some 17, op := _, type := _, pos := _, after := _, guard := _ }) (v := ?_) rfl (by kernel_rfl) (by kernel_rfl) (by kernel_rfl) (fun _ _ _ h => h) (Or.inl ⟨by rfl, ?_⟩) hH ?_
  rotate_left 1
  · intro W hSw
    (try dsimp only at hSw)
    go_simp
    (try with_reducible rfl)
  try simp only [Act.put, List.setIfInBounds_toArray, List.set_cons_zero, List.set_cons_succ]
  refine wpAnyH_ready (rs := [9]) (by kernel_rfl) (by simp) (AllReadyH.cons rfl (fun K hK => ?_) AllReadyH.nil)
  go_simp
  go_at_call 77; ((with_reducible refine (CN.out _).mono ?_); rintro e r2 ⟨bb, rfl, hbb, ⟨x9, y9, p9, q9, h9, s9, kD, i1, i2, i3, i4, _⟩, hb2⟩); have c9 := kD.c1; have KR2 := (KR1.out.drew.below hb1).below hb2; go_wp2_with fail
  refine hK.out _ _ ?_ (fun hG => ?_)
  · exact ⟨cell_below hb2 hH.1, cell_below hb2 hH.2.1, cell_below hb2 hH.2.2.1, cell_below hb2 hH.2.2.2.1, cell_below hb2 hH.2.2.2.2.1, cell_below hb2 hH.2.2.2.2.2.1, hH.2.2.2.2.2.2.trans (hb2.mono hH.2.2.2.2.2.2.size)⟩
  replace hH := hG
  clear hK K hG
  try simp only [Act.put, List.setIfInBounds_toArray, List.set_cons_zero, List.set_cons_succ]
  refine wpAnyH_take (i := 10) (oi := { dst := some 21, op := _, type := _, pos := _, after := _, guard := _ }) (v := ?_) rfl (by kernel_rfl) (by kernel_rfl) (by kernel_rfl) (fun _ _ _ h => h) (Or.inl ⟨by rfl, ?_⟩) hH ?_
  rotate_left 1
  · intro W hSw
    (try dsimp only at hSw)
    go_simp
    (try with_reducible rfl)
  try simp only [Act.put, List.setIfInBounds_toArray, List.set_cons_zero, List.set_cons_succ]
  refine wpAnyH_take (i := 11) (oi := { dst := some 22, op := _, type := _, pos := _, after := _, guard := _ }) (v := ?_) rfl (by kernel_rfl) (by kernel_rfl) (by kernel_rfl) (fun _ _ _ h => h) (Or.inl ⟨by rfl, ?_⟩) hH ?_
  rotate_left 1
  · intro W hSw
    (try dsimp only at hSw)
    go_simp
    (try with_reducible rfl)
  try simp only [Act.put, List.setIfInBounds_toArray, List.set_cons_zero, List.set_cons_succ]
  refine wpAnyH_ready (rs := [12]) (by kernel_rfl) (by simp) (AllReadyH.cons rfl (fun K hK => ?_) AllReadyH.nil)
  go_simp
  refine hK.out _ _ ?_ (fun hG => ?_)
  · exact hH
  replace hH := hG
  clear hK K hG
  try simp only [Act.put, List.setIfInBounds_toArray, List.set_cons_zero, List.set_cons_succ]
  refine wpAnyH_take (i := 13) (oi := { dst := some 24, op := _, type := _, pos := _, after := _, guard := _ }) (v := ?_) rfl (by kernel_rfl) (by kernel_rfl) (by kernel_rfl) (fun _ _ _ h => h) (Or.inl ⟨by rfl, ?_⟩) hH ?_
  rotate_left 1
  · intro W hSw
    (try dsimp only at hSw)
    go_simp
    (try with_reducible rfl)
  try simp only [Act.put, List.setIfInBounds_toArray, List.set_cons_zero, List.set_cons_succ]
  refine wpAnyH_ready (rs := [14]) (by kernel_rfl) (by simp) (AllReadyH.cons rfl (fun K hK => ?_) AllReadyH.nil)
  (refine step_store_row rfl 62 (.tmp 6) (.tmp 24) rfl (w.heap.size + 1) #[.string dn, .int .i64 (b : Int), .int .i64 ((b : Int) + (l + 1)), .int .i64 dx, .int .i64 dy, .int .i64 dh, .int .i64 dt, .int .i64 l, .complex .f32 p9 q9] (by simp [Act.eval, Act.put]) (by simp [Act.eval, Act.put]) 62 z9 KR2 (by kernel_rfl) rfl (by simp [Value.oneCell']) ?_; refine (show K (Act.put _ none _) _ from ?_); have hgR := row_grown r2 (w.heap.size + 1) #[.string dn, .int .i64 (b : Int), .int .i64 ((b : Int) + (l + 1)), .int .i64 dx, .int .i64 dy, .int .i64 dh, .int .i64 dt, .int .i64 l, .complex .f32 p9 q9])
  refine hK.out _ _ ?_ (fun hG => ?_)
  · exact ⟨hgR.cell hH.1 (fun e => by have e := Option.some.inj e; (have e9 : w.heap.size = w.heap.size + 1 := e); omega), hgR.cell hH.2.1 (fun e => by have e := Option.some.inj e; (have e9 : u1.heap.size = w.heap.size + 1 := e); omega), hgR.cell hH.2.2.1 (fun e => by have e := Option.some.inj e; (have e9 : u1.heap.size = w.heap.size + 1 := e); omega), hgR.cell hH.2.2.2.1 (fun e => by have e := Option.some.inj e; (have e9 : u1.heap.size = w.heap.size + 1 := e); omega), hgR.cell hH.2.2.2.2.1 (fun e => by have e := Option.some.inj e; (have e9 : u1.heap.size = w.heap.size + 1 := e); omega), hgR.cell hH.2.2.2.2.2.1 (fun e => by have e := Option.some.inj e; (have e9 : u1.heap.size = w.heap.size + 1 := e); omega), hH.2.2.2.2.2.2.grown hgR hH.2.2.2.2.2.2.size (fun z9 e9 => by have e9 := Option.some.inj e9; omega)⟩
  replace hH := hG
  clear hK K hG
  try simp only [Act.put, List.setIfInBounds_toArray, List.set_cons_zero, List.set_cons_succ]
  refine wpAnyH_done (by kernel_rfl) ?_ _
  refine NoPanic.normal ?_
  have KX := row_bk #[.string dn, .int .i64 (b : Int), .int .i64 ((b : Int) + (l + 1)), .int .i64 dx, .int .i64 dy, .int .i64 dh, .int .i64 dt, .int .i64 l, .complex .f32 p9 q9] KR2
  have t0 := KX.cell (i := 0) rfl
  have t1 := KX.cell (i := 1) rfl
  have t2 := KX.cell (i := 2) rfl
  have t3 := KX.cell (i := 3) rfl
  have t4 := KX.cell (i := 4) rfl
  have t5 := KX.cell (i := 5) rfl
  have t6 := KX.cell (i := 6) rfl
  have t7 := KX.cell (i := 7) rfl
  have t8 := KX.cell (i := 8) rfl
  have BX := hH.2.2.2.2.2.2
  clear hH
  go_wp2_with fail
  refine bodyPost_ret (v := .agg #[.string dn, .int .i64 (b : Int), .int .i64 ((b : Int) + (l + 1)), .int .i64 dx, .int .i64 dy, .int .i64 dh, .int .i64 dt, .int .i64 l, .complex .f32 p9 q9]) (by simp [results, Tryz.results75, go_sem, t0, t1, t2, t3, t4, t5, t6, t7, t8]; try rfl) rfl ?_
  exact ⟨⟨⟨b, ⟨dn, dk, dl, dx, dy, dh, dt, dm⟩, l⟩, p9, q9⟩, rfl, ⟨i3, i4⟩, rfl, BX⟩
end Go.Proofs.YtkndejjfndjcoabGreat.Tw9
