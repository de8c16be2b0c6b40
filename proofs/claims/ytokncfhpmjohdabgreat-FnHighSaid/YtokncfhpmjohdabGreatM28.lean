/- The drops in the air, of the program: each tick moves them on, and then they are told. -/
import Derived.Test.YtokncfhpmjohdabGreatM26
import Derived.Test.YtokncfhpmjohdabGreatM27
import Derived.Test.YtokncfhpmjohdabGreatM17
import Derived.Test.YtokncfhpmjohdabGreatM23
import Derived.Maps.OwnOps
import Derived.Deep.RegionHeld3
import Derived.Deep.MidRow
import Derived.StillTailTactics
set_option linter.unusedVariables false
set_option linter.unusedSimpArgs false
namespace Go.Proofs.YtokncfhpmjohdabGreat.Am9
open Go.RowKit Go.ChangeShapes Go.WideShapes Go.WideElems Go.Deep Go.Proofs.YtokncfhpmjohdabGreat.Mem Go.Proofs.YtokncfhpmjohdabGreat.Rw Go.Proofs.YtokncfhpmjohdabGreat.P2 Go.Proofs.YtokncfhpmjohdabGreat.Bk Go.Proofs.YtokncfhpmjohdabGreat.Sp Go.Proofs.YtokncfhpmjohdabGreat.Sq Go.Proofs.YtokncfhpmjohdabGreat.Jt Go.Proofs.YtokncfhpmjohdabGreat.Cm Go.Proofs.YtokncfhpmjohdabGreat.Cx Go.Proofs.YtokncfhpmjohdabGreat.Pl
open Go.Proofs.YtokncfhpmjohdabGreat.Sv hiding D C G
open Go.Proofs.YtokncfhpmjohdabGreat.Tw9 Go.Proofs.YtokncfhpmjohdabGreat.Ar9 Go.Proofs.YtokncfhpmjohdabGreat.Pd9
open Go.Proofs.YtokncfhpmjohdabGreat.Wm (wd dr drs plus dr_bound drs_get drs_len)
open Go.Proofs.YtokncfhpmjohdabGreat.Gs (gls)
open Go.Proofs.YtokncfhpmjohdabGreat.Wc (infoC made_c zs2 zv zs2_len zs2_get)
open Go.Proofs.YtokncfhpmjohdabGreat.Pl9 (RowP pls pls_len pls_get infoP d0 pls_made)
open Go.Proofs.YtokncfhpmjohdabGreat.Dp (ha heightI)
set_option linter.unusedVariables false
set_option linter.unusedSimpArgs false

theorem wp_still_tail {P : Program} {id : Nat} {Q : Exit → Act → World → Prop} {a : Act} {w : World} {l : List Oper} (n : Nat) (hm : P.follows .mixedOrders = true) (hB : Region.lexTailB .any l.toArray n = true)
    (h : ∀ W2, W2 = w.drew → wpStill P l.toArray W2 (fun a' => wpList P l.toArray Q (l.drop n) a' W2) (l.take n) a) : (Code.region id l.toArray true).wp P Q a w := wp_region_still_tail n hm hB (h _ rfl)
abbrev tv (u : T9) : Value := .agg #[.string u.z.d.nm, .int .i64 u.z.b, .int .i64 (u.z.b + (u.z.l + 1)), .int .i64 u.z.d.x, .int .i64 u.z.d.y, .int .i64 u.z.d.hd, .int .i64 u.z.d.tl, .int .i64 u.z.l, .complex .f32 u.re u.im]
abbrev tca (u : T9) : Array Value := #[.string u.z.d.nm, .int .i64 u.z.b, .int .i64 (u.z.b + (u.z.l + 1)), .int .i64 u.z.d.x, .int .i64 u.z.d.y, .int .i64 u.z.d.hd, .int .i64 u.z.d.tl, .int .i64 u.z.l, .complex .f32 u.re u.im]
/-- What is known of a drop that is thrown. -/
def TOk (u : T9) : Prop := WOk u ∧ BOk u.z ∧ u.z.b < 64
theorem cR {w : World} {H g k : Nat} {us : List T9} {u : T9} (h : Rd w H (some ⟨g, 0, none⟩) (tls us)) (hu : us[k]? = some u) :
    w.cell? ⟨g, k * 9, none⟩ = some (.string u.z.d.nm) ∧ w.cell? ⟨g, k * 9 + 1, none⟩ = some (.int .i64 u.z.b) ∧ w.cell? ⟨g, k * 9 + 2, none⟩ = some (.int .i64 (u.z.b + (u.z.l + 1))) ∧ w.cell? ⟨g, k * 9 + 3, none⟩ = some (.int .i64 u.z.d.x) ∧ w.cell? ⟨g, k * 9 + 4, none⟩ = some (.int .i64 u.z.d.y) ∧ w.cell? ⟨g, k * 9 + 5, none⟩ = some (.int .i64 u.z.d.hd) ∧ w.cell? ⟨g, k * 9 + 6, none⟩ = some (.int .i64 u.z.d.tl) ∧ w.cell? ⟨g, k * 9 + 7, none⟩ = some (.int .i64 u.z.l) ∧ w.cell? ⟨g, k * 9 + 8, none⟩ = some (.complex .f32 u.re u.im) := by
  obtain ⟨b, o, e, _, hc⟩ := h.get (k := k * 9) (by rw [tls_len]; have := (List.getElem?_eq_some_iff.1 hu).1; omega)
  injection e with e; injection e with e1 e2
  subst e1 e2
  have G := tls_get hu
  refine ⟨?_, ?_, ?_, ?_, ?_, ?_, ?_, ?_, ?_⟩
  · simpa using hc _ _ G.1
  · simpa using hc _ _ G.2.1
  · simpa using hc _ _ G.2.2.1
  · simpa using hc _ _ G.2.2.2.1
  · simpa using hc _ _ G.2.2.2.2.1
  · simpa using hc _ _ G.2.2.2.2.2.1
  · simpa using hc _ _ G.2.2.2.2.2.2.1
  · simpa using hc _ _ G.2.2.2.2.2.2.2.1
  · simpa using hc _ _ G.2.2.2.2.2.2.2.2

/-- What a name finds in the map. -/
def Finds (w : World) (base b : Nat) (s : ByteArray) (g : Nat) : Prop := ∃ M e, Air w base b M ∧ lkA M s = some e ∧ e.g = g
theorem Finds.below {w w' : World} {base b g : Nat} {s : ByteArray} (h : Finds w base b s g) (hb : Below w.heap.size w w') : Finds w' base b s g := let ⟨M, e, h1, h2⟩ := h; ⟨M, e, h1.below hb, h2⟩
theorem run_find {w : World} {base b g : Nat} {s : ByteArray} (h : Finds w base b s g) : (Instr.lookup 113 (.map (some b)) (.string s) false).run Tryz.prog w = .ok (.slice (some ⟨g, 0, none⟩) 64 64) w := by
  obtain ⟨M, e, h1, h2, rfl⟩ := h
  rw [run_look h1, h2]; rfl
theorem yields_look {ops : Array Oper} {S : World → Prop} {o : Oper} {a : Act} (hw : Region.wanted o (yielded ops a.tmps) = true) (m x : Operand) (hop : o.op = Op.lookup 113 m x false) (base b : Nat) (s : ByteArray) (g : Nat)
    (hm : a.eval m = .map (some b)) (hx : a.eval x = .string s) (hS : ∀ w, S w → Finds w base b s g) : YieldsIf Tryz.prog ops S o (.slice (some ⟨g, 0, none⟩) 64 64) a :=
  .inl ⟨hw, fun w h => by unfold execOp; simp [hop, hm, hx, run_find (hS w h), Result.andThen]⟩
theorem step_make {ops : Array Oper} {o : Oper} {a : Act} {w : World} {K : Act → World → Prop} {Q : Exit → Act → World → Prop} {E : Prop} (base : Nat) (hgd : o.guard = none) (x y : Operand) (ho : o.op = .makeSlice 117 x y) (hx : a.eval x = .int .i64 64) (hy : a.eval y = .int .i64 64) (hb : base ≤ w.heap.size)
    (h : ∀ w', w'.ownsRow base 71 1 (sl w.heap.size) 64 (cxs (List.replicate 64 (0, 0))) → w.grownBy w' none → K (a.put o.dst (.slice (some ⟨w.heap.size, 0, none⟩) 64 64)) w') : if Region.wanted o (yielded ops a.tmps) = true then Oper.wp Tryz.prog o a w K Q else E := by
  have hw : Region.wanted o (yielded ops a.tmps) = true := by simp [Region.wanted, hgd]
  rw [if_pos hw]
  obtain ⟨i0, hi, hz0, hz1, hz2⟩ := info_of infoC
  obtain ⟨w', hrun, h1, h2⟩ := run_make_full (P := Tryz.prog) w base 117 71 i0 (.complex .f32 0 0) 1 Tryz.underlying117 hi hz0 hz1 .i64 .i64 64 (by rw [hz2]; omega) (by unfold maxLen; omega) hb
  have hrun2 : (Instr.makeSlice 117 (.int .i64 64) (.int .i64 64)).run Tryz.prog w = .ok (.slice (some ⟨w.heap.size, 0, none⟩) 64 64) w' := hrun
  unfold Oper.wp
  simp [execOp, ho, hx, hy, hrun2, Result.andThen]
  refine h w' ?_ h2
  have := h1
  rw [made_c] at this
  rw [show cxs (List.replicate 64 (0, 0)) = List.replicate 64 (.complex .f32 0 0) by unfold cxs; rw [List.map_replicate]; rfl]
  exact this
theorem step_put {ops : Array Oper} {o : Oper} {a : Act} {w : World} {K : Act → World → Prop} {Q : Exit → Act → World → Prop} {E : Prop} (hgd : o.guard = none) (m x v : Operand) (hop : o.op = Op.mapUpdate 113 m x v) (base b : Nat) (M : List Ar9.E) (hm : a.eval m = .map (some b)) (hL : Air w base b M) (s : ByteArray) (hx : a.eval x = .string s) (hn : lkA M s = none) (z : Ar9.E) (hv : a.eval v = .slice (some ⟨z.g, 0, none⟩) 64 64) (hz : z.nm = s) (hl : z.ws.length = 64) (hr : w.ownsRow base 71 1 (sl z.g) 64 (cxs z.ws)) (hb : z.g ≠ b) (hd : ∀ e ∈ M, e.g ≠ z.g)
    (hK : ∀ w', Air w' base b (M ++ [z]) → w.grownBy w' (some b) → K (a.put o.dst undef) w') : if Region.wanted o (yielded ops a.tmps) = true then Oper.wp Tryz.prog o a w K Q else E := by
  have hw : Region.wanted o (yielded ops a.tmps) = true := by simp [Region.wanted, hgd]
  rw [if_pos hw]
  obtain ⟨w', hrun, r1, r2⟩ := run_put hL hn z hz hl hr hb hd
  have hrun2 : (Instr.mapUpdate 113 (.map (some b)) (.string s) (.slice (some ⟨z.g, 0, none⟩) 64 64)).run Tryz.prog w = .ok () w' := hrun
  unfold Oper.wp
  simp [execOp, hop, hm, hx, hv, hrun2, Result.andThen]
  exact hK _ r1 r2
theorem step_store1 {ops : Array Oper} {o : Oper} {a : Act} {w : World} {K : Act → World → Prop} {Q : Exit → Act → World → Prop} {E : Prop} (hgd : o.guard = none) (x y : Operand) (ho : o.op = .store 71 x y) (g i : Nat) (hx : a.eval x = .pointer (some ⟨g, i, none⟩)) (u v : Nat) (hy : a.eval y = .complex .f32 u v)
    (hc : (w.cell? ⟨g, i, none⟩).isSome = true) (hf : w.frozen? ⟨g, i, none⟩ = false) (h : K (a.put o.dst undef) (w.setCell ⟨g, i, none⟩ (.complex .f32 u v))) : if Region.wanted o (yielded ops a.tmps) = true then Oper.wp Tryz.prog o a w K Q else E := by
  have hw : Region.wanted o (yielded ops a.tmps) = true := by simp [Region.wanted, hgd]
  rw [if_pos hw]
  have k1 : ∀ j : Nat, j < [Value.complex .f32 u v].length → (w.cell? ⟨g, i + 0 + j, none⟩).isSome = true := by
    intro j hj
    have h0 : j = 0 := by simpa using hj
    subst h0; simpa using hc
  have k2 : ∀ j : Nat, j < [Value.complex .f32 u v].length → w.frozen? ⟨g, i + 0 + j, none⟩ = false := by
    intro j hj
    have h0 : j = 0 := by simpa using hj
    subst h0; simpa using hf
  have hst := run_storeCells_cells (P := Tryz.prog) g i [.complex .f32 u v] 0 w k1 k2 (fun v hv => by simp at hv; subst hv; rfl)
  obtain ⟨i0, hi, hz0, hz1, hz2⟩ := info_of infoC
  have hrun : (Instr.storeAt 71 (.pointer (some ⟨g, i, none⟩)) (.complex .f32 u v)).run Tryz.prog w = .ok () (w.setCell ⟨g, i, none⟩ (.complex .f32 u v)) := by
    simp only [Nat.add_zero] at hst
    simp only [Instr.storeAt, Instr.sureAddr, Sem.run_bind, Sem.run_pure, Result.andThen_ok]
    simp [storeVar, sizeOf, typeInfo, hi, Value.cells, hz1, hst]
    rfl
  unfold Oper.wp
  simp [execOp, ho, hx, hy, hrun, Result.andThen]
  exact h
theorem step_store_mid {ops : Array Oper} {o : Oper} {a : Act} {w : World} {K : Act → World → Prop} {Q : Exit → Act → World → Prop} {E : Prop} (hgd : o.guard = none) (ty : TypeId) (x y : Operand) (ho : o.op = .store ty x y)
    (g i : Nat) (cells : Array Value) (hx : a.eval x = .pointer (some ⟨g, i, none⟩)) (hy : a.eval y = .agg cells) (ht : w.there g i cells.size) (hi : (Tryz.prog.info? ty).map (·.size) = some cells.size) (h1 : cells.all (·.oneCell') = true)
    (h : K (a.put o.dst undef) (w.setCells g i cells.toList)) : if Region.wanted o (yielded ops a.tmps) = true then Oper.wp Tryz.prog o a w K Q else E := by
  have hw : Region.wanted o (yielded ops a.tmps) = true := by simp [Region.wanted, hgd]
  rw [if_pos hw]
  exact wp_store_mid ty x y ho g i cells hx hy ht hi h1 h
theorem air_there {w : World} {base b : Nat} {M : List Ar9.E} (h : Air w base b M) {s : ByteArray} {e : Ar9.E} (he : lkA M s = some e) {i : Nat} (hi : i < 64) : (w.cell? ⟨e.g, i, none⟩).isSome = true ∧ w.frozen? ⟨e.g, i, none⟩ = false := by
  have hr := h.row e (lkA_mem he).1
  refine ⟨?_, hr.2.frozenAt i⟩
  rw [hr.2.cellAt i (by omega), List.getElem?_eq_getElem (by unfold cxs; rw [List.length_map]; omega)]; rfl
theorem eql_nil (w : World) : (binOp .eql 117 (.slice none 0 0) (.slice none 0 0)).run Tryz.prog w = .ok (.bool true) w := by kernel_rfl
theorem eql_some (g : Nat) (w : World) : (binOp .eql 117 (.slice (some ⟨g, 0, none⟩) 64 64) (.slice none 0 0)).run Tryz.prog w = .ok (.bool false) w := by kernel_rfl
/-- What is told of the map behind a step: at this name and birth it has this place, all else is as it was. -/
def Moved (M : List Ar9.E) (s : ByteArray) (i : Nat) (q : Int × Int) (M' : List Ar9.E) : Prop := Has M' s i q ∧ ∀ s' i' q', Has M s' i' q' → ¬ (s' = s ∧ i' = i) → Has M' s' i' q'

set_option maxHeartbeats 1000000 in
theorem isInAir (u : T9) (t : Int) (w : World) : Calls Tryz.prog 44 #[tv u, .int .i64 t] w fun e w' => e = .returned (.bool (inA u.z t)) ∧ Below w.heap.size w w' := by
  unfold inA
  by_cases h1 : (u.z.b : Int) ≤ t
  · rw [decide_eq_true h1]
    simp only [Bool.true_and]
    go_enter Tryz.func44, Tryz.ntmps44
    go_wp2
    all_goals go_returns
    all_goals exact ⟨rfl, by go_grown⟩
  · rw [decide_eq_false h1]
    simp only [Bool.false_and]
    go_enter Tryz.func44, Tryz.ntmps44
    go_wp2
    all_goals go_returns
    all_goals exact ⟨rfl, by go_grown⟩

theorem lk_upd {M : List Ar9.E} {s : ByteArray} {i : Nat} {p : Nat × Nat} {e : Ar9.E} (h : lkA M s = some e) : lkA (upd M s i p) s = some (up s i p e) := by rw [lkA_upd, h]; rfl
theorem z_xy {z : B} (h : BOk z) : z.d.x.natAbs < 16777216 ∧ z.d.y.natAbs < 16777216 := by obtain ⟨a, b, _⟩ := jt_iff.1 h; omega

theorem complexW (x y : Int) (hx : x.natAbs < 16777216) (hy : y.natAbs < 16777216) (w : World) : Calls Tryz.prog 86 #[.agg #[.int .i64 x, .int .i64 y]] w fun e w' => e = .returned (.complex .f32 (Meas.f32 x) (Meas.f32 y)) ∧ Below w.heap.size w w' :=
  (Pw.complexOf x y hx hy w).mono fun e w9 ⟨h1, h2⟩ => ⟨h1, by rw [h2]; exact ((Below.refl _ _).alloc (Nat.le_refl _) _).drew⟩

set_option maxRecDepth 100000 in
set_option maxHeartbeats 4000000 in
theorem releaseOld {base b : Nat} {M : List Ar9.E} (u : T9) (w : World) (hA : Air w base b M) (hB : base ≤ w.heap.size) (hj : BOk u.z) (hb : u.z.b < 64) (e : Ar9.E) (hl : lkA M u.z.d.nm = some e) :
    Calls Tryz.prog 122 #[.map (some b), tv u] w fun e w' => e = .returned (.tuple #[]) ∧ ∃ M', Air w' base b M' ∧ Moved M u.z.d.nm u.z.b (u.z.d.x, u.z.d.y) M' ∧ Below base w w' := by
  have hxy := z_xy hj
  have CO := Lib.hid (fun (W : World) => (complexW u.z.d.x u.z.d.y hxy.1 hxy.2 W))
  have hb2 : (u.z.b : Int) < 64 := by omega
  have hu : undef = Value.tuple #[] := rfl
  have K0 := Lib.hid (Bk.new w (tca u) 73)
  have A0 := Lib.hid (hA.alloc (.cells (tca u) 73))
  have B0 := Lib.hid (((Below.refl base w).alloc hB (.cells (tca u) 73)))
  have hlt : b < w.heap.size := hA.lt
  have hglt := Lib.hid (fun (e : Ar9.E) (he : e ∈ M) => (hA.glt he))
  have n0 := K0.out.cell (i := 0) rfl
  have hL := Lib.hid hl
  have hne := Lib.hid (show w.heap.size ≠ e.g from fun c => by have := (hglt.out e (lkA_mem hl).1).2; omega)
  have HN := Lib.hid (eql_some e.g)
  have AV := A0
  have KV := K0
  have BV := B0
  clear hA hl hglt
  go_enter Tryz.func122, Tryz.ntmps122
  go_wp2_with (at_lookup; refine wpList_look _ rfl _ _ rfl base b M rfl A0.out u.z.d.nm rfl ?_; rw [hL.out]; unfold found sl; have HN9 := HN.out)
  clear n0
  refine wp_region_noPanic ?_
  refine wp_region_held_drew (S := (fun w' => Finds w' base b u.z.d.nm e.g ∧ w'.cell? ⟨w.heap.size, 0, none⟩ = some (.string u.z.d.nm) ∧ w'.cell? ⟨w.heap.size, 1, none⟩ = some (.int .i64 u.z.b) ∧ w'.cell? ⟨w.heap.size, 3, none⟩ = some (.int .i64 u.z.d.x) ∧ w'.cell? ⟨w.heap.size, 4, none⟩ = some (.int .i64 u.z.d.y) ∧ Below base w w')) (by kernel_rfl) ?_ (fun hH => ?_)
  · exact ⟨⟨_, _, AV.out.drew, hL.out, rfl⟩, KV.out.drew.cell (i := 0) rfl, KV.out.drew.cell (i := 1) rfl, KV.out.drew.cell (i := 3) rfl, KV.out.drew.cell (i := 4) rfl, BV.out.drew⟩
  refine wpAnyH_take (i := 0) (oi := { dst := some 13, op := _, type := _, pos := _, after := _, guard := _ }) (v := ?_) rfl (by kernel_rfl) (by kernel_rfl) (by kernel_rfl) (fun _ _ _ h => h) (Or.inl ⟨by rfl, ?_⟩) hH ?_
  rotate_left 1
  · intro W hSw
    (try dsimp only at hSw)
    go_simp
    (try with_reducible rfl)
  try simp only [Act.put, List.setIfInBounds_toArray, List.set_cons_zero, List.set_cons_succ]
  refine wpAnyH_take (i := 1) (oi := { dst := some 14, op := _, type := _, pos := _, after := _, guard := _ }) (v := ?_) rfl (by kernel_rfl) (by kernel_rfl) (by kernel_rfl) (fun _ _ _ h => h) (Or.inl ⟨by rfl, ?_⟩) hH ?_
  rotate_left 1
  · intro W hSw
    (try dsimp only at hSw)
    go_simp
    (try with_reducible rfl)
  try simp only [Act.put, List.setIfInBounds_toArray, List.set_cons_zero, List.set_cons_succ]
  refine wpAnyH_take (i := 2) (oi := { dst := some 15, op := _, type := _, pos := _, after := _, guard := _ }) (v := ?_) rfl (by kernel_rfl) (by kernel_rfl) (by kernel_rfl) (fun _ _ _ h => h) (Or.inl ⟨by rfl, ?_⟩) hH ?_
  rotate_left 1
  · intro W hSw
    (try dsimp only at hSw)
    go_simp
    (try with_reducible rfl)
  try simp only [Act.put, List.setIfInBounds_toArray, List.set_cons_zero, List.set_cons_succ]
  refine wpAnyH_take (i := 3) (oi := { dst := some 16, op := _, type := _, pos := _, after := _, guard := _ }) (v := _) rfl (by kernel_rfl) (by kernel_rfl) (by kernel_rfl) (fun _ _ _ h => h) (yields_look (by rfl) (.tmp 13) (.tmp 15) rfl base b u.z.d.nm e.g (by simp [Act.eval, Act.put]) (by simp [Act.eval, Act.put]) (fun _ h => h.1)) hH ?_
  try simp only [Act.put, List.setIfInBounds_toArray, List.set_cons_zero, List.set_cons_succ]
  refine wpAnyH_take (i := 4) (oi := { dst := some 17, op := _, type := _, pos := _, after := _, guard := _ }) (v := ?_) rfl (by kernel_rfl) (by kernel_rfl) (by kernel_rfl) (fun _ _ _ h => h) (Or.inl ⟨by rfl, ?_⟩) hH ?_
  rotate_left 1
  · intro W hSw
    (try dsimp only at hSw)
    go_simp
    (try with_reducible rfl)
  try simp only [Act.put, List.setIfInBounds_toArray, List.set_cons_zero, List.set_cons_succ]
  refine wpAnyH_take (i := 5) (oi := { dst := some 18, op := _, type := _, pos := _, after := _, guard := _ }) (v := ?_) rfl (by kernel_rfl) (by kernel_rfl) (by kernel_rfl) (fun _ _ _ h => h) (Or.inl ⟨by rfl, ?_⟩) hH ?_
  rotate_left 1
  · intro W hSw
    (try dsimp only at hSw)
    go_simp
    (try with_reducible rfl)
  try simp only [Act.put, List.setIfInBounds_toArray, List.set_cons_zero, List.set_cons_succ]
  refine wpAnyH_take (i := 6) (oi := { dst := some 19, op := _, type := _, pos := _, after := _, guard := _ }) (v := ?_) rfl (by kernel_rfl) (by kernel_rfl) (by kernel_rfl) (fun _ _ _ h => h) (Or.inl ⟨by rfl, ?_⟩) hH ?_
  rotate_left 1
  · intro W hSw
    (try dsimp only at hSw)
    go_simp
    (try with_reducible rfl)
  try simp only [Act.put, List.setIfInBounds_toArray, List.set_cons_zero, List.set_cons_succ]
  refine wpAnyH_take (i := 7) (oi := { dst := some 20, op := _, type := _, pos := _, after := _, guard := _ }) (v := ?_) rfl (by kernel_rfl) (by kernel_rfl) (by kernel_rfl) (fun _ _ _ h => h) (Or.inl ⟨by rfl, ?_⟩) hH ?_
  rotate_left 1
  · intro W hSw
    (try dsimp only at hSw)
    go_simp
    (try with_reducible rfl)
  try simp only [Act.put, List.setIfInBounds_toArray, List.set_cons_zero, List.set_cons_succ]
  refine wpAnyH_take (i := 8) (oi := { dst := some 21, op := _, type := _, pos := _, after := _, guard := _ }) (v := ?_) rfl (by kernel_rfl) (by kernel_rfl) (by kernel_rfl) (fun _ _ _ h => h) (Or.inl ⟨by rfl, ?_⟩) hH ?_
  rotate_left 1
  · intro W hSw
    (try dsimp only at hSw)
    go_simp
    (try with_reducible rfl)
  try simp only [Act.put, List.setIfInBounds_toArray, List.set_cons_zero, List.set_cons_succ]
  refine wpAnyH_ready (rs := [9]) (by kernel_rfl) (by simp) (AllReadyH.cons rfl (fun K hK => ?_) AllReadyH.nil)
  go_simp
  go_at_call 86; ((with_reducible refine (CO.out _).mono ?_); rintro e9 r1 ⟨rfl, hb1⟩); have A1 := AV.out.drew.below hb1; go_wp2_with fail
  refine hK.out _ _ ?_ (fun hG => ?_)
  · exact ⟨hH.1.below hb1, cell_below hb1 hH.2.1, cell_below hb1 hH.2.2.1, cell_below hb1 hH.2.2.2.1, cell_below hb1 hH.2.2.2.2.1, hH.2.2.2.2.2.trans (hb1.mono (Nat.le_trans hB hH.2.2.2.2.2.size))⟩
  replace hH := hG
  clear hK K hG
  try simp only [Act.put, List.setIfInBounds_toArray, List.set_cons_zero, List.set_cons_succ]
  refine wpAnyH_take (i := 10) (oi := { dst := some 23, op := _, type := _, pos := _, after := _, guard := _ }) (v := ?_) rfl (by kernel_rfl) (by kernel_rfl) (by kernel_rfl) (fun _ _ _ h => h) (Or.inl ⟨by rfl, ?_⟩) hH ?_
  rotate_left 1
  · intro W hSw
    (try dsimp only at hSw)
    go_simp
    (try with_reducible rfl)
  try simp only [Act.put, List.setIfInBounds_toArray, List.set_cons_zero, List.set_cons_succ]
  refine wpAnyH_ready (rs := [11]) (by kernel_rfl) (by simp) (AllReadyH.cons rfl (fun K hK => ?_) AllReadyH.nil)
  (refine step_store1 rfl (.tmp 23) (.tmp 22) rfl e.g u.z.b (by simp [Act.eval, Act.put]) (Meas.f32 u.z.d.x) (Meas.f32 u.z.d.y) (by simp [Act.eval, Act.put]) (air_there A1 hL.out hb).1 (air_there A1 hL.out hb).2 ?_; refine (show K (Act.put _ none _) _ from ?_); obtain ⟨A2, g2⟩ := A1.store hL.out hb (Meas.f32 u.z.d.x) (Meas.f32 u.z.d.y))
  refine hK.out _ _ ?_ (fun hG => ?_)
  · exact ⟨⟨_, _, A2, lk_upd hL.out, up_g _ _ _ _⟩, g2.cell hH.2.1 (fun e9 => by have e9 := Option.some.inj e9; (have e8 : w.heap.size = e.g := e9); exact hne.out e8), g2.cell hH.2.2.1 (fun e9 => by have e9 := Option.some.inj e9; (have e8 : w.heap.size = e.g := e9); exact hne.out e8), g2.cell hH.2.2.2.1 (fun e9 => by have e9 := Option.some.inj e9; (have e8 : w.heap.size = e.g := e9); exact hne.out e8), g2.cell hH.2.2.2.2.1 (fun e9 => by have e9 := Option.some.inj e9; (have e8 : w.heap.size = e.g := e9); exact hne.out e8), hH.2.2.2.2.2.grown g2 (Nat.le_trans hB hH.2.2.2.2.2.size) (fun q9 e9 => by have e9 := Option.some.inj e9; have := (AV.out.glt (lkA_mem hL.out).1).1; omega)⟩
  replace hH := hG
  clear hK K hG
  try simp only [Act.put, List.setIfInBounds_toArray, List.set_cons_zero, List.set_cons_succ]
  refine wpAnyH_done (by kernel_rfl) ?_ _
  refine NoPanic.normal ?_
  have BX := hH.2.2.2.2.2
  clear hH
  go_wp2_with fail
  go_returns
  exact ⟨rfl, _, A2, ⟨Has.here hL.out (by rw [(AV.out.row _ (lkA_mem hL.out).1).1]; exact hb) (i32_f32 _) (i32_f32 _), fun s i q h hn => h.there hn⟩, BX⟩

set_option maxRecDepth 100000 in
set_option maxHeartbeats 4000000 in
theorem releaseNew {base b : Nat} {M : List Ar9.E} (u : T9) (w : World) (hA : Air w base b M) (hB : base ≤ w.heap.size) (hj : BOk u.z) (hb : u.z.b < 64) (hl : lkA M u.z.d.nm = none) :
    Calls Tryz.prog 122 #[.map (some b), tv u] w fun e w' => e = .returned (.tuple #[]) ∧ ∃ M', Air w' base b M' ∧ Moved M u.z.d.nm u.z.b (u.z.d.x, u.z.d.y) M' ∧ Below base w w' := by
  have hxy := z_xy hj
  have CO := Lib.hid (fun (W : World) => (complexW u.z.d.x u.z.d.y hxy.1 hxy.2 W))
  have hb2 : (u.z.b : Int) < 64 := by omega
  have hu : undef = Value.tuple #[] := rfl
  have K0 := Lib.hid (Bk.new w (tca u) 73)
  have A0 := Lib.hid (hA.alloc (.cells (tca u) 73))
  have B0 := Lib.hid (((Below.refl base w).alloc hB (.cells (tca u) 73)))
  have hlt : b < w.heap.size := hA.lt
  have hglt := Lib.hid (fun (e : Ar9.E) (he : e ∈ M) => (hA.glt he))
  have n0 := K0.out.cell (i := 0) rfl
  have HL0 := Lib.hid hl
  have HN := Lib.hid eql_nil
  clear hA hl
  have hsz : (w.alloc (.cells (tca u) 73)).heap.size = w.heap.size + 1 := by simp [go_sem]
  go_enter Tryz.func122, Tryz.ntmps122
  go_wp2_with (at_lookup; refine wpList_look _ rfl _ _ rfl base b M rfl A0.out u.z.d.nm rfl ?_; rw [HL0.out]; unfold found; have HN9 := HN.out)
  refine wp_region_noPanic ?_
  refine wp_region_held_drew (S := (fun w' => w'.cell? ⟨w.heap.size, 0, none⟩ = some (.string u.z.d.nm) ∧ Below base w w')) (by kernel_rfl) ?_ (fun hH => ?_)
  · exact ⟨n0, B0.out.drew⟩
  refine wpAnyH_take (i := 0) (oi := { dst := some 9, op := _, type := _, pos := _, after := _, guard := _ }) (v := ?_) rfl (by kernel_rfl) (by kernel_rfl) (by kernel_rfl) (fun _ _ _ h => h) (Or.inl ⟨by rfl, ?_⟩) hH ?_
  rotate_left 1
  · intro W hSw
    (try dsimp only at hSw)
    go_simp
    (try with_reducible rfl)
  try simp only [Act.put, List.setIfInBounds_toArray, List.set_cons_zero, List.set_cons_succ]
  refine wpAnyH_take (i := 1) (oi := { dst := some 10, op := _, type := _, pos := _, after := _, guard := _ }) (v := ?_) rfl (by kernel_rfl) (by kernel_rfl) (by kernel_rfl) (fun _ _ _ h => h) (Or.inl ⟨by rfl, ?_⟩) hH ?_
  rotate_left 1
  · intro W hSw
    (try dsimp only at hSw)
    go_simp
    (try with_reducible rfl)
  try simp only [Act.put, List.setIfInBounds_toArray, List.set_cons_zero, List.set_cons_succ]
  refine wpAnyH_take (i := 2) (oi := { dst := some 11, op := _, type := _, pos := _, after := _, guard := _ }) (v := ?_) rfl (by kernel_rfl) (by kernel_rfl) (by kernel_rfl) (fun _ _ _ h => h) (Or.inl ⟨by rfl, ?_⟩) hH ?_
  rotate_left 1
  · intro W hSw
    (try dsimp only at hSw)
    go_simp
    (try with_reducible rfl)
  try simp only [Act.put, List.setIfInBounds_toArray, List.set_cons_zero, List.set_cons_succ]
  refine wpAnyH_ready (rs := [3]) (by kernel_rfl) (by simp) (AllReadyH.cons rfl (fun K hK => ?_) AllReadyH.nil)
  (refine step_make base rfl (.const (.int .i64 64)) (.const (.int .i64 64)) rfl rfl rfl (Nat.le_trans hB hH.2.size) ?_; intro w2 ho2 hg2; refine (show K (Act.put _ (some 12) _) _ from ?_); have A2 := A0.out.drew.other hg2 (fun k e9 => by cases e9); have K2 := K0.out.drew.grown hg2 (by intro e9; cases e9))
  refine hK.out _ _ ?_ (fun hG => ?_)
  · exact ⟨hg2.cell hH.1 (by intro e9; cases e9), hH.2.grown hg2 (Nat.le_trans hB hH.2.size) (fun k e9 => by cases e9)⟩
  replace hH := hG
  clear hK K hG
  try simp only [Act.put, List.setIfInBounds_toArray, List.set_cons_zero, List.set_cons_succ]
  refine wpAnyH_ready (rs := [4]) (by kernel_rfl) (by simp) (AllReadyH.cons rfl (fun K hK => ?_) AllReadyH.nil)
  (refine step_put rfl (.tmp 9) (.tmp 11) (.tmp 12) rfl base b M (by simp [Act.eval, Act.put]) A2 u.z.d.nm (by simp [Act.eval, Act.put]) HL0.out ⟨u.z.d.nm, w.heap.size + 1, List.replicate 64 (0, 0)⟩ (by simp [Act.eval, Act.put]) rfl (by simp) (by have := ho2; simpa using this) (by show w.heap.size + 1 ≠ b; omega) (fun e he => by have := (hglt.out e he).2; show e.g ≠ w.heap.size + 1; omega) ?_; intro w3 A3 g3; refine (show K (Act.put _ none _) _ from ?_); have K3 := K2.grown g3 (by intro e9; have e9 := Option.some.inj e9; omega))
  refine hK.out _ _ ?_ (fun hG => ?_)
  · exact ⟨g3.cell hH.1 (fun e9 => by have e9 := Option.some.inj e9; (have e8 : w.heap.size = b := e9); omega), hH.2.grown g3 (Nat.le_trans hB hH.2.size) (fun k e9 => by have e9 := Option.some.inj e9; have := A0.out.bs; omega)⟩
  replace hH := hG
  clear hK K hG
  try simp only [Act.put, List.setIfInBounds_toArray, List.set_cons_zero, List.set_cons_succ]
  refine wpAnyH_done (by kernel_rfl) ?_ _
  refine NoPanic.normal ?_
  have AV := Lib.hid A3
  have KV := Lib.hid K3
  have BV := Lib.hid hH.2
  obtain ⟨e, he⟩ : ∃ e : Ar9.E, e = ⟨u.z.d.nm, w.heap.size + 1, List.replicate 64 (0, 0)⟩ := ⟨_, rfl⟩
  rw [← he] at AV
  have hL := Lib.hid (show lkA (M ++ [e]) u.z.d.nm = some e by rw [lkA_snoc, HL0.out]; simp [he])
  have hne := Lib.hid (show w.heap.size ≠ e.g by rw [he]; exact Nat.ne_of_lt (Nat.lt_succ_self _))
  clear hH A3 K3 A2 K2 ho2 hg2 g3 n0 he hglt
  go_wp2_with fail
  refine wp_region_noPanic ?_
  refine wp_region_held_drew (S := (fun w' => Finds w' base b u.z.d.nm e.g ∧ w'.cell? ⟨w.heap.size, 0, none⟩ = some (.string u.z.d.nm) ∧ w'.cell? ⟨w.heap.size, 1, none⟩ = some (.int .i64 u.z.b) ∧ w'.cell? ⟨w.heap.size, 3, none⟩ = some (.int .i64 u.z.d.x) ∧ w'.cell? ⟨w.heap.size, 4, none⟩ = some (.int .i64 u.z.d.y) ∧ Below base w w')) (by kernel_rfl) ?_ (fun hH => ?_)
  · exact ⟨⟨_, _, AV.out.drew, hL.out, rfl⟩, KV.out.drew.cell (i := 0) rfl, KV.out.drew.cell (i := 1) rfl, KV.out.drew.cell (i := 3) rfl, KV.out.drew.cell (i := 4) rfl, BV.out.drew⟩
  refine wpAnyH_take (i := 0) (oi := { dst := some 13, op := _, type := _, pos := _, after := _, guard := _ }) (v := ?_) rfl (by kernel_rfl) (by kernel_rfl) (by kernel_rfl) (fun _ _ _ h => h) (Or.inl ⟨by rfl, ?_⟩) hH ?_
  rotate_left 1
  · intro W hSw
    (try dsimp only at hSw)
    go_simp
    (try with_reducible rfl)
  try simp only [Act.put, List.setIfInBounds_toArray, List.set_cons_zero, List.set_cons_succ]
  refine wpAnyH_take (i := 1) (oi := { dst := some 14, op := _, type := _, pos := _, after := _, guard := _ }) (v := ?_) rfl (by kernel_rfl) (by kernel_rfl) (by kernel_rfl) (fun _ _ _ h => h) (Or.inl ⟨by rfl, ?_⟩) hH ?_
  rotate_left 1
  · intro W hSw
    (try dsimp only at hSw)
    go_simp
    (try with_reducible rfl)
  try simp only [Act.put, List.setIfInBounds_toArray, List.set_cons_zero, List.set_cons_succ]
  refine wpAnyH_take (i := 2) (oi := { dst := some 15, op := _, type := _, pos := _, after := _, guard := _ }) (v := ?_) rfl (by kernel_rfl) (by kernel_rfl) (by kernel_rfl) (fun _ _ _ h => h) (Or.inl ⟨by rfl, ?_⟩) hH ?_
  rotate_left 1
  · intro W hSw
    (try dsimp only at hSw)
    go_simp
    (try with_reducible rfl)
  try simp only [Act.put, List.setIfInBounds_toArray, List.set_cons_zero, List.set_cons_succ]
  refine wpAnyH_take (i := 3) (oi := { dst := some 16, op := _, type := _, pos := _, after := _, guard := _ }) (v := _) rfl (by kernel_rfl) (by kernel_rfl) (by kernel_rfl) (fun _ _ _ h => h) (yields_look (by rfl) (.tmp 13) (.tmp 15) rfl base b u.z.d.nm e.g (by simp [Act.eval, Act.put]) (by simp [Act.eval, Act.put]) (fun _ h => h.1)) hH ?_
  try simp only [Act.put, List.setIfInBounds_toArray, List.set_cons_zero, List.set_cons_succ]
  refine wpAnyH_take (i := 4) (oi := { dst := some 17, op := _, type := _, pos := _, after := _, guard := _ }) (v := ?_) rfl (by kernel_rfl) (by kernel_rfl) (by kernel_rfl) (fun _ _ _ h => h) (Or.inl ⟨by rfl, ?_⟩) hH ?_
  rotate_left 1
  · intro W hSw
    (try dsimp only at hSw)
    go_simp
    (try with_reducible rfl)
  try simp only [Act.put, List.setIfInBounds_toArray, List.set_cons_zero, List.set_cons_succ]
  refine wpAnyH_take (i := 5) (oi := { dst := some 18, op := _, type := _, pos := _, after := _, guard := _ }) (v := ?_) rfl (by kernel_rfl) (by kernel_rfl) (by kernel_rfl) (fun _ _ _ h => h) (Or.inl ⟨by rfl, ?_⟩) hH ?_
  rotate_left 1
  · intro W hSw
    (try dsimp only at hSw)
    go_simp
    (try with_reducible rfl)
  try simp only [Act.put, List.setIfInBounds_toArray, List.set_cons_zero, List.set_cons_succ]
  refine wpAnyH_take (i := 6) (oi := { dst := some 19, op := _, type := _, pos := _, after := _, guard := _ }) (v := ?_) rfl (by kernel_rfl) (by kernel_rfl) (by kernel_rfl) (fun _ _ _ h => h) (Or.inl ⟨by rfl, ?_⟩) hH ?_
  rotate_left 1
  · intro W hSw
    (try dsimp only at hSw)
    go_simp
    (try with_reducible rfl)
  try simp only [Act.put, List.setIfInBounds_toArray, List.set_cons_zero, List.set_cons_succ]
  refine wpAnyH_take (i := 7) (oi := { dst := some 20, op := _, type := _, pos := _, after := _, guard := _ }) (v := ?_) rfl (by kernel_rfl) (by kernel_rfl) (by kernel_rfl) (fun _ _ _ h => h) (Or.inl ⟨by rfl, ?_⟩) hH ?_
  rotate_left 1
  · intro W hSw
    (try dsimp only at hSw)
    go_simp
    (try with_reducible rfl)
  try simp only [Act.put, List.setIfInBounds_toArray, List.set_cons_zero, List.set_cons_succ]
  refine wpAnyH_take (i := 8) (oi := { dst := some 21, op := _, type := _, pos := _, after := _, guard := _ }) (v := ?_) rfl (by kernel_rfl) (by kernel_rfl) (by kernel_rfl) (fun _ _ _ h => h) (Or.inl ⟨by rfl, ?_⟩) hH ?_
  rotate_left 1
  · intro W hSw
    (try dsimp only at hSw)
    go_simp
    (try with_reducible rfl)
  try simp only [Act.put, List.setIfInBounds_toArray, List.set_cons_zero, List.set_cons_succ]
  refine wpAnyH_ready (rs := [9]) (by kernel_rfl) (by simp) (AllReadyH.cons rfl (fun K hK => ?_) AllReadyH.nil)
  go_simp
  go_at_call 86; ((with_reducible refine (CO.out _).mono ?_); rintro e9 r1 ⟨rfl, hb1⟩); have A1 := AV.out.drew.below hb1; go_wp2_with fail
  refine hK.out _ _ ?_ (fun hG => ?_)
  · exact ⟨hH.1.below hb1, cell_below hb1 hH.2.1, cell_below hb1 hH.2.2.1, cell_below hb1 hH.2.2.2.1, cell_below hb1 hH.2.2.2.2.1, hH.2.2.2.2.2.trans (hb1.mono (Nat.le_trans hB hH.2.2.2.2.2.size))⟩
  replace hH := hG
  clear hK K hG
  try simp only [Act.put, List.setIfInBounds_toArray, List.set_cons_zero, List.set_cons_succ]
  refine wpAnyH_take (i := 10) (oi := { dst := some 23, op := _, type := _, pos := _, after := _, guard := _ }) (v := ?_) rfl (by kernel_rfl) (by kernel_rfl) (by kernel_rfl) (fun _ _ _ h => h) (Or.inl ⟨by rfl, ?_⟩) hH ?_
  rotate_left 1
  · intro W hSw
    (try dsimp only at hSw)
    go_simp
    (try with_reducible rfl)
  try simp only [Act.put, List.setIfInBounds_toArray, List.set_cons_zero, List.set_cons_succ]
  refine wpAnyH_ready (rs := [11]) (by kernel_rfl) (by simp) (AllReadyH.cons rfl (fun K hK => ?_) AllReadyH.nil)
  (refine step_store1 rfl (.tmp 23) (.tmp 22) rfl e.g u.z.b (by simp [Act.eval, Act.put]) (Meas.f32 u.z.d.x) (Meas.f32 u.z.d.y) (by simp [Act.eval, Act.put]) (air_there A1 hL.out hb).1 (air_there A1 hL.out hb).2 ?_; refine (show K (Act.put _ none _) _ from ?_); obtain ⟨A2, g2⟩ := A1.store hL.out hb (Meas.f32 u.z.d.x) (Meas.f32 u.z.d.y))
  refine hK.out _ _ ?_ (fun hG => ?_)
  · exact ⟨⟨_, _, A2, lk_upd hL.out, up_g _ _ _ _⟩, g2.cell hH.2.1 (fun e9 => by have e9 := Option.some.inj e9; (have e8 : w.heap.size = e.g := e9); exact hne.out e8), g2.cell hH.2.2.1 (fun e9 => by have e9 := Option.some.inj e9; (have e8 : w.heap.size = e.g := e9); exact hne.out e8), g2.cell hH.2.2.2.1 (fun e9 => by have e9 := Option.some.inj e9; (have e8 : w.heap.size = e.g := e9); exact hne.out e8), g2.cell hH.2.2.2.2.1 (fun e9 => by have e9 := Option.some.inj e9; (have e8 : w.heap.size = e.g := e9); exact hne.out e8), hH.2.2.2.2.2.grown g2 (Nat.le_trans hB hH.2.2.2.2.2.size) (fun q9 e9 => by have e9 := Option.some.inj e9; have := (AV.out.glt (lkA_mem hL.out).1).1; omega)⟩
  replace hH := hG
  clear hK K hG
  try simp only [Act.put, List.setIfInBounds_toArray, List.set_cons_zero, List.set_cons_succ]
  refine wpAnyH_done (by kernel_rfl) ?_ _
  refine NoPanic.normal ?_
  have BX := hH.2.2.2.2.2
  clear hH
  go_wp2_with fail
  go_returns
  exact ⟨rfl, _, A2, ⟨Has.here hL.out (by rw [(AV.out.row _ (lkA_mem hL.out).1).1]; exact hb) (i32_f32 _) (i32_f32 _), fun s i q h hn => (h.snoc _).there hn⟩, BX⟩

theorem release {base b : Nat} {M : List Ar9.E} (u : T9) (w : World) (hA : Air w base b M) (hB : base ≤ w.heap.size) (hj : BOk u.z) (hb : u.z.b < 64) :
    Calls Tryz.prog 122 #[.map (some b), tv u] w fun e w' => e = .returned (.tuple #[]) ∧ ∃ M', Air w' base b M' ∧ Moved M u.z.d.nm u.z.b (u.z.d.x, u.z.d.y) M' ∧ Below base w w' := by
  cases hl : lkA M u.z.d.nm with
  | none => exact releaseNew u w hA hB hj hb hl
  | some e => exact releaseOld u w hA hB hj hb e hl

set_option maxRecDepth 100000 in
set_option maxHeartbeats 4000000 in
theorem move {base b : Nat} {M : List Ar9.E} (u : T9) (w : World) (hA : Air w base b M) (hB : base ≤ w.heap.size) (hk : TOk u) (q : Int × Int) (hq : (-5000 ≤ q.1 ∧ q.1 ≤ 5000) ∧ (-5000 ≤ q.2 ∧ q.2 ≤ 5000)) (hh : Has M u.z.d.nm u.z.b q) (dx dy : Int) (hdx : -8 ≤ dx ∧ dx ≤ 8) (hdy : -8 ≤ dy ∧ dy ≤ 8) (d1 d2 : Nat) (i1 : I32 dx d1) (i2 : I32 dy d2) :
    Calls Tryz.prog 124 #[.map (some b), tv u, .complex .f32 d1 d2] w fun e w' => e = .returned (.tuple #[]) ∧ ∃ M' gx, Air w' base b M' ∧ Moved M u.z.d.nm u.z.b (plus q (plus (way u.z) (dx, dy))) M' ∧ Below base w w' ∧ (∃ y ∈ M, y.g = gx) ∧ w.grownBy w' (some gx) ∧ ∀ x ∈ M', ∃ y ∈ M, y.g = x.g := by
  obtain ⟨e, p, hl, hp, j1, j2⟩ := hh
  obtain ⟨⟨k1, k2⟩, hj, hb⟩ := hk
  have hw9 := way_le hj
  obtain ⟨s1, s2, e1, l1, l2⟩ := csum (P := Tryz.prog) .add 1 (Or.inl ⟨rfl, rfl⟩) (a := (way u.z).1) (b := (way u.z).2) (c := dx) (d := dy) (by omega) (by omega) (by omega) (by omega) k1 k2 i1 i2
  rw [Int.one_mul] at l1 l2
  obtain ⟨r1, r2, e2, m1, m2⟩ := csum (P := Tryz.prog) .add 1 (Or.inl ⟨rfl, rfl⟩) (a := q.1) (b := q.2) (c := (way u.z).1 + dx) (d := (way u.z).2 + dy) (by omega) (by omega) (by omega) (by omega) j1 j2 l1 l2
  rw [Int.one_mul] at m1 m2
  have E1 := Lib.hid e1
  have E2 := Lib.hid e2
  have M12 := Lib.hid (And.intro m1 m2)
  have HL := Lib.hid hl
  have hb2 : (u.z.b : Int) < 64 := by omega
  have hlt := (hA.glt (lkA_mem hl).1)
  have hne : w.heap.size ≠ e.g := by omega
  have hu : undef = Value.tuple #[] := rfl
  have K0 := Lib.hid (Bk.new w (tca u) 73)
  have A0 := Lib.hid (hA.alloc (.cells (tca u) 73))
  have B0 := Lib.hid (((Below.refl base w).alloc hB (.cells (tca u) 73)))
  have C0 := Lib.hid (((Below.refl w.heap.size w).alloc (Nat.le_refl _) (.cells (tca u) 73)))
  have P0 := Lib.hid hp
  clear hA i1 i2 j1 j2 k1 k2 l1 l2 m1 m2 e1 e2 hl hw9 hp hdx hdy hq
  go_enter Tryz.func124, Tryz.ntmps124
  go_wp2_with fail
  refine wp_still_tail 14 (by kernel_rfl) (by kernel_rfl) ?_
  intro V hV
  have AV := Lib.hid (show Air V base b M by rw [hV]; exact A0.out.drew)
  have KV := Lib.hid (show Bk V w.heap.size (tca u) 73 by rw [hV]; exact K0.out.drew)
  have BV := Lib.hid (show Below base w V by rw [hV]; exact B0.out.drew)
  have CV := Lib.hid (show Below w.heap.size w V by rw [hV]; exact C0.out.drew)
  have c0 := KV.out.cell (i := 0) rfl
  have c1 := KV.out.cell (i := 1) rfl
  have c8 := KV.out.cell (i := 8) rfl
  have q0 := AV.out.cell HL.out P0.out
  have LK := run_find ⟨_, _, AV.out, HL.out, rfl⟩
  have f0 := (air_there AV.out HL.out hb).2
  have x1 := E1.out
  have x2 := E2.out
  clear hV A0 K0 B0 C0
  simp only [List.take_succ_cons, List.take_zero, List.drop_succ_cons, List.drop_zero]
  repeat still_step
  refine wpStill_nil ?_
  clear c0 c1 c8 x1 x2 LK
  obtain ⟨A2, g2⟩ := AV.out.store HL.out hb r1 r2
  have A3 := Lib.hid A2
  have B3 := Lib.hid (BV.out.grown g2 (Nat.le_trans hB BV.out.size) (fun q9 e9 => by have e9 := Option.some.inj e9; omega))
  have G3 := Lib.hid (grown_trans (show w.grownBy V (some e.g) from ⟨CV.out.os, CV.out.tape, CV.out.output, CV.out.size, fun j hj _ => CV.out.block j hj⟩) g2)
  clear A2 g2
  go_wp2_with fail
  go_returns
  refine ⟨rfl, _, e.g, A3.out, ⟨Has.here HL.out (by rw [(AV.out.row _ (lkA_mem HL.out).1).1]; exact hb) M12.out.1 M12.out.2, fun s i q h hn => h.there hn⟩, B3.out, ⟨e, (lkA_mem HL.out).1, rfl⟩, G3.out, ?_⟩
  intro x hx
  obtain ⟨y, hy, rfl⟩ := List.mem_map.1 hx
  exact ⟨y, hy, (up_g _ _ _ _).symm⟩

theorem ms_yes {x : Int} (h : -4096 ≤ x ∧ x ≤ 4096) : ms x = true := by unfold ms; exact iw_iff.2 h
set_option maxRecDepth 100000 in
set_option maxHeartbeats 2000000 in
theorem placeOf {base b : Nat} {M : List Ar9.E} (u : T9) (w : World) (hA : Air w base b M) (hk : TOk u) (q : Int × Int) (hq : (-4096 ≤ q.1 ∧ q.1 ≤ 4096) ∧ (-4096 ≤ q.2 ∧ q.2 ≤ 4096)) (hh : Has M u.z.d.nm u.z.b q) :
    Calls Tryz.prog 83 #[.map (some b), tv u] w fun e w' => e = .returned (.agg #[.int .i64 q.1, .int .i64 q.2]) ∧ Below w.heap.size w w' := by
  obtain ⟨e, p, hl, hp, j1, j2⟩ := hh
  have CT := Lib.hid (fun (W : World) => (by have := Pw.toldPlace (a := q.1) (b := q.2) (by omega) (by omega) j1 j2 W; rw [ms_yes hq.1, ms_yes hq.2] at this; exact this.mono fun e9 w9 ⟨h1, h2⟩ => ⟨h1, by rw [h2]; exact (Below.refl _ _).alloc (Nat.le_refl _) _⟩ :
    Calls Tryz.prog 125 #[.complex .f32 p.1 p.2] W fun e w' => e = .returned (.tuple #[.agg #[.int .i64 q.1, .int .i64 q.2], .bool true]) ∧ Below W.heap.size W w'))
  have hb := hk.2.2
  have hb2 : (u.z.b : Int) < 64 := by omega
  have HL := Lib.hid hl
  have hlt := (hA.glt (lkA_mem hl).1)
  have A1 := Lib.hid ((hA.alloc (.cells (tca u) 73)).alloc (.cells #[.int .i64 0, .int .i64 0] 34))
  have q0 := A1.out.cell hl hp
  have K1 := (Bk.new w (tca u) 73).alloc (o := .cells #[.int .i64 0, .int .i64 0] 34)
  have n0 : ((w.alloc (.cells (tca u) 73)).alloc (.cells #[.int .i64 0, .int .i64 0] 34)).cell? ⟨w.heap.size, 0, none⟩ = some (.string u.z.d.nm) := K1.cell (i := 0) rfl
  have n1 : ((w.alloc (.cells (tca u) 73)).alloc (.cells #[.int .i64 0, .int .i64 0] 34)).cell? ⟨w.heap.size, 1, none⟩ = some (.int .i64 u.z.b) := K1.cell (i := 1) rfl
  clear hA K1 j1 j2 hl hp hq hk
  go_enter Tryz.func83, Tryz.ntmps83
  go_wp2_with (at_lookup; refine wpList_look _ rfl _ _ rfl base b M rfl A1.out u.z.d.nm rfl ?_; rw [HL.out]; unfold found sl)
  refine (CT.out _).mono ?_
  rintro e9 w9 ⟨rfl, hb9⟩
  have R0 := (Bk.new (w.alloc (.cells (tca u) 73)) #[.int .i64 0, .int .i64 0] 34).below hb9
  have hz : (w.alloc (.cells (tca u) 73)).heap.size = w.heap.size + 1 := by simp [go_sem]
  rw [hz] at R0
  have h8 : w.heap.size + 1 < w9.heap.size := R0.lt
  have b8 : Below w.heap.size w w9 := Below.trans (by go_grown) (hb9.mono (by simp; omega))
  have r0 := R0.cell (i := 0) rfl
  have r1 := R0.cell (i := 1) rfl
  have f0 := R0.frozen 0
  have f1 := R0.frozen 1
  have h7 : ∀ j, w.heap.size + 1 < w9.heap.size + j := fun j => by omega
  have HS0 := Lib.hid (cell_alloc (o := .cells #[.int .i64 q.1, .int .i64 q.2] 34) (set2_0 (P := .int .i64 q.1) (Q := .int .i64 q.2) (by rw [r0]; rfl)))
  have HS1 := Lib.hid (cell_alloc (o := .cells #[.int .i64 q.1, .int .i64 q.2] 34) (set2_1 (P := .int .i64 q.1) (Q := .int .i64 q.2) (by rw [r1]; rfl)))
  clear hb9 R0 hz q0 n0 n1
  go_wp2_with fail
  have s0 := HS0.out
  have s1 := HS1.out
  (try simp only [Exit.inBlock, Exit.then])
  refine bodyPost_ret (v := .agg #[.int .i64 q.1, .int .i64 q.2]) (by simp [results, Tryz.results83, go_sem, s0, s1]; try rfl) rfl ?_
  exact ⟨rfl, by go_grown⟩
end Go.Proofs.YtokncfhpmjohdabGreat.Am9
namespace Go.Proofs.YtokncfhpmjohdabGreat.Fo9
open Go.RowKit Go.ChangeShapes Go.WideShapes Go.WideElems Go.Deep Go.Proofs.YtokncfhpmjohdabGreat.Mem Go.Proofs.YtokncfhpmjohdabGreat.Rw Go.Proofs.YtokncfhpmjohdabGreat.P2 Go.Proofs.YtokncfhpmjohdabGreat.Bk Go.Proofs.YtokncfhpmjohdabGreat.Sp Go.Proofs.YtokncfhpmjohdabGreat.Sq Go.Proofs.YtokncfhpmjohdabGreat.Jt Go.Proofs.YtokncfhpmjohdabGreat.Cm Go.Proofs.YtokncfhpmjohdabGreat.Cx Go.Proofs.YtokncfhpmjohdabGreat.Pl
open Go.Proofs.YtokncfhpmjohdabGreat.Sv hiding D C G
open Go.Proofs.YtokncfhpmjohdabGreat.Am9 Go.Proofs.YtokncfhpmjohdabGreat.Tw9 Go.Proofs.YtokncfhpmjohdabGreat.Ar9 Go.Proofs.YtokncfhpmjohdabGreat.Pd9
open Go.Proofs.YtokncfhpmjohdabGreat.Wm (wd dr drs plus dr_bound drs_get drs_len)
open Go.Proofs.YtokncfhpmjohdabGreat.Gs (gls)
open Go.Proofs.YtokncfhpmjohdabGreat.Wc (infoC made_c zs2 zv zs2_len zs2_get)
open Go.Proofs.YtokncfhpmjohdabGreat.Pl9 (RowP pls pls_len pls_get infoP d0 pls_made)
open Go.Proofs.YtokncfhpmjohdabGreat.Dp (ha heightI)
set_option linter.unusedVariables false
set_option linter.unusedSimpArgs false


/-- The first of these drops have been taken to these ticks. -/
def At (M : List Ar9.E) (gs : List G) (ts : List T9) (f : Nat → Option Nat) : Prop := ∀ (k : Nat) (u : T9) (t : Nat), ts[k]? = some u → f k = some t → Has M u.z.d.nm u.z.b (pAt gs u.z t)
theorem apart_t {ts : List T9} (h : Apart (ts.map T9.z)) {i j : Nat} {a c : T9} (ha : ts[i]? = some a) (hc : ts[j]? = some c) (hij : i ≠ j) : ¬ (a.z.d.nm = c.z.d.nm ∧ a.z.b = c.z.b) :=
  apart_at h (by rw [List.getElem?_map, ha]; rfl) (by rw [List.getElem?_map, hc]; rfl) hij
theorem at_moved {M M' : List Ar9.E} {gs : List G} {ts : List T9} {f f' : Nat → Option Nat} (h : At M gs ts f) (hap : Apart (ts.map T9.z)) {j : Nat} {u : T9} (hu : ts[j]? = some u) {q : Int × Int} (hm : Moved M u.z.d.nm u.z.b q M') (hq : ∀ t, f' j = some t → q = pAt gs u.z t) (hf : ∀ k, k ≠ j → f' k = f k) : At M' gs ts f' := by
  intro k v t hv ht
  by_cases e : k = j
  · subst e
    rw [hu] at hv; cases hv
    rw [← hq t ht]; exact hm.1
  · rw [hf k e] at ht
    exact hm.2 _ _ _ (h k v t hv ht) (apart_t hap hv hu e)
theorem at_same {M : List Ar9.E} {gs : List G} {ts : List T9} {f f' : Nat → Option Nat} (h : At M gs ts f) {j : Nat} {u : T9} (hu : ts[j]? = some u) (hq : ∀ t, f' j = some t → ∃ t', f j = some t' ∧ pAt gs u.z t = pAt gs u.z t') (hf : ∀ k, k ≠ j → f' k = f k) : At M gs ts f' := by
  intro k v t hv ht
  by_cases e : k = j
  · subst e
    rw [hu] at hv; cases hv
    obtain ⟨t', h1, h2⟩ := hq t ht
    rw [h2]; exact h k u t' hu h1
  · rw [hf k e] at ht; exact h k v t hv ht
theorem at_to {M : List Ar9.E} {gs : List G} {ts : List T9} {f f' : Nat → Option Nat} (h : At M gs ts f) (hf : ∀ k, k < ts.length → f' k = f k) : At M gs ts f' := fun k v t hv ht => h k v t hv (by rw [← hf k (List.getElem?_eq_some_iff.1 hv).1]; exact ht)
/-- The first j at the start, no other one. -/
def f0 (j : Nat) : Nat → Option Nat := fun k => if k < j then some 0 else none
/-- The first j at the tick t + 1, the others at t. -/
def f1 (t j : Nat) : Nat → Option Nat := fun k => if k < j then some (t + 1) else some t
theorem f0_next (j k : Nat) (h : k ≠ j) : f0 (j + 1) k = f0 j k := by unfold f0; by_cases c : k < j <;> simp [c] <;> omega
theorem f1_next (t j k : Nat) (h : k ≠ j) : f1 t (j + 1) k = f1 t j k := by
  unfold f1
  by_cases c : k < j
  · rw [if_pos c, if_pos (by omega)]
  · rw [if_neg c, if_neg (by omega)]

set_option maxRecDepth 100000 in
set_option maxHeartbeats 2000000 in
theorem driftsOwn (A : Option Addr) (n c : Nat) (zs : List G) (H : Nat) (m : Nat) (w : World) (hn : zs.length = n) (hb : n ≤ 1048576) (hH : H ≤ w.heap.size) (hr : Rd w H A (gls zs)) (hw : wd zs = true) (hm : m ≤ 128) :
    Calls Tryz.prog 123 #[.slice A n c, .int .i64 0, .int .i64 (m : Int)] w fun e w' => ∃ g, e = .returned (.slice (some ⟨g, 0, none⟩) m m) ∧ w.heap.size ≤ g ∧ w'.ownsRow w.heap.size 71 1 (.slice (some ⟨g, 0, none⟩) 128 128) 128 (zs2 (drs zs 0 128)) ∧ Below w.heap.size w w' := by
  have C := Lib.hid (Wc.spreadOut A n c zs H w hn hb hH hr hw)
  have a0 : (0 : Int) ≤ (m : Int) := by omega
  have a2 : (m : Int) ≤ 128 := by omega
  have a3 : (m : Int) ≤ ((128 : Nat) : Int) := by omega
  clear hr hn hw hb
  go_enter Tryz.func123, Tryz.ntmps123
  go_wp2_with fail
  refine C.out.mono ?_
  rintro e u ⟨g, rfl, o1, b1⟩
  rw [drs_len] at o1 ⊢
  have O1 := Lib.hid o1
  have B1 := Lib.hid b1
  have hg : w.heap.size ≤ g := (o1.lt g rfl).1
  clear o1 b1
  by_cases h0 : m = 0
  · subst h0
    go_wp2_with fail
    go_ret
    exact ⟨g, rfl, hg, O1.out, B1.out⟩
  · have hm1 : ¬ (m : Int) = 0 := by omega
    go_wp2_with fail
    go_ret
    exact ⟨g, rfl, hg, O1.out, B1.out⟩

set_option maxRecDepth 100000 in
set_option maxHeartbeats 4000000 in
theorem flown (A2 : Option Addr) (n2 c2 : Nat) (gs : List G) (g n c : Nat) (ts : List T9) (t : Nat) (w : World) (hn : ts.length = n) (hnb : n ≤ 512) (ht : t ≤ 128) (hok : ∀ u ∈ ts, TOk u) (hap : Apart (ts.map T9.z)) (hr : Rd w w.heap.size (some ⟨g, 0, none⟩) (tls ts)) (hw : wd gs = true) (hn2 : gs.length = n2) (hb2 : n2 ≤ 1048576) (hr2 : Rd w w.heap.size A2 (gls gs)) :
    Calls Tryz.prog 82 #[.slice A2 n2 c2, .slice (some ⟨g, 0, none⟩) n c, .int .i64 (t : Int)] w fun e w' => ∃ b M, e = .returned (.map (some b)) ∧ Air w' w.heap.size b M ∧ At M gs ts (fun _ => some t) ∧ Below w.heap.size w w' := by
  have HR := Lib.hid hr
  have HR2 := Lib.hid hr2
  have HN := Lib.hid hn
  have HK := Lib.hid hok
  have HA := Lib.hid hap
  have HW := Lib.hid hw
  have CD := Lib.hid (fun (W : World) (h : Below w.heap.size w W) => driftsOwn A2 n2 c2 gs w.heap.size t W hn2 hb2 h.size (hr2.below h) hw ht)
  have A0 := Lib.hid (Air.made w (Nat.le_refl w.heap.size))
  have B0 := Lib.hid ((Below.refl w.heap.size w).alloc (Nat.le_refl _) (.map #[] 0))
  have T0 := Lib.hid (show At [] gs ts (f0 0) from fun k u t h1 h2 => by unfold f0 at h2; rw [if_neg (by omega)] at h2; cases h2)
  have hmm := @run_makeMap Tryz.prog
  clear hr hn hok hap hw hr2 hn2 hb2
  go_enter Tryz.func82, Tryz.ntmps82
  go_wp2_with fail
  go_loopw [17] (fun i wr => ∃ (k : Nat) (M : List Ar9.E), k ≤ n ∧ i = .int .i64 k ∧ Hid (Air wr w.heap.size w.heap.size M) ∧ Hid (At M gs ts (f0 k)) ∧ Hid (Below w.heap.size w wr)) (fun i _ => n - (intOf i).toNat)
  case atStart => exact ⟨0, [], Nat.zero_le _, rfl, A0, T0, B0⟩
  case round =>
    obtain ⟨k, M, hk, rfl, AK, TK, BK⟩ := hrel
    clear A0 T0 B0
    have hbs := BK.out.size
    by_cases hlt : k < n
    · obtain ⟨u, hu9⟩ : ∃ u, ts[k]? = some u := ⟨_, List.getElem?_eq_getElem (by rw [HN.out]; exact hlt)⟩
      obtain ⟨x0, x1, x2, x3, x4, x5, x6, x7, x8⟩ := cR (HR.out.below BK.out) hu9
      have hko := HK.out u (List.mem_of_getElem? hu9)
      have HU := Lib.hid hu9
      have B1 := Lib.hid (BK.out.alloc hbs (.cells (tca u) 73))
      have CR := Lib.hid (release u (wr.alloc (.cells (tca u) 73)) (AK.out.alloc _) (by simp; omega) hko.2.1 hko.2.2)
      clear hu9 hko AK BK
      go_wp2_with fail
      refine CR.out.mono ?_
      rintro e w2 ⟨rfl, M2, hA2, hM2, hb⟩
      have A2 := Lib.hid hA2
      have T2 := Lib.hid (at_moved (f' := f0 (k + 1)) TK.out HA.out HU.out hM2 (fun t ht => by unfold f0 at ht; rw [if_pos (by omega)] at ht; cases ht; rfl) (fun j hj => f0_next k j hj))
      have B2 := Lib.hid (B1.out.trans hb)
      clear hA2 hM2 hb CR x0 x1 x2 x3 x4 x5 x6 x7 x8 B1 TK HU hbs
      go_wp2_with fail
      go_roundw
      case rel => exact ⟨k + 1, M2, by omega, by go_num, A2, T2, B2⟩
      case measure => simp [intOf]; omega
    · obtain rfl : n = k := by omega
      have T1 := Lib.hid (show At M gs ts (f1 0 0) from at_to TK.out fun j hj => by rw [show f0 n j = some 0 from if_pos (by have := HN.out; omega)]; exact if_neg (by omega))
      have CD9 := Lib.hid (CD.out wr BK.out)
      clear TK CD
      go_wp2_with fail
      refine CD9.out.mono ?_
      rintro e w3 ⟨gd, rfl, hgd, od, hb⟩
      have DR := Lib.hid (owns_base od (Nat.le_refl gd))
      have A3 := Lib.hid (AK.out.below hb)
      have L3 := Lib.hid (fun (e : Ar9.E) (he : e ∈ M) => Nat.lt_of_lt_of_le (AK.out.glt he).2 hgd)
      have B3 := Lib.hid (BK.out.trans (hb.mono hbs))
      have hgd0 : w.heap.size ≤ gd := Nat.le_trans hbs hgd
      clear hb od hgd CD9 AK BK hbs
      go_wp2_with fail
      obtain ⟨wo, rfl⟩ : ∃ wo : World, wo = w3 := ⟨_, rfl⟩
      go_loopw [29] (fun i wr => ∃ (q : Nat) (M : List Ar9.E), q ≤ t ∧ i = .int .i64 q ∧ Hid (Air wr w.heap.size w.heap.size M) ∧ Hid (At M gs ts (f1 q 0)) ∧ Hid (∀ e ∈ M, e.g < gd) ∧ Hid (wr.ownsRow gd 71 1 (.slice (some ⟨gd, 0, none⟩) 128 128) 128 (zs2 (drs gs 0 128))) ∧ Hid (Below w.heap.size w wr)) (fun i _ => t - (intOf i).toNat)
      case atStart => exact ⟨0, M, Nat.zero_le _, rfl, A3, T1, L3, DR, B3⟩
      case round =>
        obtain ⟨q, M4, hq, rfl, A4, T4, L4, D4, B4⟩ := hrel
        clear A3 T1 L3 DR B3
        have hbs := B4.out.size
        by_cases hlt : q < t
        · have hp := drs_get (zs := gs) (a := 0) (m := 128) (j := q) (by omega)
          rw [Nat.zero_add] at hp
          have hd := dr_bound HW.out (q : Int)
          obtain ⟨dx, hdx⟩ : ∃ x, (dr gs (q : Int)).1 = x := ⟨_, rfl⟩
          obtain ⟨dy, hdy⟩ : ∃ x, (dr gs (q : Int)).2 = x := ⟨_, rfl⟩
          have ed : dr gs (q : Int) = (dx, dy) := by rw [← hdx, ← hdy]
          rw [ed] at hp
          rw [hdx, hdy] at hd
          have cD := (D4.out.cellAt q (by omega)).trans (zs2_get hp)
          have HD := Lib.hid (And.intro ed hd)
          obtain ⟨d1, hd1⟩ : ∃ x, Meas.f32 dx = x := ⟨_, rfl⟩
          obtain ⟨d2, hd2⟩ : ∃ x, Meas.f32 dy = x := ⟨_, rfl⟩
          have I1 := Lib.hid (show I32 dx d1 ∧ I32 dy d2 by rw [← hd1, ← hd2]; exact ⟨i32_f32 _, i32_f32 _⟩)
          unfold zv at cD
          simp only [hd1, hd2] at cD
          clear hp hd hdx hdy ed hd1 hd2
          go_wp2_with fail
          clear cD
          obtain ⟨wi, rfl⟩ : ∃ wi : World, wi = wr := ⟨_, rfl⟩
          go_loopw [36] (fun i wr => ∃ (k : Nat) (M : List Ar9.E), k ≤ n ∧ i = .int .i64 k ∧ Hid (Air wr w.heap.size w.heap.size M) ∧ Hid (At M gs ts (f1 q k)) ∧ Hid (∀ e ∈ M, e.g < gd) ∧ Hid (wr.ownsRow gd 71 1 (.slice (some ⟨gd, 0, none⟩) 128 128) 128 (zs2 (drs gs 0 128))) ∧ Hid (Below w.heap.size w wr)) (fun i _ => n - (intOf i).toNat)
          case atStart => exact ⟨0, M4, Nat.zero_le _, rfl, A4, T4, L4, D4, B4⟩
          case round =>
            obtain ⟨k, M5, hk, rfl, A5, T5, L5, D5, B5⟩ := hrel
            clear A4 T4 L4 D4 B4 hbs
            have hbs := B5.out.size
            by_cases hlk : k < n
            · obtain ⟨u, hu9⟩ : ∃ u, ts[k]? = some u := ⟨_, List.getElem?_eq_getElem (by rw [HN.out]; exact hlk)⟩
              obtain ⟨x0, x1, x2, x3, x4, x5, x6, x7, x8⟩ := cR (HR.out.below B5.out) hu9
              have hko := HK.out u (List.mem_of_getElem? hu9)
              have HU := Lib.hid hu9
              have CI := Lib.hid (fun (W : World) => isInAir u (q : Int) W)
              have A6 := Lib.hid (A5.out.alloc (.cells (tca u) 73))
              have B6 := Lib.hid (B5.out.alloc hbs (.cells (tca u) 73))
              have D6 := Lib.hid (D5.out.alloc (.cells (tca u) 73))
              have KU := Lib.hid (Bk.new wr (tca u) 73)
              have hpq := pAt_le (gs := gs) HW.out hko.2.1 q
              have HH := Lib.hid (T5.out k u q hu9 (by unfold f1; rw [if_neg (by omega)]))
              have CM := Lib.hid (fun (W : World) (h : Air W w.heap.size w.heap.size M5) (hB : w.heap.size ≤ W.heap.size) => Am9.move u W h hB hko (pAt gs u.z q) (by omega) HH.out dx dy HD.out.2.1 HD.out.2.2 d1 d2 I1.out.1 I1.out.2)
              obtain ⟨ia, hia⟩ : ∃ r, inA u.z (q : Int) = r := ⟨_, rfl⟩
              rw [hia] at CI
              clear hu9 hko hpq HH A5 B5 D5
              go_wp2_with fail
              refine (CI.out _).mono ?_
              rintro e w6 ⟨rfl, hb⟩
              have A7 := Lib.hid (A6.out.below hb)
              have B7 := Lib.hid (B6.out.trans (hb.mono B6.out.size))
              have D7 := Lib.hid (owns_below D6.out hb)
              have KW := Lib.hid (KU.out.below hb)
              clear hb A6 B6 D6 KU CI x0 x1 x2 x3 x4 x5 x6 x7 x8
              cases ia
              · have T6 := Lib.hid (at_same (f' := f1 q (k + 1)) T5.out HU.out (fun t ht => by unfold f1 at ht; rw [if_pos (by omega)] at ht; cases ht; exact ⟨q, by unfold f1; rw [if_neg (by omega)], pAt_no hia⟩) (fun j hj => f1_next q k j hj))
                clear hia T5 CM KW
                go_wp2_with fail
                go_roundw
                case rel => exact ⟨k + 1, M5, by omega, by go_num, A7, T6, L5, D7, B7⟩
                case measure => simp [intOf]; omega
              · have y0 := KW.out.cell (i := 0) rfl
                have y1 := KW.out.cell (i := 1) rfl
                have y2 := KW.out.cell (i := 2) rfl
                have y3 := KW.out.cell (i := 3) rfl
                have y4 := KW.out.cell (i := 4) rfl
                have y5 := KW.out.cell (i := 5) rfl
                have y6 := KW.out.cell (i := 6) rfl
                have y7 := KW.out.cell (i := 7) rfl
                have y8 := KW.out.cell (i := 8) rfl
                have CM2 := Lib.hid (CM.out w6 A7.out B7.out.size)
                have PY := Lib.hid (show plus (pAt gs u.z q) (plus (way u.z) (dx, dy)) = pAt gs u.z (q + 1) by rw [pAt_yes hia, HD.out.1])
                clear hia CM
                go_wp2_with fail
                refine CM2.out.mono ?_
                rintro e w8 ⟨rfl, M8, gx, hA8, hM8, hb, ⟨y, hy, hgy⟩, hg8, hs8⟩
                have A8 := Lib.hid hA8
                have T8 := Lib.hid (at_moved (f' := f1 q (k + 1)) T5.out HA.out HU.out hM8 (fun t ht => by unfold f1 at ht; rw [if_pos (by omega)] at ht; cases ht; exact PY.out) (fun j hj => f1_next q k j hj))
                have L8 := Lib.hid (show ∀ e ∈ M8, e.g < gd from fun e he => by obtain ⟨y', hy', e'⟩ := hs8 e he; rw [← e']; exact L5.out y' hy')
                have D8 := Lib.hid (owns_grown D7.out hg8 (fun k9 hk9 e9 => by have hk9 : gd = k9 := Option.some.inj hk9; have e9 : gx = k9 := Option.some.inj e9; have := L5.out y hy; omega))
                have B8 := Lib.hid (B7.out.trans hb)
                clear hA8 hM8 hb hy hgy hg8 hs8 CM2 y0 y1 y2 y3 y4 y5 y6 y7 y8 A7 B7 D7 KW T5 L5 PY
                go_wp2_with fail
                go_roundw
                case rel => exact ⟨k + 1, M8, by omega, by go_num, A8, T8, L8, D8, B8⟩
                case measure => simp [intOf]; omega
            · obtain rfl : n = k := by omega
              have T6 := Lib.hid (show At M5 gs ts (f1 (q + 1) 0) from at_to T5.out fun j hj => by rw [show f1 q n j = some (q + 1) from if_pos (by have := HN.out; omega)]; exact if_neg (by omega))
              clear T5
              go_wp2_with fail
              go_roundw
              case rel => exact ⟨q + 1, M5, by omega, by go_num, A5, T6, L5, D5, B5⟩
              case measure => simp [intOf]; omega
        · obtain rfl : q = t := by omega
          have T5 := Lib.hid (show At M4 gs ts (fun _ => some q) from at_to T4.out fun j hj => (show f1 q 0 j = some q from if_neg (by omega)).symm)
          clear T4
          go_wp2_with fail
          go_ret
          exact ⟨w.heap.size, M4, rfl, A4.out, T5.out, B4.out⟩
end Go.Proofs.YtokncfhpmjohdabGreat.Fo9
