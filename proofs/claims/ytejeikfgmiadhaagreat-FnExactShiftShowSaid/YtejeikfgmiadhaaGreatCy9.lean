/- The copy of a show and ShiftShow, of the model. -/
import Derived.Test.YtejeikfgmiadhaaGreatTh9
import Derived.Test.YtejeikfgmiadhaaGreatM23
import Derived.Maps.AppendAt
namespace Go.Proofs.YtejeikfgmiadhaaGreat.Cy9
open Go.RowKit Go.ChangeShapes Go.WideShapes Go.WideElems Go.Deep Go.Proofs.YtejeikfgmiadhaaGreat.Mem Go.Proofs.YtejeikfgmiadhaaGreat.Rw Go.Proofs.YtejeikfgmiadhaaGreat.P2 Go.Proofs.YtejeikfgmiadhaaGreat.Bk Go.Proofs.YtejeikfgmiadhaaGreat.Sp Go.Proofs.YtejeikfgmiadhaaGreat.Sq Go.Proofs.YtejeikfgmiadhaaGreat.Jt Go.Proofs.YtejeikfgmiadhaaGreat.St9 Go.Proofs.YtejeikfgmiadhaaGreat.Ta9 Go.Proofs.YtejeikfgmiadhaaGreat.Th9
open Go.Proofs.YtejeikfgmiadhaaGreat.Sv hiding D C G
open Go.Proofs.YtejeikfgmiadhaaGreat.Ds (sb)
open Go.Proofs.YtejeikfgmiadhaaGreat.Ig (rig)
set_option linter.unusedVariables false
set_option linter.unusedSimpArgs false

open Go.Proofs.YtejeikfgmiadhaaGreat.Sk (shZ shR)
open Go.Proofs.YtejeikfgmiadhaaGreat.Gs
theorem append_gust (w : World) (base g n c : Nat) (xs : List Value) (hown : w.ownsRow base 100 3 (.slice (some ⟨g, 0, none⟩) n c) n xs) (a : Addr) (m c2 : Nat) (news : List Value) (hl : news.length = m * 3) (hnews : ∀ j u, news[j]? = some u → w.cell? (a.add j) = some u) (h1 : ∀ u ∈ news, u.oneCell' = true) (hs : n + m ≤ 2097152) (hbase : base ≤ w.heap.size) :
    ∃ (g' c' : Nat) (w' : World), (Builtin.append_ #[32, 32] 32 #[.slice (some ⟨g, 0, none⟩) n c, .slice (some a) m c2]).run Tryz.prog w = .ok (.slice (some ⟨g', 0, none⟩) (n + m) c') w' ∧ w'.ownsRow base 100 3 (.slice (some ⟨g', 0, none⟩) (n + m) c') (n + m) (xs ++ news) ∧ w.grownBy w' (some g) := by
  obtain ⟨i0, hi, hz0, hz1, hz2⟩ := info_of infoGust
  obtain ⟨v', w', hr, h2, h3, h4, _⟩ := run_append_own_at (P := Tryz.prog) w base 32 32 100 i0 (.agg #[.int .i64 0, .int .i64 0, .int .i64 0]) 3 24 Tryz.underlying32 hi hz0 hz1 hz2 rfl (by decide) _ n xs hown a m c2 news hl hnews h1 (by unfold maxLen; omega) (by omega) hbase
  have hg : ∃ g c, v' = .slice (some ⟨g, 0, none⟩) (n + m) c := by
    rcases h2.2 with ⟨e1, _⟩ | ⟨g, cap, cur, e1, _⟩
    · exact absurd (h4.1 e1).1 (by intro h; cases h)
    · exact ⟨g, cap, e1⟩
  obtain ⟨g', c', rfl⟩ := hg
  exact ⟨g', c', w', hr, h2, h3⟩
theorem step_append_gust {ops : Array Oper} {o : Oper} {a : Act} {w w' : World} {K : Act → World → Prop} {Q : Exit → Act → World → Prop} {E : Prop}
    (hg : o.guard = none) (s x : Operand) (hop : o.op = Op.call { callee := Callee.builtin Builtin.append, args := #[s, x], argTypes := #[32, 32] }) (hty : o.type = 32)
    (v v2 v' : Value) (hs : a.eval s = v) (hx : a.eval x = v2) (hrun : (Builtin.append_ #[32, 32] 32 #[v, v2]).run Tryz.prog w = .ok v' w') (hK : K (a.put o.dst v') w') :
    if Region.wanted o (yielded ops a.tmps) = true then Oper.wp Tryz.prog o a w K Q else E := by
  have hw : Region.wanted o (yielded ops a.tmps) = true := by simp [Region.wanted, hg]
  rw [if_pos hw]
  unfold Oper.wp
  simp [execOp, hop, hty, resolve, invoke, builtin, hs, hx, hrun, Result.andThen]
  exact hK
/-- What comes back of a copy: rows of the call's own, in no order. -/
def RowY (w : World) (n0 n1 n2 : Nat) (T : Int) (ds : List D) (cs : List C) (gs : List G) (e : Ending) (w' : World) : Prop :=
  ∃ g0 c0 g1 c1 g2 c2, e = .returned (sv (some ⟨g0, 0, none⟩) n0 c0 (some ⟨g1, 0, none⟩) n1 c1 (some ⟨g2, 0, none⟩) n2 c2 T) ∧
    w'.ownsRow w.heap.size 117 8 (.slice (some ⟨g0, 0, none⟩) n0 c0) n0 (Dd.dls ds) ∧ w'.ownsRow w.heap.size 97 4 (.slice (some ⟨g1, 0, none⟩) n1 c1) n1 (Cd.dls cs) ∧ w'.ownsRow w.heap.size 100 3 (.slice (some ⟨g2, 0, none⟩) n2 c2) n2 (Gs.gls gs) ∧ Below w.heap.size w w'

set_option maxRecDepth 100000 in
set_option maxHeartbeats 8000000 in
theorem l9Copy (a0 : Addr) (n0 c0 : Nat) (a1 : Addr) (n1 c1 : Nat) (a2 : Addr) (n2 c2 : Nat) (T : Int) (ds : List D) (cs : List C) (gs : List G) (w : World) (hf : Fit n0 n1 n2 ds cs gs) (hr : SR w (some a0) (some a1) (some a2) ds cs gs) :
    Calls Tryz.prog 52 #[sv (some a0) n0 c0 (some a1) n1 c1 (some a2) n2 c2 T] w (RowY w n0 n1 n2 T ds cs gs) := by
  have HS := Lib.hid hr
  have hu : undef = Value.tuple #[] := rfl
  have HN : gs.length = n2 := hf.2.2.1
  have hm2 : n2 ≤ 1048576 := hf.2.2.2
  have HCG := Lib.hid (show ∀ (W : World), SR W (some a0) (some a1) (some a2) ds cs gs → ∀ j u, (gls gs)[j]? = some u → W.cell? (a2.add j) = some u from by
    intro W h j u hj
    obtain ⟨hl, _⟩ := List.getElem?_eq_some_iff.1 hj
    obtain ⟨b, o, e, _, hc⟩ := h.r2.get hl
    injection e with e
    subst e
    rw [Addr.add_lit]; exact hc j u hj)
  have H1 : ∀ u ∈ gls gs, u.oneCell' = true := by
    intro u hu
    obtain ⟨z, _, hz⟩ := List.mem_flatMap.1 hu
    simp [gc] at hz
    rcases hz with rfl | rfl | rfl <;> rfl
  have P0 := Lib.hid (fun (W : World) (h : SR W (some a0) (some a1) (some a2) ds cs gs) => (by
    have := Rm.copiesD a0 n0 c0 ds W hf.1.1 hf.1.2 h.r0; unfold Mo.RowD at this; rw [hf.1.1] at this; exact this :
    Calls Tryz.prog 94 #[.slice (some a0) n0 c0] W (fun e w' => ∃ g c, e = .returned (.slice (some ⟨g, 0, none⟩) n0 c) ∧ w'.ownsRow W.heap.size 117 8 (.slice (some ⟨g, 0, none⟩) n0 c) n0 (Dd.dls ds) ∧ Below W.heap.size W w')))
  have P1 := Lib.hid (fun (W : World) (h : SR W (some a0) (some a1) (some a2) ds cs gs) => (by
    have := Cr.copiesC a1 n1 c1 cs W hf.2.1.1 hf.2.1.2 h.r1; unfold Oc.RowC at this; rw [hf.2.1.1] at this; exact this :
    Calls Tryz.prog 95 #[.slice (some a1) n1 c1] W (fun e w' => ∃ g c, e = .returned (.slice (some ⟨g, 0, none⟩) n1 c) ∧ w'.ownsRow W.heap.size 97 4 (.slice (some ⟨g, 0, none⟩) n1 c) n1 (Cd.dls cs) ∧ Below W.heap.size W w')))
  have hz : (w.alloc (.cells (sc (some a0) n0 c0 (some a1) n1 c1 (some a2) n2 c2 T) 34)).heap.size = w.heap.size + 1 := by simp [go_sem]
  have B0a := (Below.refl w.heap.size w).alloc (Nat.le_refl _) (.cells (sc (some a0) n0 c0 (some a1) n1 c1 (some a2) n2 c2 T) 34)
  have B0 := Lib.hid (B0a.alloc B0a.size (.cells zc 34))
  have K0 := (Bk.new w (sc (some a0) n0 c0 (some a1) n1 c1 (some a2) n2 c2 T) 34).alloc (o := .cells zc 34)
  have KR0 := Bk.new (w.alloc (.cells (sc (some a0) n0 c0 (some a1) n1 c1 (some a2) n2 c2 T) 34)) zc 34
  rw [hz] at KR0
  have KR := Lib.hid KR0.drew
  have hb9 : w.heap.size < w.heap.size + 1 := by omega
  have b0 := K0.cell (i := 0) rfl
  have b1 := K0.cell (i := 1) rfl
  have b2 := K0.cell (i := 2) rfl
  have b3 := K0.cell (i := 3) rfl
  clear hf hr hz B0a KR0 K0
  go_enter Tryz.func52, Tryz.ntmps52
  go_upto_region 1 with fail
  refine wp_region_noPanic ?_
  refine wp_region_held_drew (S := (fun w' => w'.cell? ⟨w.heap.size, 0, none⟩ = some (.slice (some a0) n0 c0) ∧ w'.cell? ⟨w.heap.size, 1, none⟩ = some (.slice (some a1) n1 c1) ∧ w'.cell? ⟨w.heap.size, 2, none⟩ = some (.slice (some a2) n2 c2) ∧ w'.cell? ⟨w.heap.size, 3, none⟩ = some (.int .i64 T) ∧ Below w.heap.size w w')) (by kernel_rfl) ?_ (fun hH => ?_)
  · exact ⟨b0, b1, b2, b3, B0.out.drew⟩
  clear b0 b1 b2 b3 B0
  refine wpAnyH_take (i := 0) (oi := { dst := some 3, op := _, type := _, pos := _, after := _, guard := _ }) (v := ?_) rfl (by kernel_rfl) (by kernel_rfl) (by kernel_rfl) (fun _ _ _ h => h) (Or.inl ⟨by rfl, ?_⟩) hH ?_
  rotate_left 1
  · intro W hSw
    (try dsimp only at hSw)
    go_simp
    (try with_reducible rfl)
  try simp only [Act.put, List.setIfInBounds_toArray, List.set_cons_zero, List.set_cons_succ]
  refine wpAnyH_take (i := 1) (oi := { dst := some 4, op := _, type := _, pos := _, after := _, guard := _ }) (v := ?_) rfl (by kernel_rfl) (by kernel_rfl) (by kernel_rfl) (fun _ _ _ h => h) (Or.inl ⟨by rfl, ?_⟩) hH ?_
  rotate_left 1
  · intro W hSw
    (try dsimp only at hSw)
    go_simp
    (try with_reducible rfl)
  try simp only [Act.put, List.setIfInBounds_toArray, List.set_cons_zero, List.set_cons_succ]
  refine wpAnyH_take (i := 3) (oi := { dst := some 6, op := _, type := _, pos := _, after := _, guard := _ }) (v := ?_) rfl (by kernel_rfl) (by kernel_rfl) (by kernel_rfl) (fun _ _ _ h => h) (Or.inl ⟨by rfl, ?_⟩) hH ?_
  rotate_left 1
  · intro W hSw
    (try dsimp only at hSw)
    go_simp
    (try with_reducible rfl)
  try simp only [Act.put, List.setIfInBounds_toArray, List.set_cons_zero, List.set_cons_succ]
  refine wpAnyH_take (i := 4) (oi := { dst := some 7, op := _, type := _, pos := _, after := _, guard := _ }) (v := ?_) rfl (by kernel_rfl) (by kernel_rfl) (by kernel_rfl) (fun _ _ _ h => h) (Or.inl ⟨by rfl, ?_⟩) hH ?_
  rotate_left 1
  · intro W hSw
    (try dsimp only at hSw)
    go_simp
    (try with_reducible rfl)
  try simp only [Act.put, List.setIfInBounds_toArray, List.set_cons_zero, List.set_cons_succ]
  refine wpAnyH_take (i := 7) (oi := { dst := some 10, op := _, type := _, pos := _, after := _, guard := _ }) (v := ?_) rfl (by kernel_rfl) (by kernel_rfl) (by kernel_rfl) (fun _ _ _ h => h) (Or.inl ⟨by rfl, ?_⟩) hH ?_
  rotate_left 1
  · intro W hSw
    (try dsimp only at hSw)
    go_simp
    (try with_reducible rfl)
  try simp only [Act.put, List.setIfInBounds_toArray, List.set_cons_zero, List.set_cons_succ]
  refine wpAnyH_take (i := 8) (oi := { dst := some 11, op := _, type := _, pos := _, after := _, guard := _ }) (v := ?_) rfl (by kernel_rfl) (by kernel_rfl) (by kernel_rfl) (fun _ _ _ h => h) (Or.inl ⟨by rfl, ?_⟩) hH ?_
  rotate_left 1
  · intro W hSw
    (try dsimp only at hSw)
    go_simp
    (try with_reducible rfl)
  try simp only [Act.put, List.setIfInBounds_toArray, List.set_cons_zero, List.set_cons_succ]
  refine wpAnyH_take (i := 10) (oi := { dst := some 13, op := _, type := _, pos := _, after := _, guard := _ }) (v := ?_) rfl (by kernel_rfl) (by kernel_rfl) (by kernel_rfl) (fun _ _ _ h => h) (Or.inl ⟨by rfl, ?_⟩) hH ?_
  rotate_left 1
  · intro W hSw
    (try dsimp only at hSw)
    go_simp
    (try with_reducible rfl)
  try simp only [Act.put, List.setIfInBounds_toArray, List.set_cons_zero, List.set_cons_succ]
  refine wpAnyH_take (i := 11) (oi := { dst := some 14, op := _, type := _, pos := _, after := _, guard := _ }) (v := ?_) rfl (by kernel_rfl) (by kernel_rfl) (by kernel_rfl) (fun _ _ _ h => h) (Or.inl ⟨by rfl, ?_⟩) hH ?_
  rotate_left 1
  · intro W hSw
    (try dsimp only at hSw)
    go_simp
    (try with_reducible rfl)
  try simp only [Act.put, List.setIfInBounds_toArray, List.set_cons_zero, List.set_cons_succ]
  refine wpAnyH_ready (rs := [2, 6]) (by kernel_rfl) (by simp) (AllReadyH.cons rfl (fun K hK => ?_) (AllReadyH.cons rfl (fun K hK => ?_) (AllReadyH.nil)))
  · go_simp
    go_at_call 94; ((with_reducible refine (P0.out _ (HS.out.below hH.2.2.2.2)).mono ?_); rintro e r0 ⟨g0, d0, rfl, o0, hb0⟩); go_wp2_with fail
    have at_0 : (((w.alloc (.cells (sc (some a0) n0 c0 (some a1) n1 c1 (some a2) n2 c2 T) 34)).alloc (.cells zc 34)).drew).heap.size ≤ g0 := own_at o0
    have KRn := Lib.hid (KR.out.below hb0)
    clear KR
    have KR := KRn
    clear KRn
    have O0 := Lib.hid (owns_base o0 (Nat.le_trans hH.2.2.2.2.size at_0))
    clear o0
    refine hK.out _ _ ?_ (fun hG => ?_)
    · exact ⟨cell_below hb0 hH.1, cell_below hb0 hH.2.1, cell_below hb0 hH.2.2.1, cell_below hb0 hH.2.2.2.1, hH.2.2.2.2.trans (hb0.mono hH.2.2.2.2.size)⟩
    replace hH := hG
    clear hK K hG
    try simp only [Act.put, List.setIfInBounds_toArray, List.set_cons_zero, List.set_cons_succ]
    refine wpAnyH_ready (rs := [5, 6]) (by kernel_rfl) (by simp) (AllReadyH.cons rfl (fun K hK => ?_) (AllReadyH.cons rfl (fun K hK => ?_) (AllReadyH.nil)))
    · go_simp
      go_at_call 95; ((with_reducible refine (P1.out _ (HS.out.below hH.2.2.2.2)).mono ?_); rintro e r1 ⟨g1, d1, rfl, o1, hb1⟩); go_wp2_with fail
      have lt_O0_1 := own_lt O0.out
      have at_1 : r0.heap.size ≤ g1 := own_at o1
      have KRn := Lib.hid (KR.out.below hb1)
      clear KR
      have KR := KRn
      clear KRn
      have O0n := Lib.hid (owns_below O0.out hb1)
      clear O0
      have O0 := O0n
      clear O0n
      have O1 := Lib.hid (owns_base o1 (Nat.le_trans hH.2.2.2.2.size at_1))
      clear o1
      refine hK.out _ _ ?_ (fun hG => ?_)
      · exact ⟨cell_below hb1 hH.1, cell_below hb1 hH.2.1, cell_below hb1 hH.2.2.1, cell_below hb1 hH.2.2.2.1, hH.2.2.2.2.trans (hb1.mono hH.2.2.2.2.size)⟩
      replace hH := hG
      clear hK K hG
      try simp only [Act.put, List.setIfInBounds_toArray, List.set_cons_zero, List.set_cons_succ]
      refine wpAnyH_ready (rs := [6]) (by kernel_rfl) (by simp) (AllReadyH.cons rfl (fun K hK => ?_) (AllReadyH.nil))
      go_simp
      have hbA : Below r1.heap.size r1 (r1.alloc (.cells #[] 100)) := (Below.refl _ _).alloc (Nat.le_refl _) (.cells #[] 100)
      have lt_O0_A := own_lt O0.out
      have lt_O1_A := own_lt O1.out
      have lt_A := KR.out.lt
      have le_A := hH.2.2.2.2.size
      have KRn := Lib.hid (KR.out.below hbA)
      clear KR
      have KR := KRn
      clear KRn
      have O0n := Lib.hid (owns_below O0.out hbA)
      clear O0
      have O0 := O0n
      clear O0n
      have O1n := Lib.hid (owns_below O1.out hbA)
      clear O1
      have O1 := O1n
      clear O1n
      have RL := Lib.hid (World.ownsRow_lit (base := w.heap.size) (e := 100) (size := 3) r1 #[] 0 le_A (Nat.zero_le _) rfl)
      refine hK.out _ _ ?_ (fun hG => ?_)
      · exact ⟨cell_below hbA hH.1, cell_below hbA hH.2.1, cell_below hbA hH.2.2.1, cell_below hbA hH.2.2.2.1, hH.2.2.2.2.trans (hbA.mono hH.2.2.2.2.size)⟩
      replace hH := hG
      clear hK K hG
      try simp only [Act.put, List.setIfInBounds_toArray, List.set_cons_zero, List.set_cons_succ]
      have sz_A := hH.2.2.2.2.size
      refine wpAnyH_ready (rs := [9]) (by kernel_rfl) (by simp) (AllReadyH.cons rfl (fun K hK => ?_) AllReadyH.nil)
      (obtain ⟨g2, d2, u9, hrun, ho9, hg9⟩ := append_gust (r1.alloc (.cells #[] 100)) w.heap.size (r1.heap.size) 0 0 [] RL.out a2 n2 c2 (gls gs) (by rw [gls_len, HN]) (HCG.out _ (HS.out.below hH.2.2.2.2)) H1 (by omega) sz_A; rw [Nat.zero_add] at hrun ho9; rw [List.nil_append] at ho9; refine step_append_gust rfl (.tmp 9) (.tmp 11) rfl rfl _ _ _ (by simp [Act.eval, Act.put]) (by simp [Act.eval, Act.put]) hrun ?_; refine (show K (Act.put _ (some 12) _) _ from ?_))
      refine hK.out _ _ ?_ (fun hG => ?_)
      · exact ⟨hg9.cell hH.1 (fun e => by have e := Option.some.inj e; (have e9 : w.heap.size = r1.heap.size := e); omega), hg9.cell hH.2.1 (fun e => by have e := Option.some.inj e; (have e9 : w.heap.size = r1.heap.size := e); omega), hg9.cell hH.2.2.1 (fun e => by have e := Option.some.inj e; (have e9 : w.heap.size = r1.heap.size := e); omega), hg9.cell hH.2.2.2.1 (fun e => by have e := Option.some.inj e; (have e9 : w.heap.size = r1.heap.size := e); omega), hH.2.2.2.2.grown hg9 hH.2.2.2.2.size (fun z9 e9 => by have e9 := Option.some.inj e9; omega)⟩
      replace hH := hG
      clear hK K hG
      try simp only [Act.put, List.setIfInBounds_toArray, List.set_cons_zero, List.set_cons_succ]
      have KR2 := KR.out.grown hg9 (by intro e; have e := Option.some.inj e; omega)
      have O0g := Lib.hid (owns_grown O0.out hg9 (ne_blk (by omega)))
      have O1g := Lib.hid (owns_grown O1.out hg9 (ne_blk (by omega)))
      refine wpAnyH_take (i := 12) (oi := { dst := some 15, op := _, type := _, pos := _, after := _, guard := _ }) (v := ?_) rfl (by kernel_rfl) (by kernel_rfl) (by kernel_rfl) (fun _ _ _ h => h) (Or.inl ⟨by rfl, ?_⟩) hH ?_
      rotate_left 1
      · intro W hSw
        (try dsimp only at hSw)
        go_simp
        (try with_reducible rfl)
      try simp only [Act.put, List.setIfInBounds_toArray, List.set_cons_zero, List.set_cons_succ]
      refine wpAnyH_ready (rs := [13]) (by kernel_rfl) (by simp) (AllReadyH.cons rfl (fun K hK => ?_) AllReadyH.nil)
      (refine step_store_row rfl 34 (.tmp 2) (.tmp 15) rfl (w.heap.size + 1) #[.slice (some ⟨g0, 0, none⟩) n0 d0, .slice (some ⟨g1, 0, none⟩) n1 d1, .slice (some ⟨g2, 0, none⟩) n2 d2, .int .i64 T] (by simp [Act.eval, Act.put]) (by simp [Act.eval, Act.put]) 34 zc KR2 (by kernel_rfl) rfl (by simp [Value.oneCell']) ?_; refine (show K (Act.put _ none _) _ from ?_); have hgR := row_grown u9 (w.heap.size + 1) #[.slice (some ⟨g0, 0, none⟩) n0 d0, .slice (some ⟨g1, 0, none⟩) n1 d1, .slice (some ⟨g2, 0, none⟩) n2 d2, .int .i64 T])
      refine hK.out _ _ ?_ (fun hG => ?_)
      · exact ⟨hgR.cell hH.1 (fun e => by have e := Option.some.inj e; (have e9 : w.heap.size = w.heap.size + 1 := e); omega), hgR.cell hH.2.1 (fun e => by have e := Option.some.inj e; (have e9 : w.heap.size = w.heap.size + 1 := e); omega), hgR.cell hH.2.2.1 (fun e => by have e := Option.some.inj e; (have e9 : w.heap.size = w.heap.size + 1 := e); omega), hgR.cell hH.2.2.2.1 (fun e => by have e := Option.some.inj e; (have e9 : w.heap.size = w.heap.size + 1 := e); omega), hH.2.2.2.2.grown hgR hH.2.2.2.2.size (fun z9 e9 => by have e9 := Option.some.inj e9; omega)⟩
      replace hH := hG
      clear hK K hG
      try simp only [Act.put, List.setIfInBounds_toArray, List.set_cons_zero, List.set_cons_succ]
      refine wpAnyH_done (by kernel_rfl) ?_ _
      refine NoPanic.normal ?_
      have KX := row_bk #[.slice (some ⟨g0, 0, none⟩) n0 d0, .slice (some ⟨g1, 0, none⟩) n1 d1, .slice (some ⟨g2, 0, none⟩) n2 d2, .int .i64 T] KR2
      have s0 := KX.cell (i := 0) rfl
      have s1 := KX.cell (i := 1) rfl
      have s2 := KX.cell (i := 2) rfl
      have s3 := KX.cell (i := 3) rfl
      have BX := hH.2.2.2.2
      have P0 := owns_grown O0g.out hgR (fun k hk => by have := own_ne O0g.out KR2 (by decide); exact fun e => this (hk.trans e.symm))
      have P1 := owns_grown O1g.out hgR (fun k hk => by have := own_ne O1g.out KR2 (by decide); exact fun e => this (hk.trans e.symm))
      have P2 := owns_grown ho9 hgR (fun k hk => by have := own_ne ho9 KR2 (by decide); exact fun e => this (hk.trans e.symm))
      clear hH hgR
      go_wp2_with fail
      refine bodyPost_ret (v := sv (some ⟨g0, 0, none⟩) n0 d0 (some ⟨g1, 0, none⟩) n1 d1 (some ⟨g2, 0, none⟩) n2 d2 T) (by simp [results, Tryz.results52, go_sem, s0, s1, s2, s3]; try rfl) rfl ?_
      exact ⟨g0, d0, g1, d1, g2, d2, rfl, P0, P1, P2, BX⟩
    · go_simp
      have hbA : Below r0.heap.size r0 (r0.alloc (.cells #[] 100)) := (Below.refl _ _).alloc (Nat.le_refl _) (.cells #[] 100)
      have lt_O0_A := own_lt O0.out
      have lt_A := KR.out.lt
      have le_A := hH.2.2.2.2.size
      have KRn := Lib.hid (KR.out.below hbA)
      clear KR
      have KR := KRn
      clear KRn
      have O0n := Lib.hid (owns_below O0.out hbA)
      clear O0
      have O0 := O0n
      clear O0n
      have RL := Lib.hid (World.ownsRow_lit (base := w.heap.size) (e := 100) (size := 3) r0 #[] 0 le_A (Nat.zero_le _) rfl)
      refine hK.out _ _ ?_ (fun hG => ?_)
      · exact ⟨cell_below hbA hH.1, cell_below hbA hH.2.1, cell_below hbA hH.2.2.1, cell_below hbA hH.2.2.2.1, hH.2.2.2.2.trans (hbA.mono hH.2.2.2.2.size)⟩
      replace hH := hG
      clear hK K hG
      try simp only [Act.put, List.setIfInBounds_toArray, List.set_cons_zero, List.set_cons_succ]
      refine wpAnyH_ready (rs := [5]) (by kernel_rfl) (by simp) (AllReadyH.cons rfl (fun K hK => ?_) (AllReadyH.nil))
      go_simp
      go_at_call 95; ((with_reducible refine (P1.out _ (HS.out.below hH.2.2.2.2)).mono ?_); rintro e r1 ⟨g1, d1, rfl, o1, hb1⟩); go_wp2_with fail
      have lt_O0_1 := own_lt O0.out
      have lt_RL_1 := own_lt RL.out
      have at_1 : (r0.alloc (.cells #[] 100)).heap.size ≤ g1 := own_at o1
      have KRn := Lib.hid (KR.out.below hb1)
      clear KR
      have KR := KRn
      clear KRn
      have O0n := Lib.hid (owns_below O0.out hb1)
      clear O0
      have O0 := O0n
      clear O0n
      have RLn := Lib.hid (owns_below RL.out hb1)
      clear RL
      have RL := RLn
      clear RLn
      have O1 := Lib.hid (owns_base o1 (Nat.le_trans hH.2.2.2.2.size at_1))
      clear o1
      refine hK.out _ _ ?_ (fun hG => ?_)
      · exact ⟨cell_below hb1 hH.1, cell_below hb1 hH.2.1, cell_below hb1 hH.2.2.1, cell_below hb1 hH.2.2.2.1, hH.2.2.2.2.trans (hb1.mono hH.2.2.2.2.size)⟩
      replace hH := hG
      clear hK K hG
      try simp only [Act.put, List.setIfInBounds_toArray, List.set_cons_zero, List.set_cons_succ]
      have sz_A := hH.2.2.2.2.size
      refine wpAnyH_ready (rs := [9]) (by kernel_rfl) (by simp) (AllReadyH.cons rfl (fun K hK => ?_) AllReadyH.nil)
      (obtain ⟨g2, d2, u9, hrun, ho9, hg9⟩ := append_gust r1 w.heap.size (r0.heap.size) 0 0 [] RL.out a2 n2 c2 (gls gs) (by rw [gls_len, HN]) (HCG.out _ (HS.out.below hH.2.2.2.2)) H1 (by omega) sz_A; rw [Nat.zero_add] at hrun ho9; rw [List.nil_append] at ho9; refine step_append_gust rfl (.tmp 9) (.tmp 11) rfl rfl _ _ _ (by simp [Act.eval, Act.put]) (by simp [Act.eval, Act.put]) hrun ?_; refine (show K (Act.put _ (some 12) _) _ from ?_))
      refine hK.out _ _ ?_ (fun hG => ?_)
      · exact ⟨hg9.cell hH.1 (fun e => by have e := Option.some.inj e; (have e9 : w.heap.size = r0.heap.size := e); omega), hg9.cell hH.2.1 (fun e => by have e := Option.some.inj e; (have e9 : w.heap.size = r0.heap.size := e); omega), hg9.cell hH.2.2.1 (fun e => by have e := Option.some.inj e; (have e9 : w.heap.size = r0.heap.size := e); omega), hg9.cell hH.2.2.2.1 (fun e => by have e := Option.some.inj e; (have e9 : w.heap.size = r0.heap.size := e); omega), hH.2.2.2.2.grown hg9 hH.2.2.2.2.size (fun z9 e9 => by have e9 := Option.some.inj e9; omega)⟩
      replace hH := hG
      clear hK K hG
      try simp only [Act.put, List.setIfInBounds_toArray, List.set_cons_zero, List.set_cons_succ]
      have KR2 := KR.out.grown hg9 (by intro e; have e := Option.some.inj e; omega)
      have O0g := Lib.hid (owns_grown O0.out hg9 (ne_blk (by omega)))
      have O1g := Lib.hid (owns_grown O1.out hg9 (ne_blk (by omega)))
      refine wpAnyH_take (i := 12) (oi := { dst := some 15, op := _, type := _, pos := _, after := _, guard := _ }) (v := ?_) rfl (by kernel_rfl) (by kernel_rfl) (by kernel_rfl) (fun _ _ _ h => h) (Or.inl ⟨by rfl, ?_⟩) hH ?_
      rotate_left 1
      · intro W hSw
        (try dsimp only at hSw)
        go_simp
        (try with_reducible rfl)
      try simp only [Act.put, List.setIfInBounds_toArray, List.set_cons_zero, List.set_cons_succ]
      refine wpAnyH_ready (rs := [13]) (by kernel_rfl) (by simp) (AllReadyH.cons rfl (fun K hK => ?_) AllReadyH.nil)
      (refine step_store_row rfl 34 (.tmp 2) (.tmp 15) rfl (w.heap.size + 1) #[.slice (some ⟨g0, 0, none⟩) n0 d0, .slice (some ⟨g1, 0, none⟩) n1 d1, .slice (some ⟨g2, 0, none⟩) n2 d2, .int .i64 T] (by simp [Act.eval, Act.put]) (by simp [Act.eval, Act.put]) 34 zc KR2 (by kernel_rfl) rfl (by simp [Value.oneCell']) ?_; refine (show K (Act.put _ none _) _ from ?_); have hgR := row_grown u9 (w.heap.size + 1) #[.slice (some ⟨g0, 0, none⟩) n0 d0, .slice (some ⟨g1, 0, none⟩) n1 d1, .slice (some ⟨g2, 0, none⟩) n2 d2, .int .i64 T])
      refine hK.out _ _ ?_ (fun hG => ?_)
      · exact ⟨hgR.cell hH.1 (fun e => by have e := Option.some.inj e; (have e9 : w.heap.size = w.heap.size + 1 := e); omega), hgR.cell hH.2.1 (fun e => by have e := Option.some.inj e; (have e9 : w.heap.size = w.heap.size + 1 := e); omega), hgR.cell hH.2.2.1 (fun e => by have e := Option.some.inj e; (have e9 : w.heap.size = w.heap.size + 1 := e); omega), hgR.cell hH.2.2.2.1 (fun e => by have e := Option.some.inj e; (have e9 : w.heap.size = w.heap.size + 1 := e); omega), hH.2.2.2.2.grown hgR hH.2.2.2.2.size (fun z9 e9 => by have e9 := Option.some.inj e9; omega)⟩
      replace hH := hG
      clear hK K hG
      try simp only [Act.put, List.setIfInBounds_toArray, List.set_cons_zero, List.set_cons_succ]
      refine wpAnyH_done (by kernel_rfl) ?_ _
      refine NoPanic.normal ?_
      have KX := row_bk #[.slice (some ⟨g0, 0, none⟩) n0 d0, .slice (some ⟨g1, 0, none⟩) n1 d1, .slice (some ⟨g2, 0, none⟩) n2 d2, .int .i64 T] KR2
      have s0 := KX.cell (i := 0) rfl
      have s1 := KX.cell (i := 1) rfl
      have s2 := KX.cell (i := 2) rfl
      have s3 := KX.cell (i := 3) rfl
      have BX := hH.2.2.2.2
      have P0 := owns_grown O0g.out hgR (fun k hk => by have := own_ne O0g.out KR2 (by decide); exact fun e => this (hk.trans e.symm))
      have P1 := owns_grown O1g.out hgR (fun k hk => by have := own_ne O1g.out KR2 (by decide); exact fun e => this (hk.trans e.symm))
      have P2 := owns_grown ho9 hgR (fun k hk => by have := own_ne ho9 KR2 (by decide); exact fun e => this (hk.trans e.symm))
      clear hH hgR
      go_wp2_with fail
      refine bodyPost_ret (v := sv (some ⟨g0, 0, none⟩) n0 d0 (some ⟨g1, 0, none⟩) n1 d1 (some ⟨g2, 0, none⟩) n2 d2 T) (by simp [results, Tryz.results52, go_sem, s0, s1, s2, s3]; try rfl) rfl ?_
      exact ⟨g0, d0, g1, d1, g2, d2, rfl, P0, P1, P2, BX⟩
  · go_simp
    have hbA : Below (((w.alloc (.cells (sc (some a0) n0 c0 (some a1) n1 c1 (some a2) n2 c2 T) 34)).alloc (.cells zc 34)).drew).heap.size (((w.alloc (.cells (sc (some a0) n0 c0 (some a1) n1 c1 (some a2) n2 c2 T) 34)).alloc (.cells zc 34)).drew) ((((w.alloc (.cells (sc (some a0) n0 c0 (some a1) n1 c1 (some a2) n2 c2 T) 34)).alloc (.cells zc 34)).drew).alloc (.cells #[] 100)) := (Below.refl _ _).alloc (Nat.le_refl _) (.cells #[] 100)
    have lt_A := KR.out.lt
    have le_A := hH.2.2.2.2.size
    have KRn := Lib.hid (KR.out.below hbA)
    clear KR
    have KR := KRn
    clear KRn
    have RL := Lib.hid (World.ownsRow_lit (base := w.heap.size) (e := 100) (size := 3) (((w.alloc (.cells (sc (some a0) n0 c0 (some a1) n1 c1 (some a2) n2 c2 T) 34)).alloc (.cells zc 34)).drew) #[] 0 le_A (Nat.zero_le _) rfl)
    refine hK.out _ _ ?_ (fun hG => ?_)
    · exact ⟨cell_below hbA hH.1, cell_below hbA hH.2.1, cell_below hbA hH.2.2.1, cell_below hbA hH.2.2.2.1, hH.2.2.2.2.trans (hbA.mono hH.2.2.2.2.size)⟩
    replace hH := hG
    clear hK K hG
    try simp only [Act.put, List.setIfInBounds_toArray, List.set_cons_zero, List.set_cons_succ]
    refine wpAnyH_ready (rs := [2]) (by kernel_rfl) (by simp) (AllReadyH.cons rfl (fun K hK => ?_) (AllReadyH.nil))
    go_simp
    go_at_call 94; ((with_reducible refine (P0.out _ (HS.out.below hH.2.2.2.2)).mono ?_); rintro e r0 ⟨g0, d0, rfl, o0, hb0⟩); go_wp2_with fail
    have lt_RL_0 := own_lt RL.out
    have at_0 : ((((w.alloc (.cells (sc (some a0) n0 c0 (some a1) n1 c1 (some a2) n2 c2 T) 34)).alloc (.cells zc 34)).drew).alloc (.cells #[] 100)).heap.size ≤ g0 := own_at o0
    have KRn := Lib.hid (KR.out.below hb0)
    clear KR
    have KR := KRn
    clear KRn
    have RLn := Lib.hid (owns_below RL.out hb0)
    clear RL
    have RL := RLn
    clear RLn
    have O0 := Lib.hid (owns_base o0 (Nat.le_trans hH.2.2.2.2.size at_0))
    clear o0
    refine hK.out _ _ ?_ (fun hG => ?_)
    · exact ⟨cell_below hb0 hH.1, cell_below hb0 hH.2.1, cell_below hb0 hH.2.2.1, cell_below hb0 hH.2.2.2.1, hH.2.2.2.2.trans (hb0.mono hH.2.2.2.2.size)⟩
    replace hH := hG
    clear hK K hG
    try simp only [Act.put, List.setIfInBounds_toArray, List.set_cons_zero, List.set_cons_succ]
    refine wpAnyH_ready (rs := [5]) (by kernel_rfl) (by simp) (AllReadyH.cons rfl (fun K hK => ?_) (AllReadyH.nil))
    go_simp
    go_at_call 95; ((with_reducible refine (P1.out _ (HS.out.below hH.2.2.2.2)).mono ?_); rintro e r1 ⟨g1, d1, rfl, o1, hb1⟩); go_wp2_with fail
    have lt_RL_1 := own_lt RL.out
    have lt_O0_1 := own_lt O0.out
    have at_1 : r0.heap.size ≤ g1 := own_at o1
    have KRn := Lib.hid (KR.out.below hb1)
    clear KR
    have KR := KRn
    clear KRn
    have RLn := Lib.hid (owns_below RL.out hb1)
    clear RL
    have RL := RLn
    clear RLn
    have O0n := Lib.hid (owns_below O0.out hb1)
    clear O0
    have O0 := O0n
    clear O0n
    have O1 := Lib.hid (owns_base o1 (Nat.le_trans hH.2.2.2.2.size at_1))
    clear o1
    refine hK.out _ _ ?_ (fun hG => ?_)
    · exact ⟨cell_below hb1 hH.1, cell_below hb1 hH.2.1, cell_below hb1 hH.2.2.1, cell_below hb1 hH.2.2.2.1, hH.2.2.2.2.trans (hb1.mono hH.2.2.2.2.size)⟩
    replace hH := hG
    clear hK K hG
    try simp only [Act.put, List.setIfInBounds_toArray, List.set_cons_zero, List.set_cons_succ]
    have sz_A := hH.2.2.2.2.size
    refine wpAnyH_ready (rs := [9]) (by kernel_rfl) (by simp) (AllReadyH.cons rfl (fun K hK => ?_) AllReadyH.nil)
    (obtain ⟨g2, d2, u9, hrun, ho9, hg9⟩ := append_gust r1 w.heap.size ((((w.alloc (.cells (sc (some a0) n0 c0 (some a1) n1 c1 (some a2) n2 c2 T) 34)).alloc (.cells zc 34)).drew).heap.size) 0 0 [] RL.out a2 n2 c2 (gls gs) (by rw [gls_len, HN]) (HCG.out _ (HS.out.below hH.2.2.2.2)) H1 (by omega) sz_A; rw [Nat.zero_add] at hrun ho9; rw [List.nil_append] at ho9; refine step_append_gust rfl (.tmp 9) (.tmp 11) rfl rfl _ _ _ (by simp [Act.eval, Act.put]) (by simp [Act.eval, Act.put]) hrun ?_; refine (show K (Act.put _ (some 12) _) _ from ?_))
    refine hK.out _ _ ?_ (fun hG => ?_)
    · exact ⟨hg9.cell hH.1 (fun e => by have e := Option.some.inj e; (have e9 : w.heap.size = (((w.alloc (.cells (sc (some a0) n0 c0 (some a1) n1 c1 (some a2) n2 c2 T) 34)).alloc (.cells zc 34)).drew).heap.size := e); omega), hg9.cell hH.2.1 (fun e => by have e := Option.some.inj e; (have e9 : w.heap.size = (((w.alloc (.cells (sc (some a0) n0 c0 (some a1) n1 c1 (some a2) n2 c2 T) 34)).alloc (.cells zc 34)).drew).heap.size := e); omega), hg9.cell hH.2.2.1 (fun e => by have e := Option.some.inj e; (have e9 : w.heap.size = (((w.alloc (.cells (sc (some a0) n0 c0 (some a1) n1 c1 (some a2) n2 c2 T) 34)).alloc (.cells zc 34)).drew).heap.size := e); omega), hg9.cell hH.2.2.2.1 (fun e => by have e := Option.some.inj e; (have e9 : w.heap.size = (((w.alloc (.cells (sc (some a0) n0 c0 (some a1) n1 c1 (some a2) n2 c2 T) 34)).alloc (.cells zc 34)).drew).heap.size := e); omega), hH.2.2.2.2.grown hg9 hH.2.2.2.2.size (fun z9 e9 => by have e9 := Option.some.inj e9; omega)⟩
    replace hH := hG
    clear hK K hG
    try simp only [Act.put, List.setIfInBounds_toArray, List.set_cons_zero, List.set_cons_succ]
    have KR2 := KR.out.grown hg9 (by intro e; have e := Option.some.inj e; omega)
    have O0g := Lib.hid (owns_grown O0.out hg9 (ne_blk (by omega)))
    have O1g := Lib.hid (owns_grown O1.out hg9 (ne_blk (by omega)))
    refine wpAnyH_take (i := 12) (oi := { dst := some 15, op := _, type := _, pos := _, after := _, guard := _ }) (v := ?_) rfl (by kernel_rfl) (by kernel_rfl) (by kernel_rfl) (fun _ _ _ h => h) (Or.inl ⟨by rfl, ?_⟩) hH ?_
    rotate_left 1
    · intro W hSw
      (try dsimp only at hSw)
      go_simp
      (try with_reducible rfl)
    try simp only [Act.put, List.setIfInBounds_toArray, List.set_cons_zero, List.set_cons_succ]
    refine wpAnyH_ready (rs := [13]) (by kernel_rfl) (by simp) (AllReadyH.cons rfl (fun K hK => ?_) AllReadyH.nil)
    (refine step_store_row rfl 34 (.tmp 2) (.tmp 15) rfl (w.heap.size + 1) #[.slice (some ⟨g0, 0, none⟩) n0 d0, .slice (some ⟨g1, 0, none⟩) n1 d1, .slice (some ⟨g2, 0, none⟩) n2 d2, .int .i64 T] (by simp [Act.eval, Act.put]) (by simp [Act.eval, Act.put]) 34 zc KR2 (by kernel_rfl) rfl (by simp [Value.oneCell']) ?_; refine (show K (Act.put _ none _) _ from ?_); have hgR := row_grown u9 (w.heap.size + 1) #[.slice (some ⟨g0, 0, none⟩) n0 d0, .slice (some ⟨g1, 0, none⟩) n1 d1, .slice (some ⟨g2, 0, none⟩) n2 d2, .int .i64 T])
    refine hK.out _ _ ?_ (fun hG => ?_)
    · exact ⟨hgR.cell hH.1 (fun e => by have e := Option.some.inj e; (have e9 : w.heap.size = w.heap.size + 1 := e); omega), hgR.cell hH.2.1 (fun e => by have e := Option.some.inj e; (have e9 : w.heap.size = w.heap.size + 1 := e); omega), hgR.cell hH.2.2.1 (fun e => by have e := Option.some.inj e; (have e9 : w.heap.size = w.heap.size + 1 := e); omega), hgR.cell hH.2.2.2.1 (fun e => by have e := Option.some.inj e; (have e9 : w.heap.size = w.heap.size + 1 := e); omega), hH.2.2.2.2.grown hgR hH.2.2.2.2.size (fun z9 e9 => by have e9 := Option.some.inj e9; omega)⟩
    replace hH := hG
    clear hK K hG
    try simp only [Act.put, List.setIfInBounds_toArray, List.set_cons_zero, List.set_cons_succ]
    refine wpAnyH_done (by kernel_rfl) ?_ _
    refine NoPanic.normal ?_
    have KX := row_bk #[.slice (some ⟨g0, 0, none⟩) n0 d0, .slice (some ⟨g1, 0, none⟩) n1 d1, .slice (some ⟨g2, 0, none⟩) n2 d2, .int .i64 T] KR2
    have s0 := KX.cell (i := 0) rfl
    have s1 := KX.cell (i := 1) rfl
    have s2 := KX.cell (i := 2) rfl
    have s3 := KX.cell (i := 3) rfl
    have BX := hH.2.2.2.2
    have P0 := owns_grown O0g.out hgR (fun k hk => by have := own_ne O0g.out KR2 (by decide); exact fun e => this (hk.trans e.symm))
    have P1 := owns_grown O1g.out hgR (fun k hk => by have := own_ne O1g.out KR2 (by decide); exact fun e => this (hk.trans e.symm))
    have P2 := owns_grown ho9 hgR (fun k hk => by have := own_ne ho9 KR2 (by decide); exact fun e => this (hk.trans e.symm))
    clear hH hgR
    go_wp2_with fail
    refine bodyPost_ret (v := sv (some ⟨g0, 0, none⟩) n0 d0 (some ⟨g1, 0, none⟩) n1 d1 (some ⟨g2, 0, none⟩) n2 d2 T) (by simp [results, Tryz.results52, go_sem, s0, s1, s2, s3]; try rfl) rfl ?_
    exact ⟨g0, d0, g1, d1, g2, d2, rfl, P0, P1, P2, BX⟩
end Go.Proofs.YtejeikfgmiadhaaGreat.Cy9
