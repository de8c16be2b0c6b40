/- AddDevice of the program. -/
import Derived.Test.YtgcheplneolonabZ4
import Derived.Test.YtgcheplneolonabRk
import Derived.Test.YtgcheplneolonabZ2
import Derived.Test.YtgcheplneolonabIq
import Derived.Test.YtgcheplneolonabSg
namespace Go.Proofs.Ytgcheplneolonab.Ai6
open Go.RowKit Go.ChangeShapes Go.WideShapes Go.WideElems Go.Deep Go.Proofs.Ytgcheplneolonab.Mem Go.Proofs.Ytgcheplneolonab.Rw Go.Proofs.Ytgcheplneolonab.Pw Go.Proofs.Ytgcheplneolonab.P2 Go.Proofs.Ytgcheplneolonab.Dd Go.Proofs.Ytgcheplneolonab.Dv Go.Proofs.Ytgcheplneolonab.Dl Go.Proofs.Ytgcheplneolonab.Ds
set_option linter.unusedVariables false
set_option linter.unusedSimpArgs false
open Go.Proofs.Ytgcheplneolonab.Ig Go.Proofs.Ytgcheplneolonab.Ms6
open Go.Proofs.Ytgcheplneolonab.Ho Go.Proofs.Ytgcheplneolonab.Mo Go.Proofs.Ytgcheplneolonab.Sg Go.Proofs.Ytgcheplneolonab.Iq Go.Proofs.Ytgcheplneolonab.Rk Go.Proofs.Ytgcheplneolonab.Bxd Go.Proofs.Ytgcheplneolonab.Adn Go.Proofs.Ytgcheplneolonab.Rz
open Go.Proofs.Ytgcheplneolonab.Rw (owns_below owns_grown owns_base)

set_option maxHeartbeats 8000000 in
set_option maxRecDepth 100000 in
theorem addI (a : Addr) (n0 c9 : Nat) (zs : List D) (n : ByteArray) (q : Int) (l : ByteArray) (x y h t m : Int) (w : World) (hn : zs.length = n0) (hb : n0 ≤ 1048576) (hr : Rd w w.heap.size (some a) (dls zs)) :
    Calls Try.prog 7 #[.slice (some a) n0 c9, va n q l x y h t m] w (RowB w (adL zs ⟨n, q, l, x, y, h, t, m⟩) (adG zs ⟨n, q, l, x, y, h, t, m⟩)) := by
  have hu : undef = Value.tuple #[] := rfl
  have HN := Lib.hid hn
  have HR := Lib.hid hr
  have X0 := Lib.hid (Bx.new w n q l x y h t m)
  have B0 := Lib.hid (show Below w.heap.size w (w.alloc (.cells (ca n q l x y h t m) 28)) from (Below.refl _ _).alloc (Nat.le_refl _) _)
  have CR := Lib.hid (fun (W : World) (hW : Below w.heap.size w W) => rigI (some a) n0 c9 zs W hn (by omega) ((hr.below hW).more hW.size))
  have CC := Lib.hid (fun (W : World) (hW : Below w.heap.size w W) => cloneD a n0 c9 zs W hn (by omega) ((hr.below hW).more hW.size))
  have CK := Lib.hid (fun (W : World) (hW : Below w.heap.size w W) => (show Calls Try.prog 24 #[.slice (some a) n0 c9] W (fun e w' => ∃ g c, e = .returned (.slice (some ⟨g, 0, none⟩) n0 c) ∧ w'.ownsRow W.heap.size 28 8 (.slice (some ⟨g, 0, none⟩) n0 c) n0 (dls zs) ∧ Below W.heap.size W w') from by
    have := cloneD a n0 c9 zs W hn (by omega) ((hr.below hW).more hW.size)
    unfold RowD at this
    rw [hn] at this; exact this))
  obtain ⟨sc, hsc⟩ : ∃ b, rig zs = b := ⟨_, rfl⟩
  rw [hsc] at CR
  have HS := Lib.hid hsc
  clear hr hn hsc
  cases sc
  · go_enter Try.func7, Try.ntmps7
    go_wp2_with fail
    refine (CR.out _ B0.out).mono ?_
    rintro e w1 ⟨rfl, hb1⟩
    have B1 := Lib.hid (B0.out.trans (hb1.mono B0.out.size))
    clear hb1
    go_wp2_with fail
    refine (CC.out _ B1.out).mono ?_
    rintro e w9 ⟨g, c, rfl, ho, hb9⟩
    have B9 := Lib.hid (B1.out.trans (hb9.mono B1.out.size))
    have RO := Lib.hid (owns_base ho (Nat.le_trans B1.out.size (ho.lt g rfl).1))
    clear ho hb9
    go_wp2_with fail
    go_returns
    have hg : adG zs ⟨n, q, l, x, y, h, t, m⟩ = false := by unfold adG; rw [HS.out]; rfl
    rw [adL_no hg, hg]
    exact ⟨g, c, rfl, RO.out, B9.out⟩
  have hlt0 : w.heap.size < (w.alloc (.cells (ca n q l x y h t m) 28)).heap.size := by simp
  have h8 : n0 ≤ 8 := by have := (rig_of HS.out).1; rw [HN.out] at this; exact this
  go_enter Try.func7, Try.ntmps7
  go_wp2_with fail
  refine (CR.out _ B0.out).mono ?_
  rintro e w1 ⟨rfl, hb1⟩
  have B1 := Lib.hid (B0.out.trans (hb1.mono B0.out.size))
  have X1 := Lib.hid (X0.out.below hb1 hlt0)
  have LT1 := Lib.hid (X0.out.below hb1 hlt0).lt
  clear hb1 X0 hlt0
  obtain ⟨d0, d1, d2, d3, d4, d5, d6, d7⟩ := X1.out.c
  go_wp2_with fail
  refine wp_region_noPanic ?_
  refine wp_region_held_drew (S := (fun w' => w'.cell? ⟨w.heap.size, 0, none⟩ = some (.string n) ∧ w'.cell? ⟨w.heap.size, 1, none⟩ = some (.int .i64 q) ∧ w'.cell? ⟨w.heap.size, 2, none⟩ = some (.string l) ∧ w'.cell? ⟨w.heap.size, 3, none⟩ = some (.int .i64 x) ∧ w'.cell? ⟨w.heap.size, 4, none⟩ = some (.int .i64 y) ∧ w'.cell? ⟨w.heap.size, 5, none⟩ = some (.int .i64 h) ∧ w'.cell? ⟨w.heap.size, 6, none⟩ = some (.int .i64 t) ∧ w'.cell? ⟨w.heap.size, 7, none⟩ = some (.int .i64 m) ∧ Below w1.heap.size w1 w')) (by kernel_rfl) ?_ (fun hH => ?_)
  · exact ⟨d0, d1, d2, d3, d4, d5, d6, d7, (Below.refl _ _).drew⟩
  refine wpAnyH_take (i := 0) (oi := { dst := some 12, op := _, type := _, pos := _, after := _, guard := _ }) (v := ?_) rfl (by kernel_rfl) (by kernel_rfl) (by kernel_rfl) (fun _ _ _ h => h) (Or.inl ⟨by rfl, ?_⟩) hH ?_
  rotate_left 1
  · intro W hSw
    (try dsimp only at hSw)
    go_simp
    (try with_reducible rfl)
  try simp only [Act.put, List.setIfInBounds_toArray, List.set_cons_zero, List.set_cons_succ]
  refine wpAnyH_take (i := 2) (oi := { dst := some 14, op := _, type := _, pos := _, after := _, guard := _ }) (v := ?_) rfl (by kernel_rfl) (by kernel_rfl) (by kernel_rfl) (fun _ _ _ h => h) (Or.inl ⟨by rfl, ?_⟩) hH ?_
  rotate_left 1
  · intro W hSw
    (try dsimp only at hSw)
    go_simp
    (try with_reducible rfl)
  try simp only [Act.put, List.setIfInBounds_toArray, List.set_cons_zero, List.set_cons_succ]
  refine wpAnyH_ready (rs := [1, 3]) (by kernel_rfl) (by simp) (AllReadyH.cons rfl (fun K hK => ?_) (AllReadyH.cons rfl (fun K hK => ?_) AllReadyH.nil))
  · go_simp
    go_at_call 24; ((with_reducible refine (CK.out _ (B1.out.trans (hH.2.2.2.2.2.2.2.2.mono B1.out.size))).mono ?_); rintro e r1 ⟨g, c, rfl, ho, hb1⟩); go_wp2_with fail
    refine hK.out _ _ ?_ (fun hG => ?_)
    · exact ⟨cell_below hb1 hH.1, cell_below hb1 hH.2.1, cell_below hb1 hH.2.2.1, cell_below hb1 hH.2.2.2.1, cell_below hb1 hH.2.2.2.2.1, cell_below hb1 hH.2.2.2.2.2.1, cell_below hb1 hH.2.2.2.2.2.2.1, cell_below hb1 hH.2.2.2.2.2.2.2.1, hH.2.2.2.2.2.2.2.2.trans (hb1.mono hH.2.2.2.2.2.2.2.2.size)⟩
    replace hH := hG
    clear hK K hG
    try simp only [Act.put, List.setIfInBounds_toArray, List.set_cons_zero, List.set_cons_succ]
    refine wpAnyH_ready (rs := [3]) (by kernel_rfl) (by simp) (AllReadyH.cons rfl (fun K hK => ?_) AllReadyH.nil)
    go_simp
    refine hK.out _ _ ?_ (fun hG => ?_)
    · exact ⟨cell_alloc hH.1, cell_alloc hH.2.1, cell_alloc hH.2.2.1, cell_alloc hH.2.2.2.1, cell_alloc hH.2.2.2.2.1, cell_alloc hH.2.2.2.2.2.1, cell_alloc hH.2.2.2.2.2.2.1, cell_alloc hH.2.2.2.2.2.2.2.1, hH.2.2.2.2.2.2.2.2.alloc hH.2.2.2.2.2.2.2.2.size _⟩
    replace hH := hG
    clear hK K hG
    try simp only [Act.put, List.setIfInBounds_toArray, List.set_cons_zero, List.set_cons_succ]
    refine wpAnyH_ready (rs := [4]) (by kernel_rfl) (by simp) (AllReadyH.cons rfl (fun K hK => ?_) AllReadyH.nil)
    (obtain ⟨g9, c10, u9, hrun, ho9, hg9⟩ := append_dev (r1.alloc (.cells (ca n q l x y h t m) 28)) w.heap.size g n0 c _ (owns_base ho (Nat.le_trans B1.out.size (ho.lt g rfl).1) |>.alloc _) ⟨r1.heap.size, 0, none⟩ 1 1 (dc ⟨n, q, l, x, y, h, t, m⟩) rfl (by intro j u hj; match j, hj with | 0, hj => (simp [dc] at hj; subst hj; simp [go_sem, Addr.add]) | 1, hj => (simp [dc] at hj; subst hj; simp [go_sem, Addr.add]) | 2, hj => (simp [dc] at hj; subst hj; simp [go_sem, Addr.add]) | 3, hj => (simp [dc] at hj; subst hj; simp [go_sem, Addr.add]) | 4, hj => (simp [dc] at hj; subst hj; simp [go_sem, Addr.add]) | 5, hj => (simp [dc] at hj; subst hj; simp [go_sem, Addr.add]) | 6, hj => (simp [dc] at hj; subst hj; simp [go_sem, Addr.add]) | 7, hj => (simp [dc] at hj; subst hj; simp [go_sem, Addr.add])) (by intro u hu9; simp [dc] at hu9; rcases hu9 with rfl | rfl | rfl | rfl | rfl | rfl | rfl | rfl <;> rfl) (by omega) (B1.out.trans (hH.2.2.2.2.2.2.2.2.mono B1.out.size)).size); refine step_append_run rfl (.tmp 13) (.tmp 15) rfl rfl _ _ _ (by simp [Act.eval, Act.put]) (by simp [Act.eval, Act.put]) hrun ?_; refine (show K (Act.put _ (some 16) _) _ from ?_)
    refine hK.out _ _ ?_ (fun hG => ?_)
    · exact ⟨hg9.cell hH.1 (fun e => by injection e with e; (have e9 : w.heap.size = g := e); (have e8 : w1.heap.size ≤ g := (ho.lt g rfl).1); have := LT1.out; omega), hg9.cell hH.2.1 (fun e => by injection e with e; (have e9 : w.heap.size = g := e); (have e8 : w1.heap.size ≤ g := (ho.lt g rfl).1); have := LT1.out; omega), hg9.cell hH.2.2.1 (fun e => by injection e with e; (have e9 : w.heap.size = g := e); (have e8 : w1.heap.size ≤ g := (ho.lt g rfl).1); have := LT1.out; omega), hg9.cell hH.2.2.2.1 (fun e => by injection e with e; (have e9 : w.heap.size = g := e); (have e8 : w1.heap.size ≤ g := (ho.lt g rfl).1); have := LT1.out; omega), hg9.cell hH.2.2.2.2.1 (fun e => by injection e with e; (have e9 : w.heap.size = g := e); (have e8 : w1.heap.size ≤ g := (ho.lt g rfl).1); have := LT1.out; omega), hg9.cell hH.2.2.2.2.2.1 (fun e => by injection e with e; (have e9 : w.heap.size = g := e); (have e8 : w1.heap.size ≤ g := (ho.lt g rfl).1); have := LT1.out; omega), hg9.cell hH.2.2.2.2.2.2.1 (fun e => by injection e with e; (have e9 : w.heap.size = g := e); (have e8 : w1.heap.size ≤ g := (ho.lt g rfl).1); have := LT1.out; omega), hg9.cell hH.2.2.2.2.2.2.2.1 (fun e => by injection e with e; (have e9 : w.heap.size = g := e); (have e8 : w1.heap.size ≤ g := (ho.lt g rfl).1); have := LT1.out; omega), Below.grown hH.2.2.2.2.2.2.2.2 hg9 hH.2.2.2.2.2.2.2.2.size (fun q hq => by cases hq; exact (ho.lt g rfl).1)⟩
    replace hH := hG
    clear hK K hG
    try simp only [Act.put, List.setIfInBounds_toArray, List.set_cons_zero, List.set_cons_succ]
    refine wpAnyH_take (i := 5) (oi := { dst := some 6, op := _, type := _, pos := _, after := _, guard := _ }) (v := ?_) rfl (by kernel_rfl) (by kernel_rfl) (by kernel_rfl) (fun _ _ _ h => h) (Or.inl ⟨by rfl, ?_⟩) hH ?_
    rotate_left 1
    · intro W hSw
      (try dsimp only at hSw)
      go_simp
      (try with_reducible rfl)
    try simp only [Act.put, List.setIfInBounds_toArray, List.set_cons_zero, List.set_cons_succ]
    refine wpAnyH_done (by kernel_rfl) ?_ _
    refine NoPanic.normal ?_
    obtain ⟨_, _, _, _, _, _, _, _, hB⟩ := hH
    have B3 := Lib.hid (B1.out.trans (hB.mono B1.out.size))
    have RO := Lib.hid ho9
    clear hB hg9 hrun ho ho9 hb1 d0 d1 d2 d3 d4 d5 d6 d7
    (try clear z0 z1 z2 z3 z4 z5 z6 z7)
    have RO := Lib.hid (show u9.ownsRow w.heap.size 28 8 (.slice (some ⟨g9, 0, none⟩) (n0 + 1) c10) (n0 + 1) (dls (zs ++ [⟨n, q, l, x, y, h, t, m⟩])) by rw [← dls_snoc]; exact RO.out)
    have GL := Lib.hid (RO.out.lt g9 rfl).1
    have LN := Lib.hid (show (zs ++ [(⟨n, q, l, x, y, h, t, m⟩ : D)]).length = n0 + 1 by rw [List.length_append, HN.out]; rfl)
    have CSR := Lib.hid (So6.sortD w.heap.size g9 (n0 + 1) c10 (zs ++ [⟨n, q, l, x, y, h, t, m⟩]) u9 LN.out (by omega) RO.out)
    clear RO
    go_wp2_with fail
    refine CSR.out.mono ?_
    rintro e w4 hsrt
    obtain ⟨he, ys, hperm, hpw, hoy, hgr⟩ := hsrt
    subst he
    have hlen : ys.length = n0 + 1 := by rw [hperm.length_eq, LN.out]
    have B4 := Lib.hid (B3.out.grown hgr B3.out.size (fun j hj => by cases hj; exact GL.out))
    have O4 := Lib.hid hoy
    obtain ⟨m1, m2⟩ := sorted_same (rig_of HS.out) hperm hpw
    have CRY := Lib.hid (fun (W : World) (hW : Rd W W.heap.size (some ⟨g9, 0, none⟩) (dls ys)) => rigI (some ⟨g9, 0, none⟩) (n0 + 1) c10 ys W hlen (by omega) hW)
    rw [m1] at CRY
    obtain ⟨G, hG⟩ : ∃ b, adG zs ⟨n, q, l, x, y, h, t, m⟩ = b := ⟨_, rfl⟩
    rw [hG] at CRY m2
    have HG := Lib.hid hG
    have M2 := Lib.hid m2
    have HL := Lib.hid hlen
    clear hperm hpw hoy hgr m1 m2 hG hlen CSR
    cases G
    · go_wp2_with fail
      refine (CRY.out _ (Rd.own O4.out)).mono ?_
      rintro e w5 ⟨rfl, hb5⟩
      have B5 := Lib.hid (B4.out.trans (hb5.mono B4.out.size))
      clear hb5
      go_wp2_with fail
      refine (CC.out _ B5.out).mono ?_
      rintro e w9 ⟨g, c, rfl, ho, hb9⟩
      have B9 := Lib.hid (B5.out.trans (hb9.mono B5.out.size))
      have RO := Lib.hid (owns_base ho (Nat.le_trans B5.out.size (ho.lt g rfl).1))
      clear ho hb9
      go_wp2_with fail
      go_returns
      rw [adL_no HG.out, HG.out]
      exact ⟨g, c, rfl, RO.out, B9.out⟩
    · go_wp2_with fail
      refine (CRY.out _ (Rd.own O4.out)).mono ?_
      rintro e w5 ⟨rfl, hb5⟩
      have B5 := Lib.hid (B4.out.trans (hb5.mono B4.out.size))
      have O5 := Lib.hid (owns_below O4.out hb5)
      clear hb5
      go_wp2_with fail
      go_returns
      rw [adL_yes HG.out, HG.out, ← M2.out (by first | rfl | trivial)]
      exact ⟨g9, c10, by rw [HL.out]; first | done | rfl, by rw [HL.out]; exact O5.out, B5.out⟩
  · go_simp
    refine hK.out _ _ ?_ (fun hG => ?_)
    · exact ⟨cell_alloc hH.1, cell_alloc hH.2.1, cell_alloc hH.2.2.1, cell_alloc hH.2.2.2.1, cell_alloc hH.2.2.2.2.1, cell_alloc hH.2.2.2.2.2.1, cell_alloc hH.2.2.2.2.2.2.1, cell_alloc hH.2.2.2.2.2.2.2.1, hH.2.2.2.2.2.2.2.2.alloc hH.2.2.2.2.2.2.2.2.size _⟩
    replace hH := hG
    clear hK K hG
    try simp only [Act.put, List.setIfInBounds_toArray, List.set_cons_zero, List.set_cons_succ]
    refine wpAnyH_ready (rs := [1]) (by kernel_rfl) (by simp) (AllReadyH.cons rfl (fun K hK => ?_) AllReadyH.nil)
    go_simp
    go_at_call 24; ((with_reducible refine (CK.out _ (B1.out.trans (hH.2.2.2.2.2.2.2.2.mono B1.out.size))).mono ?_); rintro e r1 ⟨g, c, rfl, ho, hb1⟩); have z0 := cell_below hb1 (cell_here (W := w1.drew) (c := ca n q l x y h t m) (t := 28) (i := 0) rfl); have z1 := cell_below hb1 (cell_here (W := w1.drew) (c := ca n q l x y h t m) (t := 28) (i := 1) rfl); have z2 := cell_below hb1 (cell_here (W := w1.drew) (c := ca n q l x y h t m) (t := 28) (i := 2) rfl); have z3 := cell_below hb1 (cell_here (W := w1.drew) (c := ca n q l x y h t m) (t := 28) (i := 3) rfl); have z4 := cell_below hb1 (cell_here (W := w1.drew) (c := ca n q l x y h t m) (t := 28) (i := 4) rfl); have z5 := cell_below hb1 (cell_here (W := w1.drew) (c := ca n q l x y h t m) (t := 28) (i := 5) rfl); have z6 := cell_below hb1 (cell_here (W := w1.drew) (c := ca n q l x y h t m) (t := 28) (i := 6) rfl); have z7 := cell_below hb1 (cell_here (W := w1.drew) (c := ca n q l x y h t m) (t := 28) (i := 7) rfl); go_wp2_with fail
    refine hK.out _ _ ?_ (fun hG => ?_)
    · exact ⟨cell_below hb1 hH.1, cell_below hb1 hH.2.1, cell_below hb1 hH.2.2.1, cell_below hb1 hH.2.2.2.1, cell_below hb1 hH.2.2.2.2.1, cell_below hb1 hH.2.2.2.2.2.1, cell_below hb1 hH.2.2.2.2.2.2.1, cell_below hb1 hH.2.2.2.2.2.2.2.1, hH.2.2.2.2.2.2.2.2.trans (hb1.mono hH.2.2.2.2.2.2.2.2.size)⟩
    replace hH := hG
    clear hK K hG
    try simp only [Act.put, List.setIfInBounds_toArray, List.set_cons_zero, List.set_cons_succ]
    refine wpAnyH_ready (rs := [4]) (by kernel_rfl) (by simp) (AllReadyH.cons rfl (fun K hK => ?_) AllReadyH.nil)
    (obtain ⟨g9, c10, u9, hrun, ho9, hg9⟩ := append_dev r1 w.heap.size g n0 c _ (owns_base ho (Nat.le_trans (Nat.le_trans B1.out.size (show w1.heap.size ≤ _ from by simp)) (ho.lt g rfl).1)) ⟨w1.heap.size, 0, none⟩ 1 1 (dc ⟨n, q, l, x, y, h, t, m⟩) rfl (by intro j u hj; match j, hj with | 0, hj => (simp [dc] at hj; subst hj; simpa [Addr.add] using z0) | 1, hj => (simp [dc] at hj; subst hj; simpa [Addr.add] using z1) | 2, hj => (simp [dc] at hj; subst hj; simpa [Addr.add] using z2) | 3, hj => (simp [dc] at hj; subst hj; simpa [Addr.add] using z3) | 4, hj => (simp [dc] at hj; subst hj; simpa [Addr.add] using z4) | 5, hj => (simp [dc] at hj; subst hj; simpa [Addr.add] using z5) | 6, hj => (simp [dc] at hj; subst hj; simpa [Addr.add] using z6) | 7, hj => (simp [dc] at hj; subst hj; simpa [Addr.add] using z7)) (by intro u hu9; simp [dc] at hu9; rcases hu9 with rfl | rfl | rfl | rfl | rfl | rfl | rfl | rfl <;> rfl) (by omega) (B1.out.trans (hH.2.2.2.2.2.2.2.2.mono B1.out.size)).size); refine step_append_run rfl (.tmp 13) (.tmp 15) rfl rfl _ _ _ (by simp [Act.eval, Act.put]) (by simp [Act.eval, Act.put]) hrun ?_; refine (show K (Act.put _ (some 16) _) _ from ?_)
    refine hK.out _ _ ?_ (fun hG => ?_)
    · exact ⟨hg9.cell hH.1 (fun e => by injection e with e; (have e9 : w.heap.size = g := e); (have e8 : w1.heap.size ≤ g := Nat.le_trans (by simp) (ho.lt g rfl).1); have := LT1.out; omega), hg9.cell hH.2.1 (fun e => by injection e with e; (have e9 : w.heap.size = g := e); (have e8 : w1.heap.size ≤ g := Nat.le_trans (by simp) (ho.lt g rfl).1); have := LT1.out; omega), hg9.cell hH.2.2.1 (fun e => by injection e with e; (have e9 : w.heap.size = g := e); (have e8 : w1.heap.size ≤ g := Nat.le_trans (by simp) (ho.lt g rfl).1); have := LT1.out; omega), hg9.cell hH.2.2.2.1 (fun e => by injection e with e; (have e9 : w.heap.size = g := e); (have e8 : w1.heap.size ≤ g := Nat.le_trans (by simp) (ho.lt g rfl).1); have := LT1.out; omega), hg9.cell hH.2.2.2.2.1 (fun e => by injection e with e; (have e9 : w.heap.size = g := e); (have e8 : w1.heap.size ≤ g := Nat.le_trans (by simp) (ho.lt g rfl).1); have := LT1.out; omega), hg9.cell hH.2.2.2.2.2.1 (fun e => by injection e with e; (have e9 : w.heap.size = g := e); (have e8 : w1.heap.size ≤ g := Nat.le_trans (by simp) (ho.lt g rfl).1); have := LT1.out; omega), hg9.cell hH.2.2.2.2.2.2.1 (fun e => by injection e with e; (have e9 : w.heap.size = g := e); (have e8 : w1.heap.size ≤ g := Nat.le_trans (by simp) (ho.lt g rfl).1); have := LT1.out; omega), hg9.cell hH.2.2.2.2.2.2.2.1 (fun e => by injection e with e; (have e9 : w.heap.size = g := e); (have e8 : w1.heap.size ≤ g := Nat.le_trans (by simp) (ho.lt g rfl).1); have := LT1.out; omega), Below.grown hH.2.2.2.2.2.2.2.2 hg9 hH.2.2.2.2.2.2.2.2.size (fun q hq => by cases hq; (have e8 : w1.heap.size ≤ g := Nat.le_trans (by simp) (ho.lt g rfl).1); exact e8)⟩
    replace hH := hG
    clear hK K hG
    try simp only [Act.put, List.setIfInBounds_toArray, List.set_cons_zero, List.set_cons_succ]
    refine wpAnyH_take (i := 5) (oi := { dst := some 6, op := _, type := _, pos := _, after := _, guard := _ }) (v := ?_) rfl (by kernel_rfl) (by kernel_rfl) (by kernel_rfl) (fun _ _ _ h => h) (Or.inl ⟨by rfl, ?_⟩) hH ?_
    rotate_left 1
    · intro W hSw
      (try dsimp only at hSw)
      go_simp
      (try with_reducible rfl)
    try simp only [Act.put, List.setIfInBounds_toArray, List.set_cons_zero, List.set_cons_succ]
    refine wpAnyH_done (by kernel_rfl) ?_ _
    refine NoPanic.normal ?_
    obtain ⟨_, _, _, _, _, _, _, _, hB⟩ := hH
    have B3 := Lib.hid (B1.out.trans (hB.mono B1.out.size))
    have RO := Lib.hid ho9
    clear hB hg9 hrun ho ho9 hb1 d0 d1 d2 d3 d4 d5 d6 d7
    (try clear z0 z1 z2 z3 z4 z5 z6 z7)
    have RO := Lib.hid (show u9.ownsRow w.heap.size 28 8 (.slice (some ⟨g9, 0, none⟩) (n0 + 1) c10) (n0 + 1) (dls (zs ++ [⟨n, q, l, x, y, h, t, m⟩])) by rw [← dls_snoc]; exact RO.out)
    have GL := Lib.hid (RO.out.lt g9 rfl).1
    have LN := Lib.hid (show (zs ++ [(⟨n, q, l, x, y, h, t, m⟩ : D)]).length = n0 + 1 by rw [List.length_append, HN.out]; rfl)
    have CSR := Lib.hid (So6.sortD w.heap.size g9 (n0 + 1) c10 (zs ++ [⟨n, q, l, x, y, h, t, m⟩]) u9 LN.out (by omega) RO.out)
    clear RO
    go_wp2_with fail
    refine CSR.out.mono ?_
    rintro e w4 hsrt
    obtain ⟨he, ys, hperm, hpw, hoy, hgr⟩ := hsrt
    subst he
    have hlen : ys.length = n0 + 1 := by rw [hperm.length_eq, LN.out]
    have B4 := Lib.hid (B3.out.grown hgr B3.out.size (fun j hj => by cases hj; exact GL.out))
    have O4 := Lib.hid hoy
    obtain ⟨m1, m2⟩ := sorted_same (rig_of HS.out) hperm hpw
    have CRY := Lib.hid (fun (W : World) (hW : Rd W W.heap.size (some ⟨g9, 0, none⟩) (dls ys)) => rigI (some ⟨g9, 0, none⟩) (n0 + 1) c10 ys W hlen (by omega) hW)
    rw [m1] at CRY
    obtain ⟨G, hG⟩ : ∃ b, adG zs ⟨n, q, l, x, y, h, t, m⟩ = b := ⟨_, rfl⟩
    rw [hG] at CRY m2
    have HG := Lib.hid hG
    have M2 := Lib.hid m2
    have HL := Lib.hid hlen
    clear hperm hpw hoy hgr m1 m2 hG hlen CSR
    cases G
    · go_wp2_with fail
      refine (CRY.out _ (Rd.own O4.out)).mono ?_
      rintro e w5 ⟨rfl, hb5⟩
      have B5 := Lib.hid (B4.out.trans (hb5.mono B4.out.size))
      clear hb5
      go_wp2_with fail
      refine (CC.out _ B5.out).mono ?_
      rintro e w9 ⟨g, c, rfl, ho, hb9⟩
      have B9 := Lib.hid (B5.out.trans (hb9.mono B5.out.size))
      have RO := Lib.hid (owns_base ho (Nat.le_trans B5.out.size (ho.lt g rfl).1))
      clear ho hb9
      go_wp2_with fail
      go_returns
      rw [adL_no HG.out, HG.out]
      exact ⟨g, c, rfl, RO.out, B9.out⟩
    · go_wp2_with fail
      refine (CRY.out _ (Rd.own O4.out)).mono ?_
      rintro e w5 ⟨rfl, hb5⟩
      have B5 := Lib.hid (B4.out.trans (hb5.mono B4.out.size))
      have O5 := Lib.hid (owns_below O4.out hb5)
      clear hb5
      go_wp2_with fail
      go_returns
      rw [adL_yes HG.out, HG.out, ← M2.out (by first | rfl | trivial)]
      exact ⟨g9, c10, by rw [HL.out]; first | done | rfl, by rw [HL.out]; exact O5.out, B5.out⟩
end Go.Proofs.Ytgcheplneolonab.Ai6
