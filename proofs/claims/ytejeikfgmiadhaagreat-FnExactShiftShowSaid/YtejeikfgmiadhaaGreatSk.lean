/- ShiftRig of the program and of the model. -/
import Derived.Test.YtejeikfgmiadhaaGreatM23
import Derived.Test.YtejeikfgmiadhaaGreatM26
namespace Go.Proofs.YtejeikfgmiadhaaGreat.Sk
open Go.RowKit Go.ChangeShapes Go.WideShapes Go.WideElems Go.Deep Go.Proofs.YtejeikfgmiadhaaGreat.Mem Go.Proofs.YtejeikfgmiadhaaGreat.Rw Go.Proofs.YtejeikfgmiadhaaGreat.Pw Go.Proofs.YtejeikfgmiadhaaGreat.P2 Go.Proofs.YtejeikfgmiadhaaGreat.Dd Go.Proofs.YtejeikfgmiadhaaGreat.Dv Go.Proofs.YtejeikfgmiadhaaGreat.Dl Go.Proofs.YtejeikfgmiadhaaGreat.Ds Go.Proofs.YtejeikfgmiadhaaGreat.Fd Go.Proofs.YtejeikfgmiadhaaGreat.Ch Go.Proofs.YtejeikfgmiadhaaGreat.Hn Go.Proofs.YtejeikfgmiadhaaGreat.Po
set_option linter.unusedVariables false
set_option linter.unusedSimpArgs false
open Go.Proofs.YtejeikfgmiadhaaGreat.Cm Go.Proofs.YtejeikfgmiadhaaGreat.Pl Go.Proofs.YtejeikfgmiadhaaGreat.Str Go.Proofs.YtejeikfgmiadhaaGreat.Hd Go.Proofs.YtejeikfgmiadhaaGreat.Jt Go.Proofs.YtejeikfgmiadhaaGreat.Ho Go.Proofs.YtejeikfgmiadhaaGreat.Pa Go.Proofs.YtejeikfgmiadhaaGreat.Di Go.Proofs.YtejeikfgmiadhaaGreat.Ig Go.Proofs.YtejeikfgmiadhaaGreat.Ir Go.Proofs.YtejeikfgmiadhaaGreat.Iq Go.Proofs.YtejeikfgmiadhaaGreat.IsName Go.Proofs.YtejeikfgmiadhaaGreat.Mo Go.Proofs.YtejeikfgmiadhaaGreat.Tr Go.Proofs.YtejeikfgmiadhaaGreat.Tq Go.Proofs.YtejeikfgmiadhaaGreat.Sg
open Go.Proofs.YtejeikfgmiadhaaGreat.Rw (owns_below owns_grown)

noncomputable def shG (zs : List D) (a b : Int) : Bool := rig zs && (ms a && ms b)
/-- A rig that is moved, and whether it is one. -/
noncomputable def shZ (zs : List D) (a b : Int) : List D := if shG zs a b = true then mvL 0 a b zs else []
noncomputable def shR (zs : List D) (a b : Int) : Bool := shG zs a b && mvB 0 a b zs
theorem shZ_len (zs : List D) (a b : Int) : (shZ zs a b).length ≤ zs.length := by unfold shZ; split; exact mvL_len _ _ _ _; simp
theorem mv0 {a b : Int} {d : D} (h : dB d = true) (h1 : d.kd ≠ 1) : mvD 0 a b d = ⟨d.nm, d.kd, d.ln, d.x + a, d.y + b, d.hd, d.tl, d.ms⟩ := by
  rw [mvD_o h1]
  have hx : tx ((0 : Int) % 4).toNat d.x d.y = d.x := rfl
  have hy : ty ((0 : Int) % 4).toNat d.x d.y = d.y := rfl
  rw [hx, hy]
  by_cases h2 : d.kd = 2
  · rw [if_pos h2]
    unfold dB devB at h
    rw [Bool.and_eq_true, if_neg h1, if_pos h2] at h
    have := h.2
    unfold nozB at this
    rw [Bool.and_eq_true, Bool.and_eq_true] at this
    have hj := jt_iff.1 this.2.1
    have : th d.hd 0 = d.hd := by unfold th; rw [if_pos (hd_mk hj.2.2.1)]; omega
    rw [this]
  · rw [if_neg h2]
theorem mixed_same {xs ys : List Value} {k : Nat} {v : Value} (h : ys.length = xs.length) (hx : xs[k]? = some v) (hy : ys[k]? = some v) : mixed xs ys (k + 1) = mixed xs ys k := by
  rw [← mixed_put h hx]
  have := mixed_at (k := k) h (Nat.le_refl k) hy
  obtain ⟨hk, e⟩ := List.getElem?_eq_some_iff.1 this
  rw [← e]
  exact List.set_getElem_self hk

set_option maxRecDepth 100000 in
set_option maxHeartbeats 2000000 in
theorem shiftS (A : Option Addr) (n0 c9 : Nat) (zs : List D) (a b : Int) (w : World) (hn : zs.length = n0) (hb : n0 ≤ 1048576) (hsz : ∀ z ∈ zs, z.nm.size ≤ 1048576 ∧ z.ln.size ≤ 1048576) (hr : Rd w w.heap.size A (dls zs)) :
    Calls Tryz.prog 51 #[.slice A n0 c9, .agg #[.int .i64 a, .int .i64 b]] w (RowB w (shZ zs a b) (shR zs a b)) := by
  have B0 := Lib.hid (show Below w.heap.size w (w.alloc (.cells #[.int .i64 a, .int .i64 b] 47)) from by go_grown)
  have CR := Lib.hid (rigS A n0 c9 zs (w.alloc (.cells #[.int .i64 a, .int .i64 b] 47)) hn hb hsz ((hr.below B0.out).more (by simp)))
  obtain ⟨bp, hp⟩ : ∃ r, (ms a && ms b) = r := ⟨_, rfl⟩
  have CPl := Lib.hid (isPlaceS_of hp)
  obtain ⟨rr, hrr⟩ : ∃ r, rig zs = r := ⟨_, rfl⟩
  have HG := Lib.hid (show shG zs a b = (rr && bp) by unfold shG; rw [hrr, hp])
  rw [hrr] at CR
  by_cases hall : rr = true ∧ bp = true
  · obtain ⟨rfl, rfl⟩ := hall
    have H := rig_of hrr
    have hab := pl_yes hp
    have CM := Lib.hid (fun (W : World) (hW : Below w.heap.size w W) => movedS A n0 c9 zs 0 a b W hn hb hsz ((hr.below hW).more hW.size) (fun k d hd => (H.2 k d hd).1) hab.1 hab.2)
    have HZ := Lib.hid (show shZ zs a b = mvL 0 a b zs by unfold shZ; rw [HG.out]; rfl)
    have HQ := Lib.hid (show shR zs a b = mvB 0 a b zs by unfold shR; rw [HG.out]; rfl)
    clear hr hn hsz hrr H hab hp
    go_enter Tryz.func51, Tryz.ntmps51
    go_wp2_with fail
    refine CR.out.mono ?_
    rintro e w1 ⟨rfl, hb1⟩
    have p0 : w.heap.size < w1.heap.size := by have := hb1.size; simp at this; omega
    have y0 : w1.cell? ⟨w.heap.size, 0, none⟩ = some (.int .i64 a) := (hb1.cell (by simp)).trans (by simp [go_sem])
    have y1 : w1.cell? ⟨w.heap.size, 1, none⟩ = some (.int .i64 b) := (hb1.cell (by simp)).trans (by simp [go_sem])
    have B1 := Lib.hid (B0.out.trans (hb1.mono (by simp)))
    clear hb1 CR
    go_wp2_with fail
    refine (CPl.out _).mono ?_
    rintro e w' ⟨rfl, rfl⟩
    have B2 := Lib.hid (B1.out.alloc B1.out.size (.cells #[.int .i64 a, .int .i64 b] 47))
    go_wp2_with fail
    refine (CM.out _ B2.out).mono ?_
    rintro e w3 ⟨g, c, rfl, ho, hb3⟩
    have B3 := Lib.hid (B2.out.trans (hb3.mono B2.out.size))
    have RO := Lib.hid (Rw.owns_base ho (Nat.le_trans B2.out.size ((ho.lt g rfl).1)))
    clear ho hb3 y0 y1
    go_wp2_with fail
    go_returns
    rw [HZ.out, HQ.out]
    exact ⟨g, c, rfl, RO.out, B3.out⟩
  · have HG2 := Lib.hid (show shG zs a b = false by rw [HG.out]; revert hall; cases rr <;> cases bp <;> simp)
    have HZ := Lib.hid (show shZ zs a b = [] by unfold shZ; rw [HG2.out]; rfl)
    have HQ := Lib.hid (show shR zs a b = false by unfold shR; rw [HG2.out]; rfl)
    clear hr hn hsz hrr hp
    cases rr
    · go_enter Tryz.func51, Tryz.ntmps51
      go_wp2_with fail
      refine CR.out.mono ?_
      rintro e w1 ⟨rfl, hb1⟩
      have B1 := Lib.hid (B0.out.trans (hb1.mono (by simp)))
      clear hb1 CR
      go_wp2_with fail
      go_returns
      rw [HZ.out, HQ.out]
      exact ⟨_, _, rfl, World.ownsRow_lit (base := w.heap.size) (e := 117) (size := 8) w1 #[] 0 B1.out.size (Nat.zero_le _) rfl, B1.out.alloc B1.out.size _⟩
    · obtain rfl : bp = false := by revert hall; cases bp <;> simp
      go_enter Tryz.func51, Tryz.ntmps51
      go_wp2_with fail
      refine CR.out.mono ?_
      rintro e w1 ⟨rfl, hb1⟩
      have p0 : w.heap.size < w1.heap.size := by have := hb1.size; simp at this; omega
      have y0 : w1.cell? ⟨w.heap.size, 0, none⟩ = some (.int .i64 a) := (hb1.cell (by simp)).trans (by simp [go_sem])
      have y1 : w1.cell? ⟨w.heap.size, 1, none⟩ = some (.int .i64 b) := (hb1.cell (by simp)).trans (by simp [go_sem])
      have B1 := Lib.hid (B0.out.trans (hb1.mono (by simp)))
      clear hb1 CR
      go_wp2_with fail
      refine (CPl.out _).mono ?_
      rintro e w' ⟨rfl, rfl⟩
      have B2 := Lib.hid (B1.out.alloc B1.out.size (.cells #[.int .i64 a, .int .i64 b] 47))
      clear y0 y1 p0
      generalize w1.alloc (.cells #[.int .i64 a, .int .i64 b] 47) = V at *
      go_wp2_with fail
      go_returns
      rw [HZ.out, HQ.out]
      exact ⟨_, _, rfl, World.ownsRow_lit (base := w.heap.size) (e := 117) (size := 8) V #[] 0 B2.out.size (Nat.zero_le _) rfl, B2.out.alloc B2.out.size _⟩

set_option maxRecDepth 100000 in
set_option maxHeartbeats 2000000 in
theorem shiftI (ad : Addr) (n0 c9 : Nat) (zs : List D) (a b : Int) (w : World) (hn : zs.length = n0) (hb : n0 ≤ 1048576) (hr : Rd w w.heap.size (some ad) (dls zs)) :
    Calls Tryz.prog 53 #[.slice (some ad) n0 c9, .agg #[.int .i64 a, .int .i64 b]] w (RowB w (shZ zs a b) (shR zs a b)) := by
  have hmm := @run_makeMap Tryz.prog
  have B0 := Lib.hid (show Below w.heap.size w (w.alloc (.cells #[.int .i64 a, .int .i64 b] 47)) from by go_grown)
  have HR := Lib.hid hr
  have HN := Lib.hid hn
  have CR := Lib.hid (rigI (some ad) n0 c9 zs (w.alloc (.cells #[.int .i64 a, .int .i64 b] 47)) hn hb ((hr.below B0.out).more (by simp)))
  obtain ⟨bp, hp⟩ : ∃ r, (ms a && ms b) = r := ⟨_, rfl⟩
  have CPl := Lib.hid (isPlaceI_of hp)
  obtain ⟨rr, hrr⟩ : ∃ r, rig zs = r := ⟨_, rfl⟩
  have HG := Lib.hid (show shG zs a b = (rr && bp) by unfold shG; rw [hrr, hp])
  have HP9 := Lib.hid hp
  rw [hrr] at CR
  clear hr hn
  by_cases hall : rr = true ∧ bp = true
  · obtain ⟨rfl, rfl⟩ := hall
    have HH := Lib.hid (rig_of hrr)
    have HZ := Lib.hid (show shZ zs a b = mvL 0 a b zs by unfold shZ; rw [HG.out]; rfl)
    have HQ := Lib.hid (show shR zs a b = mvB 0 a b zs by unfold shR; rw [HG.out]; rfl)
    have HLN := Lib.hid (show (dls zs).length = (dls (zs.map (mvD 0 a b))).length by rw [dls_len, dls_len, List.length_map])
    clear hrr hp
    go_enter Tryz.func53, Tryz.ntmps53
    go_wp2_with fail
    refine CR.out.mono ?_
    rintro e w1 ⟨rfl, hb1⟩
    have p0 : w.heap.size < w1.heap.size := by have := hb1.size; simp at this; omega
    have y0 : w1.cell? ⟨w.heap.size, 0, none⟩ = some (.int .i64 a) := (hb1.cell (by simp)).trans (by simp [go_sem])
    have y1 : w1.cell? ⟨w.heap.size, 1, none⟩ = some (.int .i64 b) := (hb1.cell (by simp)).trans (by simp [go_sem])
    have B1 := Lib.hid (B0.out.trans (hb1.mono (by simp)))
    clear hb1 CR
    go_wp2_with fail
    refine (CPl.out _).mono ?_
    rintro e w' ⟨rfl, rfl⟩
    have B2 := Lib.hid (B1.out.alloc B1.out.size (.cells #[.int .i64 a, .int .i64 b] 47))
    have Y := Lib.hid (And.intro (cell_alloc (o := (.cells #[.int .i64 a, .int .i64 b] 47)) y0) (cell_alloc (o := (.cells #[.int .i64 a, .int .i64 b] 47)) y1))
    have CC := Lib.hid (cloneD ad n0 c9 zs (w1.alloc (.cells #[.int .i64 a, .int .i64 b] 47)) HN.out hb ((HR.out.below B2.out).more B2.out.size))
    have SZW := Lib.hid (show w.heap.size < (w1.alloc (.cells #[.int .i64 a, .int .i64 b] 47)).heap.size by simp; omega)
    clear y0 y1 p0
    generalize w1.alloc (.cells #[.int .i64 a, .int .i64 b] 47) = V at *
    go_wp2_with fail
    refine CC.out.mono ?_
    rintro e w2 ⟨gO, cO, rfl, ho, hb2⟩
    rw [HN.out] at ho ⊢
    have B3 := Lib.hid (B2.out.trans (hb2.mono B2.out.size))
    have Y2 := Lib.hid (And.intro (cell_below hb2 Y.out.1) (cell_below hb2 Y.out.2))
    have gl : w.heap.size < gO := Nat.lt_of_lt_of_le SZW.out (ho.lt gO rfl).1
    have R2 := Lib.hid (show w2.ownsRow V.heap.size 117 8 (.slice (some ⟨gO, 0, none⟩) n0 cO) n0 (mixed (dls (zs.map (mvD 0 a b))) (dls zs) 0) by rw [mixed_zero]; exact ho)
    have V2 := Lib.hid hb2.size
    have CP := Lib.hid (partsOf (some ad) n0 c9 w2.heap.size zs [] w.heap.size (w2.alloc (.map #[] 0)) HN.out hb (by have := B3.out.size; simp; omega) ((HR.out.below B3.out).below (Below.mono (by go_grown) B3.out.size)) (by
      have hs := B3.out.size
      rcases HR.out with h | ⟨b', o', e, hb', _⟩
      · exact Or.inr h
      · refine Or.inl ?_; rw [e]; simp; omega) (Ls.made w2) (Gd.nil _))
    clear ho hb2 CC B2 Y
    go_wp2_with fail
    refine CP.out.mono ?_
    rintro e w3 ⟨g, M, rfl, HP⟩
    have HP := Lib.hid HP
    have W3 := Lib.hid (show Below w2.heap.size w2 w3 from Below.grown (by go_grown) HP.out.grown (by simp) (fun k hk => by cases hk; exact Nat.le_refl _))
    have B4 := Lib.hid (B3.out.trans (W3.out.mono B3.out.size))
    have R3 := Lib.hid (owns_below R2.out W3.out)
    have Y3 := Lib.hid (And.intro (cell_below W3.out Y2.out.1) (cell_below W3.out Y2.out.2))
    have P3 := Lib.hid HP.out.row
    clear hmm CP R2 B3 Y2 W3 HP
    go_wp2_with fail
    go_loopw [28] (fun i wr => ∃ k : Nat, k ≤ n0 ∧ i = .int .i64 k ∧ Hid (∀ (j : Nat) (d : D), j < k → zs[j]? = some d → dB (mvD 0 a b d) = true) ∧ Hid (wr.ownsRow V.heap.size 117 8 (.slice (some ⟨gO, 0, none⟩) n0 cO) n0 (mixed (dls (zs.map (mvD 0 a b))) (dls zs) (k * 8))) ∧ Hid (wr.ownsRow (w2.alloc (.map #[] 0)).heap.size 149 1 (.slice (some ⟨g, 0, none⟩) n0 n0) n0 (zs.map (ptM M))) ∧ Hid (wr.cell? ⟨w.heap.size, 0, none⟩ = some (.int .i64 a) ∧ wr.cell? ⟨w.heap.size, 1, none⟩ = some (.int .i64 b)) ∧ Hid (Below w.heap.size w wr)) (fun i _ => n0 - (intOf i).toNat)
    case atStart => exact ⟨0, Nat.zero_le _, rfl, Lib.hid (fun j d h => by omega), R3, P3, Y3, B4⟩
    case round =>
      obtain ⟨k, hk, rfl, AK, RK, PK, YK, BK⟩ := hrel
      clear R3 P3 B4 Y3
      by_cases hlt : k < n0
      · obtain ⟨z, hz⟩ : ∃ z, zs[k]? = some z := ⟨_, List.getElem?_eq_getElem (by rw [HN.out]; exact hlt)⟩
        have HZZ := Lib.hid hz
        have hpc : wr.cell? ⟨g, k, none⟩ = some (ptM M z) := by
          have := PK.out.cellAt k (by show k < n0 * 1; omega)
          rw [List.getElem?_map, hz, Option.map_some] at this
          exact this
        have hw9 := (HH.out.2 k z hz).1
        have hy := dls_get hz
        have HY := Lib.hid hy
        have hm : (zs.map (mvD 0 a b))[k]? = some (mvD 0 a b z) := by rw [List.getElem?_map, hz]; rfl
        have NE := Lib.hid (ne_own RK.out PK.out)
        obtain ⟨n, q, l, x, y, h, t, m⟩ := z
        have hk3 := dB_kinds hw9
        unfold ptM at hpc
        simp only [] at hpc hk3
        generalize (lk M l).getD 0 = c at hpc
        clear hy hz
        by_cases q1 : q = 1
        · subst q1
          rw [show pt n 1 l x y h t m c = .iface 202 (va n 1 l x y h t m) from rfl] at hpc
          have ta := as_pump
          rw [mvD_1 rfl] at hm
          have hM := dls_get hm
          have RR := Lib.hid (show wr.ownsRow V.heap.size 117 8 (.slice (some ⟨gO, 0, none⟩) n0 cO) n0 (mixed (dls (zs.map (mvD 0 a b))) (dls zs) ((k + 1) * 8)) by
            rw [show (k + 1) * 8 = k * 8 + 7 + 1 by omega, mixed_same HLN.out hM.2.2.2.2.2.2.2 HY.out.2.2.2.2.2.2.2, show k * 8 + 7 = k * 8 + 6 + 1 from rfl, mixed_same HLN.out hM.2.2.2.2.2.2.1 HY.out.2.2.2.2.2.2.1, show k * 8 + 6 = k * 8 + 5 + 1 from rfl, mixed_same HLN.out hM.2.2.2.2.2.1 HY.out.2.2.2.2.2.1, show k * 8 + 5 = k * 8 + 4 + 1 from rfl, mixed_same HLN.out hM.2.2.2.2.1 HY.out.2.2.2.2.1, show k * 8 + 4 = k * 8 + 3 + 1 from rfl, mixed_same HLN.out hM.2.2.2.1 HY.out.2.2.2.1, show k * 8 + 3 = k * 8 + 2 + 1 from rfl, mixed_same HLN.out hM.2.2.1 HY.out.2.2.1, show k * 8 + 2 = k * 8 + 1 + 1 from rfl, mixed_same HLN.out hM.2.1 HY.out.2.1, mixed_same HLN.out hM.1 HY.out.1]
            exact RK.out)
          have AA := Lib.hid (show ∀ (j : Nat) (d : D), j < k + 1 → zs[j]? = some d → dB (mvD 0 a b d) = true from fun j d hj hd => by
            by_cases e : j = k
            · subst e; rw [HZZ.out] at hd; cases hd; rw [mvD_1 rfl]; exact hw9
            · exact AK.out j d (by omega) hd)
          clear hM hm hk3
          go_wp2_with fail
          go_roundw
          case rel => first | exact ⟨k + 1, by omega, by go_num, AA, RR, PK, YK, BK⟩ | ((repeat apply Exists.intro); exact ⟨⟨k + 1, by omega, by go_num, AA, RR, PK, YK, BK⟩, rfl⟩)
          case measure => simp [intOf]; omega
        by_cases q2 : q = 2
        · subst q2
          rw [show pt n 2 l x y h t m c = .iface 208 (hv n 2 l x y h t m c) from rfl] at hpc
          have ta := as_nozzle
          have hpl := dB_place hw9 (by show (2 : Int) ≠ 1; decide)
          have HMV := Lib.hid (mv0 (a := a) (b := b) hw9 (by show (2 : Int) ≠ 1; decide))
          simp only [] at hpl HMV
          rw [HMV.out] at hm
          obtain ⟨b3, h3⟩ : ∃ r, (ms (x + a) && ms (y + b)) = r := ⟨_, rfl⟩
          obtain ⟨X, hX⟩ : ∃ v, (if b3 then x + a else 0) = v := ⟨_, rfl⟩
          obtain ⟨Y, hY⟩ : ∃ v, (if b3 then y + b else 0) = v := ⟨_, rfl⟩
          obtain ⟨r, hr9⟩ : ∃ r, dB (mvD 0 a b ⟨n, 2, l, x, y, h, t, m⟩) = r := ⟨_, rfl⟩
          have hrr : dB ⟨n, 2, l, x + a, y + b, h, t, m⟩ = r := by rw [← HMV.out]; exact hr9
          have hr0 : b3 = false → r = false := fun e => by
            rw [← hrr]
            cases hd : dB ⟨n, 2, l, x + a, y + b, h, t, m⟩
            · rfl
            · have := dB_place hd (by show (2 : Int) ≠ 1; decide)
              simp only [] at this
              rw [pl_mk (by omega) (by omega)] at h3
              rw [← h3] at e; cases e
          have hr1 : b3 = true → devB n 2 l X Y h t m = r := fun e => by
            rw [← hX, ← hY, e]; exact hrr
          have CS := Lib.hid (fun W => shiftedG n 2 l x y h t m c a b (pl_mk (by omega) (by omega)) HP9.out h3 hX hY hr1 hr0 W)
          have HB3 := Lib.hid hr0
          have HX := Lib.hid hX
          have HYY := Lib.hid hY
          have HR9 := Lib.hid hr9
          have yk0 := YK.out.1
          have yk1 := YK.out.2
          have bl : w.heap.size < wr.heap.size := World.block_lt_of_cell? wr _ yk0
          clear hpl h3 hX hY hr9 hrr hr0 hr1 hw9 hk3
          go_wp2_with fail
          refine (CS.out _).mono ?_
          rintro e u ⟨rfl, hb1⟩
          have R1 := owns_below RK.out hb1
          have P1 := owns_below PK.out hb1
          have BU := BK.out.trans (hb1.mono BK.out.size)
          have YU := And.intro (cell_below hb1 yk0) (cell_below hb1 yk1)
          clear hb1 yk0 yk1 bl CS hpc ta RK PK BK YK
          cases r
          · skip
            have HL1 := Lib.hid (show mvB 0 a b zs = false from mvB_no fun H => by have := H k _ HZZ.out; rw [HR9.out] at this; cases this)
            have HL2 := Lib.hid (show mvL 0 a b zs = [] by unfold mvL; rw [HL1.out]; rfl)
            have BU2 := Lib.hid BU
            clear R1 P1 BU YU
            go_wp2_with fail
            go_returns
            rw [HZ.out, HQ.out, HL1.out, HL2.out]
            have hsz9 : (u.alloc (.cells (ca n 2 l X Y h t m) 117)).heap.size = u.heap.size + 1 := by simp
            have hrow := World.ownsRow_lit (base := w.heap.size) (e := 117) (size := 8) (u.alloc (.cells (ca n 2 l X Y h t m) 117)) #[] 0 (by have := BU2.out.size; rw [hsz9]; omega) (Nat.zero_le _) rfl
            rw [hsz9] at hrow
            exact ⟨_, _, rfl, hrow, (BU2.out.alloc BU2.out.size _).alloc (by have := BU2.out.size; simp; omega) _⟩
          · skip
            obtain rfl : b3 = true := by
              cases b3
              · have := HB3.out rfl; cases this
              · rfl
            obtain rfl : x + a = X := HX.out
            obtain rfl : y + b = Y := HYY.out
            have hM := dls_get hm
            have hL := HLN.out
            have hl8 : (dls (zs.map (mvD 0 a b))).length = n0 * 8 := by rw [dls_len, List.length_map, HN.out]
            have UB := Lib.hid (show Below u.heap.size u (u.alloc (.cells (ca n 2 l (x + a) (y + b) h t m) 117)) from by go_grown)
            have ul : gO < u.heap.size := (R1.lt gO rfl).2
            have e0 : u.cell? ⟨gO, k * 8, none⟩ = some (.string n) := (R1.cellAt (k * 8) (by omega)).trans (mixed_at hL (by omega) HY.out.1)
            have f0 := R1.frozenAt (k * 8)
            have e1 : u.cell? ⟨gO, k * 8 + 1, none⟩ = some (.int .i64 2) := (R1.cellAt (k * 8 + 1) (by omega)).trans (mixed_at hL (by omega) HY.out.2.1)
            have f1 := R1.frozenAt (k * 8 + 1)
            have e2 : u.cell? ⟨gO, k * 8 + 2, none⟩ = some (.string l) := (R1.cellAt (k * 8 + 2) (by omega)).trans (mixed_at hL (by omega) HY.out.2.2.1)
            have f2 := R1.frozenAt (k * 8 + 2)
            have e3 : u.cell? ⟨gO, k * 8 + 3, none⟩ = some (.int .i64 x) := (R1.cellAt (k * 8 + 3) (by omega)).trans (mixed_at hL (by omega) HY.out.2.2.2.1)
            have f3 := R1.frozenAt (k * 8 + 3)
            have e4 : u.cell? ⟨gO, k * 8 + 4, none⟩ = some (.int .i64 y) := (R1.cellAt (k * 8 + 4) (by omega)).trans (mixed_at hL (by omega) HY.out.2.2.2.2.1)
            have f4 := R1.frozenAt (k * 8 + 4)
            have e5 : u.cell? ⟨gO, k * 8 + 5, none⟩ = some (.int .i64 h) := (R1.cellAt (k * 8 + 5) (by omega)).trans (mixed_at hL (by omega) HY.out.2.2.2.2.2.1)
            have f5 := R1.frozenAt (k * 8 + 5)
            have e6 : u.cell? ⟨gO, k * 8 + 6, none⟩ = some (.int .i64 t) := (R1.cellAt (k * 8 + 6) (by omega)).trans (mixed_at hL (by omega) HY.out.2.2.2.2.2.2.1)
            have f6 := R1.frozenAt (k * 8 + 6)
            have e7 : u.cell? ⟨gO, k * 8 + 7, none⟩ = some (.int .i64 m) := (R1.cellAt (k * 8 + 7) (by omega)).trans (mixed_at hL (by omega) HY.out.2.2.2.2.2.2.2)
            have f7 := R1.frozenAt (k * 8 + 7)
            obtain ⟨r0, g0⟩ := R1.stored (k * 8) (.string n)
            rw [mixed_put hL hM.1] at r0
            obtain ⟨r1, g1⟩ := r0.stored (k * 8 + 1) (.int .i64 2)
            rw [mixed_put hL hM.2.1] at r1
            obtain ⟨r2, g2⟩ := r1.stored (k * 8 + 1 + 1) (.string l)
            rw [mixed_put hL hM.2.2.1] at r2
            obtain ⟨r3, g3⟩ := r2.stored (k * 8 + 1 + 1 + 1) (.int .i64 (x + a))
            rw [mixed_put hL hM.2.2.2.1] at r3
            obtain ⟨r4, g4⟩ := r3.stored (k * 8 + 1 + 1 + 1 + 1) (.int .i64 (y + b))
            rw [mixed_put hL hM.2.2.2.2.1] at r4
            obtain ⟨r5, g5⟩ := r4.stored (k * 8 + 1 + 1 + 1 + 1 + 1) (.int .i64 h)
            rw [mixed_put hL hM.2.2.2.2.2.1] at r5
            obtain ⟨r6, g6⟩ := r5.stored (k * 8 + 1 + 1 + 1 + 1 + 1 + 1) (.int .i64 t)
            rw [mixed_put hL hM.2.2.2.2.2.2.1] at r6
            obtain ⟨r7, g7⟩ := r6.stored (k * 8 + 1 + 1 + 1 + 1 + 1 + 1 + 1) (.int .i64 m)
            rw [mixed_put hL hM.2.2.2.2.2.2.2] at r7
            have RR := Lib.hid (r7.alloc (.cells (ca n 2 l (x + a) (y + b) h t m) 117))
            have b0 := BU.grown g0 BU.size (fun g hg => by cases hg; exact Nat.le_of_lt gl)
            have p0 := owns_grown P1 g0 (fun u hu e => by cases hu; exact NE.out (Option.some.inj e))
            have y0 := And.intro (g0.cell YU.1 (fun e => by injection e with e; (have e9 : w.heap.size = gO := e); omega)) (g0.cell YU.2 (fun e => by injection e with e; (have e9 : w.heap.size = gO := e); omega))
            have b1 := b0.grown g1 b0.size (fun g hg => by cases hg; exact Nat.le_of_lt gl)
            have p1 := owns_grown p0 g1 (fun u hu e => by cases hu; exact NE.out (Option.some.inj e))
            have y1 := And.intro (g1.cell y0.1 (fun e => by injection e with e; (have e9 : w.heap.size = gO := e); omega)) (g1.cell y0.2 (fun e => by injection e with e; (have e9 : w.heap.size = gO := e); omega))
            have b2 := b1.grown g2 b1.size (fun g hg => by cases hg; exact Nat.le_of_lt gl)
            have p2 := owns_grown p1 g2 (fun u hu e => by cases hu; exact NE.out (Option.some.inj e))
            have y2 := And.intro (g2.cell y1.1 (fun e => by injection e with e; (have e9 : w.heap.size = gO := e); omega)) (g2.cell y1.2 (fun e => by injection e with e; (have e9 : w.heap.size = gO := e); omega))
            have b3 := b2.grown g3 b2.size (fun g hg => by cases hg; exact Nat.le_of_lt gl)
            have p3 := owns_grown p2 g3 (fun u hu e => by cases hu; exact NE.out (Option.some.inj e))
            have y3 := And.intro (g3.cell y2.1 (fun e => by injection e with e; (have e9 : w.heap.size = gO := e); omega)) (g3.cell y2.2 (fun e => by injection e with e; (have e9 : w.heap.size = gO := e); omega))
            have b4 := b3.grown g4 b3.size (fun g hg => by cases hg; exact Nat.le_of_lt gl)
            have p4 := owns_grown p3 g4 (fun u hu e => by cases hu; exact NE.out (Option.some.inj e))
            have y4 := And.intro (g4.cell y3.1 (fun e => by injection e with e; (have e9 : w.heap.size = gO := e); omega)) (g4.cell y3.2 (fun e => by injection e with e; (have e9 : w.heap.size = gO := e); omega))
            have b5 := b4.grown g5 b4.size (fun g hg => by cases hg; exact Nat.le_of_lt gl)
            have p5 := owns_grown p4 g5 (fun u hu e => by cases hu; exact NE.out (Option.some.inj e))
            have y5 := And.intro (g5.cell y4.1 (fun e => by injection e with e; (have e9 : w.heap.size = gO := e); omega)) (g5.cell y4.2 (fun e => by injection e with e; (have e9 : w.heap.size = gO := e); omega))
            have b6 := b5.grown g6 b5.size (fun g hg => by cases hg; exact Nat.le_of_lt gl)
            have p6 := owns_grown p5 g6 (fun u hu e => by cases hu; exact NE.out (Option.some.inj e))
            have y6 := And.intro (g6.cell y5.1 (fun e => by injection e with e; (have e9 : w.heap.size = gO := e); omega)) (g6.cell y5.2 (fun e => by injection e with e; (have e9 : w.heap.size = gO := e); omega))
            have b7 := b6.grown g7 b6.size (fun g hg => by cases hg; exact Nat.le_of_lt gl)
            have p7 := owns_grown p6 g7 (fun u hu e => by cases hu; exact NE.out (Option.some.inj e))
            have y7 := And.intro (g7.cell y6.1 (fun e => by injection e with e; (have e9 : w.heap.size = gO := e); omega)) (g7.cell y6.2 (fun e => by injection e with e; (have e9 : w.heap.size = gO := e); omega))
            have BB := Lib.hid (b7.alloc b7.size (.cells (ca n 2 l (x + a) (y + b) h t m) 117))
            have PP := Lib.hid (p7.alloc (.cells (ca n 2 l (x + a) (y + b) h t m) 117))
            have YY := Lib.hid (And.intro (cell_alloc (o := (.cells (ca n 2 l (x + a) (y + b) h t m) 117)) y7.1) (cell_alloc (o := (.cells (ca n 2 l (x + a) (y + b) h t m) 117)) y7.2))
            clear r0 g0 b0 p0 y0 r1 g1 b1 p1 y1 r2 g2 b2 p2 y2 r3 g3 b3 p3 y3 r4 g4 b4 p4 y4 r5 g5 b5 p5 y5 r6 g6 b6 p6 y6 r7 g7 b7 p7 y7 R1 P1 BU YU hL hl8 hM hm
            have AA := Lib.hid (show ∀ (j : Nat) (d : D), j < k + 1 → zs[j]? = some d → dB (mvD 0 a b d) = true from fun j d hj hd => by
              by_cases e : j = k
              · subst e; rw [HZZ.out] at hd; cases hd; exact HR9.out
              · exact AK.out j d (by omega) hd)
            have ul2 : ∀ j, gO < u.heap.size + j := fun j => by omega
            have ul3 : u.heap.size ≠ gO := by omega
            go_wp2_with fail
            go_roundw
            case rel => first | exact ⟨k + 1, by omega, by go_num, AA, by rw [show (k + 1) * 8 = k * 8 + 1 + 1 + 1 + 1 + 1 + 1 + 1 + 1 by omega]; exact RR, PP, YY, BB⟩ | ((repeat apply Exists.intro); exact ⟨⟨k + 1, by omega, by go_num, AA, by rw [show (k + 1) * 8 = k * 8 + 1 + 1 + 1 + 1 + 1 + 1 + 1 + 1 by omega]; exact RR, PP, YY, BB⟩, rfl⟩)
            case measure => simp [intOf]; omega
        have q3 : q = 3 := by omega
        subst q3
        rw [show pt n 3 l x y h t m c = .iface 209 (hv n 3 l x y h t m c) from rfl] at hpc
        have ta := as_lamp
        have hpl := dB_place hw9 (by show (3 : Int) ≠ 1; decide)
        have HMV := Lib.hid (mv0 (a := a) (b := b) hw9 (by show (3 : Int) ≠ 1; decide))
        simp only [] at hpl HMV
        rw [HMV.out] at hm
        obtain ⟨b3, h3⟩ : ∃ r, (ms (x + a) && ms (y + b)) = r := ⟨_, rfl⟩
        obtain ⟨X, hX⟩ : ∃ v, (if b3 then x + a else 0) = v := ⟨_, rfl⟩
        obtain ⟨Y, hY⟩ : ∃ v, (if b3 then y + b else 0) = v := ⟨_, rfl⟩
        obtain ⟨r, hr9⟩ : ∃ r, dB (mvD 0 a b ⟨n, 3, l, x, y, h, t, m⟩) = r := ⟨_, rfl⟩
        have hrr : dB ⟨n, 3, l, x + a, y + b, h, t, m⟩ = r := by rw [← HMV.out]; exact hr9
        have hr0 : b3 = false → r = false := fun e => by
          rw [← hrr]
          cases hd : dB ⟨n, 3, l, x + a, y + b, h, t, m⟩
          · rfl
          · have := dB_place hd (by show (3 : Int) ≠ 1; decide)
            simp only [] at this
            rw [pl_mk (by omega) (by omega)] at h3
            rw [← h3] at e; cases e
        have hr1 : b3 = true → devB n 3 l X Y h t m = r := fun e => by
          rw [← hX, ← hY, e]; exact hrr
        have CS := Lib.hid (fun W => shiftedG n 3 l x y h t m c a b (pl_mk (by omega) (by omega)) HP9.out h3 hX hY hr1 hr0 W)
        have HB3 := Lib.hid hr0
        have HX := Lib.hid hX
        have HYY := Lib.hid hY
        have HR9 := Lib.hid hr9
        have yk0 := YK.out.1
        have yk1 := YK.out.2
        have bl : w.heap.size < wr.heap.size := World.block_lt_of_cell? wr _ yk0
        clear hpl h3 hX hY hr9 hrr hr0 hr1 hw9 hk3
        go_wp2_with fail
        refine (CS.out _).mono ?_
        rintro e u ⟨rfl, hb1⟩
        have R1 := owns_below RK.out hb1
        have P1 := owns_below PK.out hb1
        have BU := BK.out.trans (hb1.mono BK.out.size)
        have YU := And.intro (cell_below hb1 yk0) (cell_below hb1 yk1)
        clear hb1 yk0 yk1 bl CS hpc ta RK PK BK YK
        cases r
        · skip
          have HL1 := Lib.hid (show mvB 0 a b zs = false from mvB_no fun H => by have := H k _ HZZ.out; rw [HR9.out] at this; cases this)
          have HL2 := Lib.hid (show mvL 0 a b zs = [] by unfold mvL; rw [HL1.out]; rfl)
          have BU2 := Lib.hid BU
          clear R1 P1 BU YU
          go_wp2_with fail
          go_returns
          rw [HZ.out, HQ.out, HL1.out, HL2.out]
          have hsz9 : (u.alloc (.cells (ca n 3 l X Y h t m) 117)).heap.size = u.heap.size + 1 := by simp
          have hrow := World.ownsRow_lit (base := w.heap.size) (e := 117) (size := 8) (u.alloc (.cells (ca n 3 l X Y h t m) 117)) #[] 0 (by have := BU2.out.size; rw [hsz9]; omega) (Nat.zero_le _) rfl
          rw [hsz9] at hrow
          exact ⟨_, _, rfl, hrow, (BU2.out.alloc BU2.out.size _).alloc (by have := BU2.out.size; simp; omega) _⟩
        · skip
          obtain rfl : b3 = true := by
            cases b3
            · have := HB3.out rfl; cases this
            · rfl
          obtain rfl : x + a = X := HX.out
          obtain rfl : y + b = Y := HYY.out
          have hM := dls_get hm
          have hL := HLN.out
          have hl8 : (dls (zs.map (mvD 0 a b))).length = n0 * 8 := by rw [dls_len, List.length_map, HN.out]
          have UB := Lib.hid (show Below u.heap.size u (u.alloc (.cells (ca n 3 l (x + a) (y + b) h t m) 117)) from by go_grown)
          have ul : gO < u.heap.size := (R1.lt gO rfl).2
          have e0 : u.cell? ⟨gO, k * 8, none⟩ = some (.string n) := (R1.cellAt (k * 8) (by omega)).trans (mixed_at hL (by omega) HY.out.1)
          have f0 := R1.frozenAt (k * 8)
          have e1 : u.cell? ⟨gO, k * 8 + 1, none⟩ = some (.int .i64 3) := (R1.cellAt (k * 8 + 1) (by omega)).trans (mixed_at hL (by omega) HY.out.2.1)
          have f1 := R1.frozenAt (k * 8 + 1)
          have e2 : u.cell? ⟨gO, k * 8 + 2, none⟩ = some (.string l) := (R1.cellAt (k * 8 + 2) (by omega)).trans (mixed_at hL (by omega) HY.out.2.2.1)
          have f2 := R1.frozenAt (k * 8 + 2)
          have e3 : u.cell? ⟨gO, k * 8 + 3, none⟩ = some (.int .i64 x) := (R1.cellAt (k * 8 + 3) (by omega)).trans (mixed_at hL (by omega) HY.out.2.2.2.1)
          have f3 := R1.frozenAt (k * 8 + 3)
          have e4 : u.cell? ⟨gO, k * 8 + 4, none⟩ = some (.int .i64 y) := (R1.cellAt (k * 8 + 4) (by omega)).trans (mixed_at hL (by omega) HY.out.2.2.2.2.1)
          have f4 := R1.frozenAt (k * 8 + 4)
          have e5 : u.cell? ⟨gO, k * 8 + 5, none⟩ = some (.int .i64 h) := (R1.cellAt (k * 8 + 5) (by omega)).trans (mixed_at hL (by omega) HY.out.2.2.2.2.2.1)
          have f5 := R1.frozenAt (k * 8 + 5)
          have e6 : u.cell? ⟨gO, k * 8 + 6, none⟩ = some (.int .i64 t) := (R1.cellAt (k * 8 + 6) (by omega)).trans (mixed_at hL (by omega) HY.out.2.2.2.2.2.2.1)
          have f6 := R1.frozenAt (k * 8 + 6)
          have e7 : u.cell? ⟨gO, k * 8 + 7, none⟩ = some (.int .i64 m) := (R1.cellAt (k * 8 + 7) (by omega)).trans (mixed_at hL (by omega) HY.out.2.2.2.2.2.2.2)
          have f7 := R1.frozenAt (k * 8 + 7)
          obtain ⟨r0, g0⟩ := R1.stored (k * 8) (.string n)
          rw [mixed_put hL hM.1] at r0
          obtain ⟨r1, g1⟩ := r0.stored (k * 8 + 1) (.int .i64 3)
          rw [mixed_put hL hM.2.1] at r1
          obtain ⟨r2, g2⟩ := r1.stored (k * 8 + 1 + 1) (.string l)
          rw [mixed_put hL hM.2.2.1] at r2
          obtain ⟨r3, g3⟩ := r2.stored (k * 8 + 1 + 1 + 1) (.int .i64 (x + a))
          rw [mixed_put hL hM.2.2.2.1] at r3
          obtain ⟨r4, g4⟩ := r3.stored (k * 8 + 1 + 1 + 1 + 1) (.int .i64 (y + b))
          rw [mixed_put hL hM.2.2.2.2.1] at r4
          obtain ⟨r5, g5⟩ := r4.stored (k * 8 + 1 + 1 + 1 + 1 + 1) (.int .i64 h)
          rw [mixed_put hL hM.2.2.2.2.2.1] at r5
          obtain ⟨r6, g6⟩ := r5.stored (k * 8 + 1 + 1 + 1 + 1 + 1 + 1) (.int .i64 t)
          rw [mixed_put hL hM.2.2.2.2.2.2.1] at r6
          obtain ⟨r7, g7⟩ := r6.stored (k * 8 + 1 + 1 + 1 + 1 + 1 + 1 + 1) (.int .i64 m)
          rw [mixed_put hL hM.2.2.2.2.2.2.2] at r7
          have RR := Lib.hid (r7.alloc (.cells (ca n 3 l (x + a) (y + b) h t m) 117))
          have b0 := BU.grown g0 BU.size (fun g hg => by cases hg; exact Nat.le_of_lt gl)
          have p0 := owns_grown P1 g0 (fun u hu e => by cases hu; exact NE.out (Option.some.inj e))
          have y0 := And.intro (g0.cell YU.1 (fun e => by injection e with e; (have e9 : w.heap.size = gO := e); omega)) (g0.cell YU.2 (fun e => by injection e with e; (have e9 : w.heap.size = gO := e); omega))
          have b1 := b0.grown g1 b0.size (fun g hg => by cases hg; exact Nat.le_of_lt gl)
          have p1 := owns_grown p0 g1 (fun u hu e => by cases hu; exact NE.out (Option.some.inj e))
          have y1 := And.intro (g1.cell y0.1 (fun e => by injection e with e; (have e9 : w.heap.size = gO := e); omega)) (g1.cell y0.2 (fun e => by injection e with e; (have e9 : w.heap.size = gO := e); omega))
          have b2 := b1.grown g2 b1.size (fun g hg => by cases hg; exact Nat.le_of_lt gl)
          have p2 := owns_grown p1 g2 (fun u hu e => by cases hu; exact NE.out (Option.some.inj e))
          have y2 := And.intro (g2.cell y1.1 (fun e => by injection e with e; (have e9 : w.heap.size = gO := e); omega)) (g2.cell y1.2 (fun e => by injection e with e; (have e9 : w.heap.size = gO := e); omega))
          have b3 := b2.grown g3 b2.size (fun g hg => by cases hg; exact Nat.le_of_lt gl)
          have p3 := owns_grown p2 g3 (fun u hu e => by cases hu; exact NE.out (Option.some.inj e))
          have y3 := And.intro (g3.cell y2.1 (fun e => by injection e with e; (have e9 : w.heap.size = gO := e); omega)) (g3.cell y2.2 (fun e => by injection e with e; (have e9 : w.heap.size = gO := e); omega))
          have b4 := b3.grown g4 b3.size (fun g hg => by cases hg; exact Nat.le_of_lt gl)
          have p4 := owns_grown p3 g4 (fun u hu e => by cases hu; exact NE.out (Option.some.inj e))
          have y4 := And.intro (g4.cell y3.1 (fun e => by injection e with e; (have e9 : w.heap.size = gO := e); omega)) (g4.cell y3.2 (fun e => by injection e with e; (have e9 : w.heap.size = gO := e); omega))
          have b5 := b4.grown g5 b4.size (fun g hg => by cases hg; exact Nat.le_of_lt gl)
          have p5 := owns_grown p4 g5 (fun u hu e => by cases hu; exact NE.out (Option.some.inj e))
          have y5 := And.intro (g5.cell y4.1 (fun e => by injection e with e; (have e9 : w.heap.size = gO := e); omega)) (g5.cell y4.2 (fun e => by injection e with e; (have e9 : w.heap.size = gO := e); omega))
          have b6 := b5.grown g6 b5.size (fun g hg => by cases hg; exact Nat.le_of_lt gl)
          have p6 := owns_grown p5 g6 (fun u hu e => by cases hu; exact NE.out (Option.some.inj e))
          have y6 := And.intro (g6.cell y5.1 (fun e => by injection e with e; (have e9 : w.heap.size = gO := e); omega)) (g6.cell y5.2 (fun e => by injection e with e; (have e9 : w.heap.size = gO := e); omega))
          have b7 := b6.grown g7 b6.size (fun g hg => by cases hg; exact Nat.le_of_lt gl)
          have p7 := owns_grown p6 g7 (fun u hu e => by cases hu; exact NE.out (Option.some.inj e))
          have y7 := And.intro (g7.cell y6.1 (fun e => by injection e with e; (have e9 : w.heap.size = gO := e); omega)) (g7.cell y6.2 (fun e => by injection e with e; (have e9 : w.heap.size = gO := e); omega))
          have BB := Lib.hid (b7.alloc b7.size (.cells (ca n 3 l (x + a) (y + b) h t m) 117))
          have PP := Lib.hid (p7.alloc (.cells (ca n 3 l (x + a) (y + b) h t m) 117))
          have YY := Lib.hid (And.intro (cell_alloc (o := (.cells (ca n 3 l (x + a) (y + b) h t m) 117)) y7.1) (cell_alloc (o := (.cells (ca n 3 l (x + a) (y + b) h t m) 117)) y7.2))
          clear r0 g0 b0 p0 y0 r1 g1 b1 p1 y1 r2 g2 b2 p2 y2 r3 g3 b3 p3 y3 r4 g4 b4 p4 y4 r5 g5 b5 p5 y5 r6 g6 b6 p6 y6 r7 g7 b7 p7 y7 R1 P1 BU YU hL hl8 hM hm
          have AA := Lib.hid (show ∀ (j : Nat) (d : D), j < k + 1 → zs[j]? = some d → dB (mvD 0 a b d) = true from fun j d hj hd => by
            by_cases e : j = k
            · subst e; rw [HZZ.out] at hd; cases hd; exact HR9.out
            · exact AK.out j d (by omega) hd)
          have ul2 : ∀ j, gO < u.heap.size + j := fun j => by omega
          have ul3 : u.heap.size ≠ gO := by omega
          go_wp2_with fail
          go_roundw
          case rel => first | exact ⟨k + 1, by omega, by go_num, AA, by rw [show (k + 1) * 8 = k * 8 + 1 + 1 + 1 + 1 + 1 + 1 + 1 + 1 by omega]; exact RR, PP, YY, BB⟩ | ((repeat apply Exists.intro); exact ⟨⟨k + 1, by omega, by go_num, AA, by rw [show (k + 1) * 8 = k * 8 + 1 + 1 + 1 + 1 + 1 + 1 + 1 + 1 by omega]; exact RR, PP, YY, BB⟩, rfl⟩)
          case measure => simp [intOf]; omega
      · obtain rfl : k = n0 := by omega
        have HL1 := Lib.hid (show mvB 0 a b zs = true from mvB_yes fun j d hd => AK.out j d (by have := (List.getElem?_eq_some_iff.1 hd).1; rw [HN.out] at this; exact this) hd)
        have HL2 := Lib.hid (show mvL 0 a b zs = zs.map (mvD 0 a b) by unfold mvL; rw [HL1.out]; rfl)
        have F9 := Lib.hid (show wr.ownsRow V.heap.size 117 8 (.slice (some ⟨gO, 0, none⟩) k cO) k (dls (zs.map (mvD 0 a b))) by
          have := RK.out
          rw [show k * 8 = (dls (zs.map (mvD 0 a b))).length by rw [dls_len, List.length_map, HN.out], mixed_all HLN.out] at this
          exact this)
        have Q9 := Lib.hid (show (zs.map (mvD 0 a b)).length = k by rw [List.length_map, HN.out])
        go_wp2_with fail
        go_returns
        rw [HZ.out, HQ.out, HL1.out, HL2.out]
        exact ⟨gO, cO, by rw [Q9.out]; rfl, by rw [Q9.out]; exact Rw.owns_base F9.out (Nat.le_of_lt gl), BK.out⟩
  · have HG2 := Lib.hid (show shG zs a b = false by rw [HG.out]; revert hall; cases rr <;> cases bp <;> simp)
    have HZ := Lib.hid (show shZ zs a b = [] by unfold shZ; rw [HG2.out]; rfl)
    have HQ := Lib.hid (show shR zs a b = false by unfold shR; rw [HG2.out]; rfl)
    clear hrr hp hmm
    cases rr
    · go_enter Tryz.func53, Tryz.ntmps53
      go_wp2_with fail
      refine CR.out.mono ?_
      rintro e w1 ⟨rfl, hb1⟩
      have B1 := Lib.hid (B0.out.trans (hb1.mono (by simp)))
      clear hb1 CR
      go_wp2_with fail
      go_returns
      rw [HZ.out, HQ.out]
      exact ⟨_, _, rfl, World.ownsRow_lit (base := w.heap.size) (e := 117) (size := 8) w1 #[] 0 B1.out.size (Nat.zero_le _) rfl, B1.out.alloc B1.out.size _⟩
    · obtain rfl : bp = false := by revert hall; cases bp <;> simp
      go_enter Tryz.func53, Tryz.ntmps53
      go_wp2_with fail
      refine CR.out.mono ?_
      rintro e w1 ⟨rfl, hb1⟩
      have p0 : w.heap.size < w1.heap.size := by have := hb1.size; simp at this; omega
      have y0 : w1.cell? ⟨w.heap.size, 0, none⟩ = some (.int .i64 a) := (hb1.cell (by simp)).trans (by simp [go_sem])
      have y1 : w1.cell? ⟨w.heap.size, 1, none⟩ = some (.int .i64 b) := (hb1.cell (by simp)).trans (by simp [go_sem])
      have B1 := Lib.hid (B0.out.trans (hb1.mono (by simp)))
      clear hb1 CR
      go_wp2_with fail
      refine (CPl.out _).mono ?_
      rintro e w' ⟨rfl, rfl⟩
      have B2 := Lib.hid (B1.out.alloc B1.out.size (.cells #[.int .i64 a, .int .i64 b] 47))
      clear y0 y1 p0
      generalize w1.alloc (.cells #[.int .i64 a, .int .i64 b] 47) = V at *
      go_wp2_with fail
      go_returns
      rw [HZ.out, HQ.out]
      exact ⟨_, _, rfl, World.ownsRow_lit (base := w.heap.size) (e := 117) (size := 8) V #[] 0 B2.out.size (Nat.zero_le _) rfl, B2.out.alloc B2.out.size _⟩

end Go.Proofs.YtejeikfgmiadhaaGreat.Sk
