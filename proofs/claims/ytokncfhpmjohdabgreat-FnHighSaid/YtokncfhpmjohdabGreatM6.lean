/- AddCue of the model: a cue put into a list of cues where it belongs, of the model. -/
import Derived.Test.YtokncfhpmjohdabGreatAm7
import Derived.Deep.Upon
import Derived.Test.YtokncfhpmjohdabGreatM1
import Derived.Test.YtokncfhpmjohdabGreatM3
import Derived.Deep.RegionHeld3
set_option linter.unusedVariables false
set_option linter.unusedSimpArgs false
namespace Go.Proofs.YtokncfhpmjohdabGreat.Am8
open Go.RowKit Go.ChangeShapes Go.WideShapes Go.WideElems Go.Deep Go.Proofs.YtokncfhpmjohdabGreat.Mem Go.Proofs.YtokncfhpmjohdabGreat.Rw Go.Proofs.YtokncfhpmjohdabGreat.P2 Go.Proofs.YtokncfhpmjohdabGreat.Cd Go.Proofs.YtokncfhpmjohdabGreat.Cv Go.Proofs.YtokncfhpmjohdabGreat.Cl Go.Proofs.YtokncfhpmjohdabGreat.Cs
set_option linter.unusedVariables false
set_option linter.unusedSimpArgs false
open Go.Proofs.YtokncfhpmjohdabGreat.Sd Go.Proofs.YtokncfhpmjohdabGreat.Oc Go.Proofs.YtokncfhpmjohdabGreat.Cr Go.Proofs.YtokncfhpmjohdabGreat.Ld Go.Proofs.YtokncfhpmjohdabGreat.Hc Go.Proofs.YtokncfhpmjohdabGreat.Cq Go.Proofs.YtokncfhpmjohdabGreat.Ac Go.Proofs.YtokncfhpmjohdabGreat.Sm7
open Go.Proofs.YtokncfhpmjohdabGreat.Rw (owns_below owns_grown owns_base)

open Go.Proofs.YtokncfhpmjohdabGreat.Am7

set_option maxHeartbeats 2000000 in
set_option maxRecDepth 100000 in
theorem addS (b0 o0 n0 c9 : Nat) (zs : List C) (t : Int) (n : ByteArray) (l r : Int) (w : World) (hn : zs.length = n0) (hb : n0 ≤ 1048576) (hc9 : n0 ≤ c9) (hc8 : c9 ≤ maxLen) (hsz : ∀ z ∈ zs, z.nm.size ≤ 1048576) (hsx : n.size ≤ 1048576) (hr : Rd w w.heap.size (some ⟨b0, o0, none⟩) (dls zs)) :
    Calls Tryz.prog 59 #[.slice (some ⟨b0, o0, none⟩) n0 c9, va t n l r] w (RowB w (addL zs ⟨t, n, l, r⟩) (addG zs ⟨t, n, l, r⟩)) := by
  have hu : undef = Value.tuple #[] := rfl
  have HN := Lib.hid hn
  have HX := Lib.hid (R4.new w (.int .i64 t) (.string n) (.int .i64 l) (.int .i64 r) 63)
  have B0 := Lib.hid (show Below w.heap.size w (w.alloc (.cells (ca t n l r) 63)) from (Below.refl _ _).alloc (Nat.le_refl _) _)
  have CPT := Lib.hid (putS b0 o0 n0 c9 zs t n l r (w.alloc (.cells (ca t n l r) 63)) hn hb hc9 hc8 ((hr.below B0.out).more B0.out.size))
  have CC := Lib.hid (fun (W : World) (hW : Below w.heap.size w W) => copiesC ⟨b0, o0, none⟩ n0 c9 zs W hn (by omega) ((hr.below hW).more hW.size))
  have CS := Lib.hid (fun (W : World) (hW : Below w.heap.size w W) => scoreS (some ⟨b0, o0, none⟩) n0 c9 zs W hn (by omega) hsz ((hr.below hW).more hW.size))
  have CI := isCueS t n l r hsx
  obtain ⟨sc, hsc⟩ : ∃ b, score zs = b := ⟨_, rfl⟩
  obtain ⟨cb, hcb⟩ : ∃ b, cB ⟨t, n, l, r⟩ = b := ⟨_, rfl⟩
  obtain ⟨fr, hfr⟩ : ∃ b, freeB zs ⟨t, n, l, r⟩ = b := ⟨_, rfl⟩
  have HG := Lib.hid (show addG zs ⟨t, n, l, r⟩ = (sc && (cb && (fr && decide (n0 ≠ 12)))) by unfold addG; rw [hsc, hcb, hfr, hn])
  rw [hsc] at CS
  rw [show cueB t n l r = cb from hcb] at CI
  rw [hfr] at CPT
  have HFR := Lib.hid hfr
  have CI := Lib.hid CI
  obtain ⟨L, hL⟩ : ∃ L, putL zs ⟨t, n, l, r⟩ = L := ⟨_, rfl⟩
  rw [hL] at CPT
  have HL := Lib.hid hL
  clear hr hn hsz hsc hcb hfr hL
  cases sc
  · go_enter Tryz.func59, Tryz.ntmps59
    go_wp2_with fail
    refine CPT.out.mono ?_
    rintro e w1 ⟨g1, c1, rfl, ho1, hb1⟩
    have X1 := Lib.hid (HX.out.below hb1)
    have B1 := Lib.hid (B0.out.trans (hb1.mono B0.out.size))
    have O1 := Lib.hid (owns_base ho1 (Nat.le_trans B0.out.size (ho1.lt g1 rfl).1))
    have e0 := X1.out.c0
    have e1 := X1.out.c1
    have e2 := X1.out.c2
    have e3 := X1.out.c3
    clear ho1 hb1
    go_wp2_with fail
    refine (CS.out _ B1.out).mono ?_
    rintro e w2 ⟨rfl, hb2⟩
    have X2 := Lib.hid (X1.out.below hb2)
    have B2 := Lib.hid (B1.out.trans (hb2.mono B1.out.size))
    have O2 := Lib.hid (owns_below O1.out hb2)
    clear hb2 e0 e1 e2 e3 B1 O1 X1
    have e0 := X2.out.c0
    have e1 := X2.out.c1
    have e2 := X2.out.c2
    have e3 := X2.out.c3
    go_wp2_with fail
    refine (CC.out _ B2.out).mono ?_
    rintro e w9 ⟨g, c, rfl, ho, hb9⟩
    have B9 := Lib.hid (B2.out.trans (hb9.mono B2.out.size))
    have RO := Lib.hid (owns_base ho (Nat.le_trans B2.out.size (ho.lt g rfl).1))
    clear ho hb9
    go_wp2_with fail
    go_returns
    have hg : addG zs ⟨t, n, l, r⟩ = false := by rw [HG.out]; rfl
    rw [addL_no hg, hg]
    exact ⟨g, c, rfl, RO.out, B9.out⟩
  cases cb
  · go_enter Tryz.func59, Tryz.ntmps59
    go_wp2_with fail
    refine CPT.out.mono ?_
    rintro e w1 ⟨g1, c1, rfl, ho1, hb1⟩
    have X1 := Lib.hid (HX.out.below hb1)
    have B1 := Lib.hid (B0.out.trans (hb1.mono B0.out.size))
    have O1 := Lib.hid (owns_base ho1 (Nat.le_trans B0.out.size (ho1.lt g1 rfl).1))
    have e0 := X1.out.c0
    have e1 := X1.out.c1
    have e2 := X1.out.c2
    have e3 := X1.out.c3
    clear ho1 hb1
    go_wp2_with fail
    refine (CS.out _ B1.out).mono ?_
    rintro e w2 ⟨rfl, hb2⟩
    have X2 := Lib.hid (X1.out.below hb2)
    have B2 := Lib.hid (B1.out.trans (hb2.mono B1.out.size))
    have O2 := Lib.hid (owns_below O1.out hb2)
    clear hb2 e0 e1 e2 e3 B1 O1 X1
    have e0 := X2.out.c0
    have e1 := X2.out.c1
    have e2 := X2.out.c2
    have e3 := X2.out.c3
    go_wp2_with fail
    refine (CI.out _).mono ?_
    rintro e w3 ⟨rfl, rfl⟩
    have B3 := Lib.hid (B2.out.alloc B2.out.size (.cells (ca t n l r) 63))
    have O3 := Lib.hid (O2.out.alloc (.cells (ca t n l r) 63))
    clear e0 e1 e2 e3 B2 O2 X2
    go_wp2_with fail
    refine (CC.out _ B3.out).mono ?_
    rintro e w9 ⟨g, c, rfl, ho, hb9⟩
    have B9 := Lib.hid (B3.out.trans (hb9.mono B3.out.size))
    have RO := Lib.hid (owns_base ho (Nat.le_trans B3.out.size (ho.lt g rfl).1))
    clear ho hb9
    go_wp2_with fail
    go_returns
    have hg : addG zs ⟨t, n, l, r⟩ = false := by rw [HG.out]; rfl
    rw [addL_no hg, hg]
    exact ⟨g, c, rfl, RO.out, B9.out⟩
  cases fr
  · go_enter Tryz.func59, Tryz.ntmps59
    go_wp2_with fail
    refine CPT.out.mono ?_
    rintro e w1 ⟨g1, c1, rfl, ho1, hb1⟩
    have X1 := Lib.hid (HX.out.below hb1)
    have B1 := Lib.hid (B0.out.trans (hb1.mono B0.out.size))
    have O1 := Lib.hid (owns_base ho1 (Nat.le_trans B0.out.size (ho1.lt g1 rfl).1))
    have e0 := X1.out.c0
    have e1 := X1.out.c1
    have e2 := X1.out.c2
    have e3 := X1.out.c3
    clear ho1 hb1
    go_wp2_with fail
    refine (CS.out _ B1.out).mono ?_
    rintro e w2 ⟨rfl, hb2⟩
    have X2 := Lib.hid (X1.out.below hb2)
    have B2 := Lib.hid (B1.out.trans (hb2.mono B1.out.size))
    have O2 := Lib.hid (owns_below O1.out hb2)
    clear hb2 e0 e1 e2 e3 B1 O1 X1
    have e0 := X2.out.c0
    have e1 := X2.out.c1
    have e2 := X2.out.c2
    have e3 := X2.out.c3
    go_wp2_with fail
    refine (CI.out _).mono ?_
    rintro e w3 ⟨rfl, rfl⟩
    have B3 := Lib.hid (B2.out.alloc B2.out.size (.cells (ca t n l r) 63))
    have O3 := Lib.hid (O2.out.alloc (.cells (ca t n l r) 63))
    clear e0 e1 e2 e3 B2 O2 X2
    go_wp2_with fail
    refine (CC.out _ B3.out).mono ?_
    rintro e w9 ⟨g, c, rfl, ho, hb9⟩
    have B9 := Lib.hid (B3.out.trans (hb9.mono B3.out.size))
    have RO := Lib.hid (owns_base ho (Nat.le_trans B3.out.size (ho.lt g rfl).1))
    clear ho hb9
    go_wp2_with fail
    go_returns
    have hg : addG zs ⟨t, n, l, r⟩ = false := by rw [HG.out]; rfl
    rw [addL_no hg, hg]
    exact ⟨g, c, rfl, RO.out, B9.out⟩
  by_cases h12 : n0 = 12
  · have g1 : ((n0 : Int) == 12) = true := by simp [h12]
    have HD := Lib.hid h12
    obtain ⟨nn, hnn⟩ : ∃ q : Nat, q = n0 := ⟨_, rfl⟩
    clear hnn nn h12
    go_enter Tryz.func59, Tryz.ntmps59
    go_wp2_with fail
    refine CPT.out.mono ?_
    rintro e w1 ⟨g1, c1, rfl, ho1, hb1⟩
    have X1 := Lib.hid (HX.out.below hb1)
    have B1 := Lib.hid (B0.out.trans (hb1.mono B0.out.size))
    have O1 := Lib.hid (owns_base ho1 (Nat.le_trans B0.out.size (ho1.lt g1 rfl).1))
    have e0 := X1.out.c0
    have e1 := X1.out.c1
    have e2 := X1.out.c2
    have e3 := X1.out.c3
    clear ho1 hb1
    go_wp2_with fail
    refine (CS.out _ B1.out).mono ?_
    rintro e w2 ⟨rfl, hb2⟩
    have X2 := Lib.hid (X1.out.below hb2)
    have B2 := Lib.hid (B1.out.trans (hb2.mono B1.out.size))
    have O2 := Lib.hid (owns_below O1.out hb2)
    clear hb2 e0 e1 e2 e3 B1 O1 X1
    have e0 := X2.out.c0
    have e1 := X2.out.c1
    have e2 := X2.out.c2
    have e3 := X2.out.c3
    go_wp2_with fail
    refine (CI.out _).mono ?_
    rintro e w3 ⟨rfl, rfl⟩
    have B3 := Lib.hid (B2.out.alloc B2.out.size (.cells (ca t n l r) 63))
    have O3 := Lib.hid (O2.out.alloc (.cells (ca t n l r) 63))
    clear e0 e1 e2 e3 B2 O2 X2
    go_wp2_with fail
    refine (CC.out _ B3.out).mono ?_
    rintro e w9 ⟨g, c, rfl, ho, hb9⟩
    have B9 := Lib.hid (B3.out.trans (hb9.mono B3.out.size))
    have RO := Lib.hid (owns_base ho (Nat.le_trans B3.out.size (ho.lt g rfl).1))
    clear ho hb9
    go_wp2_with fail
    go_returns
    have hg : addG zs ⟨t, n, l, r⟩ = false := by rw [HG.out]; rw [HD.out]; decide
    rw [addL_no hg, hg]
    exact ⟨g, c, rfl, RO.out, B9.out⟩
  · have g1 : ((n0 : Int) == 12) = false := by simp; omega
    have g2 : ¬ ((n0 : Int) = 12) := by omega
    have HD := Lib.hid h12
    go_enter Tryz.func59, Tryz.ntmps59
    go_wp2_with fail
    refine CPT.out.mono ?_
    rintro e w1 ⟨g1, c1, rfl, ho1, hb1⟩
    have X1 := Lib.hid (HX.out.below hb1)
    have B1 := Lib.hid (B0.out.trans (hb1.mono B0.out.size))
    have O1 := Lib.hid (owns_base ho1 (Nat.le_trans B0.out.size (ho1.lt g1 rfl).1))
    have e0 := X1.out.c0
    have e1 := X1.out.c1
    have e2 := X1.out.c2
    have e3 := X1.out.c3
    clear ho1 hb1
    go_wp2_with fail
    refine (CS.out _ B1.out).mono ?_
    rintro e w2 ⟨rfl, hb2⟩
    have X2 := Lib.hid (X1.out.below hb2)
    have B2 := Lib.hid (B1.out.trans (hb2.mono B1.out.size))
    have O2 := Lib.hid (owns_below O1.out hb2)
    clear hb2 e0 e1 e2 e3 B1 O1 X1
    have e0 := X2.out.c0
    have e1 := X2.out.c1
    have e2 := X2.out.c2
    have e3 := X2.out.c3
    go_wp2_with fail
    refine (CI.out _).mono ?_
    rintro e w3 ⟨rfl, rfl⟩
    have B3 := Lib.hid (B2.out.alloc B2.out.size (.cells (ca t n l r) 63))
    have O3 := Lib.hid (O2.out.alloc (.cells (ca t n l r) 63))
    clear e0 e1 e2 e3 B2 O2 X2
    go_wp2_with fail
    go_returns
    have hg : addG zs ⟨t, n, l, r⟩ = true := by rw [HG.out, decide_eq_true HD.out]; rfl
    rw [addL_yes hg, hg, ← putL_yes HFR.out, HL.out]
    exact ⟨g1, c1, rfl, O3.out, B3.out⟩
end Go.Proofs.YtokncfhpmjohdabGreat.Am8
namespace Go.Proofs.YtokncfhpmjohdabGreat.Am0
open Go.RowKit Go.ChangeShapes Go.WideShapes Go.WideElems Go.Deep Go.Proofs.YtokncfhpmjohdabGreat.Mem Go.Proofs.YtokncfhpmjohdabGreat.Rw Go.Proofs.YtokncfhpmjohdabGreat.P2 Go.Proofs.YtokncfhpmjohdabGreat.Cd Go.Proofs.YtokncfhpmjohdabGreat.Cv Go.Proofs.YtokncfhpmjohdabGreat.Cl Go.Proofs.YtokncfhpmjohdabGreat.Cs
set_option linter.unusedVariables false
set_option linter.unusedSimpArgs false
open Go.Proofs.YtokncfhpmjohdabGreat.Sd Go.Proofs.YtokncfhpmjohdabGreat.Oc Go.Proofs.YtokncfhpmjohdabGreat.Cr Go.Proofs.YtokncfhpmjohdabGreat.Ld Go.Proofs.YtokncfhpmjohdabGreat.Hc Go.Proofs.YtokncfhpmjohdabGreat.Cq Go.Proofs.YtokncfhpmjohdabGreat.Ac Go.Proofs.YtokncfhpmjohdabGreat.Sm7 Go.Proofs.YtokncfhpmjohdabGreat.Am7
open Go.Proofs.YtokncfhpmjohdabGreat.Rw (owns_below owns_grown owns_base)

/-- Nothing is appended. -/
theorem app_nil (W : World) (b : Option Addr) (n c : Nat) (h : n ≤ c) : (Builtin.append_ #[25, 25] 25 #[.slice b n c, .slice none 0 0]).run Tryz.prog W = .ok (.slice b n c) W := by
  obtain ⟨i0, hi, hz0, hz1, hz2⟩ := info_of infoD
  exact run_append_nothing W _ _ _ 63 i0 Tryz.underlying25 hi b n c h _ (Src.ofNil W Tryz.underlying25 0)
theorem wpList_append_nil {ops : Array Oper} {rest : List Oper} {o : Oper} {a : Act} {w : World} {Q : Exit → Act → World → Prop} (hgd : o.guard = none) (s x : Operand)
    (ho : o.op = .call { callee := .builtin .append, args := #[s, x], argTypes := #[25, 25] }) (hty : o.type = 25) (b : Option Addr) (n c : Nat) (hv : a.eval s = .slice b n c) (hx : a.eval x = .slice none 0 0) (h : n ≤ c)
    (hK : wpList Tryz.prog ops Q rest (a.put o.dst (.slice b n c)) w) : wpList Tryz.prog ops Q (o :: rest) a w := by
  refine wpList_plain hgd fun K hK' => ?_
  have hrun := app_nil w b n c h
  unfold Oper.wp
  simp [execOp, ho, hty, resolve, invoke, builtin, hv, hx, hrun, Result.andThen]
  exact hK' _ _ hK

set_option maxRecDepth 100000 in
set_option maxHeartbeats 400000 in
theorem copies0 (w : World) : Calls Tryz.prog 100 #[.slice none 0 0] w (RowC w []) := by
  have O := Lib.hid (World.ownsRow_lit (base := w.heap.size) (e := 63) (size := 4) w #[] 0 (Nat.le_refl _) (Nat.zero_le _) rfl)
  go_enter Tryz.func100, Tryz.ntmps100
  go_wp2_with (at_builtin; refine wpList_append_nil rfl _ _ rfl rfl _ _ _ rfl rfl (Nat.le_refl _) ?_)
  go_wp2_with fail
  go_ret
  exact ⟨_, _, rfl, O.out, by go_grown⟩

set_option maxHeartbeats 2000000 in
set_option maxRecDepth 100000 in
theorem put0 (t : Int) (n : ByteArray) (l r : Int) (w : World) :
    Calls Tryz.prog 98 #[.slice none 0 0, va t n l r] w (RowB w (putL [] ⟨t, n, l, r⟩) (freeB [] ⟨t, n, l, r⟩)) := by
  have hu : undef = Value.tuple #[] := rfl
  have HX := Lib.hid (R4.new w (.int .i64 t) (.string n) (.int .i64 l) (.int .i64 r) 63)
  have B0 := Lib.hid (show Below w.heap.size w (w.alloc (.cells (ca t n l r) 63)) from (Below.refl _ _).alloc (Nat.le_refl _) _)
  have hCP := fun (W : World) => (show Calls Tryz.prog 100 #[.slice none 0 0] W (fun e w' => ∃ g c, e = .returned (.slice (some ⟨g, 0, none⟩) 0 c) ∧ w'.ownsRow W.heap.size 63 4 (.slice (some ⟨g, 0, none⟩) 0 c) 0 (dls []) ∧ Below W.heap.size W w') from copies0 W)
  go_enter Tryz.func98, Tryz.ntmps98
  go_wp2_with fail
  generalize w.alloc (.cells (ca t n l r) 63) = W0 at *
  go_loopw [6] (fun v wr => v = .int .i64 0 ∧ Hid (Below W0.heap.size W0 wr)) (fun v _ => 0)
  case atStart => exact ⟨rfl, Lib.hid (Below.refl _ _)⟩
  case round =>
    obtain ⟨rfl, BK⟩ := hrel
    have RX := HX.out.below BK.out
    have e0 := RX.c0
    have e1 := RX.c1
    have e2 := RX.c2
    have e3 := RX.c3
    have BW := Lib.hid (B0.out.trans (BK.out.mono B0.out.size))
    clear RX
    go_wp2_with fail
    refine wp_region_noPanic ?_
    refine wp_region_held_drew (S := (fun w' => w'.cell? ⟨w.heap.size, 0, none⟩ = some (.int .i64 t) ∧ w'.cell? ⟨w.heap.size, 1, none⟩ = some (.string n) ∧ w'.cell? ⟨w.heap.size, 2, none⟩ = some (.int .i64 l) ∧ w'.cell? ⟨w.heap.size, 3, none⟩ = some (.int .i64 r) ∧ Below wr.heap.size wr w')) (by kernel_rfl) ?_ (fun hH => ?_)
    · exact ⟨e0, e1, e2, e3, (Below.refl _ _).drew⟩
    refine wpAnyH_take (i := 0) (oi := { dst := some 8, op := _, type := _, pos := _, after := _, guard := _ }) (v := ?_) rfl (by kernel_rfl) (by kernel_rfl) (by kernel_rfl) (fun _ _ _ h => h) (Or.inl ⟨by rfl, ?_⟩) hH ?_
    rotate_left 1
    · intro W hSw
      (try dsimp only at hSw)
      go_simp
      (try with_reducible rfl)
    try simp only [Act.put, List.setIfInBounds_toArray, List.set_cons_zero, List.set_cons_succ]
    refine wpAnyH_take (i := 1) (oi := { dst := some 9, op := _, type := _, pos := _, after := _, guard := _ }) (v := ?_) rfl (by kernel_rfl) (by kernel_rfl) (by kernel_rfl) (fun _ _ _ h => h) (Or.inl ⟨by rfl, ?_⟩) hH ?_
    rotate_left 1
    · intro W hSw
      (try dsimp only at hSw)
      go_simp
      (try with_reducible rfl)
    try simp only [Act.put, List.setIfInBounds_toArray, List.set_cons_zero, List.set_cons_succ]
    refine wpAnyH_take (i := 2) (oi := { dst := some 10, op := _, type := _, pos := _, after := _, guard := _ }) (v := ?_) rfl (by kernel_rfl) (by kernel_rfl) (by kernel_rfl) (fun _ _ _ h => h) (Or.inl ⟨by rfl, ?_⟩) hH ?_
    rotate_left 1
    · intro W hSw
      (try dsimp only at hSw)
      go_simp
      (try with_reducible rfl)
    try simp only [Act.put, List.setIfInBounds_toArray, List.set_cons_zero, List.set_cons_succ]
    refine wpAnyH_take (i := 3) (oi := { dst := some 11, op := _, type := _, pos := _, after := _, guard := _ }) (v := ?_) rfl (by kernel_rfl) (by kernel_rfl) (by kernel_rfl) (fun _ _ _ h => h) (Or.inl ⟨by rfl, ?_⟩) hH ?_
    rotate_left 1
    · intro W hSw
      (try dsimp only at hSw)
      go_simp
      (try with_reducible rfl)
    try simp only [Act.put, List.setIfInBounds_toArray, List.set_cons_zero, List.set_cons_succ]
    refine wpAnyH_take (i := 4) (oi := { dst := some 12, op := _, type := _, pos := _, after := _, guard := _ }) (v := ?_) rfl (by kernel_rfl) (by kernel_rfl) (by kernel_rfl) (fun _ _ _ h => h) (Or.inl ⟨by rfl, ?_⟩) hH ?_
    rotate_left 1
    · intro W hSw
      (try dsimp only at hSw)
      go_simp
      (try with_reducible rfl)
    try simp only [Act.put, List.setIfInBounds_toArray, List.set_cons_zero, List.set_cons_succ]
    refine wpAnyH_take (i := 5) (oi := { dst := some 13, op := _, type := _, pos := _, after := _, guard := _ }) (v := undef) rfl (by kernel_rfl) (by kernel_rfl) (by kernel_rfl) (fun _ _ _ h => h) (Or.inr ⟨by simp [Region.wanted, yielded, hu], rfl⟩) hH ?_
    try simp only [Act.put, List.setIfInBounds_toArray, List.set_cons_zero, List.set_cons_succ]
    refine wpAnyH_take (i := 6) (oi := { dst := some 14, op := _, type := _, pos := _, after := _, guard := _ }) (v := undef) rfl (by kernel_rfl) (by kernel_rfl) (by kernel_rfl) (fun _ _ _ h => h) (Or.inr ⟨by simp [Region.wanted, yielded, hu], rfl⟩) hH ?_
    try simp only [Act.put, List.setIfInBounds_toArray, List.set_cons_zero, List.set_cons_succ]
    refine wpAnyH_take (i := 7) (oi := { dst := some 15, op := _, type := _, pos := _, after := _, guard := _ }) (v := undef) rfl (by kernel_rfl) (by kernel_rfl) (by kernel_rfl) (fun _ _ _ h => h) (Or.inr ⟨by simp [Region.wanted, yielded, hu], rfl⟩) hH ?_
    try simp only [Act.put, List.setIfInBounds_toArray, List.set_cons_zero, List.set_cons_succ]
    refine wpAnyH_take (i := 8) (oi := { dst := some 16, op := _, type := _, pos := _, after := _, guard := _ }) (v := undef) rfl (by kernel_rfl) (by kernel_rfl) (by kernel_rfl) (fun _ _ _ h => h) (Or.inr ⟨by simp [Region.wanted, yielded, hu], rfl⟩) hH ?_
    try simp only [Act.put, List.setIfInBounds_toArray, List.set_cons_zero, List.set_cons_succ]
    refine wpAnyH_take (i := 9) (oi := { dst := some 17, op := _, type := _, pos := _, after := _, guard := _ }) (v := undef) rfl (by kernel_rfl) (by kernel_rfl) (by kernel_rfl) (fun _ _ _ h => h) (Or.inr ⟨by simp [Region.wanted, yielded, hu], rfl⟩) hH ?_
    try simp only [Act.put, List.setIfInBounds_toArray, List.set_cons_zero, List.set_cons_succ]
    refine wpAnyH_take (i := 10) (oi := { dst := some 18, op := _, type := _, pos := _, after := _, guard := _ }) (v := undef) rfl (by kernel_rfl) (by kernel_rfl) (by kernel_rfl) (fun _ _ _ h => h) (Or.inr ⟨by simp [Region.wanted, yielded, hu], rfl⟩) hH ?_
    try simp only [Act.put, List.setIfInBounds_toArray, List.set_cons_zero, List.set_cons_succ]
    refine wpAnyH_take (i := 11) (oi := { dst := some 19, op := _, type := _, pos := _, after := _, guard := _ }) (v := undef) rfl (by kernel_rfl) (by kernel_rfl) (by kernel_rfl) (fun _ _ _ h => h) (Or.inr ⟨by simp [Region.wanted, yielded, hu], rfl⟩) hH ?_
    try simp only [Act.put, List.setIfInBounds_toArray, List.set_cons_zero, List.set_cons_succ]
    refine wpAnyH_take (i := 12) (oi := { dst := some 20, op := _, type := _, pos := _, after := _, guard := _ }) (v := ?_) rfl (by kernel_rfl) (by kernel_rfl) (by kernel_rfl) (fun _ _ _ h => h) (Or.inl ⟨by rfl, ?_⟩) hH ?_
    rotate_left 1
    · intro W hSw
      (try dsimp only at hSw)
      go_simp
      (try with_reducible rfl)
    try simp only [Act.put, List.setIfInBounds_toArray, List.set_cons_zero, List.set_cons_succ]
    refine wpAnyH_done (by kernel_rfl) ?_ _
    refine NoPanic.normal ?_
    obtain ⟨e0, e1, e2, e3, hB⟩ := hH
    have BW1 := Lib.hid (BW.out.trans (hB.mono BW.out.size))
    clear hB
    go_wp2_with fail
    generalize (World.drew _) = V at *
    refine wp_region_noPanic ?_
    refine wp_region_held_drew (S := (fun w' => w'.cell? ⟨w.heap.size, 0, none⟩ = some (.int .i64 t) ∧ w'.cell? ⟨w.heap.size, 1, none⟩ = some (.string n) ∧ w'.cell? ⟨w.heap.size, 2, none⟩ = some (.int .i64 l) ∧ w'.cell? ⟨w.heap.size, 3, none⟩ = some (.int .i64 r) ∧ Below V.heap.size V w')) (by kernel_rfl) ?_ (fun hH => ?_)
    · exact ⟨e0, e1, e2, e3, (Below.refl _ _).drew⟩
    refine wpAnyH_take (i := 0) (oi := { dst := some 23, op := _, type := _, pos := _, after := _, guard := _ }) (v := ?_) rfl (by kernel_rfl) (by kernel_rfl) (by kernel_rfl) (fun _ _ _ h => h) (Or.inl ⟨by rfl, ?_⟩) hH ?_
    rotate_left 1
    · intro W hSw
      (try dsimp only at hSw)
      go_simp
      (try with_reducible rfl)
    try simp only [Act.put, List.setIfInBounds_toArray, List.set_cons_zero, List.set_cons_succ]
    refine wpAnyH_take (i := 1) (oi := { dst := some 24, op := _, type := _, pos := _, after := _, guard := _ }) (v := ?_) rfl (by kernel_rfl) (by kernel_rfl) (by kernel_rfl) (fun _ _ _ h => h) (Or.inl ⟨by rfl, ?_⟩) hH ?_
    rotate_left 1
    · intro W hSw
      (try dsimp only at hSw)
      go_simp
      (try with_reducible rfl)
    try simp only [Act.put, List.setIfInBounds_toArray, List.set_cons_zero, List.set_cons_succ]
    refine wpAnyH_take (i := 2) (oi := { dst := some 25, op := _, type := _, pos := _, after := _, guard := _ }) (v := ?_) rfl (by kernel_rfl) (by kernel_rfl) (by kernel_rfl) (fun _ _ _ h => h) (Or.inl ⟨by rfl, ?_⟩) hH ?_
    rotate_left 1
    · intro W hSw
      (try dsimp only at hSw)
      go_simp
      (try with_reducible rfl)
    try simp only [Act.put, List.setIfInBounds_toArray, List.set_cons_zero, List.set_cons_succ]
    refine wpAnyH_take (i := 3) (oi := { dst := some 26, op := _, type := _, pos := _, after := _, guard := _ }) (v := ?_) rfl (by kernel_rfl) (by kernel_rfl) (by kernel_rfl) (fun _ _ _ h => h) (Or.inl ⟨by rfl, ?_⟩) hH ?_
    rotate_left 1
    · intro W hSw
      (try dsimp only at hSw)
      go_simp
      (try with_reducible rfl)
    try simp only [Act.put, List.setIfInBounds_toArray, List.set_cons_zero, List.set_cons_succ]
    refine wpAnyH_take (i := 4) (oi := { dst := some 27, op := _, type := _, pos := _, after := _, guard := _ }) (v := ?_) rfl (by kernel_rfl) (by kernel_rfl) (by kernel_rfl) (fun _ _ _ h => h) (Or.inl ⟨by rfl, ?_⟩) hH ?_
    rotate_left 1
    · intro W hSw
      (try dsimp only at hSw)
      go_simp
      (try with_reducible rfl)
    try simp only [Act.put, List.setIfInBounds_toArray, List.set_cons_zero, List.set_cons_succ]
    refine wpAnyH_take (i := 5) (oi := { dst := some 28, op := _, type := _, pos := _, after := _, guard := _ }) (v := undef) rfl (by kernel_rfl) (by kernel_rfl) (by kernel_rfl) (fun _ _ _ h => h) (Or.inr ⟨by simp [Region.wanted, yielded, hu], rfl⟩) hH ?_
    try simp only [Act.put, List.setIfInBounds_toArray, List.set_cons_zero, List.set_cons_succ]
    refine wpAnyH_take (i := 6) (oi := { dst := some 29, op := _, type := _, pos := _, after := _, guard := _ }) (v := undef) rfl (by kernel_rfl) (by kernel_rfl) (by kernel_rfl) (fun _ _ _ h => h) (Or.inr ⟨by simp [Region.wanted, yielded, hu], rfl⟩) hH ?_
    try simp only [Act.put, List.setIfInBounds_toArray, List.set_cons_zero, List.set_cons_succ]
    refine wpAnyH_take (i := 7) (oi := { dst := some 30, op := _, type := _, pos := _, after := _, guard := _ }) (v := undef) rfl (by kernel_rfl) (by kernel_rfl) (by kernel_rfl) (fun _ _ _ h => h) (Or.inr ⟨by simp [Region.wanted, yielded, hu], rfl⟩) hH ?_
    try simp only [Act.put, List.setIfInBounds_toArray, List.set_cons_zero, List.set_cons_succ]
    refine wpAnyH_take (i := 8) (oi := { dst := some 31, op := _, type := _, pos := _, after := _, guard := _ }) (v := undef) rfl (by kernel_rfl) (by kernel_rfl) (by kernel_rfl) (fun _ _ _ h => h) (Or.inr ⟨by simp [Region.wanted, yielded, hu], rfl⟩) hH ?_
    try simp only [Act.put, List.setIfInBounds_toArray, List.set_cons_zero, List.set_cons_succ]
    refine wpAnyH_take (i := 9) (oi := { dst := some 32, op := _, type := _, pos := _, after := _, guard := _ }) (v := undef) rfl (by kernel_rfl) (by kernel_rfl) (by kernel_rfl) (fun _ _ _ h => h) (Or.inr ⟨by simp [Region.wanted, yielded, hu], rfl⟩) hH ?_
    try simp only [Act.put, List.setIfInBounds_toArray, List.set_cons_zero, List.set_cons_succ]
    refine wpAnyH_take (i := 10) (oi := { dst := some 33, op := _, type := _, pos := _, after := _, guard := _ }) (v := undef) rfl (by kernel_rfl) (by kernel_rfl) (by kernel_rfl) (fun _ _ _ h => h) (Or.inr ⟨by simp [Region.wanted, yielded, hu], rfl⟩) hH ?_
    try simp only [Act.put, List.setIfInBounds_toArray, List.set_cons_zero, List.set_cons_succ]
    refine wpAnyH_take (i := 11) (oi := { dst := some 34, op := _, type := _, pos := _, after := _, guard := _ }) (v := undef) rfl (by kernel_rfl) (by kernel_rfl) (by kernel_rfl) (fun _ _ _ h => h) (Or.inr ⟨by simp [Region.wanted, yielded, hu], rfl⟩) hH ?_
    try simp only [Act.put, List.setIfInBounds_toArray, List.set_cons_zero, List.set_cons_succ]
    refine wpAnyH_take (i := 12) (oi := { dst := some 35, op := _, type := _, pos := _, after := _, guard := _ }) (v := ?_) rfl (by kernel_rfl) (by kernel_rfl) (by kernel_rfl) (fun _ _ _ h => h) (Or.inl ⟨by rfl, ?_⟩) hH ?_
    rotate_left 1
    · intro W hSw
      (try dsimp only at hSw)
      go_simp
      (try with_reducible rfl)
    try simp only [Act.put, List.setIfInBounds_toArray, List.set_cons_zero, List.set_cons_succ]
    refine wpAnyH_done (by kernel_rfl) ?_ _
    refine NoPanic.normal ?_
    obtain ⟨e0, e1, e2, e3, hB⟩ := hH
    have BW2 := Lib.hid (BW1.out.trans (hB.mono BW1.out.size))
    clear hB
    go_wp2_with fail
    generalize (World.drew _) = V2 at *
    have hxv : w.heap.size < V2.heap.size := World.block_lt_of_cell? _ _ e0
    refine wp_region_noPanic ?_
    refine wp_region_held_drew (S := (fun w' => w'.cell? ⟨w.heap.size, 0, none⟩ = some (.int .i64 t) ∧ w'.cell? ⟨w.heap.size, 1, none⟩ = some (.string n) ∧ w'.cell? ⟨w.heap.size, 2, none⟩ = some (.int .i64 l) ∧ w'.cell? ⟨w.heap.size, 3, none⟩ = some (.int .i64 r) ∧ Below V2.heap.size V2 w')) (by kernel_rfl) ?_ (fun hH => ?_)
    · exact ⟨e0, e1, e2, e3, (Below.refl _ _).drew⟩
    refine wpAnyH_take (i := 0) (oi := { dst := some 38, op := _, type := _, pos := _, after := _, guard := _ }) (v := ?_) rfl (by kernel_rfl) (by kernel_rfl) (by kernel_rfl) (fun _ _ _ h => h) (Or.inl ⟨by rfl, ?_⟩) hH ?_
    rotate_left 1
    · intro W hSw
      (try dsimp only at hSw)
      go_simp
      (try with_reducible rfl)
    try simp only [Act.put, List.setIfInBounds_toArray, List.set_cons_zero, List.set_cons_succ]
    refine wpAnyH_take (i := 1) (oi := { dst := some 39, op := _, type := _, pos := _, after := _, guard := _ }) (v := ?_) rfl (by kernel_rfl) (by kernel_rfl) (by kernel_rfl) (fun _ _ _ h => h) (Or.inl ⟨by rfl, ?_⟩) hH ?_
    rotate_left 1
    · intro W hSw
      (try dsimp only at hSw)
      go_simp
      (try with_reducible rfl)
    try simp only [Act.put, List.setIfInBounds_toArray, List.set_cons_zero, List.set_cons_succ]
    refine wpAnyH_take (i := 2) (oi := { dst := some 40, op := _, type := _, pos := _, after := _, guard := _ }) (v := ?_) rfl (by kernel_rfl) (by kernel_rfl) (by kernel_rfl) (fun _ _ _ h => h) (Or.inl ⟨by rfl, ?_⟩) hH ?_
    rotate_left 1
    · intro W hSw
      (try dsimp only at hSw)
      go_simp
      (try with_reducible rfl)
    try simp only [Act.put, List.setIfInBounds_toArray, List.set_cons_zero, List.set_cons_succ]
    refine wpAnyH_take (i := 4) (oi := { dst := some 42, op := _, type := _, pos := _, after := _, guard := _ }) (v := ?_) rfl (by kernel_rfl) (by kernel_rfl) (by kernel_rfl) (fun _ _ _ h => h) (Or.inl ⟨by rfl, ?_⟩) hH ?_
    rotate_left 1
    · intro W hSw
      (try dsimp only at hSw)
      go_simp
      (try with_reducible rfl)
    try simp only [Act.put, List.setIfInBounds_toArray, List.set_cons_zero, List.set_cons_succ]
    refine wpAnyH_ready (rs := [3, 5]) (by kernel_rfl) (by simp) (AllReadyH.cons rfl (fun K hK => ?_) (AllReadyH.cons rfl (fun K hK => ?_) AllReadyH.nil))
    · go_simp
      go_at_call 100; ((with_reducible refine (hCP _).mono ?_); rintro e r1 ⟨g, c, rfl, ho, hb1⟩); go_wp2_with fail
      refine hK.out _ _ ?_ (fun hG => ?_)
      · exact ⟨cell_below hb1 hH.1, cell_below hb1 hH.2.1, cell_below hb1 hH.2.2.1, cell_below hb1 hH.2.2.2.1, hH.2.2.2.2.trans (hb1.mono hH.2.2.2.2.size)⟩
      replace hH := hG
      clear hK K hG
      try simp only [Act.put, List.setIfInBounds_toArray, List.set_cons_zero, List.set_cons_succ]
      refine wpAnyH_ready (rs := [5]) (by kernel_rfl) (by simp) (AllReadyH.cons rfl (fun K hK => ?_) AllReadyH.nil)
      go_simp
      refine hK.out _ _ ?_ (fun hG => ?_)
      · exact ⟨cell_alloc hH.1, cell_alloc hH.2.1, cell_alloc hH.2.2.1, cell_alloc hH.2.2.2.1, hH.2.2.2.2.alloc hH.2.2.2.2.size _⟩
      replace hH := hG
      clear hK K hG
      try simp only [Act.put, List.setIfInBounds_toArray, List.set_cons_zero, List.set_cons_succ]
      refine wpAnyH_ready (rs := [6]) (by kernel_rfl) (by simp) (AllReadyH.cons rfl (fun K hK => ?_) AllReadyH.nil)
      (obtain ⟨g9, c10, u9, hrun, ho9, hg9⟩ := append_cue (r1.alloc (.cells #[.int .i64 t, .string n, .int .i64 l, .int .i64 r] 63)) w.heap.size g 0 c _ (owns_base ho (Nat.le_trans BW2.out.size (ho.lt g rfl).1) |>.alloc _) ⟨r1.heap.size, 0, none⟩ 1 1 (dc ⟨t, n, l, r⟩) rfl (by intro j u hj; match j, hj with | 0, hj => (simp [dc] at hj; subst hj; simp [go_sem, Addr.add]) | 1, hj => (simp [dc] at hj; subst hj; simp [go_sem, Addr.add]) | 2, hj => (simp [dc] at hj; subst hj; simp [go_sem, Addr.add]) | 3, hj => (simp [dc] at hj; subst hj; simp [go_sem, Addr.add])) (by intro u hu9; simp [dc] at hu9; rcases hu9 with rfl | rfl | rfl | rfl <;> rfl) (by omega) (BW2.out.trans (hH.2.2.2.2.mono BW2.out.size)).size; refine step_append_run rfl (.tmp 41) (.tmp 43) rfl rfl _ _ _ (by simp [Act.eval, Act.put]) (by simp [Act.eval, Act.put]) hrun ?_; refine (show K (Act.put _ (some 44) _) _ from ?_))
      refine hK.out _ _ ?_ (fun hG => ?_)
      · exact ⟨hg9.cell hH.1 (fun e => by injection e with e; (have e9 : w.heap.size = g := e); (have e8 : V2.heap.size ≤ g := (ho.lt g rfl).1); have := hxv; omega), hg9.cell hH.2.1 (fun e => by injection e with e; (have e9 : w.heap.size = g := e); (have e8 : V2.heap.size ≤ g := (ho.lt g rfl).1); have := hxv; omega), hg9.cell hH.2.2.1 (fun e => by injection e with e; (have e9 : w.heap.size = g := e); (have e8 : V2.heap.size ≤ g := (ho.lt g rfl).1); have := hxv; omega), hg9.cell hH.2.2.2.1 (fun e => by injection e with e; (have e9 : w.heap.size = g := e); (have e8 : V2.heap.size ≤ g := (ho.lt g rfl).1); have := hxv; omega), Below.grown hH.2.2.2.2 hg9 hH.2.2.2.2.size (fun q hq => by cases hq; exact (ho.lt g rfl).1)⟩
      replace hH := hG
      clear hK K hG
      try simp only [Act.put, List.setIfInBounds_toArray, List.set_cons_zero, List.set_cons_succ]
      refine wpAnyH_take (i := 7) (oi := { dst := some 7, op := _, type := _, pos := _, after := _, guard := _ }) (v := ?_) rfl (by kernel_rfl) (by kernel_rfl) (by kernel_rfl) (fun _ _ _ h => h) (Or.inl ⟨by rfl, ?_⟩) hH ?_
      rotate_left 1
      · intro W hSw
        (try dsimp only at hSw)
        go_simp
        (try with_reducible rfl)
      try simp only [Act.put, List.setIfInBounds_toArray, List.set_cons_zero, List.set_cons_succ]
      refine wpAnyH_done (by kernel_rfl) ?_ _
      refine NoPanic.normal ?_
      obtain ⟨_, _, _, _, hB⟩ := hH
      have BW9 := Lib.hid (BW2.out.trans (hB.mono BW2.out.size))
      have RO := Lib.hid ho9
      have hcp := owns_cap ho9
      clear hB hg9 hrun ho ho9 hb1 e0 e1 e2 e3
      (try clear d0 d1 d2 d3)
      go_wp2_with (at_builtin; refine wpList_append_nil rfl _ _ rfl rfl _ _ _ rfl rfl hcp.1 ?_)
      go_wp2_with fail
      go_returns
      exact ⟨g9, c10, rfl, RO.out, BW9.out⟩
    · go_simp
      refine hK.out _ _ ?_ (fun hG => ?_)
      · exact ⟨cell_alloc hH.1, cell_alloc hH.2.1, cell_alloc hH.2.2.1, cell_alloc hH.2.2.2.1, hH.2.2.2.2.alloc hH.2.2.2.2.size _⟩
      replace hH := hG
      clear hK K hG
      try simp only [Act.put, List.setIfInBounds_toArray, List.set_cons_zero, List.set_cons_succ]
      refine wpAnyH_ready (rs := [3]) (by kernel_rfl) (by simp) (AllReadyH.cons rfl (fun K hK => ?_) AllReadyH.nil)
      go_simp
      go_at_call 100; ((with_reducible refine (hCP _).mono ?_); rintro e r1 ⟨g, c, rfl, ho, hb1⟩); have d0 := cell_below hb1 (cell_here (W := V2.drew) (c := #[.int .i64 t, .string n, .int .i64 l, .int .i64 r]) (t := 63) (i := 0) rfl); have d1 := cell_below hb1 (cell_here (W := V2.drew) (c := #[.int .i64 t, .string n, .int .i64 l, .int .i64 r]) (t := 63) (i := 1) rfl); have d2 := cell_below hb1 (cell_here (W := V2.drew) (c := #[.int .i64 t, .string n, .int .i64 l, .int .i64 r]) (t := 63) (i := 2) rfl); have d3 := cell_below hb1 (cell_here (W := V2.drew) (c := #[.int .i64 t, .string n, .int .i64 l, .int .i64 r]) (t := 63) (i := 3) rfl); go_wp2_with fail
      refine hK.out _ _ ?_ (fun hG => ?_)
      · exact ⟨cell_below hb1 hH.1, cell_below hb1 hH.2.1, cell_below hb1 hH.2.2.1, cell_below hb1 hH.2.2.2.1, hH.2.2.2.2.trans (hb1.mono hH.2.2.2.2.size)⟩
      replace hH := hG
      clear hK K hG
      try simp only [Act.put, List.setIfInBounds_toArray, List.set_cons_zero, List.set_cons_succ]
      refine wpAnyH_ready (rs := [6]) (by kernel_rfl) (by simp) (AllReadyH.cons rfl (fun K hK => ?_) AllReadyH.nil)
      (obtain ⟨g9, c10, u9, hrun, ho9, hg9⟩ := append_cue r1 w.heap.size g 0 c _ (owns_base ho (Nat.le_trans (Nat.le_trans BW2.out.size (show V2.heap.size ≤ _ from by simp)) (ho.lt g rfl).1)) ⟨V2.heap.size, 0, none⟩ 1 1 (dc ⟨t, n, l, r⟩) rfl (by intro j u hj; match j, hj with | 0, hj => (simp [dc] at hj; subst hj; simpa [Addr.add] using d0) | 1, hj => (simp [dc] at hj; subst hj; simpa [Addr.add] using d1) | 2, hj => (simp [dc] at hj; subst hj; simpa [Addr.add] using d2) | 3, hj => (simp [dc] at hj; subst hj; simpa [Addr.add] using d3)) (by intro u hu9; simp [dc] at hu9; rcases hu9 with rfl | rfl | rfl | rfl <;> rfl) (by omega) (BW2.out.trans (hH.2.2.2.2.mono BW2.out.size)).size; refine step_append_run rfl (.tmp 41) (.tmp 43) rfl rfl _ _ _ (by simp [Act.eval, Act.put]) (by simp [Act.eval, Act.put]) hrun ?_; refine (show K (Act.put _ (some 44) _) _ from ?_))
      refine hK.out _ _ ?_ (fun hG => ?_)
      · exact ⟨hg9.cell hH.1 (fun e => by injection e with e; (have e9 : w.heap.size = g := e); (have e8 : V2.heap.size ≤ g := Nat.le_trans (by simp) (ho.lt g rfl).1); have := hxv; omega), hg9.cell hH.2.1 (fun e => by injection e with e; (have e9 : w.heap.size = g := e); (have e8 : V2.heap.size ≤ g := Nat.le_trans (by simp) (ho.lt g rfl).1); have := hxv; omega), hg9.cell hH.2.2.1 (fun e => by injection e with e; (have e9 : w.heap.size = g := e); (have e8 : V2.heap.size ≤ g := Nat.le_trans (by simp) (ho.lt g rfl).1); have := hxv; omega), hg9.cell hH.2.2.2.1 (fun e => by injection e with e; (have e9 : w.heap.size = g := e); (have e8 : V2.heap.size ≤ g := Nat.le_trans (by simp) (ho.lt g rfl).1); have := hxv; omega), Below.grown hH.2.2.2.2 hg9 hH.2.2.2.2.size (fun q hq => by cases hq; (have e8 : V2.heap.size ≤ g := Nat.le_trans (by simp) (ho.lt g rfl).1); exact e8)⟩
      replace hH := hG
      clear hK K hG
      try simp only [Act.put, List.setIfInBounds_toArray, List.set_cons_zero, List.set_cons_succ]
      refine wpAnyH_take (i := 7) (oi := { dst := some 7, op := _, type := _, pos := _, after := _, guard := _ }) (v := ?_) rfl (by kernel_rfl) (by kernel_rfl) (by kernel_rfl) (fun _ _ _ h => h) (Or.inl ⟨by rfl, ?_⟩) hH ?_
      rotate_left 1
      · intro W hSw
        (try dsimp only at hSw)
        go_simp
        (try with_reducible rfl)
      try simp only [Act.put, List.setIfInBounds_toArray, List.set_cons_zero, List.set_cons_succ]
      refine wpAnyH_done (by kernel_rfl) ?_ _
      refine NoPanic.normal ?_
      obtain ⟨_, _, _, _, hB⟩ := hH
      have BW9 := Lib.hid (BW2.out.trans (hB.mono BW2.out.size))
      have RO := Lib.hid ho9
      have hcp := owns_cap ho9
      clear hB hg9 hrun ho ho9 hb1 e0 e1 e2 e3
      (try clear d0 d1 d2 d3)
      go_wp2_with (at_builtin; refine wpList_append_nil rfl _ _ rfl rfl _ _ _ rfl rfl hcp.1 ?_)
      go_wp2_with fail
      go_returns
      exact ⟨g9, c10, rfl, RO.out, BW9.out⟩

set_option maxHeartbeats 2000000 in
set_option maxRecDepth 100000 in
theorem add0 (t : Int) (n : ByteArray) (l r : Int) (w : World) (hsx : n.size ≤ 1048576) :
    Calls Tryz.prog 59 #[.slice none 0 0, va t n l r] w (RowB w (addL [] ⟨t, n, l, r⟩) (addG [] ⟨t, n, l, r⟩)) := by
  have hu : undef = Value.tuple #[] := rfl
  have HX := Lib.hid (R4.new w (.int .i64 t) (.string n) (.int .i64 l) (.int .i64 r) 63)
  have B0 := Lib.hid (show Below w.heap.size w (w.alloc (.cells (ca t n l r) 63)) from (Below.refl _ _).alloc (Nat.le_refl _) _)
  have CPT := Lib.hid (put0 t n l r (w.alloc (.cells (ca t n l r) 63)))
  have CC := Lib.hid (fun (W : World) (hW : Below w.heap.size w W) => copies0 W)
  have hsc : score [] = true := score_yes (score_set.2 ⟨by simp, List.Pairwise.nil, fun d hd => by cases hd⟩)
  have CS := Lib.hid (fun (W : World) (hW : Below w.heap.size w W) => (by have := scoreS none 0 0 [] W rfl (by omega) (by intro z hz; cases hz) (Rd.nil _ _ _); rw [hsc] at this; exact this : Calls Tryz.prog 74 #[.slice none 0 0] W (fun e w' => e = .returned (.bool true) ∧ Below W.heap.size W w')))
  have CI := isCueS t n l r hsx
  obtain ⟨cb, hcb⟩ : ∃ b, cB ⟨t, n, l, r⟩ = b := ⟨_, rfl⟩
  have hfr : freeB [] ⟨t, n, l, r⟩ = true := rfl
  have HG := Lib.hid (show addG [] ⟨t, n, l, r⟩ = cb by unfold addG; rw [hsc, hcb, hfr]; cases cb <;> rfl)
  rw [show cueB t n l r = cb from hcb] at CI
  rw [hfr] at CPT
  have CI := Lib.hid CI
  obtain ⟨L, hL⟩ : ∃ L, putL [] ⟨t, n, l, r⟩ = L := ⟨_, rfl⟩
  rw [hL] at CPT
  have HL := Lib.hid hL
  clear hsc hcb hL
  cases cb
  · go_enter Tryz.func59, Tryz.ntmps59
    go_wp2_with fail
    refine CPT.out.mono ?_
    rintro e w1 ⟨g1, c1, rfl, ho1, hb1⟩
    have X1 := Lib.hid (HX.out.below hb1)
    have B1 := Lib.hid (B0.out.trans (hb1.mono B0.out.size))
    have O1 := Lib.hid (owns_base ho1 (Nat.le_trans B0.out.size (ho1.lt g1 rfl).1))
    have e0 := X1.out.c0
    have e1 := X1.out.c1
    have e2 := X1.out.c2
    have e3 := X1.out.c3
    clear ho1 hb1
    go_wp2_with fail
    refine (CS.out _ B1.out).mono ?_
    rintro e w2 ⟨rfl, hb2⟩
    have X2 := Lib.hid (X1.out.below hb2)
    have B2 := Lib.hid (B1.out.trans (hb2.mono B1.out.size))
    have O2 := Lib.hid (owns_below O1.out hb2)
    clear hb2 e0 e1 e2 e3 B1 O1 X1
    have e0 := X2.out.c0
    have e1 := X2.out.c1
    have e2 := X2.out.c2
    have e3 := X2.out.c3
    go_wp2_with fail
    refine (CI.out _).mono ?_
    rintro e w3 ⟨rfl, rfl⟩
    have B3 := Lib.hid (B2.out.alloc B2.out.size (.cells (ca t n l r) 63))
    have O3 := Lib.hid (O2.out.alloc (.cells (ca t n l r) 63))
    clear e0 e1 e2 e3 B2 O2 X2
    go_wp2_with fail
    refine (CC.out _ B3.out).mono ?_
    rintro e w9 ⟨g, c, rfl, ho, hb9⟩
    have B9 := Lib.hid (B3.out.trans (hb9.mono B3.out.size))
    have RO := Lib.hid (owns_base ho (Nat.le_trans B3.out.size (ho.lt g rfl).1))
    clear ho hb9
    go_wp2_with fail
    go_returns
    have hg : addG [] ⟨t, n, l, r⟩ = false := by rw [HG.out]; skip
    rw [addL_no hg, hg]
    exact ⟨g, c, rfl, RO.out, B9.out⟩
  · go_enter Tryz.func59, Tryz.ntmps59
    go_wp2_with fail
    refine CPT.out.mono ?_
    rintro e w1 ⟨g1, c1, rfl, ho1, hb1⟩
    have X1 := Lib.hid (HX.out.below hb1)
    have B1 := Lib.hid (B0.out.trans (hb1.mono B0.out.size))
    have O1 := Lib.hid (owns_base ho1 (Nat.le_trans B0.out.size (ho1.lt g1 rfl).1))
    have e0 := X1.out.c0
    have e1 := X1.out.c1
    have e2 := X1.out.c2
    have e3 := X1.out.c3
    clear ho1 hb1
    go_wp2_with fail
    refine (CS.out _ B1.out).mono ?_
    rintro e w2 ⟨rfl, hb2⟩
    have X2 := Lib.hid (X1.out.below hb2)
    have B2 := Lib.hid (B1.out.trans (hb2.mono B1.out.size))
    have O2 := Lib.hid (owns_below O1.out hb2)
    clear hb2 e0 e1 e2 e3 B1 O1 X1
    have e0 := X2.out.c0
    have e1 := X2.out.c1
    have e2 := X2.out.c2
    have e3 := X2.out.c3
    go_wp2_with fail
    refine (CI.out _).mono ?_
    rintro e w3 ⟨rfl, rfl⟩
    have B3 := Lib.hid (B2.out.alloc B2.out.size (.cells (ca t n l r) 63))
    have O3 := Lib.hid (O2.out.alloc (.cells (ca t n l r) 63))
    clear e0 e1 e2 e3 B2 O2 X2
    go_wp2_with fail
    go_returns
    have hg : addG [] ⟨t, n, l, r⟩ = true := by rw [HG.out]
    rw [addL_yes hg, hg, ← putL_yes (show freeB [] ⟨t, n, l, r⟩ = true from hfr), HL.out]
    exact ⟨g1, c1, rfl, O3.out, B3.out⟩
end Go.Proofs.YtokncfhpmjohdabGreat.Am0
namespace Go.Proofs.YtokncfhpmjohdabGreat.Dd
open Go.RowKit Go.ChangeShapes Go.WideShapes Go.WideElems Go.Joins Go.Deep Go.Proofs.YtokncfhpmjohdabGreat.Mem Go.Proofs.YtokncfhpmjohdabGreat.Rw
set_option linter.unusedVariables false
set_option linter.unusedSimpArgs false

/-- A device. -/
structure D where
  nm : ByteArray
  kd : Int
  ln : ByteArray
  x : Int
  y : Int
  hd : Int
  tl : Int
  ms : Int
instance : Inhabited D := ⟨⟨ByteArray.empty, 0, ByteArray.empty, 0, 0, 0, 0, 0⟩⟩
/-- The cells of a device. -/
abbrev cl (n : ByteArray) (k : Int) (l : ByteArray) (x y h t m : Int) : List Value := [.string n, .int .i64 k, .string l, .int .i64 x, .int .i64 y, .int .i64 h, .int .i64 t, .int .i64 m]
abbrev ca (n : ByteArray) (k : Int) (l : ByteArray) (x y h t m : Int) : Array Value := #[.string n, .int .i64 k, .string l, .int .i64 x, .int .i64 y, .int .i64 h, .int .i64 t, .int .i64 m]
/-- A device's value. -/
abbrev va (n : ByteArray) (k : Int) (l : ByteArray) (x y h t m : Int) : Value := .agg #[.string n, .int .i64 k, .string l, .int .i64 x, .int .i64 y, .int .i64 h, .int .i64 t, .int .i64 m]
def dc (d : D) : List Value := cl d.nm d.kd d.ln d.x d.y d.hd d.tl d.ms
theorem dc_len (d : D) : (dc d).length = 8 := rfl
def dls (zs : List D) : List Value := zs.flatMap dc
theorem dls_len (zs : List D) : (dls zs).length = zs.length * 8 := flat_len dc_len zs
theorem dls_get {zs : List D} {k : Nat} {n : ByteArray} {q : Int} {l : ByteArray} {x y h t m : Int} (hz : zs[k]? = some ⟨n, q, l, x, y, h, t, m⟩) :
    (dls zs)[k * 8]? = some (.string n) ∧ (dls zs)[k * 8 + 1]? = some (.int .i64 q) ∧ (dls zs)[k * 8 + 2]? = some (.string l) ∧ (dls zs)[k * 8 + 3]? = some (.int .i64 x) ∧ (dls zs)[k * 8 + 4]? = some (.int .i64 y) ∧ (dls zs)[k * 8 + 5]? = some (.int .i64 h) ∧ (dls zs)[k * 8 + 6]? = some (.int .i64 t) ∧ (dls zs)[k * 8 + 7]? = some (.int .i64 m) :=
  ⟨(flat_get dc_len hz 0 (by omega)).trans rfl, (flat_get dc_len hz 1 (by omega)).trans rfl, (flat_get dc_len hz 2 (by omega)).trans rfl, (flat_get dc_len hz 3 (by omega)).trans rfl, (flat_get dc_len hz 4 (by omega)).trans rfl, (flat_get dc_len hz 5 (by omega)).trans rfl, (flat_get dc_len hz 6 (by omega)).trans rfl, (flat_get dc_len hz 7 (by omega)).trans rfl⟩
theorem dls_snoc (zs : List D) (z : D) : dls zs ++ dc z = dls (zs ++ [z]) := (flat_snoc zs z).symm

/-- What a device that came in is within. -/
def Dok (d : D) : Prop := d.nm.size ≤ maxLen ∧ d.ln.size ≤ maxLen ∧ (Lit.int .i64 d.kd).wf = true ∧ (Lit.int .i64 d.x).wf = true ∧ (Lit.int .i64 d.y).wf = true ∧ (Lit.int .i64 d.hd).wf = true ∧ (Lit.int .i64 d.tl).wf = true ∧ (Lit.int .i64 d.ms).wf = true

section
variable {H : Type} {enc : TypeId × Value → H} {P : Program}
end

section
variable {H : Type} {enc : TypeId × Value → H} {P : Program}
end
end Go.Proofs.YtokncfhpmjohdabGreat.Dd
namespace Go.Proofs.YtokncfhpmjohdabGreat.Dv
open Go.RowKit Go.Proofs.YtokncfhpmjohdabGreat.Dd Go.Proofs.YtokncfhpmjohdabGreat.Pw
set_option linter.unusedVariables false
set_option linter.unusedSimpArgs false

end Go.Proofs.YtokncfhpmjohdabGreat.Dv
namespace Go.Proofs.YtokncfhpmjohdabGreat.Dl
open Go.RowKit Go.ChangeShapes Go.WideShapes Go.WideElems Go.Deep Go.Proofs.YtokncfhpmjohdabGreat.Mem Go.Proofs.YtokncfhpmjohdabGreat.Rw Go.Proofs.YtokncfhpmjohdabGreat.Pw Go.Proofs.YtokncfhpmjohdabGreat.P2 Go.Proofs.YtokncfhpmjohdabGreat.Dd Go.Proofs.YtokncfhpmjohdabGreat.Dv
set_option linter.unusedVariables false
set_option linter.unusedSimpArgs false

/-- How long the texts of these devices are. -/
def bulk : List D → Nat
  | [] => 0
  | d :: r => d.nm.size + d.ln.size + bulk r
theorem bulk_app : ∀ (a b : List D), bulk (a ++ b) = bulk a + bulk b
  | [], b => by simp [bulk]
  | d :: r, b => by simp only [List.cons_append, bulk, bulk_app r b]; omega
theorem bulk_take {zs : List D} {k : Nat} {d : D} (h : zs[k]? = some d) : bulk (zs.take (k + 1)) = bulk (zs.take k) + (d.nm.size + d.ln.size) := by
  obtain ⟨hk, rfl⟩ := List.getElem?_eq_some_iff.1 h
  rw [List.take_succ_eq_append_getElem hk, bulk_app]; simp [bulk]
theorem bulk_le (zs : List D) (k : Nat) : bulk (zs.take k) ≤ bulk zs := by
  have := bulk_app (zs.take k) (zs.drop k)
  rw [List.take_append_drop] at this
  omega
theorem mem_at {α : Type} {zs : List α} {k : Nat} {d : α} (h : zs[k]? = some d) : d ∈ zs := List.mem_of_getElem? h
/-- How much is left behind these. -/
def szV (n : Nat) (zs : List D) : Int := if (1048576 : Int) - n - bulk zs < 0 then -1 else 1048576 - n - bulk zs

/-- The first k of one list, then the other one's. -/
def mixed (xs ys : List Value) (k : Nat) : List Value := xs.take k ++ ys.drop k
theorem mixed_zero (xs ys : List Value) : mixed xs ys 0 = ys := by simp [mixed]
theorem mixed_all {xs ys : List Value} (h : ys.length = xs.length) : mixed xs ys xs.length = xs := by
  unfold mixed; rw [List.take_of_length_le (Nat.le_refl _), List.drop_of_length_le (by omega), List.append_nil]
theorem mixed_at {xs ys : List Value} {k j : Nat} {v : Value} (h : ys.length = xs.length) (hk : k ≤ j) (hv : ys[j]? = some v) : (mixed xs ys k)[j]? = some v := by
  have hj := (List.getElem?_eq_some_iff.1 hv).1
  unfold mixed
  rw [List.getElem?_append_right (by rw [List.length_take]; omega), List.length_take, Nat.min_eq_left (by omega), List.getElem?_drop, show k + (j - k) = j by omega]
  exact hv
theorem mixed_put {xs ys : List Value} {k : Nat} {v : Value} (h : ys.length = xs.length) (hv : xs[k]? = some v) : (mixed xs ys k).set k v = mixed xs ys (k + 1) := by
  obtain ⟨hk, rfl⟩ := List.getElem?_eq_some_iff.1 hv
  unfold mixed
  rw [List.set_append_right _ _ (by rw [List.length_take]; omega), List.length_take, Nat.min_eq_left (by omega), Nat.sub_self, List.drop_eq_getElem_cons (by omega), List.set_cons_zero, List.take_succ_eq_append_getElem hk, List.append_assoc]
  rfl
/-- A device of nothing. -/
def d0 : D := ⟨⟨#[]⟩, 0, ⟨#[]⟩, 0, 0, 0, 0, 0⟩
theorem dls_made (n : Nat) : (madeCells #[.string ⟨#[]⟩, .int .i64 0, .string ⟨#[]⟩, .int .i64 0, .int .i64 0, .int .i64 0, .int .i64 0, .int .i64 0] (n * 8)).toList = dls (List.replicate n d0) := by
  apply List.ext_getElem?
  intro j
  by_cases h : j < n * 8
  · have hm : j % 8 < 8 := Nat.mod_lt _ (by omega)
    have hd : j / 8 < n := by omega
    have hg := flat_get dc_len (zs := List.replicate n d0) (k := j / 8) (z := d0) (by rw [List.getElem?_replicate, if_pos hd]) (j % 8) hm
    rw [show j / 8 * 8 + j % 8 = j by omega] at hg
    unfold dls
    rw [hg, Array.getElem?_toList]
    simp only [madeCells]
    simp [h]
    generalize j % 8 = r at hm
    match r, hm with
    | 0, _ => rfl
    | 1, _ => rfl
    | 2, _ => rfl
    | 3, _ => rfl
    | 4, _ => rfl
    | 5, _ => rfl
    | 6, _ => rfl
    | 7, _ => rfl
  · rw [List.getElem?_eq_none (l := dls _) (by rw [dls_len, List.length_replicate]; omega), Array.getElem?_toList]
    simp [madeCells, h]

theorem infoD : (Tryz.prog.info? 36).map (fun i => (i.zero, i.size, i.bytes)) = some (some (.agg #[.string ⟨#[]⟩, .int .i64 0, .string ⟨#[]⟩, .int .i64 0, .int .i64 0, .int .i64 0, .int .i64 0, .int .i64 0]), 8, 80) := by kernel_rfl

/-- What the copy leaves: a row of its own with these devices; what was there is as it was. -/
def Copied (w : World) (n : Nat) (zs : List D) (e : Ending) (w' : World) : Prop :=
  ∃ g, e = .returned (.slice (some ⟨g, 0, none⟩) n n) ∧ w.heap.size ≤ g ∧ w'.ownsRow w.heap.size 36 8 (.slice (some ⟨g, 0, none⟩) n n) n (dls zs) ∧ Below w.heap.size w w'

end Go.Proofs.YtokncfhpmjohdabGreat.Dl
namespace Go.Proofs.YtokncfhpmjohdabGreat.P2
open Go.RowKit Go.Proofs.YtokncfhpmjohdabGreat.Cm Go.Proofs.YtokncfhpmjohdabGreat.Pl Go.Proofs.YtokncfhpmjohdabGreat.Str Go.Proofs.YtokncfhpmjohdabGreat.Pw
set_option linter.unusedVariables false

end Go.Proofs.YtokncfhpmjohdabGreat.P2
namespace Go.Proofs.YtokncfhpmjohdabGreat.Hd
open Go.RowKit Go.Proofs.YtokncfhpmjohdabGreat.Cm Go.Proofs.YtokncfhpmjohdabGreat.Pl
set_option linter.unusedVariables false

def hd (h : Int) : Bool := decide (0 ≤ h) && decide (h ≤ 3)
theorem isHeadingI (h : Int) (w : World) : Calls Tryz.prog 85 #[.int .i64 h] w fun e w' => e = .returned (.bool (hd h)) ∧ w = w' := by
  go_enter Tryz.func85, Tryz.ntmps85
  go_wp2
  all_goals go_returns
  · rename_i h1
    refine ⟨?_, rfl⟩
    show Ending.returned (.bool (decide (h < 4))) = _
    unfold hd
    rw [decide_eq_true h1, Bool.true_and]
    congr 2
    rw [decide_eq_decide]; omega
  · rename_i h1
    refine ⟨?_, rfl⟩
    show Ending.returned (.bool false) = _
    unfold hd
    rw [decide_eq_false (by omega)]; rfl
theorem isHeadingS (h : Int) (w : World) : Calls Tryz.prog 151 #[.int .i64 h] w fun e w' => e = .returned (.bool (hd h)) ∧ w = w' := by
  go_enter Tryz.func151, Tryz.ntmps151
  go_wp2
  all_goals go_returns
  · rename_i h1
    refine ⟨?_, rfl⟩
    show Ending.returned (.bool (decide (h ≤ 3))) = _
    unfold hd
    rw [decide_eq_true h1, Bool.true_and]
  · rename_i h1
    refine ⟨?_, rfl⟩
    show Ending.returned (.bool false) = _
    unfold hd
    rw [decide_eq_false (by omega)]; rfl

end Go.Proofs.YtokncfhpmjohdabGreat.Hd
namespace Go.Proofs.YtokncfhpmjohdabGreat.Jt
open Go.RowKit Go.Proofs.YtokncfhpmjohdabGreat.Cm Go.Proofs.YtokncfhpmjohdabGreat.Pl Go.Proofs.YtokncfhpmjohdabGreat.Str Go.Proofs.YtokncfhpmjohdabGreat.Pw Go.Proofs.YtokncfhpmjohdabGreat.P2 Go.Proofs.YtokncfhpmjohdabGreat.Hd
set_option linter.unusedVariables false
set_option linter.unusedSimpArgs false

/-- A jet's value. -/
abbrev jv (x y h t l : Int) : Value := .agg #[.int .i64 x, .int .i64 y, .int .i64 h, .int .i64 t, .int .i64 l]
/-- The memory of a jet. -/
abbrev jc (x y h t l : Int) : Array Value := #[.int .i64 x, .int .i64 y, .int .i64 h, .int .i64 t, .int .i64 l]

/-- Whether a jet is valid. -/
def jt (x y h t l : Int) : Bool := iw x (-1024) 1024 && iw y (-1024) 1024 && hd h && iw t 0 16 && iw l 1 32
theorem jt_iff {x y h t l : Int} : jt x y h t l = true ↔ (-1024 ≤ x ∧ x ≤ 1024) ∧ (-1024 ≤ y ∧ y ≤ 1024) ∧ (0 ≤ h ∧ h ≤ 3) ∧ (0 ≤ t ∧ t ≤ 16) ∧ (1 ≤ l ∧ l ≤ 32) := by
  unfold jt hd
  simp only [Bool.and_eq_true, iw_iff, decide_eq_true_eq]
  omega

set_option maxHeartbeats 1000000 in
theorem isJetI (x y h t l : Int) (w : World) : Calls Tryz.prog 47 #[jv x y h t l] w fun e w' => e = .returned (.bool (jt x y h t l)) ∧ w' = w.alloc (.cells (jc x y h t l) 47) := by
  unfold jt
  have H := isHeadingI h
  generalize hd h = b3 at *
  generalize e1 : iw x (-1024) 1024 = b1
  generalize e2 : iw y (-1024) 1024 = b2
  generalize e4 : iw t 0 16 = b4
  generalize e5 : iw l 1 32 = b5
  have C1 := Lib.hid (fun w => e1 ▸ isWithin x (-1024) 1024 w)
  have C2 := Lib.hid (fun w => e2 ▸ isWithin y (-1024) 1024 w)
  have C3 := Lib.hid H
  have C4 := Lib.hid (fun w => e4 ▸ isWithin t 0 16 w)
  have C5 := Lib.hid (fun w => e5 ▸ isWithin l 1 32 w)
  clear e1 e2 e4 e5 H
  cases b1 <;> cases b2 <;> cases b3 <;> cases b4
  all_goals
    go_enter Tryz.func47, Tryz.ntmps47
    go_wp2_with fail
    refine (C1.out _).mono ?_
    rintro e w' ⟨rfl, rfl⟩
    go_wp2_with fail
    try (refine (C2.out _).mono ?_; rintro e w' ⟨rfl, rfl⟩; go_wp2_with fail)
    try (refine (C3.out _).mono ?_; rintro e w' ⟨rfl, rfl⟩; go_wp2_with fail)
    try (refine (C4.out _).mono ?_; rintro e w' ⟨rfl, rfl⟩; go_wp2_with fail)
    try (refine (C5.out _).mono ?_; rintro e w' ⟨rfl, rfl⟩; go_wp2_with fail)
    go_returns
    exact ⟨rfl, rfl⟩

set_option maxHeartbeats 1000000 in
theorem isJetS (x y h t l : Int) (w : World) : Calls Tryz.prog 121 #[jv x y h t l] w fun e w' => e = .returned (.bool (jt x y h t l)) ∧ w' = w.alloc (.cells (jc x y h t l) 47) := by
  unfold jt
  have H := isHeadingS h
  generalize hd h = b3 at *
  generalize e1 : iw x (-1024) 1024 = b1
  generalize e2 : iw y (-1024) 1024 = b2
  generalize e4 : iw t 0 16 = b4
  generalize e5 : iw l 1 32 = b5
  have C1 := Lib.hid (fun w => e1 ▸ l1In x (-1024) 1024 w)
  have C2 := Lib.hid (fun w => e2 ▸ l1In y (-1024) 1024 w)
  have C3 := Lib.hid H
  have C4 := Lib.hid (fun w => e4 ▸ l1In t 0 16 w)
  have C5 := Lib.hid (fun w => e5 ▸ l1In l 1 32 w)
  clear e1 e2 e4 e5 H
  cases b1 <;> cases b2 <;> cases b3 <;> cases b4
  all_goals
    go_enter Tryz.func121, Tryz.ntmps121
    go_wp2_with fail
    refine (C1.out _).mono ?_
    rintro e w' ⟨rfl, rfl⟩
    go_wp2_with fail
    try (refine (C2.out _).mono ?_; rintro e w' ⟨rfl, rfl⟩; go_wp2_with fail)
    try (refine (C3.out _).mono ?_; rintro e w' ⟨rfl, rfl⟩; go_wp2_with fail)
    try (refine (C4.out _).mono ?_; rintro e w' ⟨rfl, rfl⟩; go_wp2_with fail)
    try (refine (C5.out _).mono ?_; rintro e w' ⟨rfl, rfl⟩; go_wp2_with fail)
    go_returns
    exact ⟨rfl, rfl⟩

theorem isJetI_of {x y h t l : Int} {b : Bool} (e : jt x y h t l = b) (w : World) : Calls Tryz.prog 47 #[jv x y h t l] w fun e w' => e = .returned (.bool b) ∧ w' = w.alloc (.cells (jc x y h t l) 47) := e ▸ isJetI x y h t l w
theorem isJetS_of {x y h t l : Int} {b : Bool} (e : jt x y h t l = b) (w : World) : Calls Tryz.prog 121 #[jv x y h t l] w fun e w' => e = .returned (.bool b) ∧ w' = w.alloc (.cells (jc x y h t l) 47) := e ▸ isJetS x y h t l w

end Go.Proofs.YtokncfhpmjohdabGreat.Jt
