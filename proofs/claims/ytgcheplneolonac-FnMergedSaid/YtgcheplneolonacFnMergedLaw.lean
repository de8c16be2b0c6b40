/- The law FnMerged holds at every input. The step from the walk to the row follows the guide's own template. -/
import Derived.Test.YtgcheplneolonacMem
import Derived.Test.YtgcheplneolonacFm9
import Derived.Test.YtgcheplneolonacOi7
import Derived.Test.YtgcheplneolonacLi7
import Derived.Test.YtgcheplneolonacSi7
import Derived.Test.YtgcheplneolonacLc7
import Derived.Test.YtgcheplneolonacTakeC
import Derived.Deep.RegionHeld3
import Derived.BigQuiet
namespace Go.Proofs.Ytgcheplneolonac.fnMerged
open Go.ChangeShapes Go.WideShapes Go.ChangeAt Go.RowKit Go.WideMaps Go.WideElems Go.Proofs.Ytgcheplneolonac.Mem
open Go.ChangeMaps (open_string shut_string)
set_option linter.unusedVariables false
set_option linter.unusedSimpArgs false

theorem own : ownKnob Try.prog.godebug = none := by kernel_rfl
theorem laidOut : laidOutB Try.prog = true := by kernel_rfl

open Go.Proofs.Ytgcheplneolonac.Rw Go.Proofs.Ytgcheplneolonac.Cd Go.Proofs.Ytgcheplneolonac.Cl Go.Proofs.Ytgcheplneolonac.Cs Go.Proofs.Ytgcheplneolonac.Sd Go.Proofs.Ytgcheplneolonac.Oc Go.Proofs.Ytgcheplneolonac.Cq Go.Proofs.Ytgcheplneolonac.Ac Go.Proofs.Ytgcheplneolonac.Mg Go.Proofs.Ytgcheplneolonac.Fm9 Go.Proofs.Ytgcheplneolonac.Ld Go.Proofs.Ytgcheplneolonac.P2 
open Go.Proofs.Ytgcheplneolonac.Rw (owns_below owns_grown owns_base)

set_option maxHeartbeats 4000000 in
set_option maxRecDepth 100000 in
theorem walk (A : Option Addr) (n c : Nat) (bs : List UInt8) (hn : bs.length = n) (hm : n ≤ maxLen) (w : World) (hr : Rd w w.heap.size A (Draw.u8s bs)) :
    Calls Try.prog 4 #[.slice A n c] w fun e w' => e = .returned (.bool true) ∧ Below w.heap.size w w' := by
  have hu : undef = Value.tuple #[] := rfl
  by_cases hbig : (n : Int) ≤ 4096
  · have D := Lib.hid (Dr7.drawZ w A n c bs hn (by omega) hr)
    have DM := Lib.hid (fun (W : World) (h : Below w.heap.size w W) => Dr7.drawMerge W A n c bs hn (by omega) ((hr.below h).more h.size))
    clear hm
    go_enter Try.func4, Try.ntmps4
    go_wp2_with (go_at_call 5; go_enter Try.func5, Try.ntmps5)
    refine D.out.mono ?_
    rintro e wd0 ⟨zs, q, gZ, cZ, nm, hl, hsn, hnm, rfl, hown, hB⟩
    have BB := Lib.hid hB
    have Z := Lib.hid (Rd.own hown)
    have hsc := hsn.1
    have hq7 : q ≤ 7 := by have := hsn.2.1; omega
    have hq9 : q ≤ 1048576 := by omega
    obtain ⟨pm1, pm2⟩ := parts_merge hsc (fun d hd => (hsn.2.2 d hd).2.2)
    obtain ⟨cm1, cm2⟩ := mg_comm (only zs partA) (only zs partB)
    rw [pm1] at cm1
    rw [pm2] at cm2
    obtain ⟨ya, has⟩ : ∃ ya, only zs partA = ya := ⟨_, rfl⟩
    obtain ⟨yu, hus⟩ : ∃ yu, only zs partB = yu := ⟨_, rfl⟩
    obtain ⟨na, hna⟩ : ∃ k, ya.length = k := ⟨_, rfl⟩
    obtain ⟨nu, hnu⟩ : ∃ k, yu.length = k := ⟨_, rfl⟩
    have ha9 : na ≤ 1048576 := by have := only_len zs partA; rw [has, hna, hl] at this; omega
    have hu9 : nu ≤ 1048576 := by have := only_len zs partB; rw [hus, hnu, hl] at this; omega
    rw [has, hus] at pm1 pm2 cm1 cm2
    have CA := Lib.hid (fun (B : Addr) (W : World) (h : Rd W W.heap.size (some ⟨gZ, 0, none⟩) (dls zs)) (h2 : Rd W W.heap.size (some B) (Strs.strs partA)) => (show Calls Try.prog 12 #[.slice (some ⟨gZ, 0, none⟩) q cZ, .slice (some B) 2 2] W (fun e w' => ∃ g c, e = .returned (.slice (some ⟨g, 0, none⟩) na c) ∧ Rd w' w'.heap.size (some ⟨g, 0, none⟩) (dls ya) ∧ Below W.heap.size W w') from
      (Oi7.onlyI (some ⟨gZ, 0, none⟩) q cZ zs (some B) 2 2 partA W hl hq9 rfl (by decide) h h2).mono fun e w' ⟨g, c, h1, h2, h3⟩ => by rw [has, hna] at h1 h2; exact ⟨g, c, h1, Rd.own h2, h3⟩))
    have CU := Lib.hid (fun (B : Addr) (W : World) (h : Rd W W.heap.size (some ⟨gZ, 0, none⟩) (dls zs)) (h2 : Rd W W.heap.size (some B) (Strs.strs partB)) => (show Calls Try.prog 12 #[.slice (some ⟨gZ, 0, none⟩) q cZ, .slice (some B) 3 3] W (fun e w' => ∃ g c, e = .returned (.slice (some ⟨g, 0, none⟩) nu c) ∧ Rd w' w'.heap.size (some ⟨g, 0, none⟩) (dls yu) ∧ Below W.heap.size W w') from
      (Oi7.onlyI (some ⟨gZ, 0, none⟩) q cZ zs (some B) 3 3 partB W hl hq9 rfl (by decide) h h2).mono fun e w' ⟨g, c, h1, h2, h3⟩ => by rw [hus, hnu] at h1 h2; exact ⟨g, c, h1, Rd.own h2, h3⟩))
    have CX := Lib.hid (fun (a b : Addr) (c d : Nat) (W : World) (h : Rd W W.heap.size (some a) (dls ya)) (k : Rd W W.heap.size (some b) (dls yu)) => (show Calls Try.prog 13 #[.slice (some a) na c, .slice (some b) nu d] W (fun e w' => ∃ (A : Option Addr) (c : Nat), e = .returned (.tuple #[.slice A q c, .bool true]) ∧ Rd w' w'.heap.size A (dls zs) ∧ Below W.heap.size W w') from by
      have := mergeA a b na c ya nu d yu W hna hnu ha9 hu9 h k
      rw [pm1, pm2, hl] at this; exact this))
    have CY := Lib.hid (fun (a b : Addr) (c d : Nat) (W : World) (h : Rd W W.heap.size (some a) (dls yu)) (k : Rd W W.heap.size (some b) (dls ya)) => (show Calls Try.prog 13 #[.slice (some a) nu c, .slice (some b) na d] W (fun e w' => ∃ (A : Option Addr) (c : Nat), e = .returned (.tuple #[.slice A q c, .bool true]) ∧ Rd w' w'.heap.size A (dls zs) ∧ Below W.heap.size W w') from by
      have := mergeA a b nu c yu na d ya W hnu hna hu9 ha9 h k
      rw [cm1, cm2, hl] at this; exact this))
    have CL := Lib.hid (fun (A : Option Addr) (c : Nat) (W : World) (h : Rd W W.heap.size A (dls zs)) => Li7.levelI A q c zs nm 9 W hl hq9 (by decide) h)
    obtain ⟨lv, hlv⟩ : ∃ v, levV zs nm 9 = v := ⟨_, rfl⟩
    rw [hlv] at CL
    have hlv2 : (lv == lv) = true := by simp
    clear D hbig hown hB hn hr hsn hnm hsc pm1 pm2 cm1 cm2 has hus hna hnu ha9 hu9 hlv
    have S1 := Lib.hid (rd_strs wd0 partA)
    have hb : Below wd0.heap.size wd0 (wd0.alloc (.cells (Strs.strs partA).toArray 9)) := (Below.refl _ _).alloc (Nat.le_refl _) _
    have BBn := Lib.hid (BB.out.trans (hb.mono BB.out.size))
    have Zn := Lib.hid ((Z.out.below hb).more hb.size)
    clear hb BB Z
    have BB := BBn
    have Z := Zn
    clear BBn Zn
    go_wp2_with fail
    refine (CA.out _ _ Z.out S1.out).mono ?_
    rintro e9 w2 ⟨gA, cA, rfl, hA, hb⟩
    have X := Lib.hid hA
    clear hA S1
    have BBn := Lib.hid (BB.out.trans (hb.mono BB.out.size))
    have Zn := Lib.hid ((Z.out.below hb).more hb.size)
    clear hb BB Z
    have BB := BBn
    have Z := Zn
    clear BBn Zn
    have S1 := Lib.hid (rd_strs w2 partB)
    have hb : Below w2.heap.size w2 (w2.alloc (.cells (Strs.strs partB).toArray 9)) := (Below.refl _ _).alloc (Nat.le_refl _) _
    have BBn := Lib.hid (BB.out.trans (hb.mono BB.out.size))
    have Zn := Lib.hid ((Z.out.below hb).more hb.size)
    have Xn := Lib.hid ((X.out.below hb).more hb.size)
    clear hb BB Z X
    have BB := BBn
    have Z := Zn
    have X := Xn
    clear BBn Zn Xn
    go_wp2_with fail
    refine (CU.out _ _ Z.out S1.out).mono ?_
    rintro e9 w3 ⟨gU, cU, rfl, hA, hb⟩
    have Y := Lib.hid hA
    clear hA S1
    have BBn := Lib.hid (BB.out.trans (hb.mono BB.out.size))
    have Zn := Lib.hid ((Z.out.below hb).more hb.size)
    have Xn := Lib.hid ((X.out.below hb).more hb.size)
    clear hb BB Z X
    have BB := BBn
    have Z := Zn
    have X := Xn
    clear BBn Zn Xn
    go_wp2_with fail
    refine (CX.out _ _ _ _ _ X.out Y.out).mono ?_
    rintro e9 w4 ⟨aM, cM, rfl, hA, hb⟩
    have M := Lib.hid hA
    clear hA
    have BBn := Lib.hid (BB.out.trans (hb.mono BB.out.size))
    have Zn := Lib.hid ((Z.out.below hb).more hb.size)
    have Xn := Lib.hid ((X.out.below hb).more hb.size)
    have Yn := Lib.hid ((Y.out.below hb).more hb.size)
    clear hb BB Z X Y
    have BB := BBn
    have Z := Zn
    have X := Xn
    have Y := Yn
    clear BBn Zn Xn Yn
    go_wp2_with fail
    refine (CY.out _ _ _ _ _ Y.out X.out).mono ?_
    rintro e9 w5 ⟨aN, cN, rfl, hA, hb⟩
    have N := Lib.hid hA
    clear hA X Y CA CU CX CY
    have BBn := Lib.hid (BB.out.trans (hb.mono BB.out.size))
    have Zn := Lib.hid ((Z.out.below hb).more hb.size)
    have Mn := Lib.hid ((M.out.below hb).more hb.size)
    clear hb BB Z M
    have BB := BBn
    have Z := Zn
    have M := Mn
    clear BBn Zn Mn
    go_wp2_with fail
    refine (Lc7.cuesL _ _ _ _ _ zs w5.heap.size _ hl hq9 M.out Z.out).mono ?_
    rintro e9 w6 ⟨rfl, hb⟩
    have BBn := Lib.hid (BB.out.trans (hb.mono BB.out.size))
    have Zn := Lib.hid ((Z.out.below hb).more hb.size)
    have Mn := Lib.hid ((M.out.below hb).more hb.size)
    have Nn := Lib.hid ((N.out.below hb).more hb.size)
    clear hb BB Z M N
    have BB := BBn
    have Z := Zn
    have M := Mn
    have N := Nn
    clear BBn Zn Mn Nn
    go_wp2_with fail
    refine (Lc7.cuesL _ _ _ _ _ zs w6.heap.size _ hl hq9 N.out Z.out).mono ?_
    rintro e9 w7 ⟨rfl, hb⟩
    clear N
    have BBn := Lib.hid (BB.out.trans (hb.mono BB.out.size))
    have Zn := Lib.hid ((Z.out.below hb).more hb.size)
    have Mn := Lib.hid ((M.out.below hb).more hb.size)
    clear hb BB Z M
    have BB := BBn
    have Z := Zn
    have M := Mn
    clear BBn Zn Mn
    go_wp2_with fail
    refine (DM.out _ BB.out).mono ?_
    rintro e9 w8 ⟨ps, qp, gP, oP, cP, rs, qr, gR, oR, cR, hpl, hps, hrl, hrs, rfl, hP, hR, hb⟩
    have P := Lib.hid hP
    have R := Lib.hid hR
    clear hP hR DM
    have BBn := Lib.hid (BB.out.trans (hb.mono BB.out.size))
    have Zn := Lib.hid ((Z.out.below hb).more hb.size)
    have Mn := Lib.hid ((M.out.below hb).more hb.size)
    clear hb BB Z M
    have BB := BBn
    have Z := Zn
    have M := Mn
    clear BBn Zn Mn
    have hp9 : qp ≤ 1048576 := by have := hps.1; omega
    have hr9 : qr ≤ 1048576 := by have := hrs.1; omega
    obtain ⟨dm1, dm2⟩ := mg_comm ps rs
    have msc := fun h => mg_score (zs := ps) (xs := rs) h
    have mln := mg_len ps rs
    obtain ⟨fine, hfine⟩ : ∃ b, mgG ps rs = b := ⟨_, rfl⟩
    obtain ⟨K, hK⟩ : ∃ K, mgL ps rs = K := ⟨_, rfl⟩
    obtain ⟨k, hk⟩ : ∃ k, K.length = k := ⟨_, rfl⟩
    rw [hfine] at dm1
    rw [hK] at dm2
    rw [hfine, hK, hk, hpl, hrl] at msc
    rw [hK, hk, hpl, hrl] at mln
    have hk9 : k ≤ 1048576 := by have := hps.1; have := hrs.1; omega
    have CP := Lib.hid (fun (W : World) (h : Rd W W.heap.size (some ⟨gP, oP, none⟩) (dls ps)) (j : Rd W W.heap.size (some ⟨gR, oR, none⟩) (dls rs)) => (show Calls Try.prog 13 #[.slice (some ⟨gP, oP, none⟩) qp cP, .slice (some ⟨gR, oR, none⟩) qr cR] W (fun e w' => ∃ (A : Option Addr) (c : Nat), e = .returned (.tuple #[.slice A k c, .bool fine]) ∧ Rd w' w'.heap.size A (dls K) ∧ Below W.heap.size W w') from by
      have := mergeA ⟨gP, oP, none⟩ ⟨gR, oR, none⟩ qp cP ps qr cR rs W hpl hrl hp9 hr9 h j
      rw [hfine, hK, hk] at this; exact this))
    have CQ := Lib.hid (fun (W : World) (h : Rd W W.heap.size (some ⟨gP, oP, none⟩) (dls ps)) (j : Rd W W.heap.size (some ⟨gR, oR, none⟩) (dls rs)) => (show Calls Try.prog 13 #[.slice (some ⟨gR, oR, none⟩) qr cR, .slice (some ⟨gP, oP, none⟩) qp cP] W (fun e w' => ∃ (A : Option Addr) (c : Nat), e = .returned (.tuple #[.slice A k c, .bool fine]) ∧ Rd w' w'.heap.size A (dls K) ∧ Below W.heap.size W w') from by
      have := mergeA ⟨gR, oR, none⟩ ⟨gP, oP, none⟩ qr cR rs qp cP ps W hrl hpl hr9 hp9 j h
      rw [dm1, dm2, hk] at this; exact this))
    have CI := Lib.hid (fun (A : Option Addr) (c : Nat) (W : World) (h : Rd W W.heap.size A (dls K)) => Si7.scoreI A k c K W hk hk9 h)
    clear dm1 dm2 hfine hK mln hpl hrl hps hrs
    go_wp2_with fail
    refine (CP.out _ P.out R.out).mono ?_
    rintro e9 w9 ⟨aS, cS, rfl, hA, hb⟩
    have S := Lib.hid hA
    clear hA CP
    have BBn := Lib.hid (BB.out.trans (hb.mono BB.out.size))
    have Zn := Lib.hid ((Z.out.below hb).more hb.size)
    have Mn := Lib.hid ((M.out.below hb).more hb.size)
    have Pn := Lib.hid ((P.out.below hb).more hb.size)
    have Rn := Lib.hid ((R.out.below hb).more hb.size)
    clear hb BB Z M P R
    have BB := BBn
    have Z := Zn
    have M := Mn
    have P := Pn
    have R := Rn
    clear BBn Zn Mn Pn Rn
    go_wp2_with fail
    refine (CQ.out _ P.out R.out).mono ?_
    rintro e9 w10 ⟨aT, cT, rfl, hA, hb⟩
    have T := Lib.hid hA
    clear hA CQ P R
    have BBn := Lib.hid (BB.out.trans (hb.mono BB.out.size))
    have Zn := Lib.hid ((Z.out.below hb).more hb.size)
    have Mn := Lib.hid ((M.out.below hb).more hb.size)
    have Sn := Lib.hid ((S.out.below hb).more hb.size)
    clear hb BB Z M S
    have BB := BBn
    have Z := Zn
    have M := Mn
    have S := Sn
    clear BBn Zn Mn Sn
    cases fine
    · go_wp2_with fail
      refine (Lc7.cuesL _ _ _ _ _ K w10.heap.size _ hk hk9 S.out T.out).mono ?_
      rintro e9 w11 ⟨rfl, hb⟩
      clear T
      have BBn := Lib.hid (BB.out.trans (hb.mono BB.out.size))
      have Zn := Lib.hid ((Z.out.below hb).more hb.size)
      have Mn := Lib.hid ((M.out.below hb).more hb.size)
      clear hb BB Z M
      have BB := BBn
      have Z := Zn
      have M := Mn
      clear BBn Zn Mn
      go_wp2_with fail
      refine (CL.out _ _ _ M.out).mono ?_
      rintro e9 w13 ⟨rfl, hb⟩
      have BBn := Lib.hid (BB.out.trans (hb.mono BB.out.size))
      have Zn := Lib.hid ((Z.out.below hb).more hb.size)
      clear hb BB Z
      have BB := BBn
      have Z := Zn
      clear BBn Zn
      go_wp2_with fail
      refine (CL.out _ _ _ Z.out).mono ?_
      rintro e9 w14 ⟨rfl, hb⟩
      have BBn := Lib.hid (BB.out.trans (hb.mono BB.out.size))
      go_wp2_with fail
      go_ret
      exact ⟨rfl, BBn.out⟩
    · obtain ⟨ms1, ms2⟩ := msc rfl
      rw [ms1] at CI
      have hkk : ((k : Int) == (qp : Int) + (qr : Int)) = true := by rw [ms2]; simp
      clear msc ms1 ms2
      go_wp2_with fail
      refine (Lc7.cuesL _ _ _ _ _ K w10.heap.size _ hk hk9 S.out T.out).mono ?_
      rintro e9 w11 ⟨rfl, hb⟩
      clear T
      have BBn := Lib.hid (BB.out.trans (hb.mono BB.out.size))
      have Zn := Lib.hid ((Z.out.below hb).more hb.size)
      have Mn := Lib.hid ((M.out.below hb).more hb.size)
      have Sn := Lib.hid ((S.out.below hb).more hb.size)
      clear hb BB Z M S
      have BB := BBn
      have Z := Zn
      have M := Mn
      have S := Sn
      clear BBn Zn Mn Sn
      go_wp2_with fail
      refine (CI.out _ _ _ S.out).mono ?_
      rintro e9 w12 ⟨rfl, hb⟩
      clear S
      have BBn := Lib.hid (BB.out.trans (hb.mono BB.out.size))
      have Zn := Lib.hid ((Z.out.below hb).more hb.size)
      have Mn := Lib.hid ((M.out.below hb).more hb.size)
      clear hb BB Z M
      have BB := BBn
      have Z := Zn
      have M := Mn
      clear BBn Zn Mn
      go_wp2_with fail
      refine (CL.out _ _ _ M.out).mono ?_
      rintro e9 w13 ⟨rfl, hb⟩
      have BBn := Lib.hid (BB.out.trans (hb.mono BB.out.size))
      have Zn := Lib.hid ((Z.out.below hb).more hb.size)
      clear hb BB Z
      have BB := BBn
      have Z := Zn
      clear BBn Zn
      go_wp2_with fail
      refine (CL.out _ _ _ Z.out).mono ?_
      rintro e9 w14 ⟨rfl, hb⟩
      have BBn := Lib.hid (BB.out.trans (hb.mono BB.out.size))
      go_wp2_with fail
      go_ret
      exact ⟨rfl, BBn.out⟩
  · have hd : decide (4096 < n) = true := decide_eq_true (by omega)
    clear hn hm hr
    go_enter Try.func4, Try.ntmps4
    go_wp2_with (go_at_call 5; go_enter Try.func5, Try.ntmps5)
    go_returns
    exact ⟨rfl, Below.refl _ _⟩

set_option maxRecDepth 100000 in
theorem lifted (os : Os) (started : os.Started) (H : Type) (enc : TypeId × Value → H) :
    ReturnsInHanded {} Try.checked os 4 .any (Rows.fnMergedSpec.pre6 enc Try.prog Try.f4 Rows.fnMergedRow.domain false) (Rows.fnMergedSpec.post enc Try.prog Try.f4 false true false false) := by
  refine returnsInHanded_of_change (C := Try.checked) own started (by kernel_rfl) Try.func4
    (ChangeSpec.witness6 (enc := enc) (C := Try.checked) false ⟨#[], #[.slice none 0 0], []⟩ 8 (by kernel_rfl) (by kernel_rfl) (by kernel_rfl) (by kernel_rfl)) ?_
  intro W base args ds gs before hval0 hW hcnd hsz
  have hval : ∀ (j : Nat) t v, Try.f4.params[j]? = some t → args[j]? = some v → Value.okWide Try.prog W .any base t v := hval0
  have hW' := hW
  obtain ⟨p, q, hA0, hV, rfl, hfz, hnd⟩ := hW
  have hA1 := hA0
  have hA : DataW.TrodAll enc Try.prog W 0 (fun _ => true) true Try.f4.params.toList args.toList ds p := hA0
  rw [Try.params4] at hA hval
  obtain ⟨v0, vs0, d0, ds0, p0, q0, hargs, rfl, rfl, h0, r0⟩ := trodAll_cons hA
  obtain ⟨rfl, rfl, rfl⟩ := trodAll_nil r0
  obtain rfl : args = #[v0] := by cases args; simp_all
  obtain ⟨rfl, rfl⟩ := trodVars_none hV
  obtain ⟨A0, n0, c0, a0, rfl, l0, m0, g0⟩ := RampFn.take_bytes Try.underlying22 Try.underlying5 (by kernel_rfl) (hval 0 22 v0 rfl rfl) h0
  clear hA0 hval0
  rw [List.append_nil] at hW'
  refine (walk A0 n0 c0 a0 l0 m0 W g0).mono fun e W' ⟨he, hb⟩ => ?_
  subst he
  exact ⟨_, rfl, post_law rfl hW' hA1 laidOut (by rw [Try.params4]; exact of_decide_eq_true (by kernel_rfl)) 4 (by kernel_rfl) Try.underlying4 rfl hb⟩

theorem over : Rows.fnMergedRow.holds Try.pinned (OpenSpec.ofChange Rows.fnMergedSpec) :=
  OpenClaim.holds_of_wide 4 Try.f4 rfl rfl rfl rfl rfl rfl rfl ⟨rfl, rfl, rfl, rfl, rfl⟩ rfl rfl rfl rfl rfl (by kernel_rfl) Try.func4 (by kernel_rfl)
    (of_decide_eq_true (by kernel_rfl)) (by unfold Func.isWrapper; first | (rw [if_pos (by decide +kernel)]; kernel_rfl) | (rw [if_neg (by decide +kernel)]; exact ⟨rfl, rfl⟩))
    (fun os started H enc _ => lifted os started H enc)

/-- The statement. -/
theorem proved : Rows.FnMergedSaid :=
  over
#print axioms proved
end Go.Proofs.Ytgcheplneolonac.fnMerged
