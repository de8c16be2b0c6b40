/- The law FnLater holds at every input. The step from the walk to the row follows the guide's own template. -/
import Derived.Test.YtknanaapaipoeaaMem
import Derived.Test.YtknanaapaipoeaaWf
import Derived.Test.YtknanaapaipoeaaWg
import Derived.Test.YtknanaapaipoeaaDw
import Derived.Test.YtknanaapaipoeaaDz
import Derived.Test.YtknanaapaipoeaaWn
import Derived.Test.YtknanaapaipoeaaLw
import Derived.Test.YtknanaapaipoeaaTakeC
namespace Go.Proofs.Ytknanaapaipoeaa.fnLater
open Go.ChangeShapes Go.WideShapes Go.ChangeAt Go.RowKit Go.WideMaps Go.WideElems Go.Proofs.Ytknanaapaipoeaa.Mem
open Go.ChangeMaps (open_string shut_string)
set_option linter.unusedVariables false
set_option linter.unusedSimpArgs false

theorem own : ownKnob Try.prog.godebug = none := by kernel_rfl
theorem laidOut : laidOutB Try.prog = true := by kernel_rfl

open Go.Proofs.Ytknanaapaipoeaa.Rw Go.Proofs.Ytknanaapaipoeaa.Bk Go.Proofs.Ytknanaapaipoeaa.Jt Go.Proofs.Ytknanaapaipoeaa.Str Go.Proofs.Ytknanaapaipoeaa.Pw Go.Proofs.Ytknanaapaipoeaa.P2 Go.Proofs.Ytknanaapaipoeaa.Gs Go.Proofs.Ytknanaapaipoeaa.Wm Go.Proofs.Ytknanaapaipoeaa.Wi Go.Proofs.Ytknanaapaipoeaa.Wa Go.Proofs.Ytknanaapaipoeaa.Wb Go.Proofs.Ytknanaapaipoeaa.Wc Go.Proofs.Ytknanaapaipoeaa.We Go.Proofs.Ytknanaapaipoeaa.Wg Go.Proofs.Ytknanaapaipoeaa.Dw Go.Proofs.Ytknanaapaipoeaa.Dz Go.Proofs.Ytknanaapaipoeaa.Wn Go.Proofs.Ytknanaapaipoeaa.Lw

set_option maxHeartbeats 4000000 in
set_option maxRecDepth 100000 in
theorem walk (A : Option Addr) (n c : Nat) (bs : List UInt8) (hn : bs.length = n) (hm : n ≤ maxLen) (w : World) (hr : Rd w w.heap.size A (Draw.u8s bs)) :
    Calls Try.prog 5 #[.slice A n c] w fun e w' => e = .returned (.bool true) ∧ Below w.heap.size w w' := by
  have hu : undef = Value.tuple #[] := rfl
  by_cases hbig : (n : Int) ≤ 4096
  · have D := Lib.hid (drawLaterWind w A n c bs hn (by omega) hr)
    clear hm
    go_enter Try.func5, Try.ntmps5
    go_wp2_with (go_at_call 15; go_enter Try.func15, Try.ntmps15)
    refine D.out.mono ?_
    rintro e wd0 ⟨zs, q, gZ, cZ, t, hl, hq, hwt, rfl, hR, hB⟩
    have BB := Lib.hid hB
    have Z := Lib.hid hR
    have ZL := Lib.hid hl
    clear D hbig hR hB hn hr hl hwt
    have hqb : q ≤ 1048576 := by omega
    obtain ⟨zr, hzr⟩ : ∃ z, lat zs t = z := ⟨_, rfl⟩
    obtain ⟨m, hm⟩ : ∃ m, zr.length = m := ⟨_, rfl⟩
    have HM := Lib.hid hm
    have hmq : m ≤ q := by rw [← hm, ← hzr, ← ZL.out]; exact lat_len' t
    have hmb : m ≤ 1048576 := by omega
    have CI := Lib.hid (show ∀ (W : World) (h : Rd W W.heap.size (some ⟨gZ, 0, none⟩) (gls zs)), Calls Try.prog 26 #[.slice (some ⟨gZ, 0, none⟩) q cZ, .int .i64 t] W (fun e w' => ∃ g c, e = .returned (.slice (some ⟨g, 0, none⟩) m c) ∧ w'.ownsRow W.heap.size 57 3 (.slice (some ⟨g, 0, none⟩) m c) m (gls zr) ∧ Below W.heap.size W w') from fun W h => by have := laterI (some ⟨gZ, 0, none⟩) q cZ zs _ t W ZL.out hqb (Nat.le_refl _) h; rw [hzr] at this; unfold Row3 at this; rw [hm] at this; exact this)
    have CS := Lib.hid (show ∀ (W : World) (h : Rd W W.heap.size (some ⟨gZ, 0, none⟩) (gls zs)), Calls Try.prog 27 #[.slice (some ⟨gZ, 0, none⟩) q cZ, .int .i64 t] W (fun e w' => ∃ g c, e = .returned (.slice (some ⟨g, 0, none⟩) m c) ∧ w'.ownsRow W.heap.size 57 3 (.slice (some ⟨g, 0, none⟩) m c) m (gls zr) ∧ Below W.heap.size W w') from fun W h => by have := laterS (some ⟨gZ, 0, none⟩) q cZ zs _ t W ZL.out hqb (Nat.le_refl _) h; rw [hzr] at this; unfold Row3 at this; rw [hm] at this; exact this)
    have hqq : ((m : Int) != (m : Int)) = false := by simp
    cases hw : wd zs
    · have h9 := hw
      have F := Lib.hid (show m = 0 by rw [← hm, ← hzr, lat_no (Or.inl hw)]; rfl)
      have e0 : ((m : Int) == 0) = true := by rw [F.out]; rfl
      have DI := Lib.hid (fun (W : World) (h : Rd W W.heap.size (some ⟨gZ, 0, none⟩) (gls zs)) => windI (c := cZ) ZL.out hqb hw W (Nat.le_refl _) h)
      clear h9
      clear hzr hm hw
      go_wp2_with fail
      refine (CI.out _ Z.out).mono ?_
      rintro e wd1 ⟨gN, cN, rfl, ho, hb⟩
      have BB2 := Lib.hid (BB.out.trans (hb.mono BB.out.size))
      have Zn := Lib.hid ((Z.out.below hb).more hb.size)
      have XN := Lib.hid (Rd.own ho)
      clear ho
      clear hb BB Z
      have BB := BB2
      clear BB2
      have Z := Zn
      clear Zn
      have N := XN
      clear XN
      go_wp2_with fail
      refine (CS.out _ Z.out).mono ?_
      rintro e wd2 ⟨gT, cT, rfl, ho, hb⟩
      have BB2 := Lib.hid (BB.out.trans (hb.mono BB.out.size))
      have Zn := Lib.hid ((Z.out.below hb).more hb.size)
      have Nn := Lib.hid ((N.out.below hb).more hb.size)
      have XN := Lib.hid (Rd.own ho)
      clear ho
      clear hb BB Z N
      have BB := BB2
      clear BB2
      have Z := Zn
      clear Zn
      have N := Nn
      clear Nn
      have T := XN
      clear XN
      clear T
      go_wp2_with fail
      refine (DI.out _ Z.out).mono ?_
      rintro e wd3 ⟨rfl, hb⟩
      have BB2 := Lib.hid (BB.out.trans (hb.mono BB.out.size))
      have Zn := Lib.hid ((Z.out.below hb).more hb.size)
      have Nn := Lib.hid ((N.out.below hb).more hb.size)
      clear hb BB Z N
      have BB := BB2
      clear BB2
      have Z := Zn
      clear Zn
      have N := Nn
      clear Nn
      go_wp2_with fail
      go_ret
      exact ⟨rfl, BB.out⟩
    · by_cases h0 : t < 0
      · have d1 : decide (t < 0) = true := decide_eq_true h0
        have F := Lib.hid (show m = 0 by rw [← hm, ← hzr, lat_no (Or.inr (Or.inl h0))]; rfl)
        have e0 : ((m : Int) == 0) = true := by rw [F.out]; rfl
        have DI := Lib.hid (fun (W : World) (h : Rd W W.heap.size (some ⟨gZ, 0, none⟩) (gls zs)) => windI (c := cZ) ZL.out hqb hw W (Nat.le_refl _) h)
        clear h0
        clear hzr hm hw
        go_wp2_with fail
        refine (CI.out _ Z.out).mono ?_
        rintro e wd1 ⟨gN, cN, rfl, ho, hb⟩
        have BB2 := Lib.hid (BB.out.trans (hb.mono BB.out.size))
        have Zn := Lib.hid ((Z.out.below hb).more hb.size)
        have XN := Lib.hid (Rd.own ho)
        clear ho
        clear hb BB Z
        have BB := BB2
        clear BB2
        have Z := Zn
        clear Zn
        have N := XN
        clear XN
        go_wp2_with fail
        refine (CS.out _ Z.out).mono ?_
        rintro e wd2 ⟨gT, cT, rfl, ho, hb⟩
        have BB2 := Lib.hid (BB.out.trans (hb.mono BB.out.size))
        have Zn := Lib.hid ((Z.out.below hb).more hb.size)
        have Nn := Lib.hid ((N.out.below hb).more hb.size)
        have XN := Lib.hid (Rd.own ho)
        clear ho
        clear hb BB Z N
        have BB := BB2
        clear BB2
        have Z := Zn
        clear Zn
        have N := Nn
        clear Nn
        have T := XN
        clear XN
        clear T
        go_wp2_with fail
        refine (DI.out _ Z.out).mono ?_
        rintro e wd3 ⟨rfl, hb⟩
        have BB2 := Lib.hid (BB.out.trans (hb.mono BB.out.size))
        have Zn := Lib.hid ((Z.out.below hb).more hb.size)
        have Nn := Lib.hid ((N.out.below hb).more hb.size)
        clear hb BB Z N
        have BB := BB2
        clear BB2
        have Z := Zn
        clear Zn
        have N := Nn
        clear Nn
        go_wp2_with fail
        go_ret
        exact ⟨rfl, BB.out⟩
      have d1 : decide (t < 0) = false := decide_eq_false h0
      by_cases h5 : 64 < t
      · have d2 : decide (64 < t) = true := decide_eq_true h5
        have F := Lib.hid (show m = 0 by rw [← hm, ← hzr, lat_no (Or.inr (Or.inr h5))]; rfl)
        have e0 : ((m : Int) == 0) = true := by rw [F.out]; rfl
        have DI := Lib.hid (fun (W : World) (h : Rd W W.heap.size (some ⟨gZ, 0, none⟩) (gls zs)) => windI (c := cZ) ZL.out hqb hw W (Nat.le_refl _) h)
        clear h0 h5
        clear hzr hm hw
        go_wp2_with fail
        refine (CI.out _ Z.out).mono ?_
        rintro e wd1 ⟨gN, cN, rfl, ho, hb⟩
        have BB2 := Lib.hid (BB.out.trans (hb.mono BB.out.size))
        have Zn := Lib.hid ((Z.out.below hb).more hb.size)
        have XN := Lib.hid (Rd.own ho)
        clear ho
        clear hb BB Z
        have BB := BB2
        clear BB2
        have Z := Zn
        clear Zn
        have N := XN
        clear XN
        go_wp2_with fail
        refine (CS.out _ Z.out).mono ?_
        rintro e wd2 ⟨gT, cT, rfl, ho, hb⟩
        have BB2 := Lib.hid (BB.out.trans (hb.mono BB.out.size))
        have Zn := Lib.hid ((Z.out.below hb).more hb.size)
        have Nn := Lib.hid ((N.out.below hb).more hb.size)
        have XN := Lib.hid (Rd.own ho)
        clear ho
        clear hb BB Z N
        have BB := BB2
        clear BB2
        have Z := Zn
        clear Zn
        have N := Nn
        clear Nn
        have T := XN
        clear XN
        clear T
        go_wp2_with fail
        refine (DI.out _ Z.out).mono ?_
        rintro e wd3 ⟨rfl, hb⟩
        have BB2 := Lib.hid (BB.out.trans (hb.mono BB.out.size))
        have Zn := Lib.hid ((Z.out.below hb).more hb.size)
        have Nn := Lib.hid ((N.out.below hb).more hb.size)
        clear hb BB Z N
        have BB := BB2
        clear BB2
        have Z := Zn
        clear Zn
        have N := Nn
        clear Nn
        go_wp2_with fail
        go_ret
        exact ⟨rfl, BB.out⟩
      have d2 : decide (64 < t) = false := decide_eq_false h5
      obtain ⟨j, rfl⟩ : ∃ j : Nat, t = (j : Int) := ⟨t.toNat, by omega⟩
      have hj : j ≤ 64 := by omega
      clear h0 h5
      have DI := Lib.hid (fun (W : World) (h : Rd W W.heap.size (some ⟨gZ, 0, none⟩) (gls zs)) => windI (c := cZ) ZL.out hqb hw W (Nat.le_refl _) h)
      have hw2 : wd zr = true := by rw [← hzr]; exact wd_lat hw hj
      have DV := Lib.hid (show ∀ t : Int, 0 ≤ t → dv zr t = dv zs (t + (j : Int)) from fun t ht => by rw [← hzr]; exact dv_lat hw hj t ht)
      have DN := Lib.hid (fun (W : World) (g c : Nat) (h : Rd W W.heap.size (some ⟨g, 0, none⟩) (gls zr)) => windI (c := c) HM.out hmb hw2 W (Nat.le_refl _) h)
      have AZ := Lib.hid (fun (t : Int) (W : World) (h : Rd W W.heap.size (some ⟨gZ, 0, none⟩) (gls zs)) => driftAtI (some ⟨gZ, 0, none⟩) q cZ zs _ t W ZL.out hqb (Nat.le_refl _) h)
      have AN := Lib.hid (fun (t : Int) (ht : 0 ≤ t) (W : World) (g c : Nat) (h : Rd W W.heap.size (some ⟨g, 0, none⟩) (gls zr)) => by have := driftAtI (some ⟨g, 0, none⟩) m c zr _ t W HM.out hmb (Nat.le_refl _) h; rw [DV.out t ht] at this; exact this)
      obtain ⟨z5, hz5⟩ : ∃ z, lat zs ((j + 5 : Nat) : Int) = z := ⟨_, rfl⟩
      obtain ⟨m5, hm5⟩ : ∃ m, z5.length = m := ⟨_, rfl⟩
      have HM5 := Lib.hid hm5
      have hm5b : m5 ≤ 1048576 := by rw [← hm5, ← hz5]; have := lat_len zs ((j + 5 : Nat) : Int); omega
      have CN := Lib.hid (show ∀ (hj5 : j ≤ 30) (W : World) (g c : Nat) (h : Rd W W.heap.size (some ⟨g, 0, none⟩) (gls zr)), Calls Try.prog 26 #[.slice (some ⟨g, 0, none⟩) m c, .int .i64 5] W (fun e w' => ∃ g c, e = .returned (.slice (some ⟨g, 0, none⟩) m5 c) ∧ w'.ownsRow W.heap.size 57 3 (.slice (some ⟨g, 0, none⟩) m5 c) m5 (gls z5) ∧ Below W.heap.size W w') from fun hj5 W g c h => by have := laterI (some ⟨g, 0, none⟩) m c zr _ 5 W HM.out hmb (Nat.le_refl _) h; rw [← hzr, show lat (lat zs (j : Int)) 5 = lat zs ((j + 5 : Nat) : Int) from lat_twice (n := j) (m := 5) hw (by omega), hz5] at this; unfold Row3 at this; rw [hm5] at this; exact this)
      have CZ := Lib.hid (show ∀ (W : World) (h : Rd W W.heap.size (some ⟨gZ, 0, none⟩) (gls zs)), Calls Try.prog 26 #[.slice (some ⟨gZ, 0, none⟩) q cZ, .int .i64 ((j : Int) + 5)] W (fun e w' => ∃ g c, e = .returned (.slice (some ⟨g, 0, none⟩) m5 c) ∧ w'.ownsRow W.heap.size 57 3 (.slice (some ⟨g, 0, none⟩) m5 c) m5 (gls z5) ∧ Below W.heap.size W w') from fun W h => by have := laterI (some ⟨gZ, 0, none⟩) q cZ zs _ ((j : Int) + 5) W ZL.out hqb (Nat.le_refl _) h; rw [show (j : Int) + 5 = ((j + 5 : Nat) : Int) by omega, hz5] at this; unfold Row3 at this; rw [hm5] at this; rw [show (j : Int) + 5 = ((j + 5 : Nat) : Int) by omega]; exact this)
      clear hzr hm hw hw2 hz5 hm5
      go_wp2_with fail
      refine (CI.out _ Z.out).mono ?_
      rintro e wd1 ⟨gN, cN, rfl, ho, hb⟩
      have BB2 := Lib.hid (BB.out.trans (hb.mono BB.out.size))
      have Zn := Lib.hid ((Z.out.below hb).more hb.size)
      have XN := Lib.hid (Rd.own ho)
      clear ho
      clear hb BB Z
      have BB := BB2
      clear BB2
      have Z := Zn
      clear Zn
      have N := XN
      clear XN
      go_wp2_with fail
      refine (CS.out _ Z.out).mono ?_
      rintro e wd2 ⟨gT, cT, rfl, ho, hb⟩
      have BB2 := Lib.hid (BB.out.trans (hb.mono BB.out.size))
      have Zn := Lib.hid ((Z.out.below hb).more hb.size)
      have Nn := Lib.hid ((N.out.below hb).more hb.size)
      have XN := Lib.hid (Rd.own ho)
      clear ho
      clear hb BB Z N
      have BB := BB2
      clear BB2
      have Z := Zn
      clear Zn
      have N := Nn
      clear Nn
      have T := XN
      clear XN
      clear T
      go_wp2_with fail
      refine (DI.out _ Z.out).mono ?_
      rintro e wd3 ⟨rfl, hb⟩
      have BB2 := Lib.hid (BB.out.trans (hb.mono BB.out.size))
      have Zn := Lib.hid ((Z.out.below hb).more hb.size)
      have Nn := Lib.hid ((N.out.below hb).more hb.size)
      clear hb BB Z N
      have BB := BB2
      clear BB2
      have Z := Zn
      clear Zn
      have N := Nn
      clear Nn
      go_wp2_with fail
      clear CI CS DI hqq d1 d2
      go_loopw [6] (fun i wr => ∃ k : Nat, k ≤ 65 ∧ i = .int .i64 k ∧ Hid (Rd wr wr.heap.size (some ⟨gZ, 0, none⟩) (gls zs)) ∧ Hid (Rd wr wr.heap.size (some ⟨gN, 0, none⟩) (gls zr)) ∧ Hid (Below w.heap.size w wr)) (fun i _ => 65 - (intOf i).toNat)
      case atStart => exact ⟨0, by omega, rfl, Z, N, BB⟩
      case round =>
        clear Z N BB
        obtain ⟨k, hk2, rfl, Z, N, BB⟩ := hrel
        by_cases hlt : k ≤ 64
        · have C1 := Lib.hid (fun W h => AZ.out ((k : Int) + (j : Int)) W h)
          have C2 := Lib.hid (fun W g c h => AN.out (k : Int) (by omega) W g c h)
          obtain ⟨⟨px, py⟩, hp⟩ : ∃ p, dv zs ((k : Int) + (j : Int)) = p := ⟨_, rfl⟩
          rw [hp] at C1 C2
          clear hp
          have d3 : decide ((k : Int) ≤ 64) = true := decide_eq_true (by omega)
          go_wp2_with fail
          refine (C2.out _ _ _ N.out).mono ?_
          rintro e wd4 ⟨rfl, hb⟩
          have BB2 := Lib.hid (BB.out.trans (hb.mono BB.out.size))
          have Zn := Lib.hid ((Z.out.below hb).more hb.size)
          have Nn := Lib.hid ((N.out.below hb).more hb.size)
          clear hb BB Z N
          have BB := BB2
          clear BB2
          have Z := Zn
          clear Zn
          have N := Nn
          clear Nn
          go_wp2_with fail
          refine (C1.out _ Z.out).mono ?_
          rintro e wd5 ⟨rfl, hb⟩
          have BB2 := Lib.hid (BB.out.trans (hb.mono BB.out.size))
          have Zn := Lib.hid ((Z.out.below hb).more hb.size)
          have Nn := Lib.hid ((N.out.below hb).more hb.size)
          clear hb BB Z N
          have BB := BB2
          clear BB2
          have Z := Zn
          clear Zn
          have N := Nn
          clear Nn
          clear C1 C2
          go_wp2_with fail
          go_roundw
          case rel => exact ⟨k + 1, by omega, by go_num, Z, N, BB⟩
          case measure => simp [intOf]; omega
        · have d3 : decide ((k : Int) ≤ 64) = false := decide_eq_false (by omega)
          clear AZ AN
          by_cases h30 : j ≤ 30
          · have d4 : decide (30 < (j : Int)) = false := decide_eq_false (by omega)
            go_wp2_with fail
            refine (DN.out _ _ _ N.out).mono ?_
            rintro e wd6 ⟨rfl, hb⟩
            have BB2 := Lib.hid (BB.out.trans (hb.mono BB.out.size))
            have Zn := Lib.hid ((Z.out.below hb).more hb.size)
            have Nn := Lib.hid ((N.out.below hb).more hb.size)
            clear hb BB Z N
            have BB := BB2
            clear BB2
            have Z := Zn
            clear Zn
            have N := Nn
            clear Nn
            go_wp2_with fail
            refine (CN.out h30 _ _ _ N.out).mono ?_
            rintro e wd7 ⟨gP, cP, rfl, ho, hb⟩
            have BB2 := Lib.hid (BB.out.trans (hb.mono BB.out.size))
            have Zn := Lib.hid ((Z.out.below hb).more hb.size)
            have Nn := Lib.hid ((N.out.below hb).more hb.size)
            have XN := Lib.hid (Rd.own ho)
            clear ho
            clear hb BB Z N
            have BB := BB2
            clear BB2
            have Z := Zn
            clear Zn
            have N := Nn
            clear Nn
            have P := XN
            clear XN
            go_wp2_with fail
            refine (CZ.out _ Z.out).mono ?_
            rintro e wd8 ⟨gR, cR, rfl, ho, hb⟩
            have BB2 := Lib.hid (BB.out.trans (hb.mono BB.out.size))
            have Zn := Lib.hid ((Z.out.below hb).more hb.size)
            have Nn := Lib.hid ((N.out.below hb).more hb.size)
            have Pn := Lib.hid ((P.out.below hb).more hb.size)
            have XN := Lib.hid (Rd.own ho)
            clear ho
            clear hb BB Z N P
            have BB := BB2
            clear BB2
            have Z := Zn
            clear Zn
            have N := Nn
            clear Nn
            have P := Pn
            clear Pn
            have R := XN
            clear XN
            go_wp2_with fail
            refine (windsL _ _ m5 cP cR z5 _ _ HM5.out hm5b P.out R.out).mono ?_
            rintro e wd9 ⟨rfl, hb⟩
            have BB2 := Lib.hid (BB.out.trans (hb.mono BB.out.size))
            have Zn := Lib.hid ((Z.out.below hb).more hb.size)
            have Nn := Lib.hid ((N.out.below hb).more hb.size)
            have Pn := Lib.hid ((P.out.below hb).more hb.size)
            have Rn := Lib.hid ((R.out.below hb).more hb.size)
            clear hb BB Z N P R
            have BB := BB2
            clear BB2
            have Z := Zn
            clear Zn
            have N := Nn
            clear Nn
            have P := Pn
            clear Pn
            have R := Rn
            clear Rn
            go_wp2_with fail
            go_ret
            exact ⟨rfl, BB.out⟩
          · have d4 : decide (30 < (j : Int)) = true := decide_eq_true (by omega)
            go_wp2_with fail
            refine (DN.out _ _ _ N.out).mono ?_
            rintro e wd6 ⟨rfl, hb⟩
            have BB2 := Lib.hid (BB.out.trans (hb.mono BB.out.size))
            have Zn := Lib.hid ((Z.out.below hb).more hb.size)
            have Nn := Lib.hid ((N.out.below hb).more hb.size)
            clear hb BB Z N
            have BB := BB2
            clear BB2
            have Z := Zn
            clear Zn
            have N := Nn
            clear Nn
            go_wp2_with fail
            go_ret
            exact ⟨rfl, BB.out⟩
  · have hd : decide (4096 < n) = true := decide_eq_true (by omega)
    clear hn hm hr
    go_enter Try.func5, Try.ntmps5
    go_wp2_with (go_at_call 15; go_enter Try.func15, Try.ntmps15)
    go_returns
    exact ⟨rfl, Below.refl _ _⟩

set_option maxRecDepth 100000 in
theorem lifted (os : Os) (started : os.Started) (H : Type) (enc : TypeId × Value → H) :
    ReturnsInHanded {} Try.checked os 5 .any (Rows.fnLaterSpec.pre6 enc Try.prog Try.f5 Rows.fnLaterRow.domain false) (Rows.fnLaterSpec.post enc Try.prog Try.f5 false true false false) := by
  refine returnsInHanded_of_change (C := Try.checked) own started (by kernel_rfl) Try.func5
    (ChangeSpec.witness6 (enc := enc) (C := Try.checked) false ⟨#[], #[.slice none 0 0], []⟩ 8 (by kernel_rfl) (by kernel_rfl) (by kernel_rfl) (by kernel_rfl)) ?_
  intro W base args ds gs before hval0 hW hcnd hsz
  have hval : ∀ (j : Nat) t v, Try.f5.params[j]? = some t → args[j]? = some v → Value.okWide Try.prog W .any base t v := hval0
  have hW' := hW
  obtain ⟨p, q, hA0, hV, rfl, hfz, hnd⟩ := hW
  have hA1 := hA0
  have hA : DataW.TrodAll enc Try.prog W 0 (fun _ => true) true Try.f5.params.toList args.toList ds p := hA0
  rw [Try.params5] at hA hval
  obtain ⟨v0, vs0, d0, ds0, p0, q0, hargs, rfl, rfl, h0, r0⟩ := trodAll_cons hA
  obtain ⟨rfl, rfl, rfl⟩ := trodAll_nil r0
  obtain rfl : args = #[v0] := by cases args; simp_all
  obtain ⟨rfl, rfl⟩ := trodVars_none hV
  obtain ⟨A0, n0, c0, a0, rfl, l0, m0, g0⟩ := RampFn.take_bytes Try.underlying22 Try.underlying5 (by kernel_rfl) (hval 0 22 v0 rfl rfl) h0
  clear hA0 hval0
  rw [List.append_nil] at hW'
  refine (walk A0 n0 c0 a0 l0 m0 W g0).mono fun e W' ⟨he, hb⟩ => ?_
  subst he
  exact ⟨_, rfl, post_law rfl hW' hA1 laidOut (by rw [Try.params5]; exact of_decide_eq_true (by kernel_rfl)) 4 (by kernel_rfl) Try.underlying4 rfl hb⟩

theorem over : Rows.fnLaterRow.holds Try.pinned (OpenSpec.ofChange Rows.fnLaterSpec) :=
  OpenClaim.holds_of_wide 5 Try.f5 rfl rfl rfl rfl rfl rfl rfl ⟨rfl, rfl, rfl, rfl, rfl⟩ rfl rfl rfl rfl rfl (by kernel_rfl) Try.func5 (by kernel_rfl)
    (of_decide_eq_true (by kernel_rfl)) (by unfold Func.isWrapper; first | (rw [if_pos (by decide +kernel)]; kernel_rfl) | (rw [if_neg (by decide +kernel)]; exact ⟨rfl, rfl⟩))
    (fun os started H enc _ => lifted os started H enc)

/-- The statement. -/
theorem proved : Rows.FnLaterSaid :=
  over
#print axioms proved
end Go.Proofs.Ytknanaapaipoeaa.fnLater
