/- The law FnJoined holds at every input. The step from the walk to the row follows the guide's own template. -/
import Derived.Test.YtknanaapaipoeaaMem
import Derived.Test.YtknanaapaipoeaaWf
import Derived.Test.YtknanaapaipoeaaWg
import Derived.Test.YtknanaapaipoeaaWh
import Derived.Test.YtknanaapaipoeaaDw
import Derived.Test.YtknanaapaipoeaaDz
import Derived.Test.YtknanaapaipoeaaWn
import Derived.Test.YtknanaapaipoeaaLw
import Derived.Test.YtknanaapaipoeaaTakeC
import Derived.Deep.DeepCutAuto
import Derived.Deep.CutBlock
namespace Go.Proofs.Ytknanaapaipoeaa.fnJoined
open Go.ChangeShapes Go.WideShapes Go.ChangeAt Go.RowKit Go.WideMaps Go.WideElems Go.Proofs.Ytknanaapaipoeaa.Mem
open Go.ChangeMaps (open_string shut_string)
set_option linter.unusedVariables false
set_option linter.unusedSimpArgs false

theorem own : ownKnob Try.prog.godebug = none := by kernel_rfl
theorem laidOut : laidOutB Try.prog = true := by kernel_rfl

open Go.Proofs.Ytknanaapaipoeaa.Rw Go.Proofs.Ytknanaapaipoeaa.Bk Go.Proofs.Ytknanaapaipoeaa.Jt Go.Proofs.Ytknanaapaipoeaa.Str Go.Proofs.Ytknanaapaipoeaa.Pw Go.Proofs.Ytknanaapaipoeaa.P2 Go.Proofs.Ytknanaapaipoeaa.Gs Go.Proofs.Ytknanaapaipoeaa.Wm Go.Proofs.Ytknanaapaipoeaa.Wi Go.Proofs.Ytknanaapaipoeaa.Wa Go.Proofs.Ytknanaapaipoeaa.Wb Go.Proofs.Ytknanaapaipoeaa.Wc Go.Proofs.Ytknanaapaipoeaa.We Go.Proofs.Ytknanaapaipoeaa.Wg Go.Proofs.Ytknanaapaipoeaa.Dw Go.Proofs.Ytknanaapaipoeaa.Dz Go.Proofs.Ytknanaapaipoeaa.Wn Go.Proofs.Ytknanaapaipoeaa.Lw Go.Proofs.Ytknanaapaipoeaa.Wh

set_option maxHeartbeats 4000000 in
set_option maxRecDepth 100000 in
theorem walk (A : Option Addr) (n c : Nat) (bs : List UInt8) (hn : bs.length = n) (hm : n ≤ maxLen) (w : World) (hr : Rd w w.heap.size A (Draw.u8s bs)) :
    Calls Try.prog 6 #[.slice A n c] w fun e w' => e = .returned (.bool true) ∧ Below w.heap.size w w' := by
  have hu : undef = Value.tuple #[] := rfl
  by_cases hbig : (n : Int) ≤ 4096
  · have D := Lib.hid (drawJoinWinds w A n c bs hn (by omega) hr)
    clear hm
    go_enter Try.func6, Try.ntmps6
    go_wp2_with (go_at_call 15; go_enter Try.func15, Try.ntmps15)
    refine D.out.mono ?_
    rintro e wd0 ⟨zs, xs, q, gZ, cZ, p, gX, cX, t, hl, hq, hl2, hp, hwt, rfl, hR, hR2, hB⟩
    have BB := Lib.hid hB
    have Z := Lib.hid hR
    have X := Lib.hid hR2
    have ZL := Lib.hid hl
    have XL := Lib.hid hl2
    clear D hbig hR hR2 hB hn hr hl hl2 hwt
    have hqb : q ≤ 1048576 := by omega
    have hpb : p ≤ 1048576 := by omega
    obtain ⟨zr, hzr⟩ : ∃ z, jR zs xs t = z := ⟨_, rfl⟩
    obtain ⟨b, hjb⟩ : ∃ b, jB zs xs t = b := ⟨_, rfl⟩
    obtain ⟨m, hm⟩ : ∃ m, zr.length = m := ⟨_, rfl⟩
    have HM := Lib.hid hm
    have hmq : m ≤ 8 := by rw [← hm, ← hzr]; exact jR_len _ _ _
    have hmb : m ≤ 1048576 := by omega
    have CI := Lib.hid (show ∀ (W : World) (h : Rd W W.heap.size (some ⟨gZ, 0, none⟩) (gls zs)) (h2 : Rd W W.heap.size (some ⟨gX, 0, none⟩) (gls xs)), Calls Try.prog 29 #[.slice (some ⟨gZ, 0, none⟩) q cZ, .slice (some ⟨gX, 0, none⟩) p cX, .int .i64 t] W (fun e w' => ∃ g c, e = .returned (.tuple #[.slice (some ⟨g, 0, none⟩) m c, .bool b]) ∧ w'.ownsRow W.heap.size 57 3 (.slice (some ⟨g, 0, none⟩) m c) m (gls zr) ∧ Below W.heap.size W w') from fun W h h2 => by have := joinI (some ⟨gZ, 0, none⟩) (some ⟨gX, 0, none⟩) q cZ p cX zs xs _ t W ZL.out XL.out hqb hpb (Nat.le_refl _) h h2; rw [hzr, hjb] at this; unfold RowB at this; rw [hm] at this; exact this)
    have CS := Lib.hid (show ∀ (W : World) (h : Rd W W.heap.size (some ⟨gZ, 0, none⟩) (gls zs)) (h2 : Rd W W.heap.size (some ⟨gX, 0, none⟩) (gls xs)), Calls Try.prog 30 #[.slice (some ⟨gZ, 0, none⟩) q cZ, .slice (some ⟨gX, 0, none⟩) p cX, .int .i64 t] W (fun e w' => ∃ g c, e = .returned (.tuple #[.slice (some ⟨g, 0, none⟩) m c, .bool b]) ∧ w'.ownsRow W.heap.size 57 3 (.slice (some ⟨g, 0, none⟩) m c) m (gls zr) ∧ Below W.heap.size W w') from fun W h h2 => by have := joinS (some ⟨gZ, 0, none⟩) (some ⟨gX, 0, none⟩) q cZ p cX zs xs _ t W ZL.out XL.out hqb hpb (Nat.le_refl _) h h2; rw [hzr, hjb] at this; unfold RowB at this; rw [hm] at this; exact this)
    cases b
    · have F := Lib.hid (show m = 0 by rw [← hm, ← hzr]; unfold jR; rw [hjb]; rfl)
      have e0 : ((m : Int) == 0) = true := by rw [F.out]; rfl
      clear hzr hjb hm
      go_wp2_with fail
      refine (CI.out _ Z.out X.out).mono ?_
      rintro e wd1 ⟨gN, cN, rfl, ho, hb⟩
      have BB2 := Lib.hid (BB.out.trans (hb.mono BB.out.size))
      have Zn := Lib.hid ((Z.out.below hb).more hb.size)
      have Xn := Lib.hid ((X.out.below hb).more hb.size)
      have XN := Lib.hid (Rd.own ho)
      clear ho
      clear hb BB Z X
      have BB := BB2
      clear BB2
      have Z := Zn
      clear Zn
      have X := Xn
      clear Xn
      have N := XN
      clear XN
      go_wp2_with fail
      refine (CS.out _ Z.out X.out).mono ?_
      rintro e wd2 ⟨gT, cT, rfl, ho, hb⟩
      have BB2 := Lib.hid (BB.out.trans (hb.mono BB.out.size))
      have Zn := Lib.hid ((Z.out.below hb).more hb.size)
      have Xn := Lib.hid ((X.out.below hb).more hb.size)
      have Nn := Lib.hid ((N.out.below hb).more hb.size)
      have XN := Lib.hid (Rd.own ho)
      clear ho
      clear hb BB Z X N
      have BB := BB2
      clear BB2
      have Z := Zn
      clear Zn
      have X := Xn
      clear Xn
      have N := Nn
      clear Nn
      have T := XN
      clear XN
      clear T
      go_wp2_with fail
      go_ret
      exact ⟨rfl, BB.out⟩
    · have hj := hjb
      unfold jB at hj
      simp only [Bool.and_eq_true, decide_eq_true_eq] at hj
      obtain ⟨⟨⟨⟨ha, hb⟩, ht0⟩, ht5⟩, h8⟩ := hj
      obtain ⟨j, rfl⟩ : ∃ j : Nat, t = (j : Int) := ⟨t.toNat, by omega⟩
      have hj : j ≤ 64 := by omega
      rw [show ((j : Int)).toNat = j from rfl] at h8
      have er : chg (jl zs xs j) = zr := by rw [← hzr]; unfold jR; rw [hjb]; rfl
      have hw2 : wd zr = true := by rw [← er]; exact wd_joined ha hb hj h8
      have h2 : lat zr 0 = zr := by rw [← er]; exact lat_joined ha hb hj h8
      have DV := Lib.hid (show ∀ i : Nat, dv zr (i : Int) = if i < j then dv zs (i : Int) else dv xs (i : Int) from fun i => by rw [dv_yes hw2, dv_yes ha, dv_yes hb, ← er]; exact dr_joined hb hj i)
      have DN := Lib.hid (fun (W : World) (g c : Nat) (h : Rd W W.heap.size (some ⟨g, 0, none⟩) (gls zr)) => windI (c := c) HM.out hmb hw2 W (Nat.le_refl _) h)
      have AZ := Lib.hid (fun (t : Int) (W : World) (h : Rd W W.heap.size (some ⟨gZ, 0, none⟩) (gls zs)) => driftAtI (some ⟨gZ, 0, none⟩) q cZ zs _ t W ZL.out hqb (Nat.le_refl _) h)
      have AX := Lib.hid (fun (t : Int) (W : World) (h2 : Rd W W.heap.size (some ⟨gX, 0, none⟩) (gls xs)) => driftAtI (some ⟨gX, 0, none⟩) p cX xs _ t W XL.out hpb (Nat.le_refl _) h2)
      have AN0 := Lib.hid (fun (i : Nat) (W : World) (g c : Nat) (h : Rd W W.heap.size (some ⟨g, 0, none⟩) (gls zr)) => driftAtI (some ⟨g, 0, none⟩) m c zr _ (i : Int) W HM.out hmb (Nat.le_refl _) h)
      have CN := Lib.hid (show ∀ (W : World) (g c : Nat) (h : Rd W W.heap.size (some ⟨g, 0, none⟩) (gls zr)), Calls Try.prog 21 #[.slice (some ⟨g, 0, none⟩) m c] W (fun e w' => ∃ g c, e = .returned (.slice (some ⟨g, 0, none⟩) m c) ∧ w'.ownsRow W.heap.size 57 3 (.slice (some ⟨g, 0, none⟩) m c) m (gls zr) ∧ Below W.heap.size W w') from fun W g c h => by have := normalI (some ⟨g, 0, none⟩) m c zr _ W HM.out hmb (Nat.le_refl _) h; rw [h2] at this; unfold Row3 at this; rw [hm] at this; exact this)
      clear hzr hm hw2 h2 er hjb ha hb h8 ht0 ht5
      go_wp2_with fail
      refine (CI.out _ Z.out X.out).mono ?_
      rintro e wd1 ⟨gN, cN, rfl, ho, hb⟩
      have BB2 := Lib.hid (BB.out.trans (hb.mono BB.out.size))
      have Zn := Lib.hid ((Z.out.below hb).more hb.size)
      have Xn := Lib.hid ((X.out.below hb).more hb.size)
      have XN := Lib.hid (Rd.own ho)
      clear ho
      clear hb BB Z X
      have BB := BB2
      clear BB2
      have Z := Zn
      clear Zn
      have X := Xn
      clear Xn
      have N := XN
      clear XN
      go_wp2_with fail
      refine (CS.out _ Z.out X.out).mono ?_
      rintro e wd2 ⟨gT, cT, rfl, ho, hb⟩
      have BB2 := Lib.hid (BB.out.trans (hb.mono BB.out.size))
      have Zn := Lib.hid ((Z.out.below hb).more hb.size)
      have Xn := Lib.hid ((X.out.below hb).more hb.size)
      have Nn := Lib.hid ((N.out.below hb).more hb.size)
      have XN := Lib.hid (Rd.own ho)
      clear ho
      clear hb BB Z X N
      have BB := BB2
      clear BB2
      have Z := Zn
      clear Zn
      have X := Xn
      clear Xn
      have N := Nn
      clear Nn
      have T := XN
      clear XN
      clear T
      go_wp2_with fail
      clear CI CS
      go_loopw [10] (fun i wr => ∃ k : Nat, k ≤ 67 ∧ i = .int .i64 k ∧ Hid (Rd wr wr.heap.size (some ⟨gZ, 0, none⟩) (gls zs)) ∧ Hid (Rd wr wr.heap.size (some ⟨gX, 0, none⟩) (gls xs)) ∧ Hid (Rd wr wr.heap.size (some ⟨gN, 0, none⟩) (gls zr)) ∧ Hid (Below w.heap.size w wr)) (fun i _ => 67 - (intOf i).toNat)
      case atStart => exact ⟨0, by omega, rfl, Z, X, N, BB⟩
      case round =>
        clear Z X N BB
        obtain ⟨k, hk2, rfl, Z, X, N, BB⟩ := hrel
        by_cases hlt : k ≤ 66
        · have C1 := Lib.hid (fun W h => AZ.out (k : Int) W h)
          have C2 := Lib.hid (fun W h => AX.out (k : Int) W h)
          have CN3 := Lib.hid (fun W g c h => AN0.out k W g c h)
          have FF := DV.out k
          have d3 : decide ((k : Int) ≤ 66) = true := decide_eq_true (by omega)
          obtain ⟨⟨px, py⟩, hp1⟩ : ∃ p, dv zs (k : Int) = p := ⟨_, rfl⟩
          obtain ⟨⟨sx, sy⟩, hp2⟩ : ∃ p, dv xs (k : Int) = p := ⟨_, rfl⟩
          rw [hp1] at C1 FF
          rw [hp2] at C2 FF
          clear hp1 hp2
          have hbs := BB.out.size
          go_wp2_with fail
          refine (C1.out _ Z.out).mono ?_
          rintro e wd3 ⟨rfl, hb⟩
          have BB2 := Lib.hid (BB.out.trans (hb.mono BB.out.size))
          have Zn := Lib.hid ((Z.out.below hb).more hb.size)
          have Xn := Lib.hid ((X.out.below hb).more hb.size)
          have Nn := Lib.hid ((N.out.below hb).more hb.size)
          clear hb BB Z X N
          have BB := BB2
          clear BB2
          have Z := Zn
          clear Zn
          have X := Xn
          clear Xn
          have N := Nn
          clear Nn
          have K1 := Lib.hid (show Below wd3.heap.size wd3 (wd3.alloc (.cells (pc px py) 28)) from (Below.refl _ _).alloc (Nat.le_refl _) _)
          have Q1 := Lib.hid (Bk.new wd3 (pc px py) 28)
          go_upto_if 51 with fail
          go_cut [11] (fun v wx => v = .pointer (some ⟨wd3.heap.size, 0, none⟩) ∧ ∃ fx fy : Int, Hid (dv zr (k : Int) = (fx, fy)) ∧ Hid (Bk wx wd3.heap.size (pc fx fy) 28) ∧ Hid (Below wd3.heap.size wd3 wx))
          case first =>
            by_cases hjk : k < j
            · rw [if_pos hjk] at FF
              have d4 : decide ((j : Int) ≤ (k : Int)) = false := decide_eq_false (by omega)
              have FH := Lib.hid FF
              clear FF C2
              go_wp2_with fail
              go_meet
              exact ⟨rfl, px, py, FH, Q1, K1⟩
            · rw [if_neg hjk] at FF
              have d4 : decide ((j : Int) ≤ (k : Int)) = true := decide_eq_true (by omega)
              have FH := Lib.hid FF
              clear FF
              go_wp2_with fail
              refine (C2.out _ ((X.out.below K1.out).more K1.out.size)).mono ?_
              rintro e v2 ⟨rfl, hb⟩
              have Q2 := Q1.out.below hb
              have KB := K1.out.trans (hb.mono K1.out.size)
              have zf0 := Q2.frozen 0
              have zf1 := Q2.frozen 1
              have zc0 := Q2.cell (i := 0) rfl
              have zc1 := Q2.cell (i := 1) rfl
              have Q3 := Lib.hid ((Q2.set (i := 0) (v := .int .i64 sx)).set (i := 1) (v := .int .i64 sy))
              have K3 := Lib.hid ((KB.setCell (p := ⟨wd3.heap.size, 0, none⟩) (Nat.le_refl _) (.int .i64 sx)).setCell (p := ⟨wd3.heap.size, 1, none⟩) (Nat.le_refl _) (.int .i64 sy))
              clear hb Q2 KB
              go_wp2_with fail
              go_meet
              exact ⟨rfl, sx, sy, FH, Q3, K3⟩
          case rest =>
            clear Q1 K1 FF C2
            obtain ⟨rfl, fx, fy, FF, Q, K⟩ := hcut
            have C3 := Lib.hid (show ∀ (W : World) (h : Rd W W.heap.size (some ⟨gN, 0, none⟩) (gls zr)) (m0 : W.cell? ⟨wd3.heap.size, 0, none⟩ = some (.int .i64 fx)) (m1 : W.cell? ⟨wd3.heap.size, 1, none⟩ = some (.int .i64 fy)), Calls Try.prog 19 #[.slice (some ⟨gN, 0, none⟩) m cN, .int .i64 (k : Int)] W (fun e w9 => e = .returned (.agg #[.int .i64 fx, .int .i64 fy]) ∧ Below W.heap.size W w9 ∧ w9.cell? ⟨wd3.heap.size, 0, none⟩ = some (.int .i64 fx) ∧ w9.cell? ⟨wd3.heap.size, 1, none⟩ = some (.int .i64 fy)) from fun W h m0 m1 => by have := CN3.out W gN cN h; rw [FF.out] at this; exact this.mono fun e w9 ⟨he, hb⟩ => ⟨he, hb, (hb.cell (p := ⟨wd3.heap.size, 0, none⟩) (World.block_lt_of_cell? W _ m0)).trans m0, (hb.cell (p := ⟨wd3.heap.size, 1, none⟩) (World.block_lt_of_cell? W _ m1)).trans m1⟩)
            clear CN3 FF
            have hz := K.out.size
            have NR := Lib.hid ((N.out.below K.out).more hz)
            have ND := Lib.hid (show Rd wc.drew wc.drew.heap.size (some ⟨gN, 0, none⟩) (gls zr) from NR.out)
            have z0 := Q.out.cell (i := 0) rfl
            have z1 := Q.out.cell (i := 1) rfl
            have l1 := Q.out.lt
            have l3 : ∀ i, wd3.heap.size < wc.heap.size + i := fun i => by omega
            go_wp2_with fail
            go_region_held3 (fun w' => w'.cell? ⟨wd3.heap.size, 0, none⟩ = some (.int .i64 fx) ∧ w'.cell? ⟨wd3.heap.size, 1, none⟩ = some (.int .i64 fy)) (simp [go_sem, *])
              (first | (go_at_call 19; ((with_reducible refine (C3.out _ ND.out ?_ ?_).mono ?_); (simp [*]); (simp [*]); rintro e u4 ⟨rfl, hb4, m4, m5⟩)))
            have hb := K.out.drew.trans (hb4.mono K.out.size)
            clear hb4 m4 m5 z0 z1 l1 l3 hz C3 Q K NR ND hbs
            have BB2 := Lib.hid (BB.out.trans (hb.mono BB.out.size))
            have Zn := Lib.hid ((Z.out.below hb).more hb.size)
            have Xn := Lib.hid ((X.out.below hb).more hb.size)
            have Nn := Lib.hid ((N.out.below hb).more hb.size)
            clear hb BB Z X N
            have BB := BB2
            clear BB2
            have Z := Zn
            clear Zn
            have X := Xn
            clear Xn
            have N := Nn
            clear Nn
            go_wp2_with fail
            go_roundw
            case rel => exact ⟨k + 1, by omega, by go_num, Z, X, N, BB⟩
            case measure => simp [intOf]; omega
        · have d3 : decide ((k : Int) ≤ 66) = false := decide_eq_false (by omega)
          clear AZ AX AN0
          go_wp2_with fail
          refine (DN.out _ _ _ N.out).mono ?_
          rintro e wd3 ⟨rfl, hb⟩
          have BB2 := Lib.hid (BB.out.trans (hb.mono BB.out.size))
          have Zn := Lib.hid ((Z.out.below hb).more hb.size)
          have Xn := Lib.hid ((X.out.below hb).more hb.size)
          have Nn := Lib.hid ((N.out.below hb).more hb.size)
          clear hb BB Z X N
          have BB := BB2
          clear BB2
          have Z := Zn
          clear Zn
          have X := Xn
          clear Xn
          have N := Nn
          clear Nn
          go_wp2_with fail
          refine (CN.out _ _ _ N.out).mono ?_
          rintro e wd4 ⟨gP, cP, rfl, ho, hb⟩
          have BB2 := Lib.hid (BB.out.trans (hb.mono BB.out.size))
          have Zn := Lib.hid ((Z.out.below hb).more hb.size)
          have Xn := Lib.hid ((X.out.below hb).more hb.size)
          have Nn := Lib.hid ((N.out.below hb).more hb.size)
          have XN := Lib.hid (Rd.own ho)
          clear ho
          clear hb BB Z X N
          have BB := BB2
          clear BB2
          have Z := Zn
          clear Zn
          have X := Xn
          clear Xn
          have N := Nn
          clear Nn
          have P := XN
          clear XN
          go_wp2_with fail
          refine (windsL _ _ m cP cN zr _ _ HM.out hmb P.out N.out).mono ?_
          rintro e wd5 ⟨rfl, hb⟩
          have BB2 := Lib.hid (BB.out.trans (hb.mono BB.out.size))
          have Zn := Lib.hid ((Z.out.below hb).more hb.size)
          have Xn := Lib.hid ((X.out.below hb).more hb.size)
          have Nn := Lib.hid ((N.out.below hb).more hb.size)
          have Pn := Lib.hid ((P.out.below hb).more hb.size)
          clear hb BB Z X N P
          have BB := BB2
          clear BB2
          have Z := Zn
          clear Zn
          have X := Xn
          clear Xn
          have N := Nn
          clear Nn
          have P := Pn
          clear Pn
          go_wp2_with fail
          go_ret
          exact ⟨rfl, BB.out⟩
  · have hd : decide (4096 < n) = true := decide_eq_true (by omega)
    clear hn hm hr
    go_enter Try.func6, Try.ntmps6
    go_wp2_with (go_at_call 15; go_enter Try.func15, Try.ntmps15)
    go_returns
    exact ⟨rfl, Below.refl _ _⟩

set_option maxRecDepth 100000 in
theorem lifted (os : Os) (started : os.Started) (H : Type) (enc : TypeId × Value → H) :
    ReturnsInHanded {} Try.checked os 6 .any (Rows.fnJoinedSpec.pre6 enc Try.prog Try.f6 Rows.fnJoinedRow.domain false) (Rows.fnJoinedSpec.post enc Try.prog Try.f6 false true false false) := by
  refine returnsInHanded_of_change (C := Try.checked) own started (by kernel_rfl) Try.func6
    (ChangeSpec.witness6 (enc := enc) (C := Try.checked) false ⟨#[], #[.slice none 0 0], []⟩ 8 (by kernel_rfl) (by kernel_rfl) (by kernel_rfl) (by kernel_rfl)) ?_
  intro W base args ds gs before hval0 hW hcnd hsz
  have hval : ∀ (j : Nat) t v, Try.f6.params[j]? = some t → args[j]? = some v → Value.okWide Try.prog W .any base t v := hval0
  have hW' := hW
  obtain ⟨p, q, hA0, hV, rfl, hfz, hnd⟩ := hW
  have hA1 := hA0
  have hA : DataW.TrodAll enc Try.prog W 0 (fun _ => true) true Try.f6.params.toList args.toList ds p := hA0
  rw [Try.params6] at hA hval
  obtain ⟨v0, vs0, d0, ds0, p0, q0, hargs, rfl, rfl, h0, r0⟩ := trodAll_cons hA
  obtain ⟨rfl, rfl, rfl⟩ := trodAll_nil r0
  obtain rfl : args = #[v0] := by cases args; simp_all
  obtain ⟨rfl, rfl⟩ := trodVars_none hV
  obtain ⟨A0, n0, c0, a0, rfl, l0, m0, g0⟩ := RampFn.take_bytes Try.underlying22 Try.underlying5 (by kernel_rfl) (hval 0 22 v0 rfl rfl) h0
  clear hA0 hval0
  rw [List.append_nil] at hW'
  refine (walk A0 n0 c0 a0 l0 m0 W g0).mono fun e W' ⟨he, hb⟩ => ?_
  subst he
  exact ⟨_, rfl, post_law rfl hW' hA1 laidOut (by rw [Try.params6]; exact of_decide_eq_true (by kernel_rfl)) 4 (by kernel_rfl) Try.underlying4 rfl hb⟩

theorem over : Rows.fnJoinedRow.holds Try.pinned (OpenSpec.ofChange Rows.fnJoinedSpec) :=
  OpenClaim.holds_of_wide 6 Try.f6 rfl rfl rfl rfl rfl rfl rfl ⟨rfl, rfl, rfl, rfl, rfl⟩ rfl rfl rfl rfl rfl (by kernel_rfl) Try.func6 (by kernel_rfl)
    (of_decide_eq_true (by kernel_rfl)) (by unfold Func.isWrapper; first | (rw [if_pos (by decide +kernel)]; kernel_rfl) | (rw [if_neg (by decide +kernel)]; exact ⟨rfl, rfl⟩))
    (fun os started H enc _ => lifted os started H enc)

/-- The statement. -/
theorem proved : Rows.FnJoinedSaid :=
  over
#print axioms proved
end Go.Proofs.Ytknanaapaipoeaa.fnJoined
