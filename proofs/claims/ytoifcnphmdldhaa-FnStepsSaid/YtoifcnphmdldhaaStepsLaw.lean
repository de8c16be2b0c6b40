/- The law FnSteps holds at every input. The step from the walk to the row follows the guide's own template. -/
import Derived.Test.YtoifcnphmdldhaaMem
import Derived.Test.YtoifcnphmdldhaaTp
import Derived.Test.YtoifcnphmdldhaaDr3
import Derived.Test.YtoifcnphmdldhaaSf
import Derived.Test.YtoifcnphmdldhaaTakeC
import Derived.Deep.RegionHeld3
import Derived.Deep.DeepCutAuto
namespace Go.Proofs.Ytoifcnphmdldhaa.fnSteps
open Go.ChangeShapes Go.WideShapes Go.ChangeAt Go.RowKit Go.WideMaps Go.WideElems Go.Proofs.Ytoifcnphmdldhaa.Mem
open Go.ChangeMaps (open_string shut_string)
set_option linter.unusedVariables false

theorem own : ownKnob Try.prog.godebug = none := by kernel_rfl
theorem laidOut : laidOutB Try.prog = true := by kernel_rfl

open Go.Proofs.Ytoifcnphmdldhaa.Cm Go.Proofs.Ytoifcnphmdldhaa.Pl Go.Proofs.Ytoifcnphmdldhaa.Str Go.Proofs.Ytoifcnphmdldhaa.Pw Go.Proofs.Ytoifcnphmdldhaa.P2 Go.Proofs.Ytoifcnphmdldhaa.Tp Go.Proofs.Ytoifcnphmdldhaa.Hd Go.Proofs.Ytoifcnphmdldhaa.Sf Go.Proofs.Ytoifcnphmdldhaa.Draw Go.Proofs.Ytoifcnphmdldhaa.Dr2 Go.Proofs.Ytoifcnphmdldhaa.Dr3

abbrev stepSays (x y h k P Q : Int) (B : Bool) : Prop := ∀ w, Calls Try.prog 27 #[.agg #[.int .i64 x, .int .i64 y], .int .i64 h, .int .i64 k] w fun e w' => e = .returned (.tuple #[.agg #[.int .i64 P, .int .i64 Q], .bool B]) ∧ Below w.heap.size w w'
abbrev stepSpec (x y h k P Q : Int) (B : Bool) : Prop := ∀ w, Calls Try.prog 28 #[.agg #[.int .i64 x, .int .i64 y], .int .i64 h, .int .i64 k] w fun e w' => e = .returned (.tuple #[.agg #[.int .i64 P, .int .i64 Q], .bool B]) ∧ Below w.heap.size w w'
abbrev turnSays (x y n P Q : Int) : Prop := ∀ w, Calls Try.prog 20 #[.agg #[.int .i64 x, .int .i64 y], .int .i64 n] w fun e w' => e = .returned (.agg #[.int .i64 P, .int .i64 Q]) ∧ Below w.heap.size w w'

theorem facts (x y h k : Int) : ∃ P Q B, stepSays x y h k P Q B ∧ stepSpec x y h k P Q B ∧ (B = false → P = 0 ∧ Q = 0) ∧ (B = true → ∃ g R S, wrap64 (-k) = g ∧ th h 2 = R ∧ th h 1 = S ∧ stepSays P Q h g x y true ∧ stepSays P Q R k x y true ∧ turnSays x y 1 (-y) x ∧ stepSays (-y) x S k (-Q) P true ∧ turnSays P Q 1 (-Q) P) := by
  cases hp : (ms x && ms y)
  · exact ⟨0, 0, false, stepI_no1 hp, stepS_no1 hp, fun _ => ⟨rfl, rfl⟩, (fun h => nomatch h)⟩
  cases hh : hd h
  · exact ⟨0, 0, false, stepI_no2 hp hh, stepS_no2 hp hh, fun _ => ⟨rfl, rfl⟩, (fun h => nomatch h)⟩
  cases hk : ms k
  · exact ⟨0, 0, false, stepI_no3 hp hh hk, stepS_no3 hp hh hk, fun _ => ⟨rfl, rfl⟩, (fun h => nomatch h)⟩
  cases hb : (ms (x + tx (h % 4).toNat k 0) && ms (y + ty (h % 4).toNat k 0))
  · exact ⟨0, 0, false, stepI_yes hp hh hk hb, stepS_yes hp hh hk hb, fun _ => ⟨rfl, rfl⟩, (fun h => nomatch h)⟩
  refine ⟨_, _, true, stepI_yes hp hh hk hb, stepS_yes hp hh hk hb, (fun h => nomatch h), fun _ => ?_⟩
  obtain ⟨k1, k2⟩ := ms_iff.1 hk
  obtain ⟨h1, h2⟩ := hd_yes hh
  have w1 : wrap64 (-k) = -k := IntWalk.wrap64_in _ (by omega)
  have hk' : ms (-k) = true := ms_yes (by omega) (by omega)
  have t2 : th h 2 = (h + 2) % 4 := by unfold th; rw [hh]; rfl
  have t1 : th h 1 = (h + 1) % 4 := by unfold th; rw [hh]; rfl
  have hh2 : hd ((h + 2) % 4) = true := hd_mk (by omega)
  have hh1 : hd ((h + 1) % 4) = true := hd_mk (by omega)
  have e1 : ∀ j : Nat, tx j (-k) 0 = -tx j k 0 ∧ ty j (-k) 0 = -ty j k 0 := fun j => by unfold tx ty; constructor <;> split <;> omega
  have e2 : tx ((h + 2) % 4 % 4).toNat k 0 = -tx (h % 4).toNat k 0 ∧ ty ((h + 2) % 4 % 4).toNat k 0 = -ty (h % 4).toNat k 0 := by
    rcases (by omega : h = 0 ∨ h = 1 ∨ h = 2 ∨ h = 3) with rfl | rfl | rfl | rfl <;> simp [tx, ty]
  have e3 : tx ((h + 1) % 4 % 4).toNat k 0 = -ty (h % 4).toNat k 0 ∧ ty ((h + 1) % 4 % 4).toNat k 0 = tx (h % 4).toNat k 0 := by
    rcases (by omega : h = 0 ∨ h = 1 ∨ h = 2 ∨ h = 3) with rfl | rfl | rfl | rfl <;> simp [tx, ty]
  obtain ⟨px, py⟩ := pl_yes hp
  obtain ⟨qx, qy⟩ := pl_yes hb
  have hpt : (ms (-y) && ms x) = true := pl_mk (by omega) px
  have a1 := stepI_yes (b := true) hb hh hk' (by rw [(e1 _).1, (e1 _).2]; exact pl_mk (by omega) (by omega))
  have a2 := stepI_yes (b := true) hb hh2 hk (by rw [e2.1, e2.2]; exact pl_mk (by omega) (by omega))
  have a3 := stepI_yes (b := true) hpt hh1 hk (by rw [e3.1, e3.2]; exact pl_mk (by omega) (by omega))
  have a4 := turnI 1 hp
  have a5 := turnI 1 hb
  rw [(e1 _).1, (e1 _).2] at a1
  rw [e2.1, e2.2] at a2
  rw [e3.1, e3.2] at a3
  generalize tx (h % 4).toNat k 0 = X at *
  generalize ty (h % 4).toNat k 0 = Y at *
  rw [show x + X + -X = x by omega, show y + Y + -Y = y by omega] at a1 a2
  rw [show -y + -Y = -(y + Y) by omega] at a3
  exact ⟨-k, (h + 2) % 4, (h + 1) % 4, w1, t2, t1, a1, a2, a4, a3, a5⟩

set_option maxHeartbeats 4000000 in
set_option maxRecDepth 100000 in
theorem walk (A : Option Addr) (n c : Nat) (bs : List UInt8) (hn : bs.length = n) (hm : n ≤ maxLen) (w : World) (hr : Rd w w.heap.size A (Draw.u8s bs)) :
    Calls Try.prog 5 #[.slice A n c] w fun e w' => e = .returned (.bool true) ∧ Below w.heap.size w w' := by
  by_cases hbig : (n : Int) ≤ 4096
  · have D := Lib.hid (drawStepFrom w A n c bs hn (by omega) hr)
    clear hn hm hr
    go_enter Try.func5, Try.ntmps5
    go_wp2_with (go_at_call 15; go_enter Try.func15, Try.ntmps15)
    refine D.out.mono ?_
    rintro e u0 ⟨x, y, h, k, hx, hy, hh, hk, rfl, hB⟩
    have BB := Lib.hid hB
    clear D hbig hx hy hh hk hB
    obtain ⟨P, Q, B, TI, TS, hno, hyes⟩ := facts x y h k
    replace TI := Lib.hid TI
    replace TS := Lib.hid TS
    replace hyes := Lib.hid hyes
    replace hno := Lib.hid hno
    go_wp2_with fail
    refine (TI.out _).mono ?_
    rintro e u1 ⟨rfl, hb⟩
    have Kp := Lib.hid (CB.below (CB.new u0 (x) (y)) hb)
    have BB2 := Lib.hid (((BB.out).alloc (by have := BB.out.size; go_size) (.cells #[.int .i64 (x), .int .i64 (y)] 25)).trans (hb.mono (by have := BB.out.size; go_size)))
    clear hb BB
    have BB := BB2
    clear BB2
    have Hp := Kp
    clear Kp
    have cp0 := Hp.out.c0
    have cp1 := Hp.out.c1
    have lp := Hp.out.lt
    have mp : ∀ j, _ < u1.heap.size + j := fun j => Nat.lt_of_lt_of_le lp (Nat.le_add_right _ j)
    go_wp2_with fail
    refine (TS.out _).mono ?_
    rintro e u2 ⟨rfl, hb⟩
    clear cp0 cp1 lp mp
    have Kp := Lib.hid (CB.below ((Hp.out).alloc (.cells #[.int .i64 (P), .int .i64 (Q)] 25)) hb)
    have Kq := Lib.hid (CB.below (CB.new u1 (P) (Q)) hb)
    have BB2 := Lib.hid (((BB.out).alloc (by have := BB.out.size; go_size) (.cells #[.int .i64 (P), .int .i64 (Q)] 25)).trans (hb.mono (by have := BB.out.size; go_size)))
    clear hb BB Hp
    have BB := BB2
    clear BB2
    have Hp := Kp
    clear Kp
    have Hq := Kq
    clear Kq
    have cp0 := Hp.out.c0
    have cp1 := Hp.out.c1
    have lp := Hp.out.lt
    have mp : ∀ j, _ < u2.heap.size + j := fun j => Nat.lt_of_lt_of_le lp (Nat.le_add_right _ j)
    have cq0 := Hq.out.c0
    have cq1 := Hq.out.c1
    have lq := Hq.out.lt
    have mq : ∀ j, _ < u2.heap.size + j := fun j => Nat.lt_of_lt_of_le lq (Nat.le_add_right _ j)
    cases B
    · obtain ⟨rfl, rfl⟩ := hno.out rfl
      clear hno hyes
      go_wp2_with fail
      go_returns
      refine ⟨rfl, ?_⟩
      have h8 := BB.out
      have h9 := h8.size
      go_grown
    · obtain ⟨g, R, S, hg, hR, hS, a1, a2, a4, a3, a5⟩ := hyes.out rfl
      replace a1 := Lib.hid a1
      replace a2 := Lib.hid a2
      replace a3 := Lib.hid a3
      replace a4 := Lib.hid a4
      replace a5 := Lib.hid a5
      have t2 := Lib.hid (hR ▸ turnHeadingI h 2)
      have t1 := Lib.hid (hS ▸ turnHeadingI h 1)
      clear hno hyes hR hS
      go_wp2_with fail
      refine (a1.out _).mono ?_
      rintro e u3 ⟨rfl, hb⟩
      clear cp0 cp1 lp mp cq0 cq1 lq mq
      have Kp := Lib.hid (CB.below ((Hp.out).alloc (.cells #[.int .i64 (P), .int .i64 (Q)] 25)) hb)
      have Kq := Lib.hid (CB.below ((Hq.out).alloc (.cells #[.int .i64 (P), .int .i64 (Q)] 25)) hb)
      have BB2 := Lib.hid (((BB.out).alloc (by have := BB.out.size; go_size) (.cells #[.int .i64 (P), .int .i64 (Q)] 25)).trans (hb.mono (by have := BB.out.size; go_size)))
      clear hb BB Hp Hq
      have BB := BB2
      clear BB2
      have Hp := Kp
      clear Kp
      have Hq := Kq
      clear Kq
      have cp0 := Hp.out.c0
      have cp1 := Hp.out.c1
      have lp := Hp.out.lt
      have mp : ∀ j, _ < u3.heap.size + j := fun j => Nat.lt_of_lt_of_le lp (Nat.le_add_right _ j)
      have cq0 := Hq.out.c0
      have cq1 := Hq.out.c1
      have lq := Hq.out.lt
      have mq : ∀ j, _ < u3.heap.size + j := fun j => Nat.lt_of_lt_of_le lq (Nat.le_add_right _ j)
      go_upto_region 11 with fail
      go_cut [12, 13] (fun s t wx => ∃ k : Nat, s = .pointer (some ⟨k, 0, none⟩) ∧ t = .bool true ∧ Lay (u3.alloc (.cells #[.int .i64 (x), .int .i64 (y)] 25)) wx k x y)
      case first =>
        go_region_held3 (fun w' => w'.cell? ⟨u1.heap.size, 0, none⟩ = some (.int .i64 (P)) ∧ w'.cell? ⟨u1.heap.size, 1, none⟩ = some (.int .i64 (Q))) (first | (simp [go_sem, *]; done) | (refine ⟨?_, ?_⟩ <;> (refine cell_alloc ?_) <;> (simp [go_sem, *]; done)))
          (first
            | (go_at_call 22; refine (t2.out _).mono ?_; rintro e w' ⟨rfl, rfl⟩)
            | (go_at_call 27; refine (a2.out _).mono ?_; rintro e w' ⟨rfl, hb⟩; obtain ⟨hc, hf, l1, l2, n1, n2, n3, n4⟩ := open_below hb; have hB := (Below.trans (show Below ((u3.alloc (.cells #[.int .i64 (x), .int .i64 (y)] 25))).heap.size (u3.alloc (.cells #[.int .i64 (x), .int .i64 (y)] 25)) _ from (by go_grown)) (hb.mono (by go_size))); have hsz := hB.size; have HS := Lib.hid hb.size; clear hb))
        all_goals go_wp2_with fail
        all_goals go_meet
        all_goals refine ⟨_, rfl, rfl, ⟨?_, ?_, ?_, ?_, ?_⟩⟩
        all_goals first | (go_grown; done) | (simp [go_sem, *]; done) | (have h9 := HS.out; simp at h9 ⊢; omega) | ((first | refine set2_0 ?_ | refine set2_1 ?_); rw [hc _ (by first | (simp; done) | (simp; omega))]; first | (simp [go_sem, *]; done) | (simp (disch := first | omega | (simp; omega)) [go_sem, *]; done))
      case rest =>
        obtain ⟨kc, rfl, rfl, hlay⟩ := hcut
        have hb := hlay.below
        have Hc := Lib.hid (CB.lay hlay)
        clear hlay
        generalize wc = wa at *
        clear cp0 cp1 lp mp cq0 cq1 lq mq
        have Kp := Lib.hid (CB.below ((Hp.out).alloc (.cells #[.int .i64 (x), .int .i64 (y)] 25)) hb)
        have Kq := Lib.hid (CB.below ((Hq.out).alloc (.cells #[.int .i64 (x), .int .i64 (y)] 25)) hb)
        have Kb := Lib.hid (CB.below (CB.new u3 (x) (y)) hb)
        have BB2 := Lib.hid (((BB.out).alloc (by have := BB.out.size; go_size) (.cells #[.int .i64 (x), .int .i64 (y)] 25)).trans (hb.mono (by have := BB.out.size; go_size)))
        clear hb BB Hp Hq
        have BB := BB2
        clear BB2
        have Hp := Kp
        clear Kp
        have Hq := Kq
        clear Kq
        have Hb := Kb
        clear Kb
        have cp0 := Hp.out.c0
        have cp1 := Hp.out.c1
        have lp := Hp.out.lt
        have mp : ∀ j, _ < wa.heap.size + j := fun j => Nat.lt_of_lt_of_le lp (Nat.le_add_right _ j)
        have cq0 := Hq.out.c0
        have cq1 := Hq.out.c1
        have lq := Hq.out.lt
        have mq : ∀ j, _ < wa.heap.size + j := fun j => Nat.lt_of_lt_of_le lq (Nat.le_add_right _ j)
        have cb0 := Hb.out.c0
        have cb1 := Hb.out.c1
        have lb := Hb.out.lt
        have mb : ∀ j, _ < wa.heap.size + j := fun j => Nat.lt_of_lt_of_le lb (Nat.le_add_right _ j)
        have cc0 := Hc.out.c0
        have cc1 := Hc.out.c1
        have lc := Hc.out.lt
        go_wp2_with fail
        refine (a4.out _).mono ?_
        rintro e u5 ⟨rfl, hb⟩
        clear cp0 cp1 lp mp cq0 cq1 lq mq cb0 cb1 lb mb cc0 cc1 lc
        have Kp := Lib.hid (CB.below (Hp.out) hb)
        have Kq := Lib.hid (CB.below (Hq.out) hb)
        have Kb := Lib.hid (CB.below (Hb.out) hb)
        have Kc := Lib.hid (CB.below (Hc.out) hb)
        have BB2 := Lib.hid ((BB.out).trans (hb.mono (by have := BB.out.size; go_size)))
        clear hb BB Hp Hq Hb Hc
        have BB := BB2
        clear BB2
        have Hp := Kp
        clear Kp
        have Hq := Kq
        clear Kq
        have Hb := Kb
        clear Kb
        have Hc := Kc
        clear Kc
        have cp0 := Hp.out.c0
        have cp1 := Hp.out.c1
        have lp := Hp.out.lt
        have mp : ∀ j, _ < u5.heap.size + j := fun j => Nat.lt_of_lt_of_le lp (Nat.le_add_right _ j)
        have cq0 := Hq.out.c0
        have cq1 := Hq.out.c1
        have lq := Hq.out.lt
        have mq : ∀ j, _ < u5.heap.size + j := fun j => Nat.lt_of_lt_of_le lq (Nat.le_add_right _ j)
        have cb0 := Hb.out.c0
        have cb1 := Hb.out.c1
        have lb := Hb.out.lt
        have mb : ∀ j, _ < u5.heap.size + j := fun j => Nat.lt_of_lt_of_le lb (Nat.le_add_right _ j)
        have cc0 := Hc.out.c0
        have cc1 := Hc.out.c1
        have lc := Hc.out.lt
        have mc : ∀ j, _ < u5.heap.size + j := fun j => Nat.lt_of_lt_of_le lc (Nat.le_add_right _ j)
        go_wp2_with fail
        refine (t1.out _).mono ?_
        rintro e w' ⟨rfl, rfl⟩
        go_wp2_with fail
        refine (a3.out _).mono ?_
        rintro e u6 ⟨rfl, hb⟩
        clear cp0 cp1 lp mp cq0 cq1 lq mq cb0 cb1 lb mb cc0 cc1 lc mc
        have Kp := Lib.hid (CB.below (Hp.out) hb)
        have Kq := Lib.hid (CB.below (Hq.out) hb)
        have Kb := Lib.hid (CB.below (Hb.out) hb)
        have Kc := Lib.hid (CB.below (Hc.out) hb)
        have BB2 := Lib.hid ((BB.out).trans (hb.mono (by have := BB.out.size; go_size)))
        clear hb BB Hp Hq Hb Hc
        have BB := BB2
        clear BB2
        have Hp := Kp
        clear Kp
        have Hq := Kq
        clear Kq
        have Hb := Kb
        clear Kb
        have Hc := Kc
        clear Kc
        have cp0 := Hp.out.c0
        have cp1 := Hp.out.c1
        have lp := Hp.out.lt
        have mp : ∀ j, _ < u6.heap.size + j := fun j => Nat.lt_of_lt_of_le lp (Nat.le_add_right _ j)
        have cq0 := Hq.out.c0
        have cq1 := Hq.out.c1
        have lq := Hq.out.lt
        have mq : ∀ j, _ < u6.heap.size + j := fun j => Nat.lt_of_lt_of_le lq (Nat.le_add_right _ j)
        have cb0 := Hb.out.c0
        have cb1 := Hb.out.c1
        have lb := Hb.out.lt
        have mb : ∀ j, _ < u6.heap.size + j := fun j => Nat.lt_of_lt_of_le lb (Nat.le_add_right _ j)
        have cc0 := Hc.out.c0
        have cc1 := Hc.out.c1
        have lc := Hc.out.lt
        have mc : ∀ j, _ < u6.heap.size + j := fun j => Nat.lt_of_lt_of_le lc (Nat.le_add_right _ j)
        go_wp2_with fail
        go_region_held3 (fun w' => w'.cell? ⟨u0.heap.size, 0, none⟩ = some (.int .i64 (x)) ∧ w'.cell? ⟨u0.heap.size, 1, none⟩ = some (.int .i64 (y)) ∧ w'.cell? ⟨u1.heap.size, 0, none⟩ = some (.int .i64 (P)) ∧ w'.cell? ⟨u1.heap.size, 1, none⟩ = some (.int .i64 (Q)) ∧ w'.cell? ⟨u3.heap.size, 0, none⟩ = some (.int .i64 (x)) ∧ w'.cell? ⟨u3.heap.size, 1, none⟩ = some (.int .i64 (y)) ∧ w'.cell? ⟨kc, 0, none⟩ = some (.int .i64 (x)) ∧ w'.cell? ⟨kc, 1, none⟩ = some (.int .i64 (y)) ∧ w'.cell? ⟨u6.heap.size, 0, none⟩ = some (.int .i64 (-Q)) ∧ w'.cell? ⟨u6.heap.size, 1, none⟩ = some (.int .i64 (P))) (first | (simp [go_sem, *]; done) | (refine ⟨?_, ?_, ?_, ?_, ?_, ?_, ?_, ?_, ?_, ?_⟩ <;> (refine cell_alloc ?_) <;> (simp [go_sem, *]; done)))
          (first | (go_at_call 20; refine (a5.out _).mono ?_; rintro e w' ⟨rfl, hb⟩; obtain ⟨hc, hf, l1, l2, n1, n2, n3, n4⟩ := open_below hb; have h8 := BB.out; have h9 := h8.size; have hB := Lib.hid (Below.trans (show Below w.heap.size w _ from (by go_grown)) (hb.mono (by go_size))); clear hb h8 h9))
        all_goals go_wp2_with fail
        all_goals go_returns
        all_goals exact ⟨rfl, hB.out⟩
  · go_enter Try.func5, Try.ntmps5
    have d : (decide ((n : Int) > 4096)) = true := decide_eq_true (by omega)
    go_wp2_with (go_at_call 15; go_enter Try.func15, Try.ntmps15)
    all_goals go_returns
    all_goals exact ⟨rfl, Below.refl _ _⟩

set_option maxRecDepth 100000 in
theorem lifted (os : Os) (started : os.Started) (H : Type) (enc : TypeId × Value → H) :
    ReturnsInHanded {} Try.checked os 5 .any (Rows.fnStepsSpec.pre6 enc Try.prog Try.f5 Rows.fnStepsRow.domain false) (Rows.fnStepsSpec.post enc Try.prog Try.f5 false true false false) := by
  refine returnsInHanded_of_change (C := Try.checked) own started (by kernel_rfl) Try.func5
    (ChangeSpec.witness6 (enc := enc) (C := Try.checked) false ⟨#[], #[.slice none 0 0], []⟩ 8 (by kernel_rfl) (by kernel_rfl) (by kernel_rfl) (by kernel_rfl)) ?_
  intro W base args ds gs before hval0 hW hcnd hsz
  have hval : ∀ (j : Nat) t v, Try.f5.params[j]? = some t → args[j]? = some v → Value.okWide Try.prog W .any base t v := hval0
  have hW' := hW
  obtain ⟨p, q, hA0, hV, rfl, hfz, hnd⟩ := hW
  have hA1 := hA0
  have hA : DataW.TrodAll enc Try.prog W 0 (fun _ => true) true Try.f5.params.toList args.toList ds p := hA0
  rw [Try.params5] at hA hval
  obtain ⟨v0, vs0, d0, ds0, p0, q0, hargs, rfl, rfl, h0, r0⟩ := trodAll_cons hA
  obtain ⟨rfl, rfl, rfl⟩ := trodAll_nil r0
  obtain rfl : args = #[v0] := by cases args; simp_all
  obtain ⟨rfl, rfl⟩ := trodVars_none hV
  obtain ⟨A0, n0, c0, a0, rfl, l0, m0, g0⟩ := RampFn.take_bytes Try.underlying22 Try.underlying5 (by kernel_rfl) (hval 0 22 v0 rfl rfl) h0
  clear hA0 hval0
  rw [List.append_nil] at hW'
  refine (walk A0 n0 c0 a0 l0 m0 W g0).mono fun e W' ⟨he, hb⟩ => ?_
  subst he
  exact ⟨_, rfl, post_law rfl hW' hA1 laidOut (by rw [Try.params5]; exact of_decide_eq_true (by kernel_rfl)) 4 (by kernel_rfl) Try.underlying4 rfl hb⟩

theorem over : Rows.fnStepsRow.holds Try.pinned (OpenSpec.ofChange Rows.fnStepsSpec) :=
  OpenClaim.holds_of_wide 5 Try.f5 rfl rfl rfl rfl rfl rfl rfl ⟨rfl, rfl, rfl, rfl, rfl⟩ rfl rfl rfl rfl rfl (by kernel_rfl) Try.func5 (by kernel_rfl)
    (of_decide_eq_true (by kernel_rfl)) (by unfold Func.isWrapper; first | (rw [if_pos (by decide +kernel)]; kernel_rfl) | (rw [if_neg (by decide +kernel)]; exact ⟨rfl, rfl⟩))
    (fun os started H enc _ => lifted os started H enc)

/-- The statement. -/
theorem proved : Rows.FnStepsSaid :=
  over
#print axioms proved
end Go.Proofs.Ytoifcnphmdldhaa.fnSteps
