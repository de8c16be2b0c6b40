/- The law FnTurnAbout holds at every input. The step from the walk to the row follows the guide's own template. -/
import Derived.Test.YtoifcnphmdldhaaMem
import Derived.Test.YtoifcnphmdldhaaTp
import Derived.Test.YtoifcnphmdldhaaDr3
import Derived.Test.YtoifcnphmdldhaaTakeC
import Derived.Deep.RegionHeld3
namespace Go.Proofs.Ytoifcnphmdldhaa.fnTurnAbout
open Go.ChangeShapes Go.WideShapes Go.ChangeAt Go.RowKit Go.WideMaps Go.WideElems Go.Proofs.Ytoifcnphmdldhaa.Mem
open Go.ChangeMaps (open_string shut_string)
set_option linter.unusedVariables false

theorem own : ownKnob Try.prog.godebug = none := by kernel_rfl
theorem laidOut : laidOutB Try.prog = true := by kernel_rfl

open Go.Proofs.Ytoifcnphmdldhaa.Cm Go.Proofs.Ytoifcnphmdldhaa.Pl Go.Proofs.Ytoifcnphmdldhaa.Str Go.Proofs.Ytoifcnphmdldhaa.Pw Go.Proofs.Ytoifcnphmdldhaa.P2 Go.Proofs.Ytoifcnphmdldhaa.P3 Go.Proofs.Ytoifcnphmdldhaa.Tp Go.Proofs.Ytoifcnphmdldhaa.Draw Go.Proofs.Ytoifcnphmdldhaa.Dr2 Go.Proofs.Ytoifcnphmdldhaa.Dr3

abbrev aboutSays (x y a b n P Q : Int) (B : Bool) : Prop := ∀ w, Calls Try.prog 24 #[.agg #[.int .i64 x, .int .i64 y], .agg #[.int .i64 a, .int .i64 b], .int .i64 n] w fun e w' => e = .returned (.tuple #[.agg #[.int .i64 P, .int .i64 Q], .bool B]) ∧ Below w.heap.size w w'
abbrev aboutSpec (x y a b n P Q : Int) (B : Bool) : Prop := ∀ w, Calls Try.prog 25 #[.agg #[.int .i64 x, .int .i64 y], .agg #[.int .i64 a, .int .i64 b], .int .i64 n] w fun e w' => e = .returned (.tuple #[.agg #[.int .i64 P, .int .i64 Q], .bool B]) ∧ Below w.heap.size w w'

set_option maxHeartbeats 4000000 in
set_option maxRecDepth 100000 in
theorem walk (A : Option Addr) (n c : Nat) (bs : List UInt8) (hn : bs.length = n) (hm : n ≤ maxLen) (w : World) (hr : Rd w w.heap.size A (Draw.u8s bs)) :
    Calls Try.prog 4 #[.slice A n c] w fun e w' => e = .returned (.bool true) ∧ Below w.heap.size w w' := by
  by_cases hbig : (n : Int) ≤ 4096
  · have D := Lib.hid (drawTurnAbout w A n c bs hn (by omega) hr)
    clear hn hm hr
    go_enter Try.func4, Try.ntmps4
    go_wp2_with (go_at_call 15; go_enter Try.func15, Try.ntmps15)
    refine D.out.mono ?_
    rintro e u0 ⟨x, y, a, b, k, hx, hy, ha, hb, hk, rfl, hB⟩
    have BB := Lib.hid hB
    clear D hbig hx hy ha hb hB
    obtain ⟨P, Q, B, hTI, hTS, hB, hval⟩ : ∃ P Q B, aboutSays x y a b k P Q B ∧ aboutSpec x y a b k P Q B ∧ (((ms x && ms y) && (ms a && ms b)) = false → B = false) ∧ (B = true → P = a + tx (k % 4).toNat (x - a) (y - b) ∧ Q = b + ty (k % 4).toNat (x - a) (y - b) ∧ (ms P && ms Q) = true) := by
      refine ⟨_, _, _, aboutI x y a b k rfl rfl rfl, aboutS x y a b k rfl rfl rfl, ?_, ?_⟩
      · intro h; rw [h]; rfl
      · intro h
        rw [h]
        refine ⟨rfl, rfl, ?_⟩
        exact (Bool.and_eq_true_iff.1 h).2
    have TI := Lib.hid hTI
    have TS := Lib.hid hTS
    clear hTI hTS
    go_wp2_with fail
    refine (TI.out _).mono ?_
    rintro e u1 ⟨rfl, hb⟩
    have Kp := Lib.hid (HB.below ((HB.new u0 (x) (y)).alloc (.cells #[.int .i64 (a), .int .i64 (b)] 25)) hb)
    have Kc := Lib.hid (HB.below ((show HB ((u0.alloc (.cells #[.int .i64 (x), .int .i64 (y)] 25)).alloc (.cells #[.int .i64 (a), .int .i64 (b)] 25)) (u0.heap.size + 1) (a) (b) from by simpa using HB.new (u0.alloc (.cells #[.int .i64 (x), .int .i64 (y)] 25)) (a) (b))) hb)
    have BB2 := Lib.hid ((((BB.out).alloc (by have := BB.out.size; go_size) (.cells #[.int .i64 (x), .int .i64 (y)] 25)).alloc (by have := BB.out.size; go_size) (.cells #[.int .i64 (a), .int .i64 (b)] 25)).trans (hb.mono (by have := BB.out.size; go_size)))
    clear hb BB
    have BB := BB2
    clear BB2
    have Hp := Kp
    clear Kp
    have Hc := Kc
    clear Kc
    have cp0 := Hp.out.c0
    have cp1 := Hp.out.c1
    have lp := Hp.out.lt
    have mp : ∀ j, _ < u1.heap.size + j := fun j => Nat.lt_of_lt_of_le lp (Nat.le_add_right _ j)
    have cc0 := Hc.out.c0
    have cc1 := Hc.out.c1
    have lc := Hc.out.lt
    have mc : ∀ j, _ < u1.heap.size + j := fun j => Nat.lt_of_lt_of_le lc (Nat.le_add_right _ j)
    go_wp2_with fail
    refine (TS.out _).mono ?_
    rintro e u2 ⟨rfl, hb⟩
    clear cp0 cp1 lp mp cc0 cc1 lc mc
    have Kp := Lib.hid (HB.below ((Hp.out).alloc (.cells #[.int .i64 (P), .int .i64 (Q)] 25)) hb)
    have Kc := Lib.hid (HB.below ((Hc.out).alloc (.cells #[.int .i64 (P), .int .i64 (Q)] 25)) hb)
    have Kq := Lib.hid (HB.below (HB.new u1 (P) (Q)) hb)
    have BB2 := Lib.hid (((BB.out).alloc (by have := BB.out.size; go_size) (.cells #[.int .i64 (P), .int .i64 (Q)] 25)).trans (hb.mono (by have := BB.out.size; go_size)))
    clear hb BB Hp Hc
    have BB := BB2
    clear BB2
    have Hp := Kp
    clear Kp
    have Hc := Kc
    clear Kc
    have Hq := Kq
    clear Kq
    have cp0 := Hp.out.c0
    have cp1 := Hp.out.c1
    have lp := Hp.out.lt
    have mp : ∀ j, _ < u2.heap.size + j := fun j => Nat.lt_of_lt_of_le lp (Nat.le_add_right _ j)
    have cc0 := Hc.out.c0
    have cc1 := Hc.out.c1
    have lc := Hc.out.lt
    have mc : ∀ j, _ < u2.heap.size + j := fun j => Nat.lt_of_lt_of_le lc (Nat.le_add_right _ j)
    have cq0 := Hq.out.c0
    have cq1 := Hq.out.c1
    have lq := Hq.out.lt
    have mq : ∀ j, _ < u2.heap.size + j := fun j => Nat.lt_of_lt_of_le lq (Nat.le_add_right _ j)
    cases p1 : (ms x && ms y)
    · have IP := Lib.hid (placeI p1)
      obtain rfl := hB (by simp [p1])
      clear hB hval p1
      go_wp2_with fail
      refine (IP.out _).mono ?_
      rintro e u3 ⟨rfl, hb⟩
      clear cp0 cp1 lp mp cc0 cc1 lc mc cq0 cq1 lq mq
      have Kp := Lib.hid (HB.below ((Hp.out).alloc (.cells #[.int .i64 (P), .int .i64 (Q)] 25)) hb)
      have Kc := Lib.hid (HB.below ((Hc.out).alloc (.cells #[.int .i64 (P), .int .i64 (Q)] 25)) hb)
      have Kq := Lib.hid (HB.below ((Hq.out).alloc (.cells #[.int .i64 (P), .int .i64 (Q)] 25)) hb)
      have BB2 := Lib.hid (((BB.out).alloc (by have := BB.out.size; go_size) (.cells #[.int .i64 (P), .int .i64 (Q)] 25)).trans (hb.mono (by have := BB.out.size; go_size)))
      clear hb BB Hp Hc Hq
      have BB := BB2
      clear BB2
      have Hp := Kp
      clear Kp
      have Hc := Kc
      clear Kc
      have Hq := Kq
      clear Kq
      have cp0 := Hp.out.c0
      have cp1 := Hp.out.c1
      have lp := Hp.out.lt
      have mp : ∀ j, _ < u3.heap.size + j := fun j => Nat.lt_of_lt_of_le lp (Nat.le_add_right _ j)
      have cc0 := Hc.out.c0
      have cc1 := Hc.out.c1
      have lc := Hc.out.lt
      have mc : ∀ j, _ < u3.heap.size + j := fun j => Nat.lt_of_lt_of_le lc (Nat.le_add_right _ j)
      have cq0 := Hq.out.c0
      have cq1 := Hq.out.c1
      have lq := Hq.out.lt
      have mq : ∀ j, _ < u3.heap.size + j := fun j => Nat.lt_of_lt_of_le lq (Nat.le_add_right _ j)
      go_wp2_with fail
      go_returns
      exact ⟨rfl, BB.out⟩
    cases p2 : (ms a && ms b)
    · have IP := Lib.hid (placeI p1)
      have IC := Lib.hid (placeI p2)
      obtain rfl := hB (by simp [p1, p2])
      clear hB hval p1 p2
      go_wp2_with fail
      refine (IP.out _).mono ?_
      rintro e u3 ⟨rfl, hb⟩
      clear cp0 cp1 lp mp cc0 cc1 lc mc cq0 cq1 lq mq
      have Kp := Lib.hid (HB.below ((Hp.out).alloc (.cells #[.int .i64 (P), .int .i64 (Q)] 25)) hb)
      have Kc := Lib.hid (HB.below ((Hc.out).alloc (.cells #[.int .i64 (P), .int .i64 (Q)] 25)) hb)
      have Kq := Lib.hid (HB.below ((Hq.out).alloc (.cells #[.int .i64 (P), .int .i64 (Q)] 25)) hb)
      have BB2 := Lib.hid (((BB.out).alloc (by have := BB.out.size; go_size) (.cells #[.int .i64 (P), .int .i64 (Q)] 25)).trans (hb.mono (by have := BB.out.size; go_size)))
      clear hb BB Hp Hc Hq
      have BB := BB2
      clear BB2
      have Hp := Kp
      clear Kp
      have Hc := Kc
      clear Kc
      have Hq := Kq
      clear Kq
      have cp0 := Hp.out.c0
      have cp1 := Hp.out.c1
      have lp := Hp.out.lt
      have mp : ∀ j, _ < u3.heap.size + j := fun j => Nat.lt_of_lt_of_le lp (Nat.le_add_right _ j)
      have cc0 := Hc.out.c0
      have cc1 := Hc.out.c1
      have lc := Hc.out.lt
      have mc : ∀ j, _ < u3.heap.size + j := fun j => Nat.lt_of_lt_of_le lc (Nat.le_add_right _ j)
      have cq0 := Hq.out.c0
      have cq1 := Hq.out.c1
      have lq := Hq.out.lt
      have mq : ∀ j, _ < u3.heap.size + j := fun j => Nat.lt_of_lt_of_le lq (Nat.le_add_right _ j)
      go_wp2_with fail
      refine (IC.out _).mono ?_
      rintro e u4 ⟨rfl, hb⟩
      clear cp0 cp1 lp mp cc0 cc1 lc mc cq0 cq1 lq mq
      have Kp := Lib.hid (HB.below (Hp.out) hb)
      have Kc := Lib.hid (HB.below (Hc.out) hb)
      have Kq := Lib.hid (HB.below (Hq.out) hb)
      have BB2 := Lib.hid ((BB.out).trans (hb.mono (by have := BB.out.size; go_size)))
      clear hb BB Hp Hc Hq
      have BB := BB2
      clear BB2
      have Hp := Kp
      clear Kp
      have Hc := Kc
      clear Kc
      have Hq := Kq
      clear Kq
      have cp0 := Hp.out.c0
      have cp1 := Hp.out.c1
      have lp := Hp.out.lt
      have mp : ∀ j, _ < u4.heap.size + j := fun j => Nat.lt_of_lt_of_le lp (Nat.le_add_right _ j)
      have cc0 := Hc.out.c0
      have cc1 := Hc.out.c1
      have lc := Hc.out.lt
      have mc : ∀ j, _ < u4.heap.size + j := fun j => Nat.lt_of_lt_of_le lc (Nat.le_add_right _ j)
      have cq0 := Hq.out.c0
      have cq1 := Hq.out.c1
      have lq := Hq.out.lt
      have mq : ∀ j, _ < u4.heap.size + j := fun j => Nat.lt_of_lt_of_le lq (Nat.le_add_right _ j)
      go_wp2_with fail
      go_returns
      exact ⟨rfl, BB.out⟩
    · have IP := Lib.hid (placeI p1)
      have IC := Lib.hid (placeI p2)
      clear hB
      obtain ⟨m, hm⟩ : ∃ m, wrap64 (4 - k.tmod 4) = m := ⟨_, rfl⟩
      have hm2 : m = 4 - k.tmod 4 := by rw [← hm]; exact IntWalk.wrap64_in _ (by have := tmod_range k; omega)
      obtain ⟨hx, hy⟩ := pl_yes p1
      obtain ⟨ha, hb⟩ := pl_yes p2
      have z0 : ∀ j : Nat, tx j 0 0 = 0 ∧ ty j 0 0 = 0 := fun j => by unfold tx ty; constructor <;> split <;> rfl
      have T2 : aboutSays a b a b k a b true := by
        have h := aboutI a b a b k p2 p2 (b3 := true) (by rw [Int.sub_self, Int.sub_self, (z0 _).1, (z0 _).2, Int.add_zero, Int.add_zero]; exact p2)
        rw [Int.sub_self, Int.sub_self, (z0 _).1, (z0 _).2, Int.add_zero, Int.add_zero] at h
        exact h
      obtain ⟨X, hX⟩ : ∃ X, tx (k % 4).toNat x y = X := ⟨_, rfl⟩
      obtain ⟨Y, hY⟩ : ∃ Y, ty (k % 4).toNat x y = Y := ⟨_, rfl⟩
      have T4 : aboutSays x y 0 0 k X Y true := by
        have h := aboutI x y 0 0 k p1 (b2 := true) (by decide) (b3 := true) (by rw [Int.sub_zero, Int.sub_zero, Int.zero_add, Int.zero_add]; exact pl_mk (txle hx hy) (tyle hx hy))
        rw [Int.sub_zero, Int.sub_zero, Int.zero_add, Int.zero_add, hX, hY] at h
        exact h
      have TP := turnI k p1
      rw [hX, hY] at TP
      obtain ⟨P3, Q3, B3, T3, hf⟩ : ∃ P3 Q3 B3, aboutSays P Q a b m P3 Q3 B3 ∧ (B = true → P3 = x ∧ Q3 = y ∧ B3 = true) := by
        cases B
        · exact ⟨_, _, _, aboutI P Q a b m rfl rfl rfl, fun h => by cases h⟩
        · obtain ⟨rfl, rfl, h3⟩ := hval rfl
          have e1 : ∀ i j : Int, i + j - i = j := fun i j => by omega
          have h := aboutI _ _ a b m h3 p2 (b3 := true) (by rw [e1, e1, hm2, (back_tx k _ _).1, (back_tx k _ _).2, show a + (x - a) = x by omega, show b + (y - b) = y by omega]; exact p1)
          rw [e1, e1, hm2, (back_tx k _ _).1, (back_tx k _ _).2, show a + (x - a) = x by omega, show b + (y - b) = y by omega] at h
          rw [hm2]
          exact ⟨x, y, true, h, fun _ => ⟨rfl, rfl, rfl⟩⟩
      replace T2 := Lib.hid T2
      replace T3 := Lib.hid T3
      replace T4 := Lib.hid T4
      replace TP := Lib.hid TP
      clear hval hm2 hx hy ha hb z0 hX hY p1 p2
      go_wp2_with fail
      refine (IP.out _).mono ?_
      rintro e u3 ⟨rfl, hb⟩
      clear cp0 cp1 lp mp cc0 cc1 lc mc cq0 cq1 lq mq
      have Kp := Lib.hid (HB.below ((Hp.out).alloc (.cells #[.int .i64 (P), .int .i64 (Q)] 25)) hb)
      have Kc := Lib.hid (HB.below ((Hc.out).alloc (.cells #[.int .i64 (P), .int .i64 (Q)] 25)) hb)
      have Kq := Lib.hid (HB.below ((Hq.out).alloc (.cells #[.int .i64 (P), .int .i64 (Q)] 25)) hb)
      have BB2 := Lib.hid (((BB.out).alloc (by have := BB.out.size; go_size) (.cells #[.int .i64 (P), .int .i64 (Q)] 25)).trans (hb.mono (by have := BB.out.size; go_size)))
      clear hb BB Hp Hc Hq
      have BB := BB2
      clear BB2
      have Hp := Kp
      clear Kp
      have Hc := Kc
      clear Kc
      have Hq := Kq
      clear Kq
      have cp0 := Hp.out.c0
      have cp1 := Hp.out.c1
      have lp := Hp.out.lt
      have mp : ∀ j, _ < u3.heap.size + j := fun j => Nat.lt_of_lt_of_le lp (Nat.le_add_right _ j)
      have cc0 := Hc.out.c0
      have cc1 := Hc.out.c1
      have lc := Hc.out.lt
      have mc : ∀ j, _ < u3.heap.size + j := fun j => Nat.lt_of_lt_of_le lc (Nat.le_add_right _ j)
      have cq0 := Hq.out.c0
      have cq1 := Hq.out.c1
      have lq := Hq.out.lt
      have mq : ∀ j, _ < u3.heap.size + j := fun j => Nat.lt_of_lt_of_le lq (Nat.le_add_right _ j)
      go_wp2_with fail
      refine (IC.out _).mono ?_
      rintro e u4 ⟨rfl, hb⟩
      clear cp0 cp1 lp mp cc0 cc1 lc mc cq0 cq1 lq mq
      have Kp := Lib.hid (HB.below (Hp.out) hb)
      have Kc := Lib.hid (HB.below (Hc.out) hb)
      have Kq := Lib.hid (HB.below (Hq.out) hb)
      have BB2 := Lib.hid ((BB.out).trans (hb.mono (by have := BB.out.size; go_size)))
      clear hb BB Hp Hc Hq
      have BB := BB2
      clear BB2
      have Hp := Kp
      clear Kp
      have Hc := Kc
      clear Kc
      have Hq := Kq
      clear Kq
      have cp0 := Hp.out.c0
      have cp1 := Hp.out.c1
      have lp := Hp.out.lt
      have mp : ∀ j, _ < u4.heap.size + j := fun j => Nat.lt_of_lt_of_le lp (Nat.le_add_right _ j)
      have cc0 := Hc.out.c0
      have cc1 := Hc.out.c1
      have lc := Hc.out.lt
      have mc : ∀ j, _ < u4.heap.size + j := fun j => Nat.lt_of_lt_of_le lc (Nat.le_add_right _ j)
      have cq0 := Hq.out.c0
      have cq1 := Hq.out.c1
      have lq := Hq.out.lt
      have mq : ∀ j, _ < u4.heap.size + j := fun j => Nat.lt_of_lt_of_le lq (Nat.le_add_right _ j)
      go_wp2_with fail
      refine (T2.out _).mono ?_
      rintro e u5 ⟨rfl, hb⟩
      clear cp0 cp1 lp mp cc0 cc1 lc mc cq0 cq1 lq mq
      have Kp := Lib.hid (HB.below (Hp.out) hb)
      have Kc := Lib.hid (HB.below (Hc.out) hb)
      have Kq := Lib.hid (HB.below (Hq.out) hb)
      have BB2 := Lib.hid ((BB.out).trans (hb.mono (by have := BB.out.size; go_size)))
      clear hb BB Hp Hc Hq
      have BB := BB2
      clear BB2
      have Hp := Kp
      clear Kp
      have Hc := Kc
      clear Kc
      have Hq := Kq
      clear Kq
      have cp0 := Hp.out.c0
      have cp1 := Hp.out.c1
      have lp := Hp.out.lt
      have mp : ∀ j, _ < u5.heap.size + j := fun j => Nat.lt_of_lt_of_le lp (Nat.le_add_right _ j)
      have cc0 := Hc.out.c0
      have cc1 := Hc.out.c1
      have lc := Hc.out.lt
      have mc : ∀ j, _ < u5.heap.size + j := fun j => Nat.lt_of_lt_of_le lc (Nat.le_add_right _ j)
      have cq0 := Hq.out.c0
      have cq1 := Hq.out.c1
      have lq := Hq.out.lt
      have mq : ∀ j, _ < u5.heap.size + j := fun j => Nat.lt_of_lt_of_le lq (Nat.le_add_right _ j)
      go_wp2_with fail
      refine (T3.out _).mono ?_
      rintro e u6 ⟨rfl, hb⟩
      clear cp0 cp1 lp mp cc0 cc1 lc mc cq0 cq1 lq mq
      have Kp := Lib.hid (HB.below ((Hp.out).alloc (.cells #[.int .i64 (a), .int .i64 (b)] 25)) hb)
      have Kc := Lib.hid (HB.below ((Hc.out).alloc (.cells #[.int .i64 (a), .int .i64 (b)] 25)) hb)
      have Kq := Lib.hid (HB.below ((Hq.out).alloc (.cells #[.int .i64 (a), .int .i64 (b)] 25)) hb)
      have Kd := Lib.hid (HB.below (HB.new u5 (a) (b)) hb)
      have BB2 := Lib.hid (((BB.out).alloc (by have := BB.out.size; go_size) (.cells #[.int .i64 (a), .int .i64 (b)] 25)).trans (hb.mono (by have := BB.out.size; go_size)))
      clear hb BB Hp Hc Hq
      have BB := BB2
      clear BB2
      have Hp := Kp
      clear Kp
      have Hc := Kc
      clear Kc
      have Hq := Kq
      clear Kq
      have Hd := Kd
      clear Kd
      have cp0 := Hp.out.c0
      have cp1 := Hp.out.c1
      have lp := Hp.out.lt
      have mp : ∀ j, _ < u6.heap.size + j := fun j => Nat.lt_of_lt_of_le lp (Nat.le_add_right _ j)
      have cc0 := Hc.out.c0
      have cc1 := Hc.out.c1
      have lc := Hc.out.lt
      have mc : ∀ j, _ < u6.heap.size + j := fun j => Nat.lt_of_lt_of_le lc (Nat.le_add_right _ j)
      have cq0 := Hq.out.c0
      have cq1 := Hq.out.c1
      have lq := Hq.out.lt
      have mq : ∀ j, _ < u6.heap.size + j := fun j => Nat.lt_of_lt_of_le lq (Nat.le_add_right _ j)
      have cd0 := Hd.out.c0
      have cd1 := Hd.out.c1
      have ld := Hd.out.lt
      have md : ∀ j, _ < u6.heap.size + j := fun j => Nat.lt_of_lt_of_le ld (Nat.le_add_right _ j)
      go_wp2_with fail
      refine (T4.out _).mono ?_
      rintro e u7 ⟨rfl, hb⟩
      clear cp0 cp1 lp mp cc0 cc1 lc mc cq0 cq1 lq mq cd0 cd1 ld md
      have Kp := Lib.hid (HB.below ((Hp.out).alloc (.cells #[.int .i64 (P3), .int .i64 (Q3)] 25)) hb)
      have Kc := Lib.hid (HB.below ((Hc.out).alloc (.cells #[.int .i64 (P3), .int .i64 (Q3)] 25)) hb)
      have Kq := Lib.hid (HB.below ((Hq.out).alloc (.cells #[.int .i64 (P3), .int .i64 (Q3)] 25)) hb)
      have Kd := Lib.hid (HB.below ((Hd.out).alloc (.cells #[.int .i64 (P3), .int .i64 (Q3)] 25)) hb)
      have Ke := Lib.hid (HB.below (HB.new u6 (P3) (Q3)) hb)
      have BB2 := Lib.hid (((BB.out).alloc (by have := BB.out.size; go_size) (.cells #[.int .i64 (P3), .int .i64 (Q3)] 25)).trans (hb.mono (by have := BB.out.size; go_size)))
      clear hb BB Hp Hc Hq Hd
      have BB := BB2
      clear BB2
      have Hp := Kp
      clear Kp
      have Hc := Kc
      clear Kc
      have Hq := Kq
      clear Kq
      have Hd := Kd
      clear Kd
      have He := Ke
      clear Ke
      have cp0 := Hp.out.c0
      have cp1 := Hp.out.c1
      have lp := Hp.out.lt
      have mp : ∀ j, _ < u7.heap.size + j := fun j => Nat.lt_of_lt_of_le lp (Nat.le_add_right _ j)
      have cc0 := Hc.out.c0
      have cc1 := Hc.out.c1
      have lc := Hc.out.lt
      have mc : ∀ j, _ < u7.heap.size + j := fun j => Nat.lt_of_lt_of_le lc (Nat.le_add_right _ j)
      have cq0 := Hq.out.c0
      have cq1 := Hq.out.c1
      have lq := Hq.out.lt
      have mq : ∀ j, _ < u7.heap.size + j := fun j => Nat.lt_of_lt_of_le lq (Nat.le_add_right _ j)
      have cd0 := Hd.out.c0
      have cd1 := Hd.out.c1
      have ld := Hd.out.lt
      have md : ∀ j, _ < u7.heap.size + j := fun j => Nat.lt_of_lt_of_le ld (Nat.le_add_right _ j)
      have ce0 := He.out.c0
      have ce1 := He.out.c1
      have le := He.out.lt
      have me : ∀ j, _ < u7.heap.size + j := fun j => Nat.lt_of_lt_of_le le (Nat.le_add_right _ j)
      cases B
      · clear hf
        go_wp2_with fail
        have hu : undef = Value.tuple #[] := rfl
        first | go_region_with (first | (go_at_call 20; refine (TP.out _).mono ?_; rintro e w' ⟨rfl, hb⟩; obtain ⟨hc, hf, l1, l2, n1, n2, n3, n4⟩ := open_below hb; have h8 := BB.out; have h9 := h8.size; have hB := Lib.hid (Below.trans (show Below w.heap.size w _ from (by go_grown)) (hb.mono (by go_size))); clear hb h8 h9)) | fail
        all_goals go_wp2_with fail
        all_goals go_returns
        all_goals exact ⟨rfl, hB.out⟩
      · obtain ⟨e1, e2, rfl⟩ := hf rfl
        subst e1 e2
        clear hf
        go_wp2_with fail
        go_region_held3 (fun w' => w'.cell? ⟨u0.heap.size, 0, none⟩ = some (.int .i64 (P3)) ∧ w'.cell? ⟨u0.heap.size, 1, none⟩ = some (.int .i64 (Q3)) ∧ w'.cell? ⟨u6.heap.size, 0, none⟩ = some (.int .i64 (P3)) ∧ w'.cell? ⟨u6.heap.size, 1, none⟩ = some (.int .i64 (Q3)) ∧ w'.cell? ⟨u7.heap.size, 0, none⟩ = some (.int .i64 (X)) ∧ w'.cell? ⟨u7.heap.size, 1, none⟩ = some (.int .i64 (Y))) (first | (simp [go_sem, *]; done) | (refine ⟨?_, ?_, ?_, ?_, ?_, ?_⟩ <;> (refine cell_alloc ?_) <;> (simp [go_sem, *]; done)))
          (first | (go_at_call 20; refine (TP.out _).mono ?_; rintro e w' ⟨rfl, hb⟩; obtain ⟨hc, hf, l1, l2, n1, n2, n3, n4⟩ := open_below hb; have h8 := BB.out; have h9 := h8.size; have hB := Lib.hid (Below.trans (show Below w.heap.size w _ from (by go_grown)) (hb.mono (by go_size))); clear hb h8 h9))
        all_goals go_wp2_with fail
        all_goals go_returns
        all_goals exact ⟨rfl, hB.out⟩
  · go_enter Try.func4, Try.ntmps4
    have d : (decide ((n : Int) > 4096)) = true := decide_eq_true (by omega)
    go_wp2_with (go_at_call 15; go_enter Try.func15, Try.ntmps15)
    all_goals go_returns
    all_goals exact ⟨rfl, Below.refl _ _⟩

set_option maxRecDepth 100000 in
theorem lifted (os : Os) (started : os.Started) (H : Type) (enc : TypeId × Value → H) :
    ReturnsInHanded {} Try.checked os 4 .any (Rows.fnTurnAboutSpec.pre6 enc Try.prog Try.f4 Rows.fnTurnAboutRow.domain false) (Rows.fnTurnAboutSpec.post enc Try.prog Try.f4 false true false false) := by
  refine returnsInHanded_of_change (C := Try.checked) own started (by kernel_rfl) Try.func4
    (ChangeSpec.witness6 (enc := enc) (C := Try.checked) false ⟨#[], #[.slice none 0 0], []⟩ 8 (by kernel_rfl) (by kernel_rfl) (by kernel_rfl) (by kernel_rfl)) ?_
  intro W base args ds gs before hval0 hW hcnd hsz
  have hval : ∀ (j : Nat) t v, Try.f4.params[j]? = some t → args[j]? = some v → Value.okWide Try.prog W .any base t v := hval0
  have hW' := hW
  obtain ⟨p, q, hA0, hV, rfl, hfz, hnd⟩ := hW
  have hA1 := hA0
  have hA : DataW.TrodAll enc Try.prog W 0 (fun _ => true) true Try.f4.params.toList args.toList ds p := hA0
  rw [Try.params4] at hA hval
  obtain ⟨v0, vs0, d0, ds0, p0, q0, hargs, rfl, rfl, h0, r0⟩ := trodAll_cons hA
  obtain ⟨rfl, rfl, rfl⟩ := trodAll_nil r0
  obtain rfl : args = #[v0] := by cases args; simp_all
  obtain ⟨rfl, rfl⟩ := trodVars_none hV
  obtain ⟨A0, n0, c0, a0, rfl, l0, m0, g0⟩ := RampFn.take_bytes Try.underlying22 Try.underlying5 (by kernel_rfl) (hval 0 22 v0 rfl rfl) h0
  clear hA0 hval0
  rw [List.append_nil] at hW'
  refine (walk A0 n0 c0 a0 l0 m0 W g0).mono fun e W' ⟨he, hb⟩ => ?_
  subst he
  exact ⟨_, rfl, post_law rfl hW' hA1 laidOut (by rw [Try.params4]; exact of_decide_eq_true (by kernel_rfl)) 4 (by kernel_rfl) Try.underlying4 rfl hb⟩

theorem over : Rows.fnTurnAboutRow.holds Try.pinned (OpenSpec.ofChange Rows.fnTurnAboutSpec) :=
  OpenClaim.holds_of_wide 4 Try.f4 rfl rfl rfl rfl rfl rfl rfl ⟨rfl, rfl, rfl, rfl, rfl⟩ rfl rfl rfl rfl rfl (by kernel_rfl) Try.func4 (by kernel_rfl)
    (of_decide_eq_true (by kernel_rfl)) (by unfold Func.isWrapper; first | (rw [if_pos (by decide +kernel)]; kernel_rfl) | (rw [if_neg (by decide +kernel)]; exact ⟨rfl, rfl⟩))
    (fun os started H enc _ => lifted os started H enc)

/-- The statement. -/
theorem proved : Rows.FnTurnAboutSaid :=
  over
#print axioms proved
end Go.Proofs.Ytoifcnphmdldhaa.fnTurnAbout
