/- The law FnTurns holds at every input. The step from the walk to the row follows the guide's own template. -/
import Derived.Test.YtoifcnphmdldhaaMem
import Derived.Test.YtoifcnphmdldhaaTp
import Derived.Test.YtoifcnphmdldhaaDr3
import Derived.Test.YtoifcnphmdldhaaHd
import Derived.Test.YtoifcnphmdldhaaTakeC
import Derived.Deep.RegionHeld3
import Derived.Deep.DeepCutAuto
namespace Go.Proofs.Ytoifcnphmdldhaa.fnTurns
open Go.ChangeShapes Go.WideShapes Go.ChangeAt Go.RowKit Go.WideMaps Go.WideElems Go.Proofs.Ytoifcnphmdldhaa.Mem
open Go.ChangeMaps (open_string shut_string)
set_option linter.unusedVariables false

theorem own : ownKnob Try.prog.godebug = none := by kernel_rfl
theorem laidOut : laidOutB Try.prog = true := by kernel_rfl

open Go.Proofs.Ytoifcnphmdldhaa.Cm Go.Proofs.Ytoifcnphmdldhaa.Pl Go.Proofs.Ytoifcnphmdldhaa.Str Go.Proofs.Ytoifcnphmdldhaa.Pw Go.Proofs.Ytoifcnphmdldhaa.P2 Go.Proofs.Ytoifcnphmdldhaa.Tp Go.Proofs.Ytoifcnphmdldhaa.Hd Go.Proofs.Ytoifcnphmdldhaa.Draw Go.Proofs.Ytoifcnphmdldhaa.Dr2 Go.Proofs.Ytoifcnphmdldhaa.Dr3

abbrev turnSays (x y n P Q : Int) : Prop := ∀ w, Calls Try.prog 20 #[.agg #[.int .i64 x, .int .i64 y], .int .i64 n] w fun e w' => e = .returned (.agg #[.int .i64 P, .int .i64 Q]) ∧ Below w.heap.size w w'

theorem sq_le {x : Int} (h : -4096 ≤ x ∧ x ≤ 4096) : 0 ≤ x * x ∧ x * x ≤ 16777216 := by
  constructor
  · rcases Int.le_total 0 x with c | c
    · exact Int.mul_nonneg c c
    · exact Int.mul_nonneg_of_nonpos_of_nonpos c c
  · rcases Int.le_total 0 x with c | c
    · exact Int.le_trans (Int.mul_le_mul_of_nonneg_left h.2 c) (by omega)
    · have : x * x = (-x) * (-x) := by rw [Int.neg_mul_neg]
      rw [this]
      exact Int.le_trans (Int.mul_le_mul_of_nonneg_left (show -x ≤ 4096 by omega) (by omega)) (by omega)

theorem facts (x y k m : Int) (hp : (ms x && ms y) = true) : ∃ X Y m1 s U V T, ((ms X && ms Y) = true ∧ tx (k % 4).toNat x y = X ∧ ty (k % 4).toNat x y = Y) ∧ (wrap64 (4 - k.tmod 4) = m1 ∧ IntKind.i64.wrap (4 - k.tmod 4) = m1) ∧ (tx (m1 % 4).toNat X Y = x ∧ ty (m1 % 4).toNat X Y = y) ∧ (tx (k.tmod 4 % 4).toNat x y = X ∧ ty (k.tmod 4 % 4).toNat x y = Y) ∧
    (wrap64 (k.tmod 4 + m.tmod 4) = s ∧ IntKind.i64.wrap (k.tmod 4 + m.tmod 4) = s) ∧ (tx (m.tmod 4 % 4).toNat X Y = U ∧ ty (m.tmod 4 % 4).toNat X Y = V) ∧ (tx (s % 4).toNat x y = U ∧ ty (s % 4).toNat x y = V) ∧
    (IntKind.i64.wrap (X * X) = X * X ∧ IntKind.i64.wrap (Y * Y) = Y * Y ∧ IntKind.i64.wrap (x * x) = x * x ∧ IntKind.i64.wrap (y * y) = y * y ∧ IntKind.i64.wrap (X * X + Y * Y) = T ∧ IntKind.i64.wrap (x * x + y * y) = T) := by
  obtain ⟨hx, hy⟩ := pl_yes hp
  have bX := txle (k := (k % 4).toNat) hx hy
  have bY := tyle (k := (k % 4).toNat) hx hy
  have hq := pl_mk bX bY
  have r1 := tmod_range k
  have r2 := tmod_range m
  have t1 := tmod4 k
  have t2 := tmod4 m
  have e3 : k.tmod 4 % 4 = k % 4 := by split at t1 <;> omega
  have e4 : m.tmod 4 % 4 = m % 4 := by split at t2 <;> omega
  have e5 : (k.tmod 4 + m.tmod 4) % 4 = (k % 4 + m % 4) % 4 := by split at t1 <;> split at t2 <;> omega
  have comp : tx ((k.tmod 4 + m.tmod 4) % 4).toNat x y = tx (m % 4).toNat (tx (k % 4).toNat x y) (ty (k % 4).toNat x y) ∧ ty ((k.tmod 4 + m.tmod 4) % 4).toNat x y = ty (m % 4).toNat (tx (k % 4).toNat x y) (ty (k % 4).toNat x y) := by
    rw [e5]
    rcases mod4_cases k with h | h | h | h <;> rcases mod4_cases m with g | g | g | g <;> rw [h, g] <;> simp [tx, ty]
  have sq : tx (k % 4).toNat x y * tx (k % 4).toNat x y + ty (k % 4).toNat x y * ty (k % 4).toNat x y = x * x + y * y := by
    rcases mod4_cases k with h | h | h | h <;> rw [h] <;> simp [tx, ty, Int.neg_mul_neg] <;> omega
  have s1 := sq_le bX
  have s2 := sq_le bY
  have s3 := sq_le hx
  have s4 := sq_le hy
  have bk := back_tx k x y
  refine ⟨_, _, 4 - k.tmod 4, k.tmod 4 + m.tmod 4, _, _, x * x + y * y, ⟨hq, rfl, rfl⟩, ⟨IntWalk.wrap64_in _ (by omega), IntWalk.i64_in _ (by omega)⟩, bk, by rw [e3]; exact ⟨rfl, rfl⟩, ⟨IntWalk.wrap64_in _ (by omega), IntWalk.i64_in _ (by omega)⟩, by rw [e4]; exact ⟨rfl, rfl⟩, comp, IntWalk.i64_in _ (by omega), IntWalk.i64_in _ (by omega), IntWalk.i64_in _ (by omega), IntWalk.i64_in _ (by omega), ?_, IntWalk.i64_in _ (by omega)⟩
  rw [sq]
  exact IntWalk.i64_in _ (by omega)

theorem hfacts (h m k : Int) (hh : hd h = true) : ∃ r v s, th h m = r ∧ hd r = true ∧ th r (k.tmod 4) = v ∧ wrap64 (m.tmod 4 + k.tmod 4) = s ∧ th h s = v := by
  have r1 := tmod_range k
  have r2 := tmod_range m
  have t1 := tmod4 k
  have t2 := tmod4 m
  have e : th h m = (h + m) % 4 := by unfold th; rw [hh]; rfl
  have hr : hd ((h + m) % 4) = true := hd_mk (by omega)
  refine ⟨_, _, m.tmod 4 + k.tmod 4, rfl, by rw [e]; exact hr, rfl, IntWalk.wrap64_in _ (by omega), ?_⟩
  rw [e]
  unfold th
  rw [hh, hr]
  simp only [if_true]
  split at t1 <;> split at t2 <;> omega

set_option maxHeartbeats 4000000 in
set_option maxRecDepth 100000 in
theorem walk (A : Option Addr) (n c : Nat) (bs : List UInt8) (hn : bs.length = n) (hm : n ≤ maxLen) (w : World) (hr : Rd w w.heap.size A (Draw.u8s bs)) :
    Calls Try.prog 3 #[.slice A n c] w fun e w' => e = .returned (.bool true) ∧ Below w.heap.size w w' := by
  by_cases hbig : (n : Int) ≤ 4096
  · have D := Lib.hid (drawTurnPlace w A n c bs hn (by omega) hr)
    have D2 := Lib.hid (fun (W : World) (hW : Below w.heap.size w W) => drawTurnHeading W A n c bs hn (by omega) ((hr.below hW).more hW.size))
    clear hn hm hr
    go_enter Try.func3, Try.ntmps3
    go_wp2_with (go_at_call 15; go_enter Try.func15, Try.ntmps15)
    refine D.out.mono ?_
    rintro e u0 ⟨x, y, k, hx, hy, hk, rfl, hB⟩
    have BB := Lib.hid hB
    clear D hbig hx hy hk hB
    have h8 := BB.out
    have h9 := h8.size
    go_wp2_with fail
    refine (D2.out _ (by go_grown)).mono ?_
    rintro e u1 ⟨h, m, hh, hm, rfl, hb⟩
    have Kp := Lib.hid (CB.below (CB.new u0 (x) (y)) hb)
    have BB2 := Lib.hid (((BB.out).alloc (by have := BB.out.size; go_size) (.cells #[.int .i64 (x), .int .i64 (y)] 25)).trans (hb.mono (by have := BB.out.size; go_size)))
    clear hb BB
    have BB := BB2
    clear BB2
    have Hp := Kp
    clear Kp
    have cp0 := Hp.out.c0
    have cp1 := Hp.out.c1
    have lp := Hp.out.lt
    have mp : ∀ j, _ < u1.heap.size + j := fun j => Nat.lt_of_lt_of_le lp (Nat.le_add_right _ j)
    clear D2 h8 h9 hh hm
    cases hp : (ms x && ms y)
    · have CI := Lib.hid (isPlaceI_of hp)
      have CS := Lib.hid (isPlaceS_of hp)
      go_wp2_with fail
      go_region_held3 (fun w' => w'.cell? ⟨u0.heap.size, 0, none⟩ = some (.int .i64 (x)) ∧ w'.cell? ⟨u0.heap.size, 1, none⟩ = some (.int .i64 (y))) (first | (simp [go_sem, *]; done) | (refine ⟨?_, ?_⟩ <;> (refine cell_alloc ?_) <;> (simp [go_sem, *]; done)))
        (first
          | (go_at_call 18; refine (CI.out _).mono ?_; rintro e w' ⟨rfl, rfl⟩)
          | (go_at_call 19; refine (CS.out _).mono ?_; rintro e w' ⟨rfl, rfl⟩))
      have TN := Lib.hid (turnI_no k hp)
      clear hp
      go_wp2_with (first
        | (go_at_call 18; refine (CI.out _).mono ?_; rintro e w' ⟨rfl, rfl⟩)
        | (go_at_call 20; refine (TN.out _).mono ?_; rintro e w' ⟨rfl, hb⟩; have h8 := BB.out; have h9 := h8.size; have hB := Lib.hid (Below.trans (show Below w.heap.size w _ from (by go_grown)) (hb.mono (by go_size))); clear hb h8 h9))
      all_goals go_returns
      all_goals exact ⟨rfl, hB.out⟩
    · have CI := Lib.hid (isPlaceI_of hp)
      have CS := Lib.hid (isPlaceS_of hp)
      go_wp2_with fail
      go_region_held3 (fun w' => w'.cell? ⟨u0.heap.size, 0, none⟩ = some (.int .i64 (x)) ∧ w'.cell? ⟨u0.heap.size, 1, none⟩ = some (.int .i64 (y))) (first | (simp [go_sem, *]; done) | (refine ⟨?_, ?_⟩ <;> (refine cell_alloc ?_) <;> (simp [go_sem, *]; done)))
        (first
          | (go_at_call 18; refine (CI.out _).mono ?_; rintro e w' ⟨rfl, rfl⟩)
          | (go_at_call 19; refine (CS.out _).mono ?_; rintro e w' ⟨rfl, rfl⟩))
      obtain ⟨X, Y, m1, sm, U, V, T, ⟨hq, b1, b2⟩, ⟨f1, f2⟩, ⟨b3, b4⟩, ⟨b5, b6⟩, ⟨f3, f4⟩, ⟨b7, b8⟩, ⟨b9, b10⟩, g1, g2, g3, g4, g5, g6⟩ := facts x y k m hp
      have a1 := turnI k hp
      rw [b1, b2] at a1
      replace a1 := Lib.hid a1
      go_wp2_with (go_at_call 18; refine (CI.out _).mono ?_; rintro e w' ⟨rfl, rfl⟩)
      refine (a1.out _).mono ?_
      rintro e u2 ⟨rfl, hb⟩
      have h8 := BB.out
      have h9 := h8.size
      have BB2 := Lib.hid (Below.trans (show Below w.heap.size w _ from (by go_grown)) (hb.mono (by go_size)))
      have Kp := Lib.hid (show CB u2 (u0.heap.size) x y from ⟨cell_below hb (by simp [go_sem, *]), cell_below hb (by simp [go_sem, *])⟩)
      clear hb h8 h9 BB Hp cp0 cp1 lp mp
      have BB := BB2
      have Hp := Kp
      clear BB2 Kp
      have cp0 := Hp.out.c0
      have cp1 := Hp.out.c1
      have lp := Hp.out.lt
      have mp : ∀ j, _ < u2.heap.size + j := fun j => Nat.lt_of_lt_of_le lp (Nat.le_add_right _ j)
      clear a1 CI CS b1 b2
      go_upto_region 10 with fail
      go_cut [75] (fun s wx => s = .bool false ∧ Below w.heap.size w wx ∧ CB wx (u0.heap.size) x y ∧ CB wx (u2.heap.size) X Y)
      case first =>
        have f5 := f1
        have lq : u2.heap.size < u2.heap.size + 1 := Nat.lt_succ_self _
        go_region_held3 (fun w' => w'.cell? ⟨u0.heap.size, 0, none⟩ = some (.int .i64 (x)) ∧ w'.cell? ⟨u0.heap.size, 1, none⟩ = some (.int .i64 (y)) ∧ w'.cell? ⟨u2.heap.size, 0, none⟩ = some (.int .i64 (X)) ∧ w'.cell? ⟨u2.heap.size, 1, none⟩ = some (.int .i64 (Y))) (first | (simp [go_sem, *]; done) | (refine ⟨?_, ?_, ?_, ?_⟩ <;> (refine cell_alloc ?_) <;> (simp [go_sem, *]; done)))
          (first | (go_at_call 20; refine (turnI _ (by assumption) _).mono ?_; rintro e w' ⟨rfl, hb⟩; obtain ⟨hc, hf, l1, l2, n1, n2, n3, n4⟩ := open_below hb; have h8 := BB.out; have h9 := h8.size; have hB := Lib.hid (Below.trans (show Below w.heap.size w _ from (by go_grown)) (hb.mono (by go_size))); clear hb h8 h9; replace BB := hB; clear hB))
        all_goals go_wp2_with fail
        all_goals go_meet
        all_goals exact ⟨rfl, BB.out, ⟨by simp [go_sem, *], by simp [go_sem, *]⟩, ⟨by simp [go_sem, *], by simp [go_sem, *]⟩⟩
      case rest =>
        obtain ⟨rfl, hBw, Kp, Kq⟩ := hcut
        generalize wc = wa at *
        clear BB Hp g1 g2 g3 g4 g5 g6 f1 f2 b3 b4 b5 b6 cp0 cp1 lp mp
        have BB := Lib.hid hBw
        clear hBw
        have cp0 := Kp.c0
        have cp1 := Kp.c1
        have lp := Kp.lt
        have mp : ∀ j, _ < wa.heap.size + j := fun j => Nat.lt_of_lt_of_le lp (Nat.le_add_right _ j)
        have cq0 := Kq.c0
        have cq1 := Kq.c1
        have lq := Kq.lt
        have mq : ∀ j, _ < wa.heap.size + j := fun j => Nat.lt_of_lt_of_le lq (Nat.le_add_right _ j)
        replace Kp := Lib.hid Kp
        replace Kq := Lib.hid Kq
        go_upto_region 12 with fail
        go_cut [87] (fun s wx => s = .bool false ∧ Below w.heap.size w wx)
        case first =>
          go_region_held3 (fun w' => w'.cell? ⟨u0.heap.size, 0, none⟩ = some (.int .i64 (x)) ∧ w'.cell? ⟨u0.heap.size, 1, none⟩ = some (.int .i64 (y)) ∧ w'.cell? ⟨u2.heap.size, 0, none⟩ = some (.int .i64 (X)) ∧ w'.cell? ⟨u2.heap.size, 1, none⟩ = some (.int .i64 (Y))) (first | exact ⟨by assumption, by assumption, by assumption, by assumption⟩ | (simp [go_sem, *]; done))
            (first | (go_at_call 20; refine (turnI _ (by assumption) _).mono ?_; rintro e w' ⟨rfl, hb⟩; have y0 : w'.cell? ⟨u0.heap.size, 0, none⟩ = some (.int .i64 (x)) := (cell_below hb (by simp [go_sem, *])); have y1 : w'.cell? ⟨u0.heap.size, 1, none⟩ = some (.int .i64 (y)) := (cell_below hb (by simp [go_sem, *])); have y2 : w'.cell? ⟨u2.heap.size, 0, none⟩ = some (.int .i64 (X)) := (cell_below hb (by simp [go_sem, *])); have y3 : w'.cell? ⟨u2.heap.size, 1, none⟩ = some (.int .i64 (Y)) := (cell_below hb (by simp [go_sem, *])); have h8 := BB.out; have h9 := h8.size; have hB := Lib.hid (Below.trans (show Below w.heap.size w _ from (by go_grown)) (hb.mono (by go_size))); clear hb h8 h9; replace BB := hB; clear hB))
          all_goals go_wp2_with fail
          all_goals go_meet
          all_goals exact ⟨rfl, BB.out⟩
        case rest =>
          obtain ⟨rfl, hBw⟩ := hcut
          clear BB Kp Kq cp0 cp1 lp mp cq0 cq1 lq mq f3 f4 b7 b8 b9 b10 hp hq
          cases hh : hd h
          · have C1 := Lib.hid (isHeadingI_of hh)
            clear hh
            go_wp2_with fail
            refine (C1.out _).mono ?_
            rintro e w' ⟨rfl, rfl⟩
            go_wp2_with fail
            go_returns
            exact ⟨rfl, hBw⟩
          · obtain ⟨r, v, so, e1, e2, e3, e4, e5⟩ := hfacts h m k hh
            have C1 := Lib.hid (isHeadingI_of hh)
            have C2 := Lib.hid (isHeadingI_of e2)
            have C3 := Lib.hid (e1 ▸ turnHeadingI h m)
            have C4 := Lib.hid (e3 ▸ turnHeadingI r (k.tmod 4))
            have C5 := Lib.hid (e5 ▸ turnHeadingI h so)
            clear hh e1 e2 e3 e5
            go_wp2_with fail
            refine (C1.out _).mono ?_
            rintro e w' ⟨rfl, rfl⟩
            go_wp2_with fail
            refine (C3.out _).mono ?_
            rintro e w' ⟨rfl, rfl⟩
            go_wp2_with fail
            refine (C4.out _).mono ?_
            rintro e w' ⟨rfl, rfl⟩
            go_wp2_with fail
            refine (C5.out _).mono ?_
            rintro e w' ⟨rfl, rfl⟩
            go_wp2_with fail
            refine (C3.out _).mono ?_
            rintro e w' ⟨rfl, rfl⟩
            go_wp2_with fail
            refine (C2.out _).mono ?_
            rintro e w' ⟨rfl, rfl⟩
            go_wp2_with fail
            go_returns
            exact ⟨rfl, hBw⟩
  · go_enter Try.func3, Try.ntmps3
    have d : (decide ((n : Int) > 4096)) = true := decide_eq_true (by omega)
    go_wp2_with (go_at_call 15; go_enter Try.func15, Try.ntmps15)
    all_goals go_returns
    all_goals exact ⟨rfl, Below.refl _ _⟩

set_option maxRecDepth 100000 in
theorem lifted (os : Os) (started : os.Started) (H : Type) (enc : TypeId × Value → H) :
    ReturnsInHanded {} Try.checked os 3 .any (Rows.fnTurnsSpec.pre6 enc Try.prog Try.f3 Rows.fnTurnsRow.domain false) (Rows.fnTurnsSpec.post enc Try.prog Try.f3 false true false false) := by
  refine returnsInHanded_of_change (C := Try.checked) own started (by kernel_rfl) Try.func3
    (ChangeSpec.witness6 (enc := enc) (C := Try.checked) false ⟨#[], #[.slice none 0 0], []⟩ 8 (by kernel_rfl) (by kernel_rfl) (by kernel_rfl) (by kernel_rfl)) ?_
  intro W base args ds gs before hval0 hW hcnd hsz
  have hval : ∀ (j : Nat) t v, Try.f3.params[j]? = some t → args[j]? = some v → Value.okWide Try.prog W .any base t v := hval0
  have hW' := hW
  obtain ⟨p, q, hA0, hV, rfl, hfz, hnd⟩ := hW
  have hA1 := hA0
  have hA : DataW.TrodAll enc Try.prog W 0 (fun _ => true) true Try.f3.params.toList args.toList ds p := hA0
  rw [Try.params3] at hA hval
  obtain ⟨v0, vs0, d0, ds0, p0, q0, hargs, rfl, rfl, h0, r0⟩ := trodAll_cons hA
  obtain ⟨rfl, rfl, rfl⟩ := trodAll_nil r0
  obtain rfl : args = #[v0] := by cases args; simp_all
  obtain ⟨rfl, rfl⟩ := trodVars_none hV
  obtain ⟨A0, n0, c0, a0, rfl, l0, m0, g0⟩ := RampFn.take_bytes Try.underlying22 Try.underlying5 (by kernel_rfl) (hval 0 22 v0 rfl rfl) h0
  clear hA0 hval0
  rw [List.append_nil] at hW'
  refine (walk A0 n0 c0 a0 l0 m0 W g0).mono fun e W' ⟨he, hb⟩ => ?_
  subst he
  exact ⟨_, rfl, post_law rfl hW' hA1 laidOut (by rw [Try.params3]; exact of_decide_eq_true (by kernel_rfl)) 4 (by kernel_rfl) Try.underlying4 rfl hb⟩

theorem over : Rows.fnTurnsRow.holds Try.pinned (OpenSpec.ofChange Rows.fnTurnsSpec) :=
  OpenClaim.holds_of_wide 3 Try.f3 rfl rfl rfl rfl rfl rfl rfl ⟨rfl, rfl, rfl, rfl, rfl⟩ rfl rfl rfl rfl rfl (by kernel_rfl) Try.func3 (by kernel_rfl)
    (of_decide_eq_true (by kernel_rfl)) (by unfold Func.isWrapper; first | (rw [if_pos (by decide +kernel)]; kernel_rfl) | (rw [if_neg (by decide +kernel)]; exact ⟨rfl, rfl⟩))
    (fun os started H enc _ => lifted os started H enc)

/-- The statement. -/
theorem proved : Rows.FnTurnsSaid :=
  over
#print axioms proved
end Go.Proofs.Ytoifcnphmdldhaa.fnTurns
