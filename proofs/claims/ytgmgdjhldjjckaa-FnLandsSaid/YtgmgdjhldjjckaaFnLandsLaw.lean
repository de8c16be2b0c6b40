/- The law FnLands holds at every input. The step from the walk to the row follows the guide's own template. -/
import Derived.Test.YtgmgdjhldjjckaaMem
import Derived.Test.YtgmgdjhldjjckaaDr4
import Derived.Test.YtgmgdjhldjjckaaSf
import Derived.Test.YtgmgdjhldjjckaaFu
import Derived.Test.YtgmgdjhldjjckaaTakeC
import Derived.Deep.RegionHeld3
import Derived.Deep.DeepCutAuto
namespace Go.Proofs.Ytgmgdjhldjjckaa.fnLands
open Go.ChangeShapes Go.WideShapes Go.ChangeAt Go.RowKit Go.WideMaps Go.WideElems Go.Proofs.Ytgmgdjhldjjckaa.Mem
open Go.ChangeMaps (open_string shut_string)
set_option linter.unusedVariables false
set_option linter.unusedSimpArgs false

theorem own : ownKnob Try.prog.godebug = none := by kernel_rfl
theorem laidOut : laidOutB Try.prog = true := by kernel_rfl

open Go.Proofs.Ytgmgdjhldjjckaa.Sf Go.Proofs.Ytgmgdjhldjjckaa.Cm Go.Proofs.Ytgmgdjhldjjckaa.Pl Go.Proofs.Ytgmgdjhldjjckaa.Str Go.Proofs.Ytgmgdjhldjjckaa.Pw Go.Proofs.Ytgmgdjhldjjckaa.P2 Go.Proofs.Ytgmgdjhldjjckaa.Hd Go.Proofs.Ytgmgdjhldjjckaa.Draw Go.Proofs.Ytgmgdjhldjjckaa.Dr2 Go.Proofs.Ytgmgdjhldjjckaa.Dr4 Go.Proofs.Ytgmgdjhldjjckaa.Jt Go.Proofs.Ytgmgdjhldjjckaa.Dp

theorem J5.far {w : World} {b b' i : Nat} {u : Value} {x y h t l : Int} (e : b' ≠ b) (k : J5 w b x y h t l) : J5 (w.setCell ⟨b', i, none⟩ u) b x y h t l :=
  have f : ∀ o c, w.cell? ⟨b, o, none⟩ = some c → (w.setCell ⟨b', i, none⟩ u).cell? ⟨b, o, none⟩ = some c := fun o c h => (World.cell?_setCell_other _ _ _ _ (by simp [e])).trans h
  ⟨f _ _ k.1, f _ _ k.2.1, f _ _ k.2.2.1, f _ _ k.2.2.2.1, f _ _ k.2.2.2.2⟩
theorem HB.below {w w' : World} {b : Nat} {x y : Int} (h : HB w b x y) (hb : Below w.heap.size w w') : HB w' b x y := (hb.block b h.lt).trans h
theorem S9 {W : World} {b c d : Nat} {x y h t l u v p q : Int} (k : JB W b x y h t l) (k2 : HB W c u v) (k3 : HB W d p q) : W.cell? ⟨b, 0, none⟩ = some (.int .i64 x) ∧ W.cell? ⟨b, 1, none⟩ = some (.int .i64 y) ∧ W.cell? ⟨b, 2, none⟩ = some (.int .i64 h) ∧ W.cell? ⟨b, 3, none⟩ = some (.int .i64 t) ∧ W.cell? ⟨b, 4, none⟩ = some (.int .i64 l) ∧ W.cell? ⟨c, 0, none⟩ = some (.int .i64 u) ∧ W.cell? ⟨c, 1, none⟩ = some (.int .i64 v) ∧ W.cell? ⟨d, 0, none⟩ = some (.int .i64 p) ∧ W.cell? ⟨d, 1, none⟩ = some (.int .i64 q) :=
  ⟨k.c.1, k.c.2.1, k.c.2.2.1, k.c.2.2.2.1, k.c.2.2.2.2, k2.c0, k2.c1, k3.c0, k3.c1⟩
theorem step_at {x y h t l : Int} (hj : jt x y h t l = true) (k m : Nat) (hk : (k + m : Int) ≤ 33) (r : Int) (hr : r = (m : Int) * t) (w : World) :
    Calls Try.prog 22 #[.agg #[.int .i64 (wy x (tx h.toNat t 0) k), .int .i64 (wy y (ty h.toNat t 0) k)], .int .i64 h, .int .i64 r] w fun e w' => e = .returned (.tuple #[agg2 (wy x (tx h.toNat t 0) (k + m)) (wy y (ty h.toNat t 0) (k + m)), .bool true]) ∧ Below w.heap.size w w' := by
  obtain ⟨hx, hy, hh, ht, hl⟩ := jt_iff.1 hj
  have o := ok_of hj
  have b1 := wy_le (k := k) o.x o.p (by omega)
  have b2 := wy_le (k := k) o.y o.q (by omega)
  have b3 := wy_le (k := k + m) o.x o.p (by omega)
  have b4 := wy_le (k := k + m) o.y o.q (by omega)
  have bt := mul_le (N := m) (P := t) (by omega) (by omega)
  subst hr
  have e1 : wy x (tx h.toNat t 0) k + tx (h % 4).toNat ((m : Int) * t) 0 = wy x (tx h.toNat t 0) (k + m) := by
    rw [show h % 4 = h by omega, tx_mul]; unfold wy; rw [show (((k + m : Nat) : Int)) = (k : Int) + m by omega, Int.add_mul]; omega
  have e2 : wy y (ty h.toNat t 0) k + ty (h % 4).toNat ((m : Int) * t) 0 = wy y (ty h.toNat t 0) (k + m) := by
    rw [show h % 4 = h by omega, ty_mul]; unfold wy; rw [show (((k + m : Nat) : Int)) = (k : Int) + m by omega, Int.add_mul]; omega
  have S := stepI_yes (x := wy x (tx h.toNat t 0) k) (y := wy y (ty h.toNat t 0) k) (h := h) (k := (m : Int) * t) (b := true) (pl_mk (by omega) (by omega)) (hd_mk hh) (ms_yes (by omega) (by omega)) (by rw [e1, e2]; exact pl_mk (by omega) (by omega)) w
  rw [e1, e2] at S
  exact S

set_option maxHeartbeats 4000000 in
set_option maxRecDepth 100000 in
theorem walk (A : Option Addr) (n c : Nat) (bs : List UInt8) (hn : bs.length = n) (hm : n ≤ maxLen) (w : World) (hr : Rd w w.heap.size A (Draw.u8s bs)) :
    Calls Try.prog 5 #[.slice A n c] w fun e w' => e = .returned (.bool true) ∧ Below w.heap.size w w' := by
  by_cases hbig : (n : Int) ≤ 4096
  · have D := Lib.hid (drawJet w A n c bs hn (by omega) hr)
    clear hm
    go_enter Try.func5, Try.ntmps5
    go_wp2_with (go_at_call 15; go_enter Try.func15, Try.ntmps15)
    refine D.out.mono ?_
    rintro e u0 ⟨x, y, h, t, l, hj, rfl, hB⟩
    have BB := Lib.hid hB
    have J := Lib.hid hj
    have hl := (jt_iff.1 hj).2.2.2.2
    clear D hbig hB hn hr
    obtain ⟨N, hN⟩ : ∃ N : Nat, (N : Int) = l + 1 := ⟨(l + 1).toNat, by omega⟩
    have F := flightI x y h t l
    rw [fl_yes hj, ← hN] at F
    have LD := landI x y h t l
    unfold landV at LD
    rw [fl_yes hj, ← hN, told2_yes (inF_iff.2 ⟨hj, by omega, by omega⟩), Int.toNat_natCast] at LD
    have R := reachI x y h t l
    have eR : rc x y h t l = (N : Int) * t := by unfold rc; rw [fl_yes hj, hN]
    rw [eR] at R
    have mt := mul_le (N := N) (P := t) (by omega) (by have := jt_iff.1 hj; omega)
    have w0 : wy x (tx h.toNat t 0) 0 = x := wy_zero _ _
    have w0y : wy y (ty h.toNat t 0) 0 = y := wy_zero _ _
    have ST := step_at hj 0 N (by omega) _ rfl
    rw [w0, w0y, Nat.zero_add] at ST
    have PL := fun (k : Nat) (hk : (k : Int) ≤ l + 1) => (show ∀ w, Calls Try.prog 24 #[jv x y h t l, .int .i64 k] w fun e w' => e = .returned (.tuple #[agg2 (wy x (tx h.toNat t 0) k) (wy y (ty h.toNat t 0) k), .bool true]) ∧ Below w.heap.size w w' by
      have := placeI x y h t l k
      rw [told2_yes (inF_iff.2 ⟨hj, by omega, hk⟩), Int.toNat_natCast] at this
      exact this)
    have PN := placeI x y h t l ((N : Int) + 1)
    rw [told2_no (inF_no (Or.inr (Or.inr (by omega))))] at PN
    have S1 := fun (k : Nat) (hk : (k : Int) + 1 ≤ 33) => step_at hj k 1 (by omega) t (by omega)
    have q1 : IntKind.i64.wrap ((N : Int) * t) = (N : Int) * t := IntWalk.i64_in _ (by omega)
    have q2 : wrap64 ((N : Int) * t) = (N : Int) * t := IntWalk.wrap64_in _ (by omega)
    have q3 : IntKind.i64.wrap ((N : Int) + 1) = N + 1 := IntWalk.i64_in _ (by omega)
    generalize hX : wy x (tx h.toNat t 0) N = X at LD ST
    generalize hY : wy y (ty h.toNat t 0) N = Y at LD ST
    clear hX hY w0 w0y eR mt
    replace F := Lib.hid F
    replace LD := Lib.hid LD
    replace R := Lib.hid R
    replace ST := Lib.hid ST
    replace PL := Lib.hid PL
    replace PN := Lib.hid PN
    replace S1 := Lib.hid S1
    replace q1 := Lib.hid q1
    replace q2 := Lib.hid q2
    replace q3 := Lib.hid q3
    have HN := Lib.hid hN
    clear hN
    go_wp2_with fail
    refine (LD.out _).mono ?_
    rintro e u1 ⟨rfl, hb⟩
    have Kj := Lib.hid (JB.below (JB.new u0 (x) (y) (h) (t) (l)) hb)
    have BB2 := Lib.hid (((BB.out).alloc (by have := BB.out.size; go_size) (.cells #[.int .i64 (x), .int .i64 (y), .int .i64 (h), .int .i64 (t), .int .i64 (l)] 27)).trans (hb.mono (by have := BB.out.size; go_size)))
    clear hb BB
    have BB := BB2
    clear BB2
    have Hj := Kj
    clear Kj
    obtain ⟨cj0, cj1, cj2, cj3, cj4⟩ := Hj.out.c
    have lj := Hj.out.lt
    have mj : ∀ j, _ < u1.heap.size + j := fun j => Nat.lt_of_lt_of_le lj (Nat.le_add_right _ j)
    go_upto_region 5 with fail
    have KJ := Lib.hid (show JB (u1.alloc (.cells #[.int .i64 (X), .int .i64 (Y)] 25)) u0.heap.size x y h t l from (Hj.out).alloc (.cells #[.int .i64 (X), .int .i64 (Y)] 25))
    have KP := Lib.hid (show HB (u1.alloc (.cells #[.int .i64 (X), .int .i64 (Y)] 25)) u1.heap.size X Y from HB.new u1 (X) (Y))
    have BB2 := Lib.hid (show Below w.heap.size w (u1.alloc (.cells #[.int .i64 (X), .int .i64 (Y)] 25)) from (BB.out).alloc (by have := BB.out.size; go_size) (.cells #[.int .i64 (X), .int .i64 (Y)] 25))
    clear cj0 cj1 cj2 cj3 cj4 lj mj Hj BB
    have BB := BB2
    clear BB2
    generalize (u1.alloc (.cells #[.int .i64 (X), .int .i64 (Y)] 25)) = wa at *
    go_cut [6, 7] (fun a b wx => ∃ g, a = .pointer (some ⟨g, 0, none⟩) ∧ b = .bool true ∧ Hid (HB wx g X Y) ∧ Hid (JB wx u0.heap.size x y h t l) ∧ Hid (HB wx u1.heap.size X Y) ∧ Hid (Below w.heap.size w wx))
    case first =>
      have j1_0 := JB.drew KJ.out
      have p1_0 := (show HB wa.drew _ X Y from KP.out)
      have b1_0 := BB.out.drew
      have e_j := KJ.out.lt
      have e_p := KP.out.lt
      have s1_0 := j1_0.c
      have sb1 := KJ.out.c
      go_region_held3 (fun w' => w'.cell? ⟨u0.heap.size, 0, none⟩ = some (.int .i64 x) ∧ w'.cell? ⟨u0.heap.size, 1, none⟩ = some (.int .i64 y) ∧ w'.cell? ⟨u0.heap.size, 2, none⟩ = some (.int .i64 h) ∧ w'.cell? ⟨u0.heap.size, 3, none⟩ = some (.int .i64 t) ∧ w'.cell? ⟨u0.heap.size, 4, none⟩ = some (.int .i64 l)) ((first | (with_reducible exact s1_0) | (with_reducible exact s1_1) | (with_reducible exact s1_2) | (with_reducible exact sb1) | (repeat (first | (with_reducible exact s1_0) | (with_reducible exact s1_1) | (with_reducible exact s1_2) | (with_reducible exact sb1) | (with_reducible refine J5.drew ?_) | (with_reducible refine J5.alloc ?_) | (with_reducible refine J5.far (by omega) ?_)))))
        (first
        | (go_at_call 23; ((with_reducible refine (R.out _).mono ?_); rintro e r1_1 ⟨rfl, hb⟩; (first | (have j1_1 := JB.below j1_0 hb; have p1_1 := HB.below p1_0 hb; have b1_1 := b1_0.trans (hb.mono b1_0.size); (first | have q1_1 := HB.below q1_0 hb | skip)) | (have q1_1 := HB.below (show HB (wa.alloc (.cells #[.int .i64 0, .int .i64 0] 25)).drew wa.heap.size 0 0 from HB.new wa 0 0) hb; have j1_1 := JB.below (JB.drew (JB.alloc KJ.out (.cells #[.int .i64 0, .int .i64 0] 25))) hb; have p1_1 := HB.below (show HB (wa.alloc (.cells #[.int .i64 0, .int .i64 0] 25)).drew _ X Y from HB.alloc KP.out (.cells #[.int .i64 0, .int .i64 0] 25)) hb; have b1_1 := ((BB.out.alloc BB.out.size (.cells #[.int .i64 0, .int .i64 0] 25)).drew).trans (hb.mono (by have := BB.out.size; go_size)))); have s1_1 := j1_1.c; clear hb))
        | (go_at_call 22; ((with_reducible refine (ST.out _).mono ?_); rintro e r1_2 ⟨rfl, hb⟩; (first | (have j1_2 := JB.below j1_1 hb; have p1_2 := HB.below p1_1 hb; have b1_2 := b1_1.trans (hb.mono b1_1.size); (first | have q1_2 := HB.below q1_1 hb | skip)) | (have q1_2 := HB.below (HB.new r1_1 0 0) hb; have l_j := j1_1.lt; have j1_2 := JB.below (JB.alloc j1_1 (.cells #[.int .i64 0, .int .i64 0] 25)) hb; have l_p := p1_1.lt; have p1_2 := HB.below (HB.alloc p1_1 (.cells #[.int .i64 0, .int .i64 0] 25)) hb; have b1_2 := (b1_1.alloc b1_1.size (.cells #[.int .i64 0, .int .i64 0] 25)).trans (hb.mono (by have := b1_1.size; go_size)))); have s1_2 := j1_2.c; (first | (have z0 := q1_2.c0; have z1 := q1_2.c1; have g0 := q1_2.f0; have g1 := q1_2.f1) | skip); clear hb)))
      all_goals have QJ := Lib.hid j1_2
      all_goals have QP := Lib.hid p1_2
      all_goals have QB := Lib.hid b1_2
      all_goals have lj := j1_2.lt
      all_goals have lp := p1_2.lt
      all_goals go_wp2_with fail
      all_goals go_meet
      all_goals first
        | exact ⟨_, rfl, rfl, Lib.hid ((q1_2.set0 X).set1 Y), Lib.hid (JB.other (JB.other QJ.out _ _ (by omega)) _ _ (by omega)), Lib.hid (HB.other (HB.other QP.out _ _ (by omega)) _ _ (by omega)), Lib.hid (QB.out.trans (by have h1 := QB.out.size; have h2 := BB.out.size; have h3 := b1_1.size; go_grown))⟩
        | exact ⟨_, rfl, rfl, Lib.hid (HB.new r1_2 X Y), Lib.hid (QJ.out.alloc (.cells #[.int .i64 X, .int .i64 Y] 25)), Lib.hid (QP.out.alloc (.cells #[.int .i64 X, .int .i64 Y] 25)), Lib.hid (QB.out.alloc QB.out.size (.cells #[.int .i64 X, .int .i64 Y] 25))⟩
    case rest =>
      clear KJ KP BB
      obtain ⟨g, rfl, rfl, KQ, KJ, KP, BB⟩ := hcut
      go_upto_region 6 with fail
      go_cut [56] (fun c wx => c = .bool false ∧ Hid (JB wx u0.heap.size x y h t l) ∧ Hid (Below w.heap.size w wx))
      case first =>
        have m1 := q1.out
        have m2 := q2.out
        have s2_0 := S9 (JB.drew KJ.out) (show HB wc.drew _ X Y from KP.out) (show HB wc.drew _ X Y from KQ.out)
        go_region_held3 (fun w' => w'.cell? ⟨u0.heap.size, 0, none⟩ = some (.int .i64 x) ∧ w'.cell? ⟨u0.heap.size, 1, none⟩ = some (.int .i64 y) ∧ w'.cell? ⟨u0.heap.size, 2, none⟩ = some (.int .i64 h) ∧ w'.cell? ⟨u0.heap.size, 3, none⟩ = some (.int .i64 t) ∧ w'.cell? ⟨u0.heap.size, 4, none⟩ = some (.int .i64 l) ∧ w'.cell? ⟨u1.heap.size, 0, none⟩ = some (.int .i64 X) ∧ w'.cell? ⟨u1.heap.size, 1, none⟩ = some (.int .i64 Y) ∧ w'.cell? ⟨g, 0, none⟩ = some (.int .i64 X) ∧ w'.cell? ⟨g, 1, none⟩ = some (.int .i64 Y)) ((first | (with_reducible exact s2_0) | (with_reducible exact s2_1) | (with_reducible exact s2_2)))
          (first
          | (go_at_call 23; ((with_reducible refine (R.out _).mono ?_); rintro e r2_1 ⟨rfl, hb⟩; have j2_1 := JB.below (JB.drew KJ.out) hb; have p2_1 := HB.below (show HB wc.drew _ X Y from KP.out) hb; have q2_1 := HB.below (show HB wc.drew _ X Y from KQ.out) hb; have s2_1 := S9 j2_1 p2_1 q2_1; have b2_1 := (BB.out.drew).trans (hb.mono BB.out.size); clear hb))
          | (go_at_call 17; ((with_reducible refine (F.out _).mono ?_); rintro e r2_2 ⟨rfl, hb⟩; have j2_2 := JB.below j2_1 hb; have p2_2 := HB.below p2_1 hb; have q2_2 := HB.below q2_1 hb; have s2_2 := S9 j2_2 p2_2 q2_2; have b2_2 := b2_1.trans (hb.mono b2_1.size); clear hb)))
        all_goals have QJ := Lib.hid j2_2
        all_goals have QB := Lib.hid b2_2
        all_goals go_wp2_with fail
        all_goals go_meet
        all_goals exact ⟨rfl, QJ, QB⟩
      case rest =>
        clear KJ KP KQ BB
        obtain ⟨rfl, KJ, BB⟩ := hcut
        clear LD R ST
        go_wp2_with fail
        go_loopw [8] (fun i wr => ∃ k : Nat, k ≤ N ∧ i = .int .i64 k ∧ Hid (JB wr u0.heap.size x y h t l) ∧ Hid (Below w.heap.size w wr)) (fun i _ => N - (intOf i).toNat)
        case atStart => exact ⟨0, by omega, rfl, KJ, BB⟩
        case round =>
          clear KJ BB
          obtain ⟨k, k2, rfl, Hj, BB⟩ := hrel
          have hN := HN.out
          obtain ⟨cj0, cj1, cj2, cj3, cj4⟩ := Hj.out.c
          have lj := Hj.out.lt
          have mj : ∀ j, _ < wr.heap.size + j := fun j => Nat.lt_of_lt_of_le lj (Nat.le_add_right _ j)
          by_cases hlt : k < N
          · have PA := PL.out k (by omega)
            have PB := PL.out (k + 1) (by omega)
            have SK := S1.out k (by omega)
            rw [show (((k + 1 : Nat) : Int)) = (k : Int) + 1 by omega] at PB
            generalize wy x (tx h.toNat t 0) (k + 1) = X1 at *
            generalize wy y (ty h.toNat t 0) (k + 1) = Y1 at *
            generalize wy x (tx h.toNat t 0) k = X0 at *
            generalize wy y (ty h.toNat t 0) k = Y0 at *
            replace PA := Lib.hid PA
            replace PB := Lib.hid PB
            replace SK := Lib.hid SK
            go_wp2_with fail
            refine (F.out _).mono ?_
            rintro e u2 ⟨rfl, hb⟩
            clear cj0 cj1 cj2 cj3 cj4 lj mj
            have Kj := Lib.hid (JB.below (Hj.out) hb)
            have BB2 := Lib.hid ((BB.out).trans (hb.mono (by have := BB.out.size; go_size)))
            clear hb BB Hj
            have BB := BB2
            clear BB2
            have Hj := Kj
            clear Kj
            obtain ⟨cj0, cj1, cj2, cj3, cj4⟩ := Hj.out.c
            have lj := Hj.out.lt
            have mj : ∀ j, _ < u2.heap.size + j := fun j => Nat.lt_of_lt_of_le lj (Nat.le_add_right _ j)
            go_wp2_with fail
            refine (PA.out _).mono ?_
            rintro e u3 ⟨rfl, hb⟩
            clear cj0 cj1 cj2 cj3 cj4 lj mj
            have Kj := Lib.hid (JB.below (Hj.out) hb)
            have BB2 := Lib.hid ((BB.out).trans (hb.mono (by have := BB.out.size; go_size)))
            clear hb BB Hj
            have BB := BB2
            clear BB2
            have Hj := Kj
            clear Kj
            obtain ⟨cj0, cj1, cj2, cj3, cj4⟩ := Hj.out.c
            have lj := Hj.out.lt
            have mj : ∀ j, _ < u3.heap.size + j := fun j => Nat.lt_of_lt_of_le lj (Nat.le_add_right _ j)
            go_wp2_with fail
            refine (PB.out _).mono ?_
            rintro e u4 ⟨rfl, hb⟩
            clear cj0 cj1 cj2 cj3 cj4 lj mj
            have Kj := Lib.hid (JB.below ((Hj.out).alloc (.cells #[.int .i64 (X0), .int .i64 (Y0)] 25)) hb)
            have Ka := Lib.hid (HB.below (HB.new u3 (X0) (Y0)) hb)
            have BB2 := Lib.hid (((BB.out).alloc (by have := BB.out.size; go_size) (.cells #[.int .i64 (X0), .int .i64 (Y0)] 25)).trans (hb.mono (by have := BB.out.size; go_size)))
            clear hb BB Hj
            have BB := BB2
            clear BB2
            have Hj := Kj
            clear Kj
            have Ha := Ka
            clear Ka
            obtain ⟨cj0, cj1, cj2, cj3, cj4⟩ := Hj.out.c
            have lj := Hj.out.lt
            have mj : ∀ j, _ < u4.heap.size + j := fun j => Nat.lt_of_lt_of_le lj (Nat.le_add_right _ j)
            have ca0 := Ha.out.c0
            have ca1 := Ha.out.c1
            have la := Ha.out.lt
            have ma : ∀ j, _ < u4.heap.size + j := fun j => Nat.lt_of_lt_of_le la (Nat.le_add_right _ j)
            go_wp2_with fail
            refine (SK.out _).mono ?_
            rintro e u5 ⟨rfl, hb⟩
            clear cj0 cj1 cj2 cj3 cj4 lj mj ca0 ca1 la ma
            have Kj := Lib.hid (JB.below ((Hj.out).alloc (.cells #[.int .i64 (X1), .int .i64 (Y1)] 25)) hb)
            have Ka := Lib.hid (HB.below ((Ha.out).alloc (.cells #[.int .i64 (X1), .int .i64 (Y1)] 25)) hb)
            have Kb := Lib.hid (HB.below (HB.new u4 (X1) (Y1)) hb)
            have BB2 := Lib.hid (((BB.out).alloc (by have := BB.out.size; go_size) (.cells #[.int .i64 (X1), .int .i64 (Y1)] 25)).trans (hb.mono (by have := BB.out.size; go_size)))
            clear hb BB Hj Ha
            have BB := BB2
            clear BB2
            have Hj := Kj
            clear Kj
            have Ha := Ka
            clear Ka
            have Hb := Kb
            clear Kb
            obtain ⟨cj0, cj1, cj2, cj3, cj4⟩ := Hj.out.c
            have lj := Hj.out.lt
            have mj : ∀ j, _ < u5.heap.size + j := fun j => Nat.lt_of_lt_of_le lj (Nat.le_add_right _ j)
            have ca0 := Ha.out.c0
            have ca1 := Ha.out.c1
            have la := Ha.out.lt
            have ma : ∀ j, _ < u5.heap.size + j := fun j => Nat.lt_of_lt_of_le la (Nat.le_add_right _ j)
            have cb0 := Hb.out.c0
            have cb1 := Hb.out.c1
            have lb := Hb.out.lt
            have mb : ∀ j, _ < u5.heap.size + j := fun j => Nat.lt_of_lt_of_le lb (Nat.le_add_right _ j)
            go_wp2_with fail
            have KJ := Lib.hid ((Hj.out).alloc (.cells #[.int .i64 (X1), .int .i64 (Y1)] 25))
            have KB := Lib.hid ((BB.out).alloc (by have := BB.out.size; go_size) (.cells #[.int .i64 (X1), .int .i64 (Y1)] 25))
            go_roundw
            case rel => exact ⟨k + 1, by omega, by go_num, KJ, KB⟩
            case measure => simp [intOf]; omega
          · clear hN
            go_wp2_with fail
            refine (F.out _).mono ?_
            rintro e u2 ⟨rfl, hb⟩
            clear cj0 cj1 cj2 cj3 cj4 lj mj
            have Kj := Lib.hid (JB.below (Hj.out) hb)
            have BB2 := Lib.hid ((BB.out).trans (hb.mono (by have := BB.out.size; go_size)))
            clear hb BB Hj
            have BB := BB2
            clear BB2
            have Hj := Kj
            clear Kj
            obtain ⟨cj0, cj1, cj2, cj3, cj4⟩ := Hj.out.c
            have lj := Hj.out.lt
            have mj : ∀ j, _ < u2.heap.size + j := fun j => Nat.lt_of_lt_of_le lj (Nat.le_add_right _ j)
            go_upto_region 16 with fail
            have m3 := q3.out
            clear cj0 cj1 cj2 cj3 cj4 lj mj
            go_cut [16] (fun c wx => c = .bool false ∧ Hid (Below w.heap.size w wx))
            case first =>
              have j3_0 := JB.drew Hj.out
              have b3_0 := BB.out.drew
              have e_j := Hj.out.lt
              have s3_0 := j3_0.c
              have sb3 := Hj.out.c
              go_region_held3 (fun w' => w'.cell? ⟨u0.heap.size, 0, none⟩ = some (.int .i64 x) ∧ w'.cell? ⟨u0.heap.size, 1, none⟩ = some (.int .i64 y) ∧ w'.cell? ⟨u0.heap.size, 2, none⟩ = some (.int .i64 h) ∧ w'.cell? ⟨u0.heap.size, 3, none⟩ = some (.int .i64 t) ∧ w'.cell? ⟨u0.heap.size, 4, none⟩ = some (.int .i64 l)) ((first | (with_reducible exact s3_0) | (with_reducible exact s3_1) | (with_reducible exact s3_2) | (with_reducible exact sb3) | (repeat (first | (with_reducible exact s3_0) | (with_reducible exact s3_1) | (with_reducible exact s3_2) | (with_reducible exact sb3) | (with_reducible refine J5.drew ?_) | (with_reducible refine J5.alloc ?_) | (with_reducible refine J5.far (by omega) ?_)))))
                (first
                | (go_at_call 17; ((with_reducible refine (F.out _).mono ?_); rintro e r3_1 ⟨rfl, hb⟩; (first | (have j3_1 := JB.below j3_0 hb; have b3_1 := b3_0.trans (hb.mono b3_0.size); (first | have q3_1 := HB.below q3_0 hb | skip)) | (have q3_1 := HB.below (show HB (u2.alloc (.cells #[.int .i64 0, .int .i64 0] 25)).drew u2.heap.size 0 0 from HB.new u2 0 0) hb; have j3_1 := JB.below (JB.drew (JB.alloc Hj.out (.cells #[.int .i64 0, .int .i64 0] 25))) hb; have b3_1 := ((BB.out.alloc BB.out.size (.cells #[.int .i64 0, .int .i64 0] 25)).drew).trans (hb.mono (by have := BB.out.size; go_size)))); have s3_1 := j3_1.c; clear hb))
                | (go_at_call 24; ((with_reducible refine (PN.out _).mono ?_); rintro e r3_2 ⟨rfl, hb⟩; (first | (have j3_2 := JB.below j3_1 hb; have b3_2 := b3_1.trans (hb.mono b3_1.size); (first | have q3_2 := HB.below q3_1 hb | skip)) | (have q3_2 := HB.below (HB.new r3_1 0 0) hb; have l_j := j3_1.lt; have j3_2 := JB.below (JB.alloc j3_1 (.cells #[.int .i64 0, .int .i64 0] 25)) hb; have b3_2 := (b3_1.alloc b3_1.size (.cells #[.int .i64 0, .int .i64 0] 25)).trans (hb.mono (by have := b3_1.size; go_size)))); have s3_2 := j3_2.c; (first | (have z0 := q3_2.c0; have z1 := q3_2.c1; have g0 := q3_2.f0; have g1 := q3_2.f1) | skip); clear hb)))
              all_goals have QB := Lib.hid b3_2
              all_goals go_wp2_with fail
              all_goals go_meet
              all_goals first
                | exact ⟨rfl, Lib.hid (QB.out.trans (by have h1 := QB.out.size; have h2 := BB.out.size; have h3 := b3_1.size; go_grown))⟩
                | exact ⟨rfl, Lib.hid (QB.out.alloc QB.out.size _)⟩
            case rest =>
              clear BB
              obtain ⟨rfl, BB⟩ := hcut
              go_wp2_with fail
              go_returns
              exact ⟨rfl, BB.out⟩
  · have hd : decide (4096 < n) = true := decide_eq_true (by omega)
    clear hn hm hr
    go_enter Try.func5, Try.ntmps5
    go_wp2_with (go_at_call 15; go_enter Try.func15, Try.ntmps15)
    go_returns
    exact ⟨rfl, Below.refl _ _⟩

set_option maxRecDepth 100000 in
theorem lifted (os : Os) (started : os.Started) (H : Type) (enc : TypeId × Value → H) :
    ReturnsInHanded {} Try.checked os 5 .any (Rows.fnLandsSpec.pre6 enc Try.prog Try.f5 Rows.fnLandsRow.domain false) (Rows.fnLandsSpec.post enc Try.prog Try.f5 false true false false) := by
  refine returnsInHanded_of_change (C := Try.checked) own started (by kernel_rfl) Try.func5
    (ChangeSpec.witness6 (enc := enc) (C := Try.checked) false ⟨#[], #[.slice none 0 0], []⟩ 8 (by kernel_rfl) (by kernel_rfl) (by kernel_rfl) (by kernel_rfl)) ?_
  intro W base args ds gs before hval0 hW hcnd hsz
  have hval : ∀ (j : Nat) t v, Try.f5.params[j]? = some t → args[j]? = some v → Value.okWide Try.prog W .any base t v := hval0
  have hW' := hW
  obtain ⟨p, q, hA0, hV, rfl, hfz, hnd⟩ := hW
  have hA1 := hA0
  have hA : DataW.TrodAll enc Try.prog W 0 (fun _ => true) true Try.f5.params.toList args.toList ds p := hA0
  rw [Try.params5] at hA hval
  obtain ⟨v0, vs0, d0, ds0, p0, q0, hargs, rfl, rfl, h0, r0⟩ := trodAll_cons hA
  obtain ⟨rfl, rfl, rfl⟩ := trodAll_nil r0
  obtain rfl : args = #[v0] := by cases args; simp_all
  obtain ⟨rfl, rfl⟩ := trodVars_none hV
  obtain ⟨A0, n0, c0, a0, rfl, l0, m0, g0⟩ := RampFn.take_bytes Try.underlying22 Try.underlying5 (by kernel_rfl) (hval 0 22 v0 rfl rfl) h0
  clear hA0 hval0
  rw [List.append_nil] at hW'
  refine (walk A0 n0 c0 a0 l0 m0 W g0).mono fun e W' ⟨he, hb⟩ => ?_
  subst he
  exact ⟨_, rfl, post_law rfl hW' hA1 laidOut (by rw [Try.params5]; exact of_decide_eq_true (by kernel_rfl)) 4 (by kernel_rfl) Try.underlying4 rfl hb⟩

theorem over : Rows.fnLandsRow.holds Try.pinned (OpenSpec.ofChange Rows.fnLandsSpec) :=
  OpenClaim.holds_of_wide 5 Try.f5 rfl rfl rfl rfl rfl rfl rfl ⟨rfl, rfl, rfl, rfl, rfl⟩ rfl rfl rfl rfl rfl (by kernel_rfl) Try.func5 (by kernel_rfl)
    (of_decide_eq_true (by kernel_rfl)) (by unfold Func.isWrapper; first | (rw [if_pos (by decide +kernel)]; kernel_rfl) | (rw [if_neg (by decide +kernel)]; exact ⟨rfl, rfl⟩))
    (fun os started H enc _ => lifted os started H enc)

/-- The statement. -/
theorem proved : Rows.FnLandsSaid :=
  over
#print axioms proved
end Go.Proofs.Ytgmgdjhldjjckaa.fnLands
