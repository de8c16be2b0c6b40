/- The law FnMeet holds at every input. The step from the walk to the row follows the guide's own template. -/
import Derived.Test.YtgcheplneolonadMem
import Derived.Test.YtgcheplneolonadDm3
import Derived.Test.YtgcheplneolonadNm3
import Derived.Test.YtgcheplneolonadFm
import Derived.Test.YtgcheplneolonadLe5
import Derived.Test.YtgcheplneolonadTp
import Derived.Test.YtgcheplneolonadTakeC
import Derived.Deep.RegionHeld3
import Derived.BigQuiet
namespace Go.Proofs.Ytgcheplneolonad.fnMeet
open Go.ChangeShapes Go.WideShapes Go.ChangeAt Go.RowKit Go.WideMaps Go.WideElems Go.Proofs.Ytgcheplneolonad.Mem
open Go.ChangeMaps (open_string shut_string)
set_option linter.unusedVariables false
set_option linter.unusedSimpArgs false

theorem own : ownKnob Try.prog.godebug = none := by kernel_rfl
theorem laidOut : laidOutB Try.prog = true := by kernel_rfl

open Go.Proofs.Ytgcheplneolonad.Cm Go.Proofs.Ytgcheplneolonad.Pl Go.Proofs.Ytgcheplneolonad.Str Go.Proofs.Ytgcheplneolonad.Pw Go.Proofs.Ytgcheplneolonad.P2 Go.Proofs.Ytgcheplneolonad.Hd Go.Proofs.Ytgcheplneolonad.Dr4 Go.Proofs.Ytgcheplneolonad.Jt Go.Proofs.Ytgcheplneolonad.Dp 
open Go.Proofs.Ytgcheplneolonad.Dr2 (HB HB.c0 HB.c1 HB.f0 HB.f1 HB.lt HB.new HB.alloc HB.set0 HB.set1)
open Go.Proofs.Ytgcheplneolonad.Rw (owns_below owns_grown owns_base)

theorem HBb {w w' : World} {b : Nat} {x y : Int} (h : HB w b x y) (hb : Below w.heap.size w w') : HB w' b x y := (hb.block b h.lt).trans h
structure Jq (w W : World) (ja jb : Nat) (xa ya ka ta la xb yb kb tb lb : Int) : Prop where
  a : JB W ja xa ya ka ta la
  b : JB W jb xb yb kb tb lb
  bel : Below w.heap.size w W
theorem Jq.below {w W W' : World} {ja jb : Nat} {xa ya ka ta la xb yb kb tb lb : Int} (k : Jq w W ja jb xa ya ka ta la xb yb kb tb lb) (hb : Below W.heap.size W W') : Jq w W' ja jb xa ya ka ta la xb yb kb tb lb :=
  ⟨k.a.below hb, k.b.below hb, k.bel.trans (hb.mono k.bel.size)⟩
/-- A jet's cells and one of the list. -/
abbrev C9 (W : World) (j g i : Nat) (x y h t l z : Int) : Prop :=
  W.cell? ⟨j, 0, none⟩ = some (.int .i64 x) ∧ W.cell? ⟨j, 1, none⟩ = some (.int .i64 y) ∧ W.cell? ⟨j, 2, none⟩ = some (.int .i64 h) ∧ W.cell? ⟨j, 3, none⟩ = some (.int .i64 t) ∧ W.cell? ⟨j, 4, none⟩ = some (.int .i64 l) ∧ W.cell? ⟨g, i, none⟩ = some (.int .i64 z)
section
variable {W W' : World} {j g i : Nat} {x y h t l z : Int}
theorem C9.mk' (k : JB W j x y h t l) (q : W.cell? ⟨g, i, none⟩ = some (.int .i64 z)) : C9 W j g i x y h t l z := by
  obtain ⟨a, b, c, d, e⟩ := k.c
  exact ⟨a, b, c, d, e, q⟩
theorem C9.drew (k : C9 W j g i x y h t l z) : C9 W.drew j g i x y h t l z := k
theorem C9.below (k : C9 W j g i x y h t l z) (hb : Below W.heap.size W W') : C9 W' j g i x y h t l z :=
  ⟨cell_below hb k.1, cell_below hb k.2.1, cell_below hb k.2.2.1, cell_below hb k.2.2.2.1, cell_below hb k.2.2.2.2.1, cell_below hb k.2.2.2.2.2⟩
theorem C9.alloc {o : Obj} (k : C9 W j g i x y h t l z) : C9 (W.alloc o) j g i x y h t l z := k.below ((Below.refl _ _).alloc (Nat.le_refl _) o)
theorem C9.far {b n : Nat} {v : Value} (h1 : j ≠ b) (h2 : g ≠ b) (k : C9 W j g i x y h t l z) : C9 (W.setCell ⟨b, n, none⟩ v) j g i x y h t l z := by
  unfold C9
  rw [World.cell?_setCell_other _ _ _ _ (by simp [h1]), World.cell?_setCell_other _ _ _ _ (by simp [h1]), World.cell?_setCell_other _ _ _ _ (by simp [h1]), World.cell?_setCell_other _ _ _ _ (by simp [h1]), World.cell?_setCell_other _ _ _ _ (by simp [h1]), World.cell?_setCell_other _ _ _ _ (by simp [h2])]
  exact k
end

set_option maxHeartbeats 8000000 in
set_option maxRecDepth 100000 in
theorem walk (A : Option Addr) (n c : Nat) (bs : List UInt8) (hn : bs.length = n) (hm : n ≤ maxLen) (w : World) (hr : Rd w w.heap.size A (Draw.u8s bs)) :
    Calls Try.prog 3 #[.slice A n c] w fun e w' => e = .returned (.bool true) ∧ Below w.heap.size w w' := by
  have hu : undef = Value.tuple #[] := rfl
  by_cases hbig : (n : Int) ≤ 4096
  · have D := Lib.hid (drawMeet w A n c bs hn (by omega) hr)
    clear hm
    go_enter Try.func3, Try.ntmps3
    go_wp2_with (go_at_call 5; go_enter Try.func5, Try.ntmps5)
    refine D.out.mono ?_
    rintro e wd0 ⟨xa, ya, ka, ta, la, xb, yb, kb, tb, lb, rfl, hB⟩
    have BB := Lib.hid hB
    clear hbig hB hn hr D
    obtain ⟨zs, hzs⟩ : ∃ v, mto xa ya ka ta la xb yb kb tb lb = v := ⟨_, rfl⟩
    obtain ⟨m, hm⟩ : ∃ v, zs.length = v := ⟨_, rfl⟩
    have hmb : m ≤ 34 := by rw [← hm, ← hzs]; exact mto_len _ _ _ _ _ _ _ _ _ _
    have HM := Lib.hid hm
    have AT := Lib.hid (fun (i : Nat) (z : Int) (h : zs[i]? = some z) => mto_at (hzs ▸ h : (mto xa ya ka ta la xb yb kb tb lb)[i]? = some z))
    have UP := Lib.hid (fun (i j : Nat) (z v : Int) (hij : i < j) (h : zs[i]? = some z) (h' : zs[j]? = some v) => mto_up hij (hzs ▸ h : (mto xa ya ka ta la xb yb kb tb lb)[i]? = some z) (hzs ▸ h'))
    have M1 := Lib.hid (show ∀ W : World, Calls Try.prog 7 #[jv xa ya ka ta la, jv xb yb kb tb lb] W (fun e w' => ∃ g c, e = .returned (.slice (some ⟨g, 0, none⟩) m c) ∧ Rd w' w'.heap.size (some ⟨g, 0, none⟩) (ints zs) ∧ Below W.heap.size W w') from fun W =>
      (meetI xa ya ka ta la xb yb kb tb lb W).mono fun e w' ⟨g, c, h1, h2, h3⟩ => by rw [hzs, hm] at h1 h2; exact ⟨g, c, h1, Rd.own h2, h3⟩)
    have M2 := Lib.hid (show ∀ W : World, Calls Try.prog 7 #[jv xb yb kb tb lb, jv xa ya ka ta la] W (fun e w' => ∃ g c, e = .returned (.slice (some ⟨g, 0, none⟩) m c) ∧ Rd w' w'.heap.size (some ⟨g, 0, none⟩) (ints zs) ∧ Below W.heap.size W w') from fun W =>
      (meetI xb yb kb tb lb xa ya ka ta la W).mono fun e w' ⟨g, c, h1, h2, h3⟩ => by rw [mto_swap, hzs, hm] at h1 h2; exact ⟨g, c, h1, Rd.own h2, h3⟩)
    clear hzs hm
    have J := Lib.hid (show Jq w ((wd0.alloc (.cells (jc xa ya ka ta la) 27)).alloc (.cells (jc xb yb kb tb lb) 27)) wd0.heap.size (wd0.heap.size + 1) xa ya ka ta la xb yb kb tb lb from
      ⟨(JB.new wd0 xa ya ka ta la).alloc (.cells (jc xb yb kb tb lb) 27), by have := JB.new (wd0.alloc (.cells (jc xa ya ka ta la) 27)) xb yb kb tb lb; rw [show (wd0.alloc (.cells (jc xa ya ka ta la) 27)).heap.size = wd0.heap.size + 1 by simp] at this; exact this, (BB.out.alloc BB.out.size (.cells (jc xa ya ka ta la) 27)).alloc (BB.out.alloc BB.out.size (.cells (jc xa ya ka ta la) 27)).size (.cells (jc xb yb kb tb lb) 27)⟩)
    clear BB
    go_upto_region 4 with fail
    generalize (wd0.alloc (.cells (jc xa ya ka ta la) 27)).alloc (.cells (jc xb yb kb tb lb) 27) = V at *
    obtain ⟨ja, hja⟩ : ∃ b, b = wd0.heap.size := ⟨_, rfl⟩
    rw [← hja] at J ⊢
    obtain ⟨jb, hjb⟩ : ∃ b, b = ja + 1 := ⟨_, rfl⟩
    rw [← hjb] at J ⊢
    clear hja hjb
    obtain ⟨a0, a1, a2, a3, a4⟩ := J.out.a.c
    obtain ⟨b0, b1, b2, b3, b4⟩ := J.out.b.c
    go_wp2_with fail
    refine (M1.out _).mono ?_
    rintro e w2 ⟨gZ, cZ, rfl, hZ, hb⟩
    have Z := Lib.hid hZ
    clear hZ M1
    clear a0 a1 a2 a3 a4 b0 b1 b2 b3 b4
    have Jn := Lib.hid (J.out.below hb)
    clear hb J 
    have J := Jn
    clear Jn
    obtain ⟨a0, a1, a2, a3, a4⟩ := J.out.a.c
    obtain ⟨b0, b1, b2, b3, b4⟩ := J.out.b.c
    go_wp2_with fail
    refine (M2.out _).mono ?_
    rintro e w3 ⟨gY, cY, rfl, hY, hb⟩
    have Y := Lib.hid hY
    clear hY M2
    clear a0 a1 a2 a3 a4 b0 b1 b2 b3 b4
    have Jn := Lib.hid (J.out.below hb)
    have Zn := Lib.hid ((Z.out.below hb).more hb.size)
    clear hb J Z
    have J := Jn
    clear Jn
    have Z := Zn
    clear Zn
    go_wp2_with fail
    refine (Le5.intsL _ _ m cZ cY zs w3.heap.size w3 HM.out (by omega) Z.out Y.out).mono ?_
    rintro e w4 ⟨rfl, q, rfl⟩
    have hb : Below w3.heap.size w3 (w3.drewN q) := Mem.below_drewN (Below.refl _ _) _
    clear Y
    have Jn := Lib.hid (J.out.below hb)
    have Zn := Lib.hid ((Z.out.below hb).more hb.size)
    clear hb J Z
    have J := Jn
    clear Jn
    have Z := Zn
    clear Zn
    go_wp2_with fail
    go_loopw [6] (fun i wr => ∃ k : Nat, k ≤ m ∧ i = .int .i64 k ∧ Hid (Jq w wr ja jb xa ya ka ta la xb yb kb tb lb) ∧ Hid (Rd wr wr.heap.size (some ⟨gZ, 0, none⟩) (ints zs))) (fun i _ => m - (intOf i).toNat)
    case atStart => exact ⟨0, by omega, rfl, J, Z⟩
    case round =>
      clear J Z
      obtain ⟨k, hk, rfl, J, Z⟩ := hrel
      by_cases hlt : k < m
      · obtain ⟨z, hz⟩ : ∃ z, zs[k]? = some z := ⟨_, List.getElem?_eq_getElem (by rw [HM.out]; exact hlt)⟩
        obtain ⟨i1, i2, e1, e2, e3⟩ := AT.out k z hz
        obtain ⟨X, hX⟩ : ∃ v, wy xa (tx ka.toNat ta 0) z.toNat = v := ⟨_, rfl⟩
        obtain ⟨Y, hY⟩ : ∃ v, wy ya (ty ka.toNat ta 0) z.toNat = v := ⟨_, rfl⟩
        obtain ⟨H, hH⟩ : ∃ v, ha xa ya ka ta la z = v := ⟨_, rfl⟩
        have PA := placeI xa ya ka ta la z
        rw [i1, told2_yes rfl, hX, hY] at PA
        have PB := placeI xb yb kb tb lb z
        rw [i2, told2_yes rfl, e1, e2, hX, hY] at PB
        have HA1 := heightI xa ya ka ta la z
        rw [hH] at HA1
        have HB1 := heightI xb yb kb tb lb z
        rw [e3, hH] at HB1
        have C1 := Lib.hid PA
        have C2 := Lib.hid PB
        have H1 := Lib.hid HA1
        have H2 := Lib.hid HB1
        have LC := Lib.hid (show ∀ W : World, Rd W W.heap.size (some ⟨gZ, 0, none⟩) (ints zs) → W.cell? ⟨gZ, k, none⟩ = some (.int .i64 z) from fun W h => by
          obtain ⟨b, o, e, _, h2⟩ := h.get (k := k) (by rw [Mem.ints_len, HM.out]; exact hlt)
          obtain ⟨rfl, rfl⟩ : gZ = b ∧ 0 = o := by simpa using e
          have := h2 k _ (by simp [ints, hz] : (ints zs)[k]? = some (.int .i64 z))
          simpa using this)
        obtain ⟨zp, hzp⟩ : ∃ z, zs[k - 1]? = some z := ⟨_, List.getElem?_eq_getElem (by rw [HM.out]; omega)⟩
        have LP := Lib.hid (show ∀ W : World, Rd W W.heap.size (some ⟨gZ, 0, none⟩) (ints zs) → W.cell? ⟨gZ, k - 1, none⟩ = some (.int .i64 zp) from fun W h => by
          obtain ⟨b, o, e, _, h2⟩ := h.get (k := k - 1) (by rw [Mem.ints_len, HM.out]; omega)
          obtain ⟨rfl, rfl⟩ : gZ = b ∧ 0 = o := by simpa using e
          have := h2 (k - 1) _ (by simp [ints, hzp] : (ints zs)[k - 1]? = some (.int .i64 zp))
          simpa using this)
        have hup : 0 < k → zp < z := fun h => UP.out (k - 1) k zp z (by omega) hzp hz
        clear hz hzp i1 i2 e1 e2 e3 hX hY hH PA PB HA1 HB1
        have hlt2 : (k : Int) < (m : Int) := by omega
        have dlt : decide ((k : Int) < (m : Int)) = true := decide_eq_true hlt2
        go_upto_region 10 with fail
        go_cut [7, 8] (fun a b wx => ∃ g, a = .pointer (some ⟨g, 0, none⟩) ∧ b = .bool true ∧ Hid (HB wx g X Y) ∧ Hid (Jq w wx ja jb xa ya ka ta la xb yb kb tb lb) ∧ Hid (Rd wx wx.heap.size (some ⟨gZ, 0, none⟩) (ints zs)))
        case first =>
          have k0 := C9.mk' J.out.a (LC.out wr Z.out)
          have k1 := C9.drew k0
          have e1 := J.out.a.lt
          have e2 := World.block_lt_of_cell? _ _ k0.2.2.2.2.2
          go_region_held3 (fun w' => w'.cell? ⟨ja, 0, none⟩ = some (.int .i64 xa) ∧ w'.cell? ⟨ja, 1, none⟩ = some (.int .i64 ya) ∧ w'.cell? ⟨ja, 2, none⟩ = some (.int .i64 ka) ∧ w'.cell? ⟨ja, 3, none⟩ = some (.int .i64 ta) ∧ w'.cell? ⟨ja, 4, none⟩ = some (.int .i64 la) ∧ w'.cell? ⟨gZ, k, none⟩ = some (.int .i64 z)) ((first | (with_reducible exact k0) | (with_reducible exact k1) | (with_reducible exact k2) | (repeat (first | (with_reducible exact k0) | (with_reducible exact k1) | (with_reducible exact k2) | (with_reducible refine C9.drew ?_) | (with_reducible refine C9.alloc ?_) | (with_reducible refine C9.far (by omega) (by omega) ?_)))))
            (first
              | (go_at_call 9; ((with_reducible refine (C1.out _).mono ?_); rintro e r1 ⟨rfl, hb⟩; (first | (have hw : Below wr.heap.size wr r1 := Below.trans (Below.refl wr.heap.size wr).drew hb) | (have hw : Below wr.heap.size wr r1 := Below.trans ((Below.refl wr.heap.size wr).alloc (Nat.le_refl _) (.cells #[.int .i64 0, .int .i64 0] 25)).drew (hb.mono (by go_size)); have q1 := HBb (show HB (wr.alloc (.cells #[.int .i64 0, .int .i64 0] 25)).drew wr.heap.size 0 0 from HB.new wr 0 0) hb; have z0 := q1.c0; have z1 := q1.c1; have g0 := q1.f0; have g1 := q1.f1)); have k2 := C9.below k0 hw; have hs := hw.size; clear hb)))
          all_goals go_wp2_with fail
          all_goals go_meet
          all_goals first
            | exact ⟨_, rfl, rfl, Lib.hid (HB.set1 Y (HB.set0 X q1)), Lib.hid (J.out.below (hw.trans (by have := hw.size; go_grown))), Lib.hid ((Z.out.below (hw.trans (by have := hw.size; go_grown))).more (Below.size (hw.trans (by have := hw.size; go_grown))))⟩
            | exact ⟨_, rfl, rfl, Lib.hid (HB.new r1 X Y), Lib.hid (J.out.below (hw.trans ((Below.refl _ _).alloc hs _))), Lib.hid ((Z.out.below (hw.trans ((Below.refl _ _).alloc hs _))).more (Below.size (hw.trans ((Below.refl _ _).alloc hs _))))⟩
        case rest =>
          obtain ⟨gp, rfl, rfl, P, J, Z⟩ := hcut
          go_upto_region 11 with fail
          go_cut [9, 10] (fun a b wx => ∃ g, a = .pointer (some ⟨g, 0, none⟩) ∧ b = .bool true ∧ Hid (HB wx g X Y) ∧ Hid (Jq w wx ja jb xa ya ka ta la xb yb kb tb lb) ∧ Hid (Rd wx wx.heap.size (some ⟨gZ, 0, none⟩) (ints zs)) ∧ Hid (HB wx gp X Y))
          case first =>
            have k0 := C9.mk' J.out.b (LC.out wc Z.out)
            have k1 := C9.drew k0
            have e1 := J.out.b.lt
            have e2 := World.block_lt_of_cell? _ _ k0.2.2.2.2.2
            go_region_held3 (fun w' => w'.cell? ⟨jb, 0, none⟩ = some (.int .i64 xb) ∧ w'.cell? ⟨jb, 1, none⟩ = some (.int .i64 yb) ∧ w'.cell? ⟨jb, 2, none⟩ = some (.int .i64 kb) ∧ w'.cell? ⟨jb, 3, none⟩ = some (.int .i64 tb) ∧ w'.cell? ⟨jb, 4, none⟩ = some (.int .i64 lb) ∧ w'.cell? ⟨gZ, k, none⟩ = some (.int .i64 z)) ((first | (with_reducible exact k0) | (with_reducible exact k1) | (with_reducible exact k2) | (repeat (first | (with_reducible exact k0) | (with_reducible exact k1) | (with_reducible exact k2) | (with_reducible refine C9.drew ?_) | (with_reducible refine C9.alloc ?_) | (with_reducible refine C9.far (by omega) (by omega) ?_)))))
              (first
                | (go_at_call 9; ((with_reducible refine (C2.out _).mono ?_); rintro e r2 ⟨rfl, hb⟩; (first | (have hw : Below wc.heap.size wc r2 := Below.trans (Below.refl wc.heap.size wc).drew hb) | (have hw : Below wc.heap.size wc r2 := Below.trans ((Below.refl wc.heap.size wc).alloc (Nat.le_refl _) (.cells #[.int .i64 0, .int .i64 0] 25)).drew (hb.mono (by go_size)); have q1 := HBb (show HB (wc.alloc (.cells #[.int .i64 0, .int .i64 0] 25)).drew wc.heap.size 0 0 from HB.new wc 0 0) hb; have z0 := q1.c0; have z1 := q1.c1; have g0 := q1.f0; have g1 := q1.f1)); have k2 := C9.below k0 hw; have hs := hw.size; clear hb)))
            all_goals go_wp2_with fail
            all_goals go_meet
            all_goals first
              | exact ⟨_, rfl, rfl, Lib.hid (HB.set1 Y (HB.set0 X q1)), Lib.hid (J.out.below (hw.trans (by have := hw.size; go_grown))), Lib.hid ((Z.out.below (hw.trans (by have := hw.size; go_grown))).more (Below.size (hw.trans (by have := hw.size; go_grown)))), Lib.hid (HBb P.out (hw.trans (by have := hw.size; go_grown)))⟩
              | exact ⟨_, rfl, rfl, Lib.hid (HB.new r2 X Y), Lib.hid (J.out.below (hw.trans ((Below.refl _ _).alloc hs _))), Lib.hid ((Z.out.below (hw.trans ((Below.refl _ _).alloc hs _))).more (Below.size (hw.trans ((Below.refl _ _).alloc hs _)))), Lib.hid (HBb P.out (hw.trans ((Below.refl _ _).alloc hs _)))⟩
          case rest =>
            obtain ⟨gq, rfl, rfl, Q, J, Z, P⟩ := hcut
            obtain ⟨a0, a1, a2, a3, a4⟩ := J.out.a.c
            obtain ⟨b0, b1, b2, b3, b4⟩ := J.out.b.c
            have p0 := P.out.c0
            have p1 := P.out.c1
            have q0 := Q.out.c0
            have q1 := Q.out.c1
            have zk := LC.out _ Z.out
            have zk1 := LP.out _ Z.out
            clear P Q C1 C2 LC LP
            have hvv : wc = wc := rfl
            generalize hv2 : wc = v2 at *
            clear hv2 hvv
            by_cases hk0 : 0 < k
            · have hzz := hup hk0
              have dgt : decide ((k : Int) > 0) = true := decide_eq_true (by omega)
              have dgt2 : (0 : Int) < (k : Int) := by omega
              have hix : IntKind.i64.wrap ((k : Int) - 1) = ((k - 1 : Nat) : Int) := by rw [IntWalk.i64_in _ (by omega)]; omega
              have hix2 : ((k - 1 : Nat) : Int) < (m : Int) := by omega
              have dge : decide (zp ≥ z) = false := decide_eq_false (by omega)
              have dge2 : ¬ z ≤ zp := by omega
              go_wp2_with fail
              refine wp_region_noPanic ?_
              refine wp_region_held_drew (S := (fun w' => w'.cell? ⟨ja, 0, none⟩ = some (.int .i64 xa) ∧ w'.cell? ⟨ja, 1, none⟩ = some (.int .i64 ya) ∧ w'.cell? ⟨ja, 2, none⟩ = some (.int .i64 ka) ∧ w'.cell? ⟨ja, 3, none⟩ = some (.int .i64 ta) ∧ w'.cell? ⟨ja, 4, none⟩ = some (.int .i64 la) ∧ w'.cell? ⟨jb, 0, none⟩ = some (.int .i64 xb) ∧ w'.cell? ⟨jb, 1, none⟩ = some (.int .i64 yb) ∧ w'.cell? ⟨jb, 2, none⟩ = some (.int .i64 kb) ∧ w'.cell? ⟨jb, 3, none⟩ = some (.int .i64 tb) ∧ w'.cell? ⟨jb, 4, none⟩ = some (.int .i64 lb) ∧ w'.cell? ⟨gp, 0, none⟩ = some (.int .i64 X) ∧ w'.cell? ⟨gp, 1, none⟩ = some (.int .i64 Y) ∧ w'.cell? ⟨gq, 0, none⟩ = some (.int .i64 X) ∧ w'.cell? ⟨gq, 1, none⟩ = some (.int .i64 Y) ∧ w'.cell? ⟨gZ, k, none⟩ = some (.int .i64 z) ∧ w'.cell? ⟨gZ, k - 1, none⟩ = some (.int .i64 zp) ∧ Below v2.heap.size v2 w')) (by kernel_rfl) ?_ (fun hH => ?_)
              · exact ⟨a0, a1, a2, a3, a4, b0, b1, b2, b3, b4, p0, p1, q0, q1, zk, zk1, by go_grown⟩
              refine wpAnyH_take (i := 0) (oi := { dst := some 51, op := _, type := _, pos := _, after := _, guard := _ }) (v := ?_) rfl (by kernel_rfl) (by kernel_rfl) (by kernel_rfl) (fun _ _ _ h => h) (Or.inl ⟨by rfl, ?_⟩) hH ?_
              rotate_left 1
              · intro W hSw
                (try dsimp only at hSw)
                go_simp
                (try with_reducible rfl)
              try simp only [Act.put, List.setIfInBounds_toArray, List.set_cons_zero, List.set_cons_succ]
              refine wpAnyH_take (i := 1) (oi := { dst := some 52, op := _, type := _, pos := _, after := _, guard := _ }) (v := ?_) rfl (by kernel_rfl) (by kernel_rfl) (by kernel_rfl) (fun _ _ _ h => h) (Or.inl ⟨by rfl, ?_⟩) hH ?_
              rotate_left 1
              · intro W hSw
                (try dsimp only at hSw)
                go_simp
                (try with_reducible rfl)
              try simp only [Act.put, List.setIfInBounds_toArray, List.set_cons_zero, List.set_cons_succ]
              refine wpAnyH_take (i := 2) (oi := { dst := some 53, op := _, type := _, pos := _, after := _, guard := _ }) (v := ?_) rfl (by kernel_rfl) (by kernel_rfl) (by kernel_rfl) (fun _ _ _ h => h) (Or.inl ⟨by rfl, ?_⟩) hH ?_
              rotate_left 1
              · intro W hSw
                (try dsimp only at hSw)
                go_simp
                (try with_reducible rfl)
              try simp only [Act.put, List.setIfInBounds_toArray, List.set_cons_zero, List.set_cons_succ]
              refine wpAnyH_take (i := 3) (oi := { dst := some 54, op := _, type := _, pos := _, after := _, guard := _ }) (v := ?_) rfl (by kernel_rfl) (by kernel_rfl) (by kernel_rfl) (fun _ _ _ h => h) (Or.inl ⟨by rfl, ?_⟩) hH ?_
              rotate_left 1
              · intro W hSw
                (try dsimp only at hSw)
                go_simp
                (try with_reducible rfl)
              try simp only [Act.put, List.setIfInBounds_toArray, List.set_cons_zero, List.set_cons_succ]
              refine wpAnyH_take (i := 4) (oi := { dst := some 55, op := _, type := _, pos := _, after := _, guard := _ }) (v := ?_) rfl (by kernel_rfl) (by kernel_rfl) (by kernel_rfl) (fun _ _ _ h => h) (Or.inl ⟨by rfl, ?_⟩) hH ?_
              rotate_left 1
              · intro W hSw
                (try dsimp only at hSw)
                go_simp
                (try with_reducible rfl)
              try simp only [Act.put, List.setIfInBounds_toArray, List.set_cons_zero, List.set_cons_succ]
              refine wpAnyH_take (i := 5) (oi := { dst := some 56, op := _, type := _, pos := _, after := _, guard := _ }) (v := ?_) rfl (by kernel_rfl) (by kernel_rfl) (by kernel_rfl) (fun _ _ _ h => h) (Or.inl ⟨by rfl, ?_⟩) hH ?_
              rotate_left 1
              · intro W hSw
                (try dsimp only at hSw)
                go_simp
                (try with_reducible rfl)
              try simp only [Act.put, List.setIfInBounds_toArray, List.set_cons_zero, List.set_cons_succ]
              refine wpAnyH_take (i := 6) (oi := { dst := some 57, op := _, type := _, pos := _, after := _, guard := _ }) (v := ?_) rfl (by kernel_rfl) (by kernel_rfl) (by kernel_rfl) (fun _ _ _ h => h) (Or.inl ⟨by rfl, ?_⟩) hH ?_
              rotate_left 1
              · intro W hSw
                (try dsimp only at hSw)
                go_simp
                (try with_reducible rfl)
              try simp only [Act.put, List.setIfInBounds_toArray, List.set_cons_zero, List.set_cons_succ]
              refine wpAnyH_take (i := 7) (oi := { dst := some 58, op := _, type := _, pos := _, after := _, guard := _ }) (v := ?_) rfl (by kernel_rfl) (by kernel_rfl) (by kernel_rfl) (fun _ _ _ h => h) (Or.inl ⟨by rfl, ?_⟩) hH ?_
              rotate_left 1
              · intro W hSw
                (try dsimp only at hSw)
                go_simp
                (try with_reducible rfl)
              try simp only [Act.put, List.setIfInBounds_toArray, List.set_cons_zero, List.set_cons_succ]
              refine wpAnyH_take (i := 8) (oi := { dst := some 59, op := _, type := _, pos := _, after := _, guard := _ }) (v := ?_) rfl (by kernel_rfl) (by kernel_rfl) (by kernel_rfl) (fun _ _ _ h => h) (Or.inl ⟨by rfl, ?_⟩) hH ?_
              rotate_left 1
              · intro W hSw
                (try dsimp only at hSw)
                go_simp
                (try with_reducible rfl)
              try simp only [Act.put, List.setIfInBounds_toArray, List.set_cons_zero, List.set_cons_succ]
              refine wpAnyH_take (i := 9) (oi := { dst := some 60, op := _, type := _, pos := _, after := _, guard := _ }) (v := ?_) rfl (by kernel_rfl) (by kernel_rfl) (by kernel_rfl) (fun _ _ _ h => h) (Or.inl ⟨by rfl, ?_⟩) hH ?_
              rotate_left 1
              · intro W hSw
                (try dsimp only at hSw)
                go_simp
                (try with_reducible rfl)
              try simp only [Act.put, List.setIfInBounds_toArray, List.set_cons_zero, List.set_cons_succ]
              refine wpAnyH_take (i := 10) (oi := { dst := some 61, op := _, type := _, pos := _, after := _, guard := _ }) (v := ?_) rfl (by kernel_rfl) (by kernel_rfl) (by kernel_rfl) (fun _ _ _ h => h) (Or.inl ⟨by rfl, ?_⟩) hH ?_
              rotate_left 1
              · intro W hSw
                (try dsimp only at hSw)
                go_simp
                (try with_reducible rfl)
              try simp only [Act.put, List.setIfInBounds_toArray, List.set_cons_zero, List.set_cons_succ]
              refine wpAnyH_take (i := 11) (oi := { dst := some 62, op := _, type := _, pos := _, after := _, guard := _ }) (v := ?_) rfl (by kernel_rfl) (by kernel_rfl) (by kernel_rfl) (fun _ _ _ h => h) (Or.inl ⟨by rfl, ?_⟩) hH ?_
              rotate_left 1
              · intro W hSw
                (try dsimp only at hSw)
                go_simp
                (try with_reducible rfl)
              try simp only [Act.put, List.setIfInBounds_toArray, List.set_cons_zero, List.set_cons_succ]
              refine wpAnyH_take (i := 12) (oi := { dst := some 63, op := _, type := _, pos := _, after := _, guard := _ }) (v := ?_) rfl (by kernel_rfl) (by kernel_rfl) (by kernel_rfl) (fun _ _ _ h => h) (Or.inl ⟨by rfl, ?_⟩) hH ?_
              rotate_left 1
              · intro W hSw
                (try dsimp only at hSw)
                go_simp
                (try with_reducible rfl)
              try simp only [Act.put, List.setIfInBounds_toArray, List.set_cons_zero, List.set_cons_succ]
              refine wpAnyH_take (i := 13) (oi := { dst := some 64, op := _, type := _, pos := _, after := _, guard := _ }) (v := ?_) rfl (by kernel_rfl) (by kernel_rfl) (by kernel_rfl) (fun _ _ _ h => h) (Or.inl ⟨by rfl, ?_⟩) hH ?_
              rotate_left 1
              · intro W hSw
                (try dsimp only at hSw)
                go_simp
                (try with_reducible rfl)
              try simp only [Act.put, List.setIfInBounds_toArray, List.set_cons_zero, List.set_cons_succ]
              refine wpAnyH_take (i := 14) (oi := { dst := some 65, op := _, type := _, pos := _, after := _, guard := _ }) (v := ?_) rfl (by kernel_rfl) (by kernel_rfl) (by kernel_rfl) (fun _ _ _ h => h) (Or.inl ⟨by rfl, ?_⟩) hH ?_
              rotate_left 1
              · intro W hSw
                (try dsimp only at hSw)
                go_simp
                (try with_reducible rfl)
              try simp only [Act.put, List.setIfInBounds_toArray, List.set_cons_zero, List.set_cons_succ]
              refine wpAnyH_take (i := 15) (oi := { dst := some 66, op := _, type := _, pos := _, after := _, guard := _ }) (v := ?_) rfl (by kernel_rfl) (by kernel_rfl) (by kernel_rfl) (fun _ _ _ h => h) (Or.inl ⟨by rfl, ?_⟩) hH ?_
              rotate_left 1
              · intro W hSw
                (try dsimp only at hSw)
                go_simp
                (try with_reducible rfl)
              try simp only [Act.put, List.setIfInBounds_toArray, List.set_cons_zero, List.set_cons_succ]
              refine wpAnyH_take (i := 16) (oi := { dst := some 67, op := _, type := _, pos := _, after := _, guard := _ }) (v := ?_) rfl (by kernel_rfl) (by kernel_rfl) (by kernel_rfl) (fun _ _ _ h => h) (Or.inl ⟨by rfl, ?_⟩) hH ?_
              rotate_left 1
              · intro W hSw
                (try dsimp only at hSw)
                go_simp
                (try with_reducible rfl)
              try simp only [Act.put, List.setIfInBounds_toArray, List.set_cons_zero, List.set_cons_succ]
              refine wpAnyH_take (i := 18) (oi := { dst := some 69, op := _, type := _, pos := _, after := _, guard := _ }) (v := ?_) rfl (by kernel_rfl) (by kernel_rfl) (by kernel_rfl) (fun _ _ _ h => h) (Or.inl ⟨by rfl, ?_⟩) hH ?_
              rotate_left 1
              · intro W hSw
                (try dsimp only at hSw)
                go_simp
                (try with_reducible rfl)
              try simp only [Act.put, List.setIfInBounds_toArray, List.set_cons_zero, List.set_cons_succ]
              refine wpAnyH_take (i := 19) (oi := { dst := some 70, op := _, type := _, pos := _, after := _, guard := _ }) (v := ?_) rfl (by kernel_rfl) (by kernel_rfl) (by kernel_rfl) (fun _ _ _ h => h) (Or.inl ⟨by rfl, ?_⟩) hH ?_
              rotate_left 1
              · intro W hSw
                (try dsimp only at hSw)
                go_simp
                (try with_reducible rfl)
              try simp only [Act.put, List.setIfInBounds_toArray, List.set_cons_zero, List.set_cons_succ]
              refine wpAnyH_take (i := 20) (oi := { dst := some 71, op := _, type := _, pos := _, after := _, guard := _ }) (v := ?_) rfl (by kernel_rfl) (by kernel_rfl) (by kernel_rfl) (fun _ _ _ h => h) (Or.inl ⟨by rfl, ?_⟩) hH ?_
              rotate_left 1
              · intro W hSw
                (try dsimp only at hSw)
                go_simp
                (try with_reducible rfl)
              try simp only [Act.put, List.setIfInBounds_toArray, List.set_cons_zero, List.set_cons_succ]
              refine wpAnyH_take (i := 21) (oi := { dst := some 72, op := _, type := _, pos := _, after := _, guard := _ }) (v := ?_) rfl (by kernel_rfl) (by kernel_rfl) (by kernel_rfl) (fun _ _ _ h => h) (Or.inl ⟨by rfl, ?_⟩) hH ?_
              rotate_left 1
              · intro W hSw
                (try dsimp only at hSw)
                go_simp
                (try with_reducible rfl)
              try simp only [Act.put, List.setIfInBounds_toArray, List.set_cons_zero, List.set_cons_succ]
              refine wpAnyH_take (i := 22) (oi := { dst := some 73, op := _, type := _, pos := _, after := _, guard := _ }) (v := ?_) rfl (by kernel_rfl) (by kernel_rfl) (by kernel_rfl) (fun _ _ _ h => h) (Or.inl ⟨by rfl, ?_⟩) hH ?_
              rotate_left 1
              · intro W hSw
                (try dsimp only at hSw)
                go_simp
                (try with_reducible rfl)
              try simp only [Act.put, List.setIfInBounds_toArray, List.set_cons_zero, List.set_cons_succ]
              refine wpAnyH_ready (rs := [17]) (by kernel_rfl) (by simp) (AllReadyH.cons rfl (fun K hK => ?_) AllReadyH.nil)
              go_simp
              go_at_call 10; ((with_reducible refine (H1.out _).mono ?_); rintro e9 r1 ⟨rfl, hb9⟩); go_wp2_with fail
              refine hK.out _ _ ?_ (fun hG => ?_)
              · exact ⟨cell_below hb9 hH.1, cell_below hb9 hH.2.1, cell_below hb9 hH.2.2.1, cell_below hb9 hH.2.2.2.1, cell_below hb9 hH.2.2.2.2.1, cell_below hb9 hH.2.2.2.2.2.1, cell_below hb9 hH.2.2.2.2.2.2.1, cell_below hb9 hH.2.2.2.2.2.2.2.1, cell_below hb9 hH.2.2.2.2.2.2.2.2.1, cell_below hb9 hH.2.2.2.2.2.2.2.2.2.1, cell_below hb9 hH.2.2.2.2.2.2.2.2.2.2.1, cell_below hb9 hH.2.2.2.2.2.2.2.2.2.2.2.1, cell_below hb9 hH.2.2.2.2.2.2.2.2.2.2.2.2.1, cell_below hb9 hH.2.2.2.2.2.2.2.2.2.2.2.2.2.1, cell_below hb9 hH.2.2.2.2.2.2.2.2.2.2.2.2.2.2.1, cell_below hb9 hH.2.2.2.2.2.2.2.2.2.2.2.2.2.2.2.1, hH.2.2.2.2.2.2.2.2.2.2.2.2.2.2.2.2.trans (hb9.mono hH.2.2.2.2.2.2.2.2.2.2.2.2.2.2.2.2.size)⟩
              replace hH := hG
              clear hK K hG
              try simp only [Act.put, List.setIfInBounds_toArray, List.set_cons_zero, List.set_cons_succ]
              refine wpAnyH_ready (rs := [23]) (by kernel_rfl) (by simp) (AllReadyH.cons rfl (fun K hK => ?_) AllReadyH.nil)
              go_simp
              go_at_call 10; ((with_reducible refine (H2.out _).mono ?_); rintro e9 r2 ⟨rfl, hb9⟩); go_wp2_with fail
              refine hK.out _ _ ?_ (fun hG => ?_)
              · exact ⟨cell_below hb9 hH.1, cell_below hb9 hH.2.1, cell_below hb9 hH.2.2.1, cell_below hb9 hH.2.2.2.1, cell_below hb9 hH.2.2.2.2.1, cell_below hb9 hH.2.2.2.2.2.1, cell_below hb9 hH.2.2.2.2.2.2.1, cell_below hb9 hH.2.2.2.2.2.2.2.1, cell_below hb9 hH.2.2.2.2.2.2.2.2.1, cell_below hb9 hH.2.2.2.2.2.2.2.2.2.1, cell_below hb9 hH.2.2.2.2.2.2.2.2.2.2.1, cell_below hb9 hH.2.2.2.2.2.2.2.2.2.2.2.1, cell_below hb9 hH.2.2.2.2.2.2.2.2.2.2.2.2.1, cell_below hb9 hH.2.2.2.2.2.2.2.2.2.2.2.2.2.1, cell_below hb9 hH.2.2.2.2.2.2.2.2.2.2.2.2.2.2.1, cell_below hb9 hH.2.2.2.2.2.2.2.2.2.2.2.2.2.2.2.1, hH.2.2.2.2.2.2.2.2.2.2.2.2.2.2.2.2.trans (hb9.mono hH.2.2.2.2.2.2.2.2.2.2.2.2.2.2.2.2.size)⟩
              replace hH := hG
              clear hK K hG
              try simp only [Act.put, List.setIfInBounds_toArray, List.set_cons_zero, List.set_cons_succ]
              refine wpAnyH_take (i := 24) (oi := { dst := some 75, op := _, type := _, pos := _, after := _, guard := _ }) (v := ?_) rfl (by kernel_rfl) (by kernel_rfl) (by kernel_rfl) (fun _ _ _ h => h) (Or.inl ⟨by rfl, ?_⟩) hH ?_
              rotate_left 1
              · intro W hSw
                (try dsimp only at hSw)
                go_simp
                (try with_reducible rfl)
              try simp only [Act.put, List.setIfInBounds_toArray, List.set_cons_zero, List.set_cons_succ]
              refine wpAnyH_take (i := 25) (oi := { dst := some 76, op := _, type := _, pos := _, after := _, guard := _ }) (v := ?_) rfl (by kernel_rfl) (by kernel_rfl) (by kernel_rfl) (fun _ _ _ h => h) (Or.inl ⟨by rfl, ?_⟩) hH ?_
              rotate_left 1
              · intro W hSw
                (try dsimp only at hSw)
                go_simp
                (try with_reducible rfl)
              try simp only [Act.put, List.setIfInBounds_toArray, List.set_cons_zero, List.set_cons_succ]
              refine wpAnyH_take (i := 26) (oi := { dst := some 77, op := _, type := _, pos := _, after := _, guard := _ }) (v := ?_) rfl (by kernel_rfl) (by kernel_rfl) (by kernel_rfl) (fun _ _ _ h => h) (Or.inl ⟨by rfl, ?_⟩) hH ?_
              rotate_left 1
              · intro W hSw
                (try dsimp only at hSw)
                go_simp
                (try with_reducible rfl)
              try simp only [Act.put, List.setIfInBounds_toArray, List.set_cons_zero, List.set_cons_succ]
              refine wpAnyH_take (i := 27) (oi := { dst := some 78, op := _, type := _, pos := _, after := _, guard := _ }) (v := ?_) rfl (by kernel_rfl) (by kernel_rfl) (by kernel_rfl) (fun _ _ _ h => h) (Or.inl ⟨by rfl, ?_⟩) hH ?_
              rotate_left 1
              · intro W hSw
                (try dsimp only at hSw)
                go_simp
                (try with_reducible rfl)
              try simp only [Act.put, List.setIfInBounds_toArray, List.set_cons_zero, List.set_cons_succ]
              refine wpAnyH_take (i := 28) (oi := { dst := some 79, op := _, type := _, pos := _, after := _, guard := _ }) (v := ?_) rfl (by kernel_rfl) (by kernel_rfl) (by kernel_rfl) (fun _ _ _ h => h) (Or.inl ⟨by rfl, ?_⟩) hH ?_
              rotate_left 1
              · intro W hSw
                (try dsimp only at hSw)
                go_simp
                (try with_reducible rfl)
              try simp only [Act.put, List.setIfInBounds_toArray, List.set_cons_zero, List.set_cons_succ]
              refine wpAnyH_take (i := 29) (oi := { dst := some 80, op := _, type := _, pos := _, after := _, guard := _ }) (v := ?_) rfl (by kernel_rfl) (by kernel_rfl) (by kernel_rfl) (fun _ _ _ h => h) (Or.inl ⟨by rfl, ?_⟩) hH ?_
              rotate_left 1
              · intro W hSw
                (try dsimp only at hSw)
                go_simp
                (try with_reducible rfl)
              try simp only [Act.put, List.setIfInBounds_toArray, List.set_cons_zero, List.set_cons_succ]
              refine wpAnyH_take (i := 30) (oi := { dst := some 81, op := _, type := _, pos := _, after := _, guard := _ }) (v := ?_) rfl (by kernel_rfl) (by kernel_rfl) (by kernel_rfl) (fun _ _ _ h => h) (Or.inl ⟨by rfl, ?_⟩) hH ?_
              rotate_left 1
              · intro W hSw
                (try dsimp only at hSw)
                go_simp
                (try with_reducible rfl)
              try simp only [Act.put, List.setIfInBounds_toArray, List.set_cons_zero, List.set_cons_succ]
              refine wpAnyH_take (i := 31) (oi := { dst := some 82, op := _, type := _, pos := _, after := _, guard := _ }) (v := ?_) rfl (by kernel_rfl) (by kernel_rfl) (by kernel_rfl) (fun _ _ _ h => h) (Or.inl ⟨by rfl, ?_⟩) hH ?_
              rotate_left 1
              · intro W hSw
                (try dsimp only at hSw)
                go_simp
                (try with_reducible rfl)
              try simp only [Act.put, List.setIfInBounds_toArray, List.set_cons_zero, List.set_cons_succ]
              refine wpAnyH_take (i := 32) (oi := { dst := some 83, op := _, type := _, pos := _, after := _, guard := _ }) (v := ?_) rfl (by kernel_rfl) (by kernel_rfl) (by kernel_rfl) (fun _ _ _ h => h) (Or.inl ⟨by rfl, ?_⟩) hH ?_
              rotate_left 1
              · intro W hSw
                (try dsimp only at hSw)
                go_simp
                (try with_reducible rfl)
              try simp only [Act.put, List.setIfInBounds_toArray, List.set_cons_zero, List.set_cons_succ]
              refine wpAnyH_take (i := 33) (oi := { dst := some 84, op := _, type := _, pos := _, after := _, guard := _ }) (v := ?_) rfl (by kernel_rfl) (by kernel_rfl) (by kernel_rfl) (fun _ _ _ h => h) (Or.inl ⟨by rfl, ?_⟩) hH ?_
              rotate_left 1
              · intro W hSw
                (try dsimp only at hSw)
                go_simp
                (try with_reducible rfl)
              try simp only [Act.put, List.setIfInBounds_toArray, List.set_cons_zero, List.set_cons_succ]
              refine wpAnyH_take (i := 34) (oi := { dst := some 85, op := _, type := _, pos := _, after := _, guard := _ }) (v := ?_) rfl (by kernel_rfl) (by kernel_rfl) (by kernel_rfl) (fun _ _ _ h => h) (Or.inl ⟨by rfl, ?_⟩) hH ?_
              rotate_left 1
              · intro W hSw
                (try dsimp only at hSw)
                go_simp
                (try with_reducible rfl)
              try simp only [Act.put, List.setIfInBounds_toArray, List.set_cons_zero, List.set_cons_succ]
              refine wpAnyH_take (i := 35) (oi := { dst := some 86, op := _, type := _, pos := _, after := _, guard := _ }) (v := ?_) rfl (by kernel_rfl) (by kernel_rfl) (by kernel_rfl) (fun _ _ _ h => h) (Or.inl ⟨by rfl, ?_⟩) hH ?_
              rotate_left 1
              · intro W hSw
                (try dsimp only at hSw)
                go_simp
                (try with_reducible rfl)
              try simp only [Act.put, List.setIfInBounds_toArray, List.set_cons_zero, List.set_cons_succ]
              refine wpAnyH_take (i := 36) (oi := { dst := some 87, op := _, type := _, pos := _, after := _, guard := _ }) (v := ?_) rfl (by kernel_rfl) (by kernel_rfl) (by kernel_rfl) (fun _ _ _ h => h) (Or.inl ⟨by rfl, ?_⟩) hH ?_
              rotate_left 1
              · intro W hSw
                (try dsimp only at hSw)
                go_simp
                (try with_reducible rfl)
              try simp only [Act.put, List.setIfInBounds_toArray, List.set_cons_zero, List.set_cons_succ]
              refine wpAnyH_take (i := 37) (oi := { dst := some 88, op := _, type := _, pos := _, after := _, guard := _ }) (v := ?_) rfl (by kernel_rfl) (by kernel_rfl) (by kernel_rfl) (fun _ _ _ h => h) (Or.inl ⟨by rfl, ?_⟩) hH ?_
              rotate_left 1
              · intro W hSw
                (try dsimp only at hSw)
                go_simp
                (try with_reducible rfl)
              try simp only [Act.put, List.setIfInBounds_toArray, List.set_cons_zero, List.set_cons_succ]
              refine wpAnyH_take (i := 38) (oi := { dst := some 89, op := _, type := _, pos := _, after := _, guard := _ }) (v := ?_) rfl (by kernel_rfl) (by kernel_rfl) (by kernel_rfl) (fun _ _ _ h => h) (Or.inl ⟨by rfl, ?_⟩) hH ?_
              rotate_left 1
              · intro W hSw
                (try dsimp only at hSw)
                go_simp
                (try with_reducible rfl)
              try simp only [Act.put, List.setIfInBounds_toArray, List.set_cons_zero, List.set_cons_succ]
              refine wpAnyH_take (i := 39) (oi := { dst := some 90, op := _, type := _, pos := _, after := _, guard := _ }) (v := ?_) rfl (by kernel_rfl) (by kernel_rfl) (by kernel_rfl) (fun _ _ _ h => h) (Or.inl ⟨by rfl, ?_⟩) hH ?_
              rotate_left 1
              · intro W hSw
                (try dsimp only at hSw)
                go_simp
                (try with_reducible rfl)
              try simp only [Act.put, List.setIfInBounds_toArray, List.set_cons_zero, List.set_cons_succ]
              refine wpAnyH_take (i := 40) (oi := { dst := some 91, op := _, type := _, pos := _, after := _, guard := _ }) (v := ?_) rfl (by kernel_rfl) (by kernel_rfl) (by kernel_rfl) (fun _ _ _ h => h) (Or.inl ⟨by rfl, ?_⟩) hH ?_
              rotate_left 1
              · intro W hSw
                (try dsimp only at hSw)
                go_simp
                (try with_reducible rfl)
              try simp only [Act.put, List.setIfInBounds_toArray, List.set_cons_zero, List.set_cons_succ]
              refine wpAnyH_take (i := 41) (oi := { dst := some 92, op := _, type := _, pos := _, after := _, guard := _ }) (v := ?_) rfl (by kernel_rfl) (by kernel_rfl) (by kernel_rfl) (fun _ _ _ h => h) (Or.inl ⟨by rfl, ?_⟩) hH ?_
              rotate_left 1
              · intro W hSw
                (try dsimp only at hSw)
                go_simp
                (try with_reducible rfl)
              try simp only [Act.put, List.setIfInBounds_toArray, List.set_cons_zero, List.set_cons_succ]
              refine wpAnyH_done (by kernel_rfl) ?_ _
              refine NoPanic.normal ?_
              have hb := hH.2.2.2.2.2.2.2.2.2.2.2.2.2.2.2.2
              clear hH
              clear a0 a1 a2 a3 a4 b0 b1 b2 b3 b4 p0 p1 q0 q1 zk zk1
              have Jn := Lib.hid (J.out.below hb)
              have Zn := Lib.hid ((Z.out.below hb).more hb.size)
              clear hb J Z
              have J := Jn
              clear Jn
              have Z := Zn
              clear Zn
              go_wp2_with fail
              go_roundw
              case rel => first | exact ⟨k + 1, by omega, by go_num, J, Z⟩ | ((repeat apply Exists.intro); exact ⟨⟨k + 1, by omega, by go_num, J, Z⟩, rfl⟩)
              case measure => simp [intOf]; omega
            · have dgt : decide ((k : Int) > 0) = false := decide_eq_false (by omega)
              have dgt2 : ¬ (0 : Int) < (k : Int) := by omega
              go_wp2_with fail
              refine wp_region_noPanic ?_
              refine wp_region_held_drew (S := (fun w' => w'.cell? ⟨ja, 0, none⟩ = some (.int .i64 xa) ∧ w'.cell? ⟨ja, 1, none⟩ = some (.int .i64 ya) ∧ w'.cell? ⟨ja, 2, none⟩ = some (.int .i64 ka) ∧ w'.cell? ⟨ja, 3, none⟩ = some (.int .i64 ta) ∧ w'.cell? ⟨ja, 4, none⟩ = some (.int .i64 la) ∧ w'.cell? ⟨jb, 0, none⟩ = some (.int .i64 xb) ∧ w'.cell? ⟨jb, 1, none⟩ = some (.int .i64 yb) ∧ w'.cell? ⟨jb, 2, none⟩ = some (.int .i64 kb) ∧ w'.cell? ⟨jb, 3, none⟩ = some (.int .i64 tb) ∧ w'.cell? ⟨jb, 4, none⟩ = some (.int .i64 lb) ∧ w'.cell? ⟨gp, 0, none⟩ = some (.int .i64 X) ∧ w'.cell? ⟨gp, 1, none⟩ = some (.int .i64 Y) ∧ w'.cell? ⟨gq, 0, none⟩ = some (.int .i64 X) ∧ w'.cell? ⟨gq, 1, none⟩ = some (.int .i64 Y) ∧ w'.cell? ⟨gZ, k, none⟩ = some (.int .i64 z) ∧ w'.cell? ⟨gZ, k - 1, none⟩ = some (.int .i64 zp) ∧ Below v2.heap.size v2 w')) (by kernel_rfl) ?_ (fun hH => ?_)
              · exact ⟨a0, a1, a2, a3, a4, b0, b1, b2, b3, b4, p0, p1, q0, q1, zk, zk1, by go_grown⟩
              refine wpAnyH_take (i := 0) (oi := { dst := some 51, op := _, type := _, pos := _, after := _, guard := _ }) (v := ?_) rfl (by kernel_rfl) (by kernel_rfl) (by kernel_rfl) (fun _ _ _ h => h) (Or.inl ⟨by rfl, ?_⟩) hH ?_
              rotate_left 1
              · intro W hSw
                (try dsimp only at hSw)
                go_simp
                (try with_reducible rfl)
              try simp only [Act.put, List.setIfInBounds_toArray, List.set_cons_zero, List.set_cons_succ]
              refine wpAnyH_take (i := 1) (oi := { dst := some 52, op := _, type := _, pos := _, after := _, guard := _ }) (v := ?_) rfl (by kernel_rfl) (by kernel_rfl) (by kernel_rfl) (fun _ _ _ h => h) (Or.inl ⟨by rfl, ?_⟩) hH ?_
              rotate_left 1
              · intro W hSw
                (try dsimp only at hSw)
                go_simp
                (try with_reducible rfl)
              try simp only [Act.put, List.setIfInBounds_toArray, List.set_cons_zero, List.set_cons_succ]
              refine wpAnyH_take (i := 2) (oi := { dst := some 53, op := _, type := _, pos := _, after := _, guard := _ }) (v := ?_) rfl (by kernel_rfl) (by kernel_rfl) (by kernel_rfl) (fun _ _ _ h => h) (Or.inl ⟨by rfl, ?_⟩) hH ?_
              rotate_left 1
              · intro W hSw
                (try dsimp only at hSw)
                go_simp
                (try with_reducible rfl)
              try simp only [Act.put, List.setIfInBounds_toArray, List.set_cons_zero, List.set_cons_succ]
              refine wpAnyH_take (i := 3) (oi := { dst := some 54, op := _, type := _, pos := _, after := _, guard := _ }) (v := ?_) rfl (by kernel_rfl) (by kernel_rfl) (by kernel_rfl) (fun _ _ _ h => h) (Or.inl ⟨by rfl, ?_⟩) hH ?_
              rotate_left 1
              · intro W hSw
                (try dsimp only at hSw)
                go_simp
                (try with_reducible rfl)
              try simp only [Act.put, List.setIfInBounds_toArray, List.set_cons_zero, List.set_cons_succ]
              refine wpAnyH_take (i := 4) (oi := { dst := some 55, op := _, type := _, pos := _, after := _, guard := _ }) (v := ?_) rfl (by kernel_rfl) (by kernel_rfl) (by kernel_rfl) (fun _ _ _ h => h) (Or.inl ⟨by rfl, ?_⟩) hH ?_
              rotate_left 1
              · intro W hSw
                (try dsimp only at hSw)
                go_simp
                (try with_reducible rfl)
              try simp only [Act.put, List.setIfInBounds_toArray, List.set_cons_zero, List.set_cons_succ]
              refine wpAnyH_take (i := 5) (oi := { dst := some 56, op := _, type := _, pos := _, after := _, guard := _ }) (v := ?_) rfl (by kernel_rfl) (by kernel_rfl) (by kernel_rfl) (fun _ _ _ h => h) (Or.inl ⟨by rfl, ?_⟩) hH ?_
              rotate_left 1
              · intro W hSw
                (try dsimp only at hSw)
                go_simp
                (try with_reducible rfl)
              try simp only [Act.put, List.setIfInBounds_toArray, List.set_cons_zero, List.set_cons_succ]
              refine wpAnyH_take (i := 6) (oi := { dst := some 57, op := _, type := _, pos := _, after := _, guard := _ }) (v := ?_) rfl (by kernel_rfl) (by kernel_rfl) (by kernel_rfl) (fun _ _ _ h => h) (Or.inl ⟨by rfl, ?_⟩) hH ?_
              rotate_left 1
              · intro W hSw
                (try dsimp only at hSw)
                go_simp
                (try with_reducible rfl)
              try simp only [Act.put, List.setIfInBounds_toArray, List.set_cons_zero, List.set_cons_succ]
              refine wpAnyH_take (i := 7) (oi := { dst := some 58, op := _, type := _, pos := _, after := _, guard := _ }) (v := ?_) rfl (by kernel_rfl) (by kernel_rfl) (by kernel_rfl) (fun _ _ _ h => h) (Or.inl ⟨by rfl, ?_⟩) hH ?_
              rotate_left 1
              · intro W hSw
                (try dsimp only at hSw)
                go_simp
                (try with_reducible rfl)
              try simp only [Act.put, List.setIfInBounds_toArray, List.set_cons_zero, List.set_cons_succ]
              refine wpAnyH_take (i := 8) (oi := { dst := some 59, op := _, type := _, pos := _, after := _, guard := _ }) (v := ?_) rfl (by kernel_rfl) (by kernel_rfl) (by kernel_rfl) (fun _ _ _ h => h) (Or.inl ⟨by rfl, ?_⟩) hH ?_
              rotate_left 1
              · intro W hSw
                (try dsimp only at hSw)
                go_simp
                (try with_reducible rfl)
              try simp only [Act.put, List.setIfInBounds_toArray, List.set_cons_zero, List.set_cons_succ]
              refine wpAnyH_take (i := 9) (oi := { dst := some 60, op := _, type := _, pos := _, after := _, guard := _ }) (v := ?_) rfl (by kernel_rfl) (by kernel_rfl) (by kernel_rfl) (fun _ _ _ h => h) (Or.inl ⟨by rfl, ?_⟩) hH ?_
              rotate_left 1
              · intro W hSw
                (try dsimp only at hSw)
                go_simp
                (try with_reducible rfl)
              try simp only [Act.put, List.setIfInBounds_toArray, List.set_cons_zero, List.set_cons_succ]
              refine wpAnyH_take (i := 10) (oi := { dst := some 61, op := _, type := _, pos := _, after := _, guard := _ }) (v := ?_) rfl (by kernel_rfl) (by kernel_rfl) (by kernel_rfl) (fun _ _ _ h => h) (Or.inl ⟨by rfl, ?_⟩) hH ?_
              rotate_left 1
              · intro W hSw
                (try dsimp only at hSw)
                go_simp
                (try with_reducible rfl)
              try simp only [Act.put, List.setIfInBounds_toArray, List.set_cons_zero, List.set_cons_succ]
              refine wpAnyH_take (i := 11) (oi := { dst := some 62, op := _, type := _, pos := _, after := _, guard := _ }) (v := ?_) rfl (by kernel_rfl) (by kernel_rfl) (by kernel_rfl) (fun _ _ _ h => h) (Or.inl ⟨by rfl, ?_⟩) hH ?_
              rotate_left 1
              · intro W hSw
                (try dsimp only at hSw)
                go_simp
                (try with_reducible rfl)
              try simp only [Act.put, List.setIfInBounds_toArray, List.set_cons_zero, List.set_cons_succ]
              refine wpAnyH_take (i := 12) (oi := { dst := some 63, op := _, type := _, pos := _, after := _, guard := _ }) (v := ?_) rfl (by kernel_rfl) (by kernel_rfl) (by kernel_rfl) (fun _ _ _ h => h) (Or.inl ⟨by rfl, ?_⟩) hH ?_
              rotate_left 1
              · intro W hSw
                (try dsimp only at hSw)
                go_simp
                (try with_reducible rfl)
              try simp only [Act.put, List.setIfInBounds_toArray, List.set_cons_zero, List.set_cons_succ]
              refine wpAnyH_take (i := 13) (oi := { dst := some 64, op := _, type := _, pos := _, after := _, guard := _ }) (v := ?_) rfl (by kernel_rfl) (by kernel_rfl) (by kernel_rfl) (fun _ _ _ h => h) (Or.inl ⟨by rfl, ?_⟩) hH ?_
              rotate_left 1
              · intro W hSw
                (try dsimp only at hSw)
                go_simp
                (try with_reducible rfl)
              try simp only [Act.put, List.setIfInBounds_toArray, List.set_cons_zero, List.set_cons_succ]
              refine wpAnyH_take (i := 14) (oi := { dst := some 65, op := _, type := _, pos := _, after := _, guard := _ }) (v := ?_) rfl (by kernel_rfl) (by kernel_rfl) (by kernel_rfl) (fun _ _ _ h => h) (Or.inl ⟨by rfl, ?_⟩) hH ?_
              rotate_left 1
              · intro W hSw
                (try dsimp only at hSw)
                go_simp
                (try with_reducible rfl)
              try simp only [Act.put, List.setIfInBounds_toArray, List.set_cons_zero, List.set_cons_succ]
              refine wpAnyH_take (i := 15) (oi := { dst := some 66, op := _, type := _, pos := _, after := _, guard := _ }) (v := ?_) rfl (by kernel_rfl) (by kernel_rfl) (by kernel_rfl) (fun _ _ _ h => h) (Or.inl ⟨by rfl, ?_⟩) hH ?_
              rotate_left 1
              · intro W hSw
                (try dsimp only at hSw)
                go_simp
                (try with_reducible rfl)
              try simp only [Act.put, List.setIfInBounds_toArray, List.set_cons_zero, List.set_cons_succ]
              refine wpAnyH_take (i := 16) (oi := { dst := some 67, op := _, type := _, pos := _, after := _, guard := _ }) (v := ?_) rfl (by kernel_rfl) (by kernel_rfl) (by kernel_rfl) (fun _ _ _ h => h) (Or.inl ⟨by rfl, ?_⟩) hH ?_
              rotate_left 1
              · intro W hSw
                (try dsimp only at hSw)
                go_simp
                (try with_reducible rfl)
              try simp only [Act.put, List.setIfInBounds_toArray, List.set_cons_zero, List.set_cons_succ]
              refine wpAnyH_take (i := 18) (oi := { dst := some 69, op := _, type := _, pos := _, after := _, guard := _ }) (v := ?_) rfl (by kernel_rfl) (by kernel_rfl) (by kernel_rfl) (fun _ _ _ h => h) (Or.inl ⟨by rfl, ?_⟩) hH ?_
              rotate_left 1
              · intro W hSw
                (try dsimp only at hSw)
                go_simp
                (try with_reducible rfl)
              try simp only [Act.put, List.setIfInBounds_toArray, List.set_cons_zero, List.set_cons_succ]
              refine wpAnyH_take (i := 19) (oi := { dst := some 70, op := _, type := _, pos := _, after := _, guard := _ }) (v := ?_) rfl (by kernel_rfl) (by kernel_rfl) (by kernel_rfl) (fun _ _ _ h => h) (Or.inl ⟨by rfl, ?_⟩) hH ?_
              rotate_left 1
              · intro W hSw
                (try dsimp only at hSw)
                go_simp
                (try with_reducible rfl)
              try simp only [Act.put, List.setIfInBounds_toArray, List.set_cons_zero, List.set_cons_succ]
              refine wpAnyH_take (i := 20) (oi := { dst := some 71, op := _, type := _, pos := _, after := _, guard := _ }) (v := ?_) rfl (by kernel_rfl) (by kernel_rfl) (by kernel_rfl) (fun _ _ _ h => h) (Or.inl ⟨by rfl, ?_⟩) hH ?_
              rotate_left 1
              · intro W hSw
                (try dsimp only at hSw)
                go_simp
                (try with_reducible rfl)
              try simp only [Act.put, List.setIfInBounds_toArray, List.set_cons_zero, List.set_cons_succ]
              refine wpAnyH_take (i := 21) (oi := { dst := some 72, op := _, type := _, pos := _, after := _, guard := _ }) (v := ?_) rfl (by kernel_rfl) (by kernel_rfl) (by kernel_rfl) (fun _ _ _ h => h) (Or.inl ⟨by rfl, ?_⟩) hH ?_
              rotate_left 1
              · intro W hSw
                (try dsimp only at hSw)
                go_simp
                (try with_reducible rfl)
              try simp only [Act.put, List.setIfInBounds_toArray, List.set_cons_zero, List.set_cons_succ]
              refine wpAnyH_take (i := 22) (oi := { dst := some 73, op := _, type := _, pos := _, after := _, guard := _ }) (v := ?_) rfl (by kernel_rfl) (by kernel_rfl) (by kernel_rfl) (fun _ _ _ h => h) (Or.inl ⟨by rfl, ?_⟩) hH ?_
              rotate_left 1
              · intro W hSw
                (try dsimp only at hSw)
                go_simp
                (try with_reducible rfl)
              try simp only [Act.put, List.setIfInBounds_toArray, List.set_cons_zero, List.set_cons_succ]
              refine wpAnyH_ready (rs := [17]) (by kernel_rfl) (by simp) (AllReadyH.cons rfl (fun K hK => ?_) AllReadyH.nil)
              go_simp
              go_at_call 10; ((with_reducible refine (H1.out _).mono ?_); rintro e9 r1 ⟨rfl, hb9⟩); go_wp2_with fail
              refine hK.out _ _ ?_ (fun hG => ?_)
              · exact ⟨cell_below hb9 hH.1, cell_below hb9 hH.2.1, cell_below hb9 hH.2.2.1, cell_below hb9 hH.2.2.2.1, cell_below hb9 hH.2.2.2.2.1, cell_below hb9 hH.2.2.2.2.2.1, cell_below hb9 hH.2.2.2.2.2.2.1, cell_below hb9 hH.2.2.2.2.2.2.2.1, cell_below hb9 hH.2.2.2.2.2.2.2.2.1, cell_below hb9 hH.2.2.2.2.2.2.2.2.2.1, cell_below hb9 hH.2.2.2.2.2.2.2.2.2.2.1, cell_below hb9 hH.2.2.2.2.2.2.2.2.2.2.2.1, cell_below hb9 hH.2.2.2.2.2.2.2.2.2.2.2.2.1, cell_below hb9 hH.2.2.2.2.2.2.2.2.2.2.2.2.2.1, cell_below hb9 hH.2.2.2.2.2.2.2.2.2.2.2.2.2.2.1, cell_below hb9 hH.2.2.2.2.2.2.2.2.2.2.2.2.2.2.2.1, hH.2.2.2.2.2.2.2.2.2.2.2.2.2.2.2.2.trans (hb9.mono hH.2.2.2.2.2.2.2.2.2.2.2.2.2.2.2.2.size)⟩
              replace hH := hG
              clear hK K hG
              try simp only [Act.put, List.setIfInBounds_toArray, List.set_cons_zero, List.set_cons_succ]
              refine wpAnyH_ready (rs := [23]) (by kernel_rfl) (by simp) (AllReadyH.cons rfl (fun K hK => ?_) AllReadyH.nil)
              go_simp
              go_at_call 10; ((with_reducible refine (H2.out _).mono ?_); rintro e9 r2 ⟨rfl, hb9⟩); go_wp2_with fail
              refine hK.out _ _ ?_ (fun hG => ?_)
              · exact ⟨cell_below hb9 hH.1, cell_below hb9 hH.2.1, cell_below hb9 hH.2.2.1, cell_below hb9 hH.2.2.2.1, cell_below hb9 hH.2.2.2.2.1, cell_below hb9 hH.2.2.2.2.2.1, cell_below hb9 hH.2.2.2.2.2.2.1, cell_below hb9 hH.2.2.2.2.2.2.2.1, cell_below hb9 hH.2.2.2.2.2.2.2.2.1, cell_below hb9 hH.2.2.2.2.2.2.2.2.2.1, cell_below hb9 hH.2.2.2.2.2.2.2.2.2.2.1, cell_below hb9 hH.2.2.2.2.2.2.2.2.2.2.2.1, cell_below hb9 hH.2.2.2.2.2.2.2.2.2.2.2.2.1, cell_below hb9 hH.2.2.2.2.2.2.2.2.2.2.2.2.2.1, cell_below hb9 hH.2.2.2.2.2.2.2.2.2.2.2.2.2.2.1, cell_below hb9 hH.2.2.2.2.2.2.2.2.2.2.2.2.2.2.2.1, hH.2.2.2.2.2.2.2.2.2.2.2.2.2.2.2.2.trans (hb9.mono hH.2.2.2.2.2.2.2.2.2.2.2.2.2.2.2.2.size)⟩
              replace hH := hG
              clear hK K hG
              try simp only [Act.put, List.setIfInBounds_toArray, List.set_cons_zero, List.set_cons_succ]
              refine wpAnyH_take (i := 24) (oi := { dst := some 75, op := _, type := _, pos := _, after := _, guard := _ }) (v := ?_) rfl (by kernel_rfl) (by kernel_rfl) (by kernel_rfl) (fun _ _ _ h => h) (Or.inl ⟨by rfl, ?_⟩) hH ?_
              rotate_left 1
              · intro W hSw
                (try dsimp only at hSw)
                go_simp
                (try with_reducible rfl)
              try simp only [Act.put, List.setIfInBounds_toArray, List.set_cons_zero, List.set_cons_succ]
              refine wpAnyH_take (i := 25) (oi := { dst := some 76, op := _, type := _, pos := _, after := _, guard := _ }) (v := ?_) rfl (by kernel_rfl) (by kernel_rfl) (by kernel_rfl) (fun _ _ _ h => h) (Or.inl ⟨by rfl, ?_⟩) hH ?_
              rotate_left 1
              · intro W hSw
                (try dsimp only at hSw)
                go_simp
                (try with_reducible rfl)
              try simp only [Act.put, List.setIfInBounds_toArray, List.set_cons_zero, List.set_cons_succ]
              refine wpAnyH_take (i := 26) (oi := { dst := some 77, op := _, type := _, pos := _, after := _, guard := _ }) (v := ?_) rfl (by kernel_rfl) (by kernel_rfl) (by kernel_rfl) (fun _ _ _ h => h) (Or.inl ⟨by rfl, ?_⟩) hH ?_
              rotate_left 1
              · intro W hSw
                (try dsimp only at hSw)
                go_simp
                (try with_reducible rfl)
              try simp only [Act.put, List.setIfInBounds_toArray, List.set_cons_zero, List.set_cons_succ]
              refine wpAnyH_take (i := 27) (oi := { dst := some 78, op := _, type := _, pos := _, after := _, guard := _ }) (v := ?_) rfl (by kernel_rfl) (by kernel_rfl) (by kernel_rfl) (fun _ _ _ h => h) (Or.inl ⟨by rfl, ?_⟩) hH ?_
              rotate_left 1
              · intro W hSw
                (try dsimp only at hSw)
                go_simp
                (try with_reducible rfl)
              try simp only [Act.put, List.setIfInBounds_toArray, List.set_cons_zero, List.set_cons_succ]
              refine wpAnyH_take (i := 28) (oi := { dst := some 79, op := _, type := _, pos := _, after := _, guard := _ }) (v := ?_) rfl (by kernel_rfl) (by kernel_rfl) (by kernel_rfl) (fun _ _ _ h => h) (Or.inl ⟨by rfl, ?_⟩) hH ?_
              rotate_left 1
              · intro W hSw
                (try dsimp only at hSw)
                go_simp
                (try with_reducible rfl)
              try simp only [Act.put, List.setIfInBounds_toArray, List.set_cons_zero, List.set_cons_succ]
              refine wpAnyH_take (i := 29) (oi := { dst := some 80, op := _, type := _, pos := _, after := _, guard := _ }) (v := ?_) rfl (by kernel_rfl) (by kernel_rfl) (by kernel_rfl) (fun _ _ _ h => h) (Or.inl ⟨by rfl, ?_⟩) hH ?_
              rotate_left 1
              · intro W hSw
                (try dsimp only at hSw)
                go_simp
                (try with_reducible rfl)
              try simp only [Act.put, List.setIfInBounds_toArray, List.set_cons_zero, List.set_cons_succ]
              refine wpAnyH_take (i := 30) (oi := { dst := some 81, op := _, type := _, pos := _, after := _, guard := _ }) (v := undef) rfl (by kernel_rfl) (by kernel_rfl) (by kernel_rfl) (fun _ _ _ h => h) (Or.inr ⟨by simp [Region.wanted, yielded, hu], rfl⟩) hH ?_
              try simp only [Act.put, List.setIfInBounds_toArray, List.set_cons_zero, List.set_cons_succ]
              refine wpAnyH_take (i := 31) (oi := { dst := some 82, op := _, type := _, pos := _, after := _, guard := _ }) (v := undef) rfl (by kernel_rfl) (by kernel_rfl) (by kernel_rfl) (fun _ _ _ h => h) (Or.inr ⟨by simp [Region.wanted, yielded, hu], rfl⟩) hH ?_
              try simp only [Act.put, List.setIfInBounds_toArray, List.set_cons_zero, List.set_cons_succ]
              refine wpAnyH_take (i := 32) (oi := { dst := some 83, op := _, type := _, pos := _, after := _, guard := _ }) (v := undef) rfl (by kernel_rfl) (by kernel_rfl) (by kernel_rfl) (fun _ _ _ h => h) (Or.inr ⟨by simp [Region.wanted, yielded, hu], rfl⟩) hH ?_
              try simp only [Act.put, List.setIfInBounds_toArray, List.set_cons_zero, List.set_cons_succ]
              refine wpAnyH_take (i := 33) (oi := { dst := some 84, op := _, type := _, pos := _, after := _, guard := _ }) (v := undef) rfl (by kernel_rfl) (by kernel_rfl) (by kernel_rfl) (fun _ _ _ h => h) (Or.inr ⟨by simp [Region.wanted, yielded, hu], rfl⟩) hH ?_
              try simp only [Act.put, List.setIfInBounds_toArray, List.set_cons_zero, List.set_cons_succ]
              refine wpAnyH_take (i := 34) (oi := { dst := some 85, op := _, type := _, pos := _, after := _, guard := _ }) (v := undef) rfl (by kernel_rfl) (by kernel_rfl) (by kernel_rfl) (fun _ _ _ h => h) (Or.inr ⟨by simp [Region.wanted, yielded, hu], rfl⟩) hH ?_
              try simp only [Act.put, List.setIfInBounds_toArray, List.set_cons_zero, List.set_cons_succ]
              refine wpAnyH_take (i := 35) (oi := { dst := some 86, op := _, type := _, pos := _, after := _, guard := _ }) (v := undef) rfl (by kernel_rfl) (by kernel_rfl) (by kernel_rfl) (fun _ _ _ h => h) (Or.inr ⟨by simp [Region.wanted, yielded, hu], rfl⟩) hH ?_
              try simp only [Act.put, List.setIfInBounds_toArray, List.set_cons_zero, List.set_cons_succ]
              refine wpAnyH_take (i := 36) (oi := { dst := some 87, op := _, type := _, pos := _, after := _, guard := _ }) (v := undef) rfl (by kernel_rfl) (by kernel_rfl) (by kernel_rfl) (fun _ _ _ h => h) (Or.inr ⟨by simp [Region.wanted, yielded, hu], rfl⟩) hH ?_
              try simp only [Act.put, List.setIfInBounds_toArray, List.set_cons_zero, List.set_cons_succ]
              refine wpAnyH_take (i := 37) (oi := { dst := some 88, op := _, type := _, pos := _, after := _, guard := _ }) (v := undef) rfl (by kernel_rfl) (by kernel_rfl) (by kernel_rfl) (fun _ _ _ h => h) (Or.inr ⟨by simp [Region.wanted, yielded, hu], rfl⟩) hH ?_
              try simp only [Act.put, List.setIfInBounds_toArray, List.set_cons_zero, List.set_cons_succ]
              refine wpAnyH_take (i := 38) (oi := { dst := some 89, op := _, type := _, pos := _, after := _, guard := _ }) (v := undef) rfl (by kernel_rfl) (by kernel_rfl) (by kernel_rfl) (fun _ _ _ h => h) (Or.inr ⟨by simp [Region.wanted, yielded, hu], rfl⟩) hH ?_
              try simp only [Act.put, List.setIfInBounds_toArray, List.set_cons_zero, List.set_cons_succ]
              refine wpAnyH_take (i := 39) (oi := { dst := some 90, op := _, type := _, pos := _, after := _, guard := _ }) (v := undef) rfl (by kernel_rfl) (by kernel_rfl) (by kernel_rfl) (fun _ _ _ h => h) (Or.inr ⟨by simp [Region.wanted, yielded, hu], rfl⟩) hH ?_
              try simp only [Act.put, List.setIfInBounds_toArray, List.set_cons_zero, List.set_cons_succ]
              refine wpAnyH_take (i := 40) (oi := { dst := some 91, op := _, type := _, pos := _, after := _, guard := _ }) (v := ?_) rfl (by kernel_rfl) (by kernel_rfl) (by kernel_rfl) (fun _ _ _ h => h) (Or.inl ⟨by rfl, ?_⟩) hH ?_
              rotate_left 1
              · intro W hSw
                (try dsimp only at hSw)
                go_simp
                (try with_reducible rfl)
              try simp only [Act.put, List.setIfInBounds_toArray, List.set_cons_zero, List.set_cons_succ]
              refine wpAnyH_take (i := 41) (oi := { dst := some 92, op := _, type := _, pos := _, after := _, guard := _ }) (v := ?_) rfl (by kernel_rfl) (by kernel_rfl) (by kernel_rfl) (fun _ _ _ h => h) (Or.inl ⟨by rfl, ?_⟩) hH ?_
              rotate_left 1
              · intro W hSw
                (try dsimp only at hSw)
                go_simp
                (try with_reducible rfl)
              try simp only [Act.put, List.setIfInBounds_toArray, List.set_cons_zero, List.set_cons_succ]
              refine wpAnyH_done (by kernel_rfl) ?_ _
              refine NoPanic.normal ?_
              have hb := hH.2.2.2.2.2.2.2.2.2.2.2.2.2.2.2.2
              clear hH
              clear a0 a1 a2 a3 a4 b0 b1 b2 b3 b4 p0 p1 q0 q1 zk zk1
              have Jn := Lib.hid (J.out.below hb)
              have Zn := Lib.hid ((Z.out.below hb).more hb.size)
              clear hb J Z
              have J := Jn
              clear Jn
              have Z := Zn
              clear Zn
              go_wp2_with fail
              go_roundw
              case rel => first | exact ⟨k + 1, by omega, by go_num, J, Z⟩ | ((repeat apply Exists.intro); exact ⟨⟨k + 1, by omega, by go_num, J, Z⟩, rfl⟩)
              case measure => simp [intOf]; omega
      · have hnl : ¬ (k : Int) < (m : Int) := by omega
        clear AT UP Z
        cases hj : jt xa ya ka ta la
        · have I1 := Lib.hid (fun W : World => (isJetI_of hj W).mono fun e w9 q => (⟨q.1, by rw [q.2]; go_grown⟩ : _ ∧ Below W.heap.size W w9))
          have I2 := Lib.hid (fun W : World => (isJetS_of hj W).mono fun e w9 q => (⟨q.1, by rw [q.2]; go_grown⟩ : _ ∧ Below W.heap.size W w9))
          clear hj
          have hJ := J.out.a.c
          have hJ0 := (JB.drew J.out.a).c
          go_upto_region 14 with fail
          go_region_held3 (fun w' => w'.cell? ⟨ja, 0, none⟩ = some (.int .i64 xa) ∧ w'.cell? ⟨ja, 1, none⟩ = some (.int .i64 ya) ∧ w'.cell? ⟨ja, 2, none⟩ = some (.int .i64 ka) ∧ w'.cell? ⟨ja, 3, none⟩ = some (.int .i64 ta) ∧ w'.cell? ⟨ja, 4, none⟩ = some (.int .i64 la)) ((first | (with_reducible exact hJ1) | (with_reducible exact hJ2) | exact hJ0 | exact hJ))
            (first
              | (go_at_call 11; ((with_reducible refine (I1.out _).mono ?_); rintro e r1 ⟨rfl, hb⟩; have hw1 : Below wr.heap.size wr r1 := Below.trans (Below.refl wr.heap.size wr).drew hb; have kJ1 := J.out.a.below hw1; have hJ1 := kJ1.c; clear hb))
              | (go_at_call 12; ((with_reducible refine (I2.out _).mono ?_); rintro e r2 ⟨rfl, hb⟩; have hw2 : Below wr.heap.size wr r2 := hw1.trans (hb.mono hw1.size); have kJ2 := J.out.a.below hw2; have hJ2 := kJ2.c; clear hb)))
          have J2 := Lib.hid (J.out.below hw2)
          clear J hJ hJ0 hJ1 hJ2 kJ1 kJ2 hw1 hw2
          obtain ⟨a0, a1, a2, a3, a4⟩ := J2.out.a.c
          go_wp2_with fail
          refine wp_region_noPanic ?_
          refine wp_region_held_drew (S := (fun w' => w'.cell? ⟨ja, 0, none⟩ = some (.int .i64 xa) ∧ w'.cell? ⟨ja, 1, none⟩ = some (.int .i64 ya) ∧ w'.cell? ⟨ja, 2, none⟩ = some (.int .i64 ka) ∧ w'.cell? ⟨ja, 3, none⟩ = some (.int .i64 ta) ∧ w'.cell? ⟨ja, 4, none⟩ = some (.int .i64 la) ∧ Below r2.heap.size r2 w')) (by kernel_rfl) ?_ (fun hH => ?_)
          · exact ⟨a0, a1, a2, a3, a4, by go_grown⟩
          refine wpAnyH_take (i := 0) (oi := { dst := some 98, op := _, type := _, pos := _, after := _, guard := _ }) (v := ?_) rfl (by kernel_rfl) (by kernel_rfl) (by kernel_rfl) (fun _ _ _ h => h) (Or.inl ⟨by rfl, ?_⟩) hH ?_
          rotate_left 1
          · intro W hSw
            (try dsimp only at hSw)
            go_simp
            (try with_reducible rfl)
          try simp only [Act.put, List.setIfInBounds_toArray, List.set_cons_zero, List.set_cons_succ]
          refine wpAnyH_ready (rs := [1]) (by kernel_rfl) (by simp) (AllReadyH.cons rfl (fun K hK => ?_) AllReadyH.nil)
          go_simp
          go_at_call 11; ((with_reducible refine (I1.out _).mono ?_); rintro e9 u1 ⟨rfl, hb9⟩); go_wp2_with fail
          refine hK.out _ _ ?_ (fun hG => ?_)
          · exact ⟨cell_below hb9 hH.1, cell_below hb9 hH.2.1, cell_below hb9 hH.2.2.1, cell_below hb9 hH.2.2.2.1, cell_below hb9 hH.2.2.2.2.1, hH.2.2.2.2.2.trans (hb9.mono hH.2.2.2.2.2.size)⟩
          replace hH := hG
          clear hK K hG
          try simp only [Act.put, List.setIfInBounds_toArray, List.set_cons_zero, List.set_cons_succ]
          refine wpAnyH_take (i := 2) (oi := { dst := some 100, op := _, type := _, pos := _, after := _, guard := _ }) (v := ?_) rfl (by kernel_rfl) (by kernel_rfl) (by kernel_rfl) (fun _ _ _ h => h) (Or.inl ⟨by rfl, ?_⟩) hH ?_
          rotate_left 1
          · intro W hSw
            (try dsimp only at hSw)
            go_simp
            (try with_reducible rfl)
          try simp only [Act.put, List.setIfInBounds_toArray, List.set_cons_zero, List.set_cons_succ]
          refine wpAnyH_take (i := 3) (oi := { dst := some 101, op := _, type := _, pos := _, after := _, guard := _ }) (v := ?_) rfl (by kernel_rfl) (by kernel_rfl) (by kernel_rfl) (fun _ _ _ h => h) (Or.inl ⟨by rfl, ?_⟩) hH ?_
          rotate_left 1
          · intro W hSw
            (try dsimp only at hSw)
            go_simp
            (try with_reducible rfl)
          try simp only [Act.put, List.setIfInBounds_toArray, List.set_cons_zero, List.set_cons_succ]
          refine wpAnyH_take (i := 4) (oi := { dst := some 102, op := _, type := _, pos := _, after := _, guard := _ }) (v := undef) rfl (by kernel_rfl) (by kernel_rfl) (by kernel_rfl) (fun _ _ _ h => h) (Or.inr ⟨by simp [Region.wanted, yielded, hu], rfl⟩) hH ?_
          try simp only [Act.put, List.setIfInBounds_toArray, List.set_cons_zero, List.set_cons_succ]
          refine wpAnyH_take (i := 5) (oi := { dst := some 103, op := _, type := _, pos := _, after := _, guard := _ }) (v := undef) rfl (by kernel_rfl) (by kernel_rfl) (by kernel_rfl) (fun _ _ _ h => h) (Or.inr ⟨by simp [Region.wanted, yielded, hu], rfl⟩) hH ?_
          try simp only [Act.put, List.setIfInBounds_toArray, List.set_cons_zero, List.set_cons_succ]
          refine wpAnyH_take (i := 6) (oi := { dst := some 104, op := _, type := _, pos := _, after := _, guard := _ }) (v := undef) rfl (by kernel_rfl) (by kernel_rfl) (by kernel_rfl) (fun _ _ _ h => h) (Or.inr ⟨by simp [Region.wanted, yielded, hu], rfl⟩) hH ?_
          try simp only [Act.put, List.setIfInBounds_toArray, List.set_cons_zero, List.set_cons_succ]
          refine wpAnyH_take (i := 7) (oi := { dst := some 105, op := _, type := _, pos := _, after := _, guard := _ }) (v := undef) rfl (by kernel_rfl) (by kernel_rfl) (by kernel_rfl) (fun _ _ _ h => h) (Or.inr ⟨by simp [Region.wanted, yielded, hu], rfl⟩) hH ?_
          try simp only [Act.put, List.setIfInBounds_toArray, List.set_cons_zero, List.set_cons_succ]
          refine wpAnyH_take (i := 8) (oi := { dst := some 106, op := _, type := _, pos := _, after := _, guard := _ }) (v := undef) rfl (by kernel_rfl) (by kernel_rfl) (by kernel_rfl) (fun _ _ _ h => h) (Or.inr ⟨by simp [Region.wanted, yielded, hu], rfl⟩) hH ?_
          try simp only [Act.put, List.setIfInBounds_toArray, List.set_cons_zero, List.set_cons_succ]
          refine wpAnyH_take (i := 9) (oi := { dst := some 107, op := _, type := _, pos := _, after := _, guard := _ }) (v := undef) rfl (by kernel_rfl) (by kernel_rfl) (by kernel_rfl) (fun _ _ _ h => h) (Or.inr ⟨by simp [Region.wanted, yielded, hu], rfl⟩) hH ?_
          try simp only [Act.put, List.setIfInBounds_toArray, List.set_cons_zero, List.set_cons_succ]
          refine wpAnyH_take (i := 10) (oi := { dst := some 108, op := _, type := _, pos := _, after := _, guard := _ }) (v := undef) rfl (by kernel_rfl) (by kernel_rfl) (by kernel_rfl) (fun _ _ _ h => h) (Or.inr ⟨by simp [Region.wanted, yielded, hu], rfl⟩) hH ?_
          try simp only [Act.put, List.setIfInBounds_toArray, List.set_cons_zero, List.set_cons_succ]
          refine wpAnyH_take (i := 11) (oi := { dst := some 109, op := _, type := _, pos := _, after := _, guard := _ }) (v := undef) rfl (by kernel_rfl) (by kernel_rfl) (by kernel_rfl) (fun _ _ _ h => h) (Or.inr ⟨by simp [Region.wanted, yielded, hu], rfl⟩) hH ?_
          try simp only [Act.put, List.setIfInBounds_toArray, List.set_cons_zero, List.set_cons_succ]
          refine wpAnyH_take (i := 12) (oi := { dst := some 110, op := _, type := _, pos := _, after := _, guard := _ }) (v := ?_) rfl (by kernel_rfl) (by kernel_rfl) (by kernel_rfl) (fun _ _ _ h => h) (Or.inl ⟨by rfl, ?_⟩) hH ?_
          rotate_left 1
          · intro W hSw
            (try dsimp only at hSw)
            go_simp
            (try with_reducible rfl)
          try simp only [Act.put, List.setIfInBounds_toArray, List.set_cons_zero, List.set_cons_succ]
          refine wpAnyH_take (i := 13) (oi := { dst := some 2, op := _, type := _, pos := _, after := _, guard := _ }) (v := ?_) rfl (by kernel_rfl) (by kernel_rfl) (by kernel_rfl) (fun _ _ _ h => h) (Or.inl ⟨by rfl, ?_⟩) hH ?_
          rotate_left 1
          · intro W hSw
            (try dsimp only at hSw)
            go_simp
            (try with_reducible rfl)
          try simp only [Act.put, List.setIfInBounds_toArray, List.set_cons_zero, List.set_cons_succ]
          refine wpAnyH_done (by kernel_rfl) ?_ _
          refine NoPanic.normal ?_
          have hb := hH.2.2.2.2.2
          clear hH
          go_wp2_with fail
          go_ret
          exact ⟨rfl, J2.out.bel.trans (hb.mono J2.out.bel.size)⟩
        · have I1 := Lib.hid (fun W : World => (isJetI_of hj W).mono fun e w9 q => (⟨q.1, by rw [q.2]; go_grown⟩ : _ ∧ Below W.heap.size W w9))
          have I2 := Lib.hid (fun W : World => (isJetS_of hj W).mono fun e w9 q => (⟨q.1, by rw [q.2]; go_grown⟩ : _ ∧ Below W.heap.size W w9))
          have ML := Lib.hid (mto_self hj)
          obtain ⟨ms, hms⟩ : ∃ v, mto xa ya ka ta la xa ya ka ta la = v := ⟨_, rfl⟩
          obtain ⟨m3, hm3⟩ : ∃ v, ms.length = v := ⟨_, rfl⟩
          have M3 := Lib.hid (show ∀ W : World, Calls Try.prog 7 #[jv xa ya ka ta la, jv xa ya ka ta la] W (fun e w' => ∃ g c, e = .returned (.slice (some ⟨g, 0, none⟩) m3 c) ∧ Below W.heap.size W w') from fun W =>
            (meetI xa ya ka ta la xa ya ka ta la W).mono fun e w' ⟨g, c, h1, h2, h3⟩ => by rw [hms, hm3] at h1; exact ⟨g, c, h1, h3⟩)
          have F1 := Lib.hid (show ∀ W : World, Calls Try.prog 13 #[jv xa ya ka ta la] W (fun e w' => e = .returned (.int .i64 (la + 1)) ∧ Below W.heap.size W w') from fun W => by
            have := flightI xa ya ka ta la W
            rw [fl_yes hj] at this; exact this)
          have hl := (jt_iff.1 hj).2.2.2.2
          have hlw : IntKind.i64.wrap (la + 1 + 1) = la + 1 + 1 := IntWalk.i64_in _ (by omega)
          have hme : (m3 : Int) = la + 1 + 1 := by rw [← hm3, ← hms]; exact ML.out
          have hme2 : ((m3 : Int) == la + 1 + 1) = true := by rw [hme]; simp
          clear hms hm3 ML hl
          clear hj
          have hJ := J.out.a.c
          have hJ0 := (JB.drew J.out.a).c
          go_upto_region 14 with fail
          go_region_held3 (fun w' => w'.cell? ⟨ja, 0, none⟩ = some (.int .i64 xa) ∧ w'.cell? ⟨ja, 1, none⟩ = some (.int .i64 ya) ∧ w'.cell? ⟨ja, 2, none⟩ = some (.int .i64 ka) ∧ w'.cell? ⟨ja, 3, none⟩ = some (.int .i64 ta) ∧ w'.cell? ⟨ja, 4, none⟩ = some (.int .i64 la)) ((first | (with_reducible exact hJ1) | (with_reducible exact hJ2) | exact hJ0 | exact hJ))
            (first
              | (go_at_call 11; ((with_reducible refine (I1.out _).mono ?_); rintro e r1 ⟨rfl, hb⟩; have hw1 : Below wr.heap.size wr r1 := Below.trans (Below.refl wr.heap.size wr).drew hb; have kJ1 := J.out.a.below hw1; have hJ1 := kJ1.c; clear hb))
              | (go_at_call 12; ((with_reducible refine (I2.out _).mono ?_); rintro e r2 ⟨rfl, hb⟩; have hw2 : Below wr.heap.size wr r2 := hw1.trans (hb.mono hw1.size); have kJ2 := J.out.a.below hw2; have hJ2 := kJ2.c; clear hb)))
          have J2 := Lib.hid (J.out.below hw2)
          clear J hJ hJ0 hJ1 hJ2 kJ1 kJ2 hw1 hw2
          obtain ⟨a0, a1, a2, a3, a4⟩ := J2.out.a.c
          go_wp2_with fail
          refine wp_region_noPanic ?_
          refine wp_region_held_drew (S := (fun w' => w'.cell? ⟨ja, 0, none⟩ = some (.int .i64 xa) ∧ w'.cell? ⟨ja, 1, none⟩ = some (.int .i64 ya) ∧ w'.cell? ⟨ja, 2, none⟩ = some (.int .i64 ka) ∧ w'.cell? ⟨ja, 3, none⟩ = some (.int .i64 ta) ∧ w'.cell? ⟨ja, 4, none⟩ = some (.int .i64 la) ∧ Below r2.heap.size r2 w')) (by kernel_rfl) ?_ (fun hH => ?_)
          · exact ⟨a0, a1, a2, a3, a4, by go_grown⟩
          refine wpAnyH_take (i := 0) (oi := { dst := some 98, op := _, type := _, pos := _, after := _, guard := _ }) (v := ?_) rfl (by kernel_rfl) (by kernel_rfl) (by kernel_rfl) (fun _ _ _ h => h) (Or.inl ⟨by rfl, ?_⟩) hH ?_
          rotate_left 1
          · intro W hSw
            (try dsimp only at hSw)
            go_simp
            (try with_reducible rfl)
          try simp only [Act.put, List.setIfInBounds_toArray, List.set_cons_zero, List.set_cons_succ]
          refine wpAnyH_ready (rs := [1]) (by kernel_rfl) (by simp) (AllReadyH.cons rfl (fun K hK => ?_) AllReadyH.nil)
          go_simp
          go_at_call 11; ((with_reducible refine (I1.out _).mono ?_); rintro e9 u1 ⟨rfl, hb9⟩); go_wp2_with fail
          refine hK.out _ _ ?_ (fun hG => ?_)
          · exact ⟨cell_below hb9 hH.1, cell_below hb9 hH.2.1, cell_below hb9 hH.2.2.1, cell_below hb9 hH.2.2.2.1, cell_below hb9 hH.2.2.2.2.1, hH.2.2.2.2.2.trans (hb9.mono hH.2.2.2.2.2.size)⟩
          replace hH := hG
          clear hK K hG
          try simp only [Act.put, List.setIfInBounds_toArray, List.set_cons_zero, List.set_cons_succ]
          refine wpAnyH_take (i := 2) (oi := { dst := some 100, op := _, type := _, pos := _, after := _, guard := _ }) (v := ?_) rfl (by kernel_rfl) (by kernel_rfl) (by kernel_rfl) (fun _ _ _ h => h) (Or.inl ⟨by rfl, ?_⟩) hH ?_
          rotate_left 1
          · intro W hSw
            (try dsimp only at hSw)
            go_simp
            (try with_reducible rfl)
          try simp only [Act.put, List.setIfInBounds_toArray, List.set_cons_zero, List.set_cons_succ]
          refine wpAnyH_take (i := 3) (oi := { dst := some 101, op := _, type := _, pos := _, after := _, guard := _ }) (v := ?_) rfl (by kernel_rfl) (by kernel_rfl) (by kernel_rfl) (fun _ _ _ h => h) (Or.inl ⟨by rfl, ?_⟩) hH ?_
          rotate_left 1
          · intro W hSw
            (try dsimp only at hSw)
            go_simp
            (try with_reducible rfl)
          try simp only [Act.put, List.setIfInBounds_toArray, List.set_cons_zero, List.set_cons_succ]
          refine wpAnyH_take (i := 4) (oi := { dst := some 102, op := _, type := _, pos := _, after := _, guard := _ }) (v := ?_) rfl (by kernel_rfl) (by kernel_rfl) (by kernel_rfl) (fun _ _ _ h => h) (Or.inl ⟨by rfl, ?_⟩) hH ?_
          rotate_left 1
          · intro W hSw
            (try dsimp only at hSw)
            go_simp
            (try with_reducible rfl)
          try simp only [Act.put, List.setIfInBounds_toArray, List.set_cons_zero, List.set_cons_succ]
          refine wpAnyH_take (i := 5) (oi := { dst := some 103, op := _, type := _, pos := _, after := _, guard := _ }) (v := ?_) rfl (by kernel_rfl) (by kernel_rfl) (by kernel_rfl) (fun _ _ _ h => h) (Or.inl ⟨by rfl, ?_⟩) hH ?_
          rotate_left 1
          · intro W hSw
            (try dsimp only at hSw)
            go_simp
            (try with_reducible rfl)
          try simp only [Act.put, List.setIfInBounds_toArray, List.set_cons_zero, List.set_cons_succ]
          refine wpAnyH_take (i := 8) (oi := { dst := some 106, op := _, type := _, pos := _, after := _, guard := _ }) (v := ?_) rfl (by kernel_rfl) (by kernel_rfl) (by kernel_rfl) (fun _ _ _ h => h) (Or.inl ⟨by rfl, ?_⟩) hH ?_
          rotate_left 1
          · intro W hSw
            (try dsimp only at hSw)
            go_simp
            (try with_reducible rfl)
          try simp only [Act.put, List.setIfInBounds_toArray, List.set_cons_zero, List.set_cons_succ]
          refine wpAnyH_ready (rs := [6]) (by kernel_rfl) (by simp) (AllReadyH.cons rfl (fun K hK => ?_) AllReadyH.nil)
          go_simp
          go_at_call 7; ((with_reducible refine (M3.out _).mono ?_); rintro e9 u2 ⟨g3, c3, rfl, hb9⟩); go_wp2_with fail
          refine hK.out _ _ ?_ (fun hG => ?_)
          · exact ⟨cell_below hb9 hH.1, cell_below hb9 hH.2.1, cell_below hb9 hH.2.2.1, cell_below hb9 hH.2.2.2.1, cell_below hb9 hH.2.2.2.2.1, hH.2.2.2.2.2.trans (hb9.mono hH.2.2.2.2.2.size)⟩
          replace hH := hG
          clear hK K hG
          try simp only [Act.put, List.setIfInBounds_toArray, List.set_cons_zero, List.set_cons_succ]
          refine wpAnyH_take (i := 7) (oi := { dst := some 105, op := _, type := _, pos := _, after := _, guard := _ }) (v := ?_) rfl (by kernel_rfl) (by kernel_rfl) (by kernel_rfl) (fun _ _ _ h => h) (Or.inl ⟨by rfl, ?_⟩) hH ?_
          rotate_left 1
          · intro W hSw
            (try dsimp only at hSw)
            go_simp
            (try with_reducible rfl)
          try simp only [Act.put, List.setIfInBounds_toArray, List.set_cons_zero, List.set_cons_succ]
          refine wpAnyH_ready (rs := [9]) (by kernel_rfl) (by simp) (AllReadyH.cons rfl (fun K hK => ?_) AllReadyH.nil)
          go_simp
          go_at_call 13; ((with_reducible refine (F1.out _).mono ?_); rintro e9 u3 ⟨rfl, hb9⟩); go_wp2_with fail
          refine hK.out _ _ ?_ (fun hG => ?_)
          · exact ⟨cell_below hb9 hH.1, cell_below hb9 hH.2.1, cell_below hb9 hH.2.2.1, cell_below hb9 hH.2.2.2.1, cell_below hb9 hH.2.2.2.2.1, hH.2.2.2.2.2.trans (hb9.mono hH.2.2.2.2.2.size)⟩
          replace hH := hG
          clear hK K hG
          try simp only [Act.put, List.setIfInBounds_toArray, List.set_cons_zero, List.set_cons_succ]
          refine wpAnyH_take (i := 10) (oi := { dst := some 108, op := _, type := _, pos := _, after := _, guard := _ }) (v := ?_) rfl (by kernel_rfl) (by kernel_rfl) (by kernel_rfl) (fun _ _ _ h => h) (Or.inl ⟨by rfl, ?_⟩) hH ?_
          rotate_left 1
          · intro W hSw
            (try dsimp only at hSw)
            go_simp
            (try with_reducible rfl)
          try simp only [Act.put, List.setIfInBounds_toArray, List.set_cons_zero, List.set_cons_succ]
          refine wpAnyH_take (i := 11) (oi := { dst := some 109, op := _, type := _, pos := _, after := _, guard := _ }) (v := ?_) rfl (by kernel_rfl) (by kernel_rfl) (by kernel_rfl) (fun _ _ _ h => h) (Or.inl ⟨by rfl, ?_⟩) hH ?_
          rotate_left 1
          · intro W hSw
            (try dsimp only at hSw)
            go_simp
            (try with_reducible rfl)
          try simp only [Act.put, List.setIfInBounds_toArray, List.set_cons_zero, List.set_cons_succ]
          refine wpAnyH_take (i := 12) (oi := { dst := some 110, op := _, type := _, pos := _, after := _, guard := _ }) (v := ?_) rfl (by kernel_rfl) (by kernel_rfl) (by kernel_rfl) (fun _ _ _ h => h) (Or.inl ⟨by rfl, ?_⟩) hH ?_
          rotate_left 1
          · intro W hSw
            (try dsimp only at hSw)
            go_simp
            (try with_reducible rfl)
          try simp only [Act.put, List.setIfInBounds_toArray, List.set_cons_zero, List.set_cons_succ]
          refine wpAnyH_take (i := 13) (oi := { dst := some 2, op := _, type := _, pos := _, after := _, guard := _ }) (v := ?_) rfl (by kernel_rfl) (by kernel_rfl) (by kernel_rfl) (fun _ _ _ h => h) (Or.inl ⟨by rfl, ?_⟩) hH ?_
          rotate_left 1
          · intro W hSw
            (try dsimp only at hSw)
            go_simp
            (try with_reducible rfl)
          try simp only [Act.put, List.setIfInBounds_toArray, List.set_cons_zero, List.set_cons_succ]
          refine wpAnyH_done (by kernel_rfl) ?_ _
          refine NoPanic.normal ?_
          have hb := hH.2.2.2.2.2
          clear hH
          go_wp2_with fail
          go_ret
          exact ⟨rfl, J2.out.bel.trans (hb.mono J2.out.bel.size)⟩
  · have hd : decide (4096 < n) = true := decide_eq_true (by omega)
    clear hn hm hr
    go_enter Try.func3, Try.ntmps3
    go_wp2_with (go_at_call 5; go_enter Try.func5, Try.ntmps5)
    go_returns
    exact ⟨rfl, Below.refl _ _⟩

set_option maxRecDepth 100000 in
theorem lifted (os : Os) (started : os.Started) (H : Type) (enc : TypeId × Value → H) :
    ReturnsInHanded {} Try.checked os 3 .any (Rows.fnMeetSpec.pre6 enc Try.prog Try.f3 Rows.fnMeetRow.domain false) (Rows.fnMeetSpec.post enc Try.prog Try.f3 false true false false) := by
  refine returnsInHanded_of_change (C := Try.checked) own started (by kernel_rfl) Try.func3
    (ChangeSpec.witness6 (enc := enc) (C := Try.checked) false ⟨#[], #[.slice none 0 0], []⟩ 8 (by kernel_rfl) (by kernel_rfl) (by kernel_rfl) (by kernel_rfl)) ?_
  intro W base args ds gs before hval0 hW hcnd hsz
  have hval : ∀ (j : Nat) t v, Try.f3.params[j]? = some t → args[j]? = some v → Value.okWide Try.prog W .any base t v := hval0
  have hW' := hW
  obtain ⟨p, q, hA0, hV, rfl, hfz, hnd⟩ := hW
  have hA1 := hA0
  have hA : DataW.TrodAll enc Try.prog W 0 (fun _ => true) true Try.f3.params.toList args.toList ds p := hA0
  rw [Try.params3] at hA hval
  obtain ⟨v0, vs0, d0, ds0, p0, q0, hargs, rfl, rfl, h0, r0⟩ := trodAll_cons hA
  obtain ⟨rfl, rfl, rfl⟩ := trodAll_nil r0
  obtain rfl : args = #[v0] := by cases args; simp_all
  obtain ⟨rfl, rfl⟩ := trodVars_none hV
  obtain ⟨A0, n0, c0, a0, rfl, l0, m0, g0⟩ := RampFn.take_bytes Try.underlying22 Try.underlying5 (by kernel_rfl) (hval 0 22 v0 rfl rfl) h0
  clear hA0 hval0
  rw [List.append_nil] at hW'
  refine (walk A0 n0 c0 a0 l0 m0 W g0).mono fun e W' ⟨he, hb⟩ => ?_
  subst he
  exact ⟨_, rfl, post_law rfl hW' hA1 laidOut (by rw [Try.params3]; exact of_decide_eq_true (by kernel_rfl)) 4 (by kernel_rfl) Try.underlying4 rfl hb⟩

theorem over : Rows.fnMeetRow.holds Try.pinned (OpenSpec.ofChange Rows.fnMeetSpec) :=
  OpenClaim.holds_of_wide 3 Try.f3 rfl rfl rfl rfl rfl rfl rfl ⟨rfl, rfl, rfl, rfl, rfl⟩ rfl rfl rfl rfl rfl (by kernel_rfl) Try.func3 (by kernel_rfl)
    (of_decide_eq_true (by kernel_rfl)) (by unfold Func.isWrapper; first | (rw [if_pos (by decide +kernel)]; kernel_rfl) | (rw [if_neg (by decide +kernel)]; exact ⟨rfl, rfl⟩))
    (fun os started H enc _ => lifted os started H enc)

/-- The statement. -/
theorem proved : Rows.FnMeetSaid :=
  over
#print axioms proved
end Go.Proofs.Ytgcheplneolonad.fnMeet
