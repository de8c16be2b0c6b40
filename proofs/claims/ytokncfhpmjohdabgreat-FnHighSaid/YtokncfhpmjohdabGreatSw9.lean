/- Whether a show is valid, of the program and of the model. -/
import Derived.Test.YtokncfhpmjohdabGreatM17
import Derived.Test.YtokncfhpmjohdabGreatSv
import Derived.Test.YtokncfhpmjohdabGreatIr
import Derived.Test.YtokncfhpmjohdabGreatM10
import Derived.Test.YtokncfhpmjohdabGreatSm7
import Derived.Test.YtokncfhpmjohdabGreatM15
set_option linter.unusedVariables false
set_option linter.unusedSimpArgs false
namespace Go.Proofs.YtokncfhpmjohdabGreat.Sw9
open Go.RowKit Go.ChangeShapes Go.WideShapes Go.WideElems Go.Deep Go.Proofs.YtokncfhpmjohdabGreat.Mem Go.Proofs.YtokncfhpmjohdabGreat.Rw Go.Proofs.YtokncfhpmjohdabGreat.P2 Go.Proofs.YtokncfhpmjohdabGreat.Bk Go.Proofs.YtokncfhpmjohdabGreat.Sp Go.Proofs.YtokncfhpmjohdabGreat.Sq Go.Proofs.YtokncfhpmjohdabGreat.Jt
open Go.Proofs.YtokncfhpmjohdabGreat.Ig (rig)
open Go.Proofs.YtokncfhpmjohdabGreat.Sd (score)
open Go.Proofs.YtokncfhpmjohdabGreat.Wm (wd)
open Go.Proofs.YtokncfhpmjohdabGreat.Sv (show9)
set_option linter.unusedVariables false
set_option linter.unusedSimpArgs false

set_option maxRecDepth 100000 in
set_option maxHeartbeats 2000000 in
theorem isShowS (A0 : Option Addr) (n0 c0 : Nat) (A1 : Option Addr) (n1 c1 : Nat) (A2 : Option Addr) (n2 c2 : Nat) (T : Int) (ds : List D) (cs : List C) (gs : List G) (w : World)
    (hf : Fit n0 n1 n2 ds cs gs) (hr : SR w A0 A1 A2 ds cs gs) (hsz : ∀ z ∈ ds, z.nm.size ≤ 1048576 ∧ z.ln.size ≤ 1048576) (hsc : ∀ z ∈ cs, z.nm.size ≤ 1048576) :
    Calls Tryz.prog 38 #[sv A0 n0 c0 A1 n1 c1 A2 n2 c2 T] w fun e w' => e = .returned (.bool (show9 ds cs gs T)) ∧ Below w.heap.size w w' := by
  obtain ⟨⟨hn0, hb0⟩, ⟨hn1, hb1⟩, hn2, hb2⟩ := hf
  have K := Bk.new w (sc A0 n0 c0 A1 n1 c1 A2 n2 c2 T) 28
  have B0 := (Below.refl w.heap.size w).alloc (Nat.le_refl _) (.cells (sc A0 n0 c0 A1 n1 c1 A2 n2 c2 T) 28)
  have HS := Lib.hid (hr.below B0)
  have HK := Lib.hid K
  have BB := Lib.hid B0
  have hu : undef = Value.tuple #[] := rfl
  have CR := Lib.hid (fun (W : World) (h : SR W A0 A1 A2 ds cs gs) => (Ir.rigS A0 n0 c0 ds W hn0 hb0 hsz h.1 : Calls Tryz.prog 73 #[.slice A0 n0 c0] W fun e w' => e = .returned (.bool (rig ds)) ∧ Below W.heap.size W w'))
  have CC := Lib.hid (fun (W : World) (h : SR W A0 A1 A2 ds cs gs) => (Sm7.scoreS A1 n1 c1 cs W hn1 hb1 hsc h.2.1 : Calls Tryz.prog 74 #[.slice A1 n1 c1] W fun e w' => e = .returned (.bool (score cs)) ∧ Below W.heap.size W w'))
  have CW := Lib.hid (fun (W : World) (h : SR W A0 A1 A2 ds cs gs) => (Wi.isWindS A2 n2 c2 gs _ W hn2 hb2 (Nat.le_refl _) h.2.2 : Calls Tryz.prog 75 #[.slice A2 n2 c2] W fun e w' => e = .returned (.bool (wd gs)) ∧ Below W.heap.size W w'))
  unfold show9
  obtain ⟨b0, h0⟩ : ∃ b, rig ds = b := ⟨_, rfl⟩
  obtain ⟨b1, h1⟩ : ∃ b, score cs = b := ⟨_, rfl⟩
  obtain ⟨b2, h2⟩ : ∃ b, wd gs = b := ⟨_, rfl⟩
  obtain ⟨b3, h3⟩ : ∃ b, iw T 0 64 = b := ⟨_, rfl⟩
  rw [h0] at CR
  rw [h1] at CC
  rw [h2] at CW
  rw [h0, h1, h2, h3]
  have C3 := Lib.hid (fun (W : World) => l1In_of h3 W)
  clear K B0 hr h0 h1 h2 h3
  go_enter Tryz.func38, Tryz.ntmps38
  go_wp2_with fail
  refine (CR.out _ HS.out).mono ?_
  rintro e w1 ⟨rfl, hb⟩
  have HK1 := Lib.hid (HK.out.below hb)
  have HS1 := Lib.hid (HS.out.below hb)
  have B1 := Lib.hid (BB.out.trans (hb.mono BB.out.size))
  have y1 := HK1.out.cell (i := 1) rfl
  clear hb CR BB HK HS
  cases b0
  · clear y1
    go_wp2_with fail
    go_ret
    exact ⟨rfl, B1.out⟩
  go_wp2_with fail
  refine (CC.out _ HS1.out).mono ?_
  rintro e w2 ⟨rfl, hb⟩
  have HK2 := Lib.hid (HK1.out.below hb)
  have HS2 := Lib.hid (HS1.out.below hb)
  have B2 := Lib.hid (B1.out.trans (hb.mono B1.out.size))
  have y2 := HK2.out.cell (i := 2) rfl
  clear hb CC B1 HK1 HS1 y1
  cases b1
  · clear y2
    go_wp2_with fail
    go_ret
    exact ⟨rfl, B2.out⟩
  go_wp2_with fail
  refine (CW.out _ HS2.out).mono ?_
  rintro e w3 ⟨rfl, hb⟩
  have HK3 := Lib.hid (HK2.out.below hb)
  have B3 := Lib.hid (B2.out.trans (hb.mono B2.out.size))
  have y3 := HK3.out.cell (i := 3) rfl
  clear hb CW B2 HK2 HS2 y2
  cases b2
  · clear y3
    go_wp2_with fail
    go_ret
    exact ⟨rfl, B3.out⟩
  go_wp2_with fail
  refine (C3.out _).mono ?_
  rintro e w4 ⟨rfl, rfl⟩
  go_wp2_with fail
  go_ret
  exact ⟨rfl, B3.out⟩

set_option maxRecDepth 100000 in
set_option maxHeartbeats 2000000 in
theorem isShowI (A0 : Option Addr) (n0 c0 : Nat) (A1 : Option Addr) (n1 c1 : Nat) (A2 : Option Addr) (n2 c2 : Nat) (T : Int) (ds : List D) (cs : List C) (gs : List G) (w : World)
    (hf : Fit n0 n1 n2 ds cs gs) (hr : SR w A0 A1 A2 ds cs gs) :
    Calls Tryz.prog 27 #[sv A0 n0 c0 A1 n1 c1 A2 n2 c2 T] w fun e w' => e = .returned (.bool (show9 ds cs gs T)) ∧ Below w.heap.size w w' := by
  obtain ⟨⟨hn0, hb0⟩, ⟨hn1, hb1⟩, hn2, hb2⟩ := hf
  have K := Bk.new w (sc A0 n0 c0 A1 n1 c1 A2 n2 c2 T) 28
  have B0 := (Below.refl w.heap.size w).alloc (Nat.le_refl _) (.cells (sc A0 n0 c0 A1 n1 c1 A2 n2 c2 T) 28)
  have HS := Lib.hid (hr.below B0)
  have HK := Lib.hid K
  have BB := Lib.hid B0
  have hu : undef = Value.tuple #[] := rfl
  have CR := Lib.hid (fun (W : World) (h : SR W A0 A1 A2 ds cs gs) => (Iq.rigI A0 n0 c0 ds W hn0 hb0 h.1 : Calls Tryz.prog 61 #[.slice A0 n0 c0] W fun e w' => e = .returned (.bool (rig ds)) ∧ Below W.heap.size W w'))
  have CC := Lib.hid (fun (W : World) (h : SR W A0 A1 A2 ds cs gs) => (Si7.scoreI A1 n1 c1 cs W hn1 hb1 h.2.1 : Calls Tryz.prog 62 #[.slice A1 n1 c1] W fun e w' => e = .returned (.bool (score cs)) ∧ Below W.heap.size W w'))
  have CW := Lib.hid (fun (W : World) (h : SR W A0 A1 A2 ds cs gs) => (Wi.isWindI A2 n2 c2 gs _ W hn2 hb2 (Nat.le_refl _) h.2.2 : Calls Tryz.prog 63 #[.slice A2 n2 c2] W fun e w' => e = .returned (.bool (wd gs)) ∧ Below W.heap.size W w'))
  unfold show9
  obtain ⟨b0, h0⟩ : ∃ b, rig ds = b := ⟨_, rfl⟩
  obtain ⟨b1, h1⟩ : ∃ b, score cs = b := ⟨_, rfl⟩
  obtain ⟨b2, h2⟩ : ∃ b, wd gs = b := ⟨_, rfl⟩
  obtain ⟨b3, h3⟩ : ∃ b, iw T 0 64 = b := ⟨_, rfl⟩
  rw [h0] at CR
  rw [h1] at CC
  rw [h2] at CW
  rw [h0, h1, h2, h3]
  have C3 := Lib.hid (fun (W : World) => isWithin_of h3 W)
  clear K B0 hr h0 h1 h2 h3
  go_enter Tryz.func27, Tryz.ntmps27
  go_wp2_with fail
  refine (CR.out _ HS.out).mono ?_
  rintro e w1 ⟨rfl, hb⟩
  have HK1 := Lib.hid (HK.out.below hb)
  have HS1 := Lib.hid (HS.out.below hb)
  have B1 := Lib.hid (BB.out.trans (hb.mono BB.out.size))
  have y1 := HK1.out.cell (i := 1) rfl
  clear hb CR BB HK HS
  cases b0
  · clear y1
    go_wp2_with fail
    go_ret
    exact ⟨rfl, B1.out⟩
  go_wp2_with fail
  refine (CC.out _ HS1.out).mono ?_
  rintro e w2 ⟨rfl, hb⟩
  have HK2 := Lib.hid (HK1.out.below hb)
  have HS2 := Lib.hid (HS1.out.below hb)
  have B2 := Lib.hid (B1.out.trans (hb.mono B1.out.size))
  have y2 := HK2.out.cell (i := 2) rfl
  clear hb CC B1 HK1 HS1 y1
  cases b1
  · clear y2
    go_wp2_with fail
    go_ret
    exact ⟨rfl, B2.out⟩
  go_wp2_with fail
  refine (CW.out _ HS2.out).mono ?_
  rintro e w3 ⟨rfl, hb⟩
  have HK3 := Lib.hid (HK2.out.below hb)
  have B3 := Lib.hid (B2.out.trans (hb.mono B2.out.size))
  have y3 := HK3.out.cell (i := 3) rfl
  clear hb CW B2 HK2 HS2 y2
  cases b2
  · clear y3
    go_wp2_with fail
    go_ret
    exact ⟨rfl, B3.out⟩
  go_wp2_with fail
  refine (C3.out _).mono ?_
  rintro e w4 ⟨rfl, rfl⟩
  go_wp2_with fail
  go_ret
  exact ⟨rfl, B3.out⟩
end Go.Proofs.YtokncfhpmjohdabGreat.Sw9
