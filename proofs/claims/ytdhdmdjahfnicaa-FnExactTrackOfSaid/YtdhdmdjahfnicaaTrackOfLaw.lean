/- The law FnExactTrackOf holds at every input. The step from the walk to the row follows the guide's own template. -/
import Derived.Test.YtdhdmdjahfnicaaMem
import Derived.Test.YtdhdmdjahfnicaaCl
import Derived.Test.YtdhdmdjahfnicaaCs
import Derived.Test.YtdhdmdjahfnicaaSd
import Derived.Test.YtdhdmdjahfnicaaCmk
import Derived.Test.YtdhdmdjahfnicaaMarkM
import Derived.Test.YtdhdmdjahfnicaaSw
import Derived.Test.YtdhdmdjahfnicaaSmk
import Derived.Test.YtdhdmdjahfnicaaIm
import Derived.Test.YtdhdmdjahfnicaaOc
import Derived.Test.YtdhdmdjahfnicaaTo8
import Derived.Test.YtdhdmdjahfnicaaLd
import Derived.Deep.SlicePairs
namespace Go.Proofs.Ytdhdmdjahfnicaa.fnExactTrackOf
open Go.ChangeShapes Go.WideShapes Go.ChangeAt Go.RowKit Go.WideMaps Go.WideElems Go.Proofs.Ytdhdmdjahfnicaa.Mem
open Go.ChangeMaps (open_string shut_string)
set_option linter.unusedVariables false
set_option linter.unusedSimpArgs false

theorem own : ownKnob Try.prog.godebug = none := by kernel_rfl
theorem laidOut : laidOutB Try.prog = true := by kernel_rfl

open Go.Proofs.Ytdhdmdjahfnicaa.P2 Go.Proofs.Ytdhdmdjahfnicaa.Cd Go.Proofs.Ytdhdmdjahfnicaa.Cv Go.Proofs.Ytdhdmdjahfnicaa.Cl Go.Proofs.Ytdhdmdjahfnicaa.Cs Go.Proofs.Ytdhdmdjahfnicaa.Sd Go.Proofs.Ytdhdmdjahfnicaa.Cmk Go.Proofs.Ytdhdmdjahfnicaa.Mem Go.Proofs.Ytdhdmdjahfnicaa.Oc Go.Proofs.Ytdhdmdjahfnicaa.Ld Go.Proofs.Ytdhdmdjahfnicaa.To8
open Go.Proofs.Ytdhdmdjahfnicaa.Rw (owns_below owns_grown owns_base)

theorem own_at {w : World} {base : Nat} {e : TypeId} {size g n c : Nat} {xs : List Value} (h : w.ownsRow base e size (.slice (some ⟨g, 0, none⟩) n c) n xs) : base ≤ g := (h.lt g rfl).1

set_option maxRecDepth 100000 in
set_option maxHeartbeats 4000000 in
theorem walk (A0 : Option Addr) (n0 c0 : Nat) (zs0 : List C) (hn0 : zs0.length = n0) (hm0 : n0 ≤ maxLen) (s1 : ByteArray) (ws1 : s1.size ≤ maxLen) (i2 : Int) (wi2 : (Lit.int .i64 i2).wf = true) (w : World) (hr0 : Rd w w.heap.size A0 (dls zs0)) (hwf0 : ∀ z ∈ zs0, Dok z) :
    Calls Try.prog 4 #[.slice A0 n0 c0, .string s1, .int .i64 i2] w fun e w' => e = .returned (.bool true) ∧ Below w.heap.size w w' := by
  unfold maxLen at ws1
  by_cases hs1 : 1048576 < s1.size
  · go_enter Try.func4, Try.ntmps4
    go_wp2
    all_goals go_returns
    all_goals exact ⟨rfl, Below.refl _ _⟩
  have hs1' : s1.size ≤ 1048576 := by omega
  have SZ0 := Lib.hid (fun (W : World) (hW : Below w.heap.size w W) => szCueW A0 n0 c0 zs0 1048576 W (show (0 : Int) ≤ 1048576 by omega) (show (1048576 : Int) ≤ 1048576 by omega) hn0 hm0 ((hr0.below hW).more hW.size) hwf0)
  obtain ⟨L0, hL0⟩ : ∃ L, szW 1048576 n0 zs0 = L := ⟨_, rfl⟩
  have hB0 : ¬ L0 < 0 → n0 ≤ 1048576 ∧ L0 ≤ 1048576 ∧ bulk zs0 ≤ 1048576 := by
    intro h
    rw [← hL0] at h ⊢
    unfold szW at h ⊢
    by_cases hh : 1048576 - (n0 : Int) - bulk zs0 < 0
    · rw [if_pos hh] at h; exact absurd (by decide) h
    · rw [if_neg hh]; omega
  rw [hL0] at SZ0
  by_cases hz0 : L0 < 0
  · clear hB0
    have BB := Lib.hid (Below.refl w.heap.size w)
    clear hr0 hwf0 hm0 hn0
    go_enter Try.func4, Try.ntmps4
    go_wp2_with fail
    refine (SZ0.out _ BB.out).mono ?_
    rintro e w10 ⟨rfl, hb⟩
    have BB2 := Lib.hid (BB.out.trans (hb.mono BB.out.size))
    clear hb SZ0 BB
    have BB := BB2
    clear BB2
    go_wp2_with fail
    go_returns
    exact ⟨rfl, BB.out⟩
  obtain ⟨hb0, hl0, hk0⟩ := hB0 hz0
  clear hL0 hB0
  have hsz0 : ∀ z ∈ zs0, z.nm.size ≤ 1048576 := fun z hm => by
    obtain ⟨k, hk, rfl⟩ := List.getElem_of_mem hm
    have h1 := bulk_take (List.getElem?_eq_getElem hk)
    have h2 := bulk_le zs0 (k + 1)
    omega
  obtain ⟨zr, hzr⟩ : ∃ z, trV zs0 s1 i2 = z := ⟨_, rfl⟩
  obtain ⟨m, hm⟩ : ∃ m, zr.length = m := ⟨_, rfl⟩
  have hbm : m ≤ 1048576 := by (rw [← hm, ← hzr]; have := trV_len zs0 s1 i2; omega)
  have HM := Lib.hid hm
  have CS := Lib.hid (show ∀ (b0 : Nat) (W : World) (h0 : Rd W W.heap.size (some ⟨b0, 0, none⟩) (dls zs0)), Calls Try.prog 22 #[.slice (some ⟨b0, 0, none⟩) n0 n0, .string s1, .int .i64 i2] W (fun e w' => ∃ g c, e = .returned (.slice (some ⟨g, 0, none⟩) m c) ∧ w'.ownsRow W.heap.size 3 1 (.slice (some ⟨g, 0, none⟩) m c) m (ints zr) ∧ Below W.heap.size W w') from fun b0 W h0 => by have := trackS _ n0 n0 zs0 s1 i2 W hn0 hb0 wi2 hsz0 h0; rw [hzr] at this; unfold RowI at this; rw [hm] at this; exact this)
  have CI := Lib.hid (show ∀ (b0 : Nat) (W : World) (h0 : Rd W W.heap.size (some ⟨b0, 0, none⟩) (dls zs0)), Calls Try.prog 15 #[.slice (some ⟨b0, 0, none⟩) n0 n0, .string s1, .int .i64 i2] W (fun e w' => ∃ g c, e = .returned (.slice (some ⟨g, 0, none⟩) m c) ∧ w'.ownsRow W.heap.size 3 1 (.slice (some ⟨g, 0, none⟩) m c) m (ints zr) ∧ Below W.heap.size W w') from fun b0 W h0 => by have := trackI _ n0 n0 zs0 s1 i2 W hn0 hb0 wi2 h0; rw [hzr] at this; unfold RowI at this; rw [hm] at this; exact this)
  obtain ⟨K0, hK0⟩ : ∃ K : Int, ((1 + n0 * 4 : Nat) : Int) = K := ⟨_, rfl⟩
  have pK0 : ¬ K0 < 0 := by omega
  have MX0 := Lib.hid (show ∀ (B g c : Nat) (W : World), W.ownsRow B 47 4 (.slice (some ⟨g, 0, none⟩) n0 c) n0 (dls zs0) → Calls Try.prog 26 #[.slice (some ⟨g, 0, none⟩) n0 c, .int .i64 1] W (fun e w' => e = .returned (.int .i64 K0) ∧ w'.ownsRow B 47 4 (.slice (some ⟨g, 0, none⟩) n0 c) n0 (dls (mkd 1 n0)) ∧ W.grownBy w' (some g)) from fun B g c W h => by have := markCueS B g n0 c 1 zs0 W hn0 hb0 (by omega) (by omega) h; unfold Cmk.Laid at this; rw [show (((1 : Nat) : Int) + ((n0 * 4 : Nat) : Int)) = K0 by omega, show ((1 : Nat) : Int) = 1 by omega] at this; exact this)
  obtain ⟨KR, hKR⟩ : ∃ K : Int, 1 + (m : Int) = K := ⟨_, rfl⟩
  have pKR : ¬ KR < 0 := by omega
  have MG := Lib.hid (show ∀ (B g c : Nat) (W : World), W.ownsRow B 3 1 (.slice (some ⟨g, 0, none⟩) m c) m (ints zr) → Calls Try.prog 27 #[.slice (some ⟨g, 0, none⟩) m c, .int .i64 1] W (fun e w' => e = .returned (.int .i64 KR) ∧ w'.ownsRow B 3 1 (.slice (some ⟨g, 0, none⟩) m c) m (Rw.mk 1 m) ∧ W.grownBy w' (some g)) from fun B g c W h => by have := Im.markIntS B g m c 1 _ W (by rw [ints_len]; exact hm) hbm (by omega) h; unfold Im.Laid at this; rw [show (((1 : Nat) : Int) + (m : Int)) = KR by omega, show ((1 : Nat) : Int) = 1 by omega] at this; exact this)
  have HG := Lib.hid (show ∀ (A : Option Addr) (c : Nat) (W : World), Rd W W.heap.size A (Rw.mk 1 m) → Calls Try.prog 28 #[.slice A m c, .int .i64 1] W (fun e w' => e = .returned (.int .i64 KR) ∧ Below W.heap.size W w') from fun A c W h => by have := Im.heldIntS A m c 1 W.heap.size W hbm (by omega) h; rw [show (((1 : Nat) : Int) + (m : Int)) = KR by omega, show ((1 : Nat) : Int) = 1 by omega] at this; exact this.mono fun e w9 ⟨h1, h2⟩ => ⟨h1, by rw [← h2]; exact Below.refl _ _⟩)
  have EQ := Lib.hid (show ∀ (A B : Option Addr) (c d : Nat) (W : World), Rd W W.heap.size A (ints zr) → Rd W W.heap.size B (ints zr) → Calls Try.prog 24 #[.slice A m c, .slice B m d] W (fun e w' => e = .returned (.bool true) ∧ Below W.heap.size W w') from fun A B c d W h k => Im.eqI A B m c d zr W hm hbm h k)
  have EA0 := Lib.hid (show ∀ (A B : Option Addr) (c d : Nat) (W : World), Rd W W.heap.size A (dls zs0) → Rd W W.heap.size B (dls zs0) → Calls Try.prog 25 #[.slice A n0 c, .slice B n0 d] W (fun e w' => e = .returned (.bool true) ∧ Below W.heap.size W w') from fun A B c d W h k => eqCueS A B n0 c d zs0 _ W hn0 hb0 (Nat.le_refl _) h k)
  have HR0 := Lib.hid hr0
  have HN0 := Lib.hid hn0
  have hu : undef = Value.tuple #[] := rfl
  have BB := Lib.hid (Below.refl w.heap.size w)
  clear hr0 hn0 hwf0 hm0 hsz0 hk0 hK0 hzr hm hKR
  clear ws1
  clear wi2
  go_enter Try.func4, Try.ntmps4
  go_wp2_with fail
  refine (SZ0.out _ BB.out).mono ?_
  rintro e u1 ⟨rfl, hb⟩
  have BB2 := Lib.hid (BB.out.trans (hb.mono BB.out.size))
  clear hb BB
  have BB := BB2
  clear BB2
  clear SZ0
  go_wp2_with fail
  refine (toCueS A0 n0 c0 zs0 _ HN0.out hb0 ((HR0.out.below BB.out).more BB.out.size)).mono ?_
  rintro e u2 ⟨gP0, rfl, _, ho, hb⟩
  have wlP0 : w.heap.size ≤ gP0 := Nat.le_trans BB.out.size (own_at ho)
  have XN := Lib.hid (owns_base ho wlP0)
  clear ho
  have BB2 := Lib.hid (BB.out.trans (hb.mono BB.out.size))
  clear hb BB
  have BB := BB2
  clear BB2
  have P0 := XN
  clear XN
  go_wp2_with fail
  refine (CS.out _ _ (Rd.own P0.out)).mono ?_
  rintro e u3 ⟨gW0, cW0, rfl, ho, hb⟩
  have wlW0 : w.heap.size ≤ gW0 := Nat.le_trans BB.out.size (own_at ho)
  have ne_P0_W0 : gP0 < gW0 := Nat.lt_of_lt_of_le (P0.out.lt _ rfl).2 (own_at ho)
  have XN := Lib.hid (owns_base ho wlW0)
  clear ho
  have BB2 := Lib.hid (BB.out.trans (hb.mono BB.out.size))
  have P0n := Lib.hid (owns_below P0.out hb)
  clear hb BB P0
  have BB := BB2
  clear BB2
  have P0 := P0n
  clear P0n
  have W0 := XN
  clear XN
  clear P0
  go_wp2_with fail
  refine (toCueS A0 n0 c0 zs0 _ HN0.out hb0 ((HR0.out.below BB.out).more BB.out.size)).mono ?_
  rintro e u4 ⟨gX0, rfl, _, ho, hb⟩
  have wlX0 : w.heap.size ≤ gX0 := Nat.le_trans BB.out.size (own_at ho)
  have ne_W0_X0 : gW0 < gX0 := Nat.lt_of_lt_of_le (W0.out.lt _ rfl).2 (own_at ho)
  have XN := Lib.hid (owns_base ho wlX0)
  clear ho
  have BB2 := Lib.hid (BB.out.trans (hb.mono BB.out.size))
  have W0n := Lib.hid (owns_below W0.out hb)
  clear hb BB W0
  have BB := BB2
  clear BB2
  have W0 := W0n
  clear W0n
  have X0 := XN
  clear XN
  go_wp2_with fail
  refine (CI.out _ _ (Rd.own X0.out)).mono ?_
  rintro e u5 ⟨gG0, cG0, rfl, ho, hb⟩
  have wlG0 : w.heap.size ≤ gG0 := Nat.le_trans BB.out.size (own_at ho)
  have ne_W0_G0 : gW0 < gG0 := Nat.lt_of_lt_of_le (W0.out.lt _ rfl).2 (own_at ho)
  have ne_X0_G0 : gX0 < gG0 := Nat.lt_of_lt_of_le (X0.out.lt _ rfl).2 (own_at ho)
  have XN := Lib.hid (owns_base ho wlG0)
  clear ho
  have BB2 := Lib.hid (BB.out.trans (hb.mono BB.out.size))
  have W0n := Lib.hid (owns_below W0.out hb)
  have X0n := Lib.hid (owns_below X0.out hb)
  clear hb BB W0 X0
  have BB := BB2
  clear BB2
  have W0 := W0n
  clear W0n
  have X0 := X0n
  clear X0n
  have G0 := XN
  clear XN
  go_wp2_with fail
  refine (EQ.out _ _ _ _ _ (Rd.own G0.out) (Rd.own W0.out)).mono ?_
  rintro e u6 ⟨rfl, hb⟩
  have BB2 := Lib.hid (BB.out.trans (hb.mono BB.out.size))
  have W0n := Lib.hid (owns_below W0.out hb)
  have X0n := Lib.hid (owns_below X0.out hb)
  have G0n := Lib.hid (owns_below G0.out hb)
  clear hb BB W0 X0 G0
  have BB := BB2
  clear BB2
  have W0 := W0n
  clear W0n
  have X0 := X0n
  clear X0n
  have G0 := G0n
  clear G0n
  go_wp2_with fail
  refine (toCueS A0 n0 c0 zs0 _ HN0.out hb0 ((HR0.out.below BB.out).more BB.out.size)).mono ?_
  rintro e u7 ⟨gY0, rfl, _, ho, hb⟩
  have wlY0 : w.heap.size ≤ gY0 := Nat.le_trans BB.out.size (own_at ho)
  have ne_W0_Y0 : gW0 < gY0 := Nat.lt_of_lt_of_le (W0.out.lt _ rfl).2 (own_at ho)
  have ne_X0_Y0 : gX0 < gY0 := Nat.lt_of_lt_of_le (X0.out.lt _ rfl).2 (own_at ho)
  have ne_G0_Y0 : gG0 < gY0 := Nat.lt_of_lt_of_le (G0.out.lt _ rfl).2 (own_at ho)
  have XN := Lib.hid (owns_base ho wlY0)
  clear ho
  have BB2 := Lib.hid (BB.out.trans (hb.mono BB.out.size))
  have W0n := Lib.hid (owns_below W0.out hb)
  have X0n := Lib.hid (owns_below X0.out hb)
  have G0n := Lib.hid (owns_below G0.out hb)
  clear hb BB W0 X0 G0
  have BB := BB2
  clear BB2
  have W0 := W0n
  clear W0n
  have X0 := X0n
  clear X0n
  have G0 := G0n
  clear G0n
  have Y0 := XN
  clear XN
  go_wp2_with fail
  refine (EA0.out _ _ _ _ _ (Rd.own X0.out) (Rd.own Y0.out)).mono ?_
  rintro e u8 ⟨rfl, hb⟩
  have BB2 := Lib.hid (BB.out.trans (hb.mono BB.out.size))
  have W0n := Lib.hid (owns_below W0.out hb)
  have X0n := Lib.hid (owns_below X0.out hb)
  have G0n := Lib.hid (owns_below G0.out hb)
  have Y0n := Lib.hid (owns_below Y0.out hb)
  clear hb BB W0 X0 G0 Y0
  have BB := BB2
  clear BB2
  have W0 := W0n
  clear W0n
  have X0 := X0n
  clear X0n
  have G0 := G0n
  clear G0n
  have Y0 := Y0n
  clear Y0n
  clear Y0
  go_wp2_with fail
  refine (MX0.out _ _ _ _ X0.out).mono ?_
  rintro e u9 ⟨rfl, ho, hg⟩
  have BB2 := Lib.hid (BB.out.grown hg BB.out.size (fun k hk => by cases hk; exact wlX0))
  have W0n := Lib.hid (owns_grown W0.out hg (fun k hk => by cases hk; intro hk2; cases hk2; exact absurd ne_W0_X0 (Nat.lt_irrefl _)))
  have G0n := Lib.hid (owns_grown G0.out hg (fun k hk => by cases hk; intro hk2; cases hk2; exact absurd ne_X0_G0 (Nat.lt_irrefl _)))
  have X0n := Lib.hid ho
  clear ho hg BB W0 X0 G0
  have BB := BB2
  clear BB2
  have W0 := W0n
  clear W0n
  have X0 := X0n
  clear X0n
  have G0 := G0n
  clear G0n
  go_wp2_with fail
  refine (EQ.out _ _ _ _ _ (Rd.own G0.out) (Rd.own W0.out)).mono ?_
  rintro e u10 ⟨rfl, hb⟩
  have BB2 := Lib.hid (BB.out.trans (hb.mono BB.out.size))
  have W0n := Lib.hid (owns_below W0.out hb)
  have X0n := Lib.hid (owns_below X0.out hb)
  have G0n := Lib.hid (owns_below G0.out hb)
  clear hb BB W0 X0 G0
  have BB := BB2
  clear BB2
  have W0 := W0n
  clear W0n
  have X0 := X0n
  clear X0n
  have G0 := G0n
  clear G0n
  go_wp2_with fail
  refine (MG.out _ _ _ _ G0.out).mono ?_
  rintro e u11 ⟨rfl, ho, hg⟩
  have BB2 := Lib.hid (BB.out.grown hg BB.out.size (fun k hk => by cases hk; exact wlG0))
  have W0n := Lib.hid (owns_grown W0.out hg (fun k hk => by cases hk; intro hk2; cases hk2; exact absurd ne_W0_G0 (Nat.lt_irrefl _)))
  have X0n := Lib.hid (owns_grown X0.out hg (fun k hk => by cases hk; intro hk2; cases hk2; exact absurd ne_X0_G0 (Nat.lt_irrefl _)))
  have G0n := Lib.hid ho
  clear ho hg BB W0 X0 G0
  have BB := BB2
  clear BB2
  have W0 := W0n
  clear W0n
  have X0 := X0n
  clear X0n
  have G0 := G0n
  clear G0n
  clear X0
  go_wp2_with fail
  refine (HG.out _ _ _ (Rd.own G0.out)).mono ?_
  rintro e u12 ⟨rfl, hb⟩
  have BB2 := Lib.hid (BB.out.trans (hb.mono BB.out.size))
  have W0n := Lib.hid (owns_below W0.out hb)
  have G0n := Lib.hid (owns_below G0.out hb)
  clear hb BB W0 G0
  have BB := BB2
  clear BB2
  have W0 := W0n
  clear W0n
  have G0 := G0n
  clear G0n
  go_wp2_with fail
  refine (toCueS A0 n0 c0 zs0 _ HN0.out hb0 ((HR0.out.below BB.out).more BB.out.size)).mono ?_
  rintro e u13 ⟨gQ0, rfl, _, ho, hb⟩
  have wlQ0 : w.heap.size ≤ gQ0 := Nat.le_trans BB.out.size (own_at ho)
  have ne_W0_Q0 : gW0 < gQ0 := Nat.lt_of_lt_of_le (W0.out.lt _ rfl).2 (own_at ho)
  have ne_G0_Q0 : gG0 < gQ0 := Nat.lt_of_lt_of_le (G0.out.lt _ rfl).2 (own_at ho)
  have XN := Lib.hid (owns_base ho wlQ0)
  clear ho
  have BB2 := Lib.hid (BB.out.trans (hb.mono BB.out.size))
  have W0n := Lib.hid (owns_below W0.out hb)
  have G0n := Lib.hid (owns_below G0.out hb)
  clear hb BB W0 G0
  have BB := BB2
  clear BB2
  have W0 := W0n
  clear W0n
  have G0 := G0n
  clear G0n
  have Q0 := XN
  clear XN
  go_wp2_with fail
  refine (CI.out _ _ (Rd.own Q0.out)).mono ?_
  rintro e u14 ⟨gH0, cH0, rfl, ho, hb⟩
  have wlH0 : w.heap.size ≤ gH0 := Nat.le_trans BB.out.size (own_at ho)
  have ne_W0_H0 : gW0 < gH0 := Nat.lt_of_lt_of_le (W0.out.lt _ rfl).2 (own_at ho)
  have ne_G0_H0 : gG0 < gH0 := Nat.lt_of_lt_of_le (G0.out.lt _ rfl).2 (own_at ho)
  have ne_Q0_H0 : gQ0 < gH0 := Nat.lt_of_lt_of_le (Q0.out.lt _ rfl).2 (own_at ho)
  have XN := Lib.hid (owns_base ho wlH0)
  clear ho
  have BB2 := Lib.hid (BB.out.trans (hb.mono BB.out.size))
  have W0n := Lib.hid (owns_below W0.out hb)
  have G0n := Lib.hid (owns_below G0.out hb)
  have Q0n := Lib.hid (owns_below Q0.out hb)
  clear hb BB W0 G0 Q0
  have BB := BB2
  clear BB2
  have W0 := W0n
  clear W0n
  have G0 := G0n
  clear G0n
  have Q0 := Q0n
  clear Q0n
  have H0 := XN
  clear XN
  clear Q0
  go_wp2_with fail
  refine (EQ.out _ _ _ _ _ (Rd.own H0.out) (Rd.own W0.out)).mono ?_
  rintro e u15 ⟨rfl, hb⟩
  have BB2 := Lib.hid (BB.out.trans (hb.mono BB.out.size))
  have W0n := Lib.hid (owns_below W0.out hb)
  have G0n := Lib.hid (owns_below G0.out hb)
  have H0n := Lib.hid (owns_below H0.out hb)
  clear hb BB W0 G0 H0
  have BB := BB2
  clear BB2
  have W0 := W0n
  clear W0n
  have G0 := G0n
  clear G0n
  have H0 := H0n
  clear H0n
  go_wp2_with fail
  refine (HG.out _ _ _ (Rd.own G0.out)).mono ?_
  rintro e u16 ⟨rfl, hb⟩
  have BB2 := Lib.hid (BB.out.trans (hb.mono BB.out.size))
  have W0n := Lib.hid (owns_below W0.out hb)
  have G0n := Lib.hid (owns_below G0.out hb)
  have H0n := Lib.hid (owns_below H0.out hb)
  clear hb BB W0 G0 H0
  have BB := BB2
  clear BB2
  have W0 := W0n
  clear W0n
  have G0 := G0n
  clear G0n
  have H0 := H0n
  clear H0n
  go_wp2_with fail
  go_ret
  exact ⟨rfl, BB.out⟩

set_option maxRecDepth 100000 in
theorem lifted (os : Os) (started : os.Started) (H : Type) (enc : TypeId × Value → H) :
    ReturnsInHanded {} Try.checked os 4 .any (Rows.fnExactTrackOfSpec.pre6 enc Try.prog Try.f4 Rows.fnExactTrackOfRow.domain false) (Rows.fnExactTrackOfSpec.post enc Try.prog Try.f4 false true false false) := by
  refine returnsInHanded_of_change (C := Try.checked) own started (by kernel_rfl) Try.func4
    (ChangeSpec.witness6 (enc := enc) (C := Try.checked) false ⟨#[], #[.slice none 0 0, .string ByteArray.empty, .int .i64 0], []⟩ 8 (by kernel_rfl) (by kernel_rfl) (by kernel_rfl) (by kernel_rfl)) ?_
  intro W base args ds gs before hval0 hW hcnd hsz
  have hval : ∀ (j : Nat) t v, Try.f4.params[j]? = some t → args[j]? = some v → Value.okWide Try.prog W .any base t v := hval0
  have hW' := hW
  obtain ⟨p, q, hA0, hV, rfl, hfz, hnd⟩ := hW
  have hA1 := hA0
  have hA : DataW.TrodAll enc Try.prog W 0 (fun _ => true) true Try.f4.params.toList args.toList ds p := hA0
  rw [Try.params4] at hA hval
  obtain ⟨v0, vs0, d0, ds0, p0, q0, hargs, rfl, rfl, h0, r0⟩ := trodAll_cons hA
  obtain ⟨v1, vs1, d1, ds1, p1, q1, rfl, rfl, rfl, h1, r1⟩ := trodAll_cons r0
  obtain ⟨v2, vs2, d2, ds2, p2, q2, rfl, rfl, rfl, h2, r2⟩ := trodAll_cons r1
  obtain ⟨rfl, rfl, rfl⟩ := trodAll_nil r2
  obtain rfl : args = #[v0, v1, v2] := by cases args; simp_all
  obtain ⟨rfl, rfl⟩ := trodVars_none hV
  obtain ⟨A0, n0, c0, a0, rfl, l0, m0, g0, w0⟩ := Cd.take_cues Try.underlying36 (by kernel_rfl) Cd.read_this (hval 0 36 v0 rfl rfl) h0
  obtain ⟨a1, rfl, rfl, rfl, w1⟩ := open_string Try.underlying9 (hval 1 9 v1 rfl rfl) h1
  obtain ⟨a2, rfl, rfl, rfl, w2⟩ := open_int Try.underlying3 (hval 2 3 v2 rfl rfl) h2
  clear hA0 hval0
  rw [List.append_nil] at hW'
  refine (walk A0 n0 c0 a0 l0 m0 a1 w1 a2 w2 W g0 w0).mono fun e W' ⟨he, hb⟩ => ?_
  subst he
  exact ⟨_, rfl, post_law rfl hW' hA1 laidOut (by rw [Try.params4]; exact of_decide_eq_true (by kernel_rfl)) 4 (by kernel_rfl) Try.underlying4 rfl hb⟩

theorem over : Rows.fnExactTrackOfRow.holds Try.pinned (OpenSpec.ofChange Rows.fnExactTrackOfSpec) :=
  OpenClaim.holds_of_wide 4 Try.f4 rfl rfl rfl rfl rfl rfl rfl ⟨rfl, rfl, rfl, rfl, rfl⟩ rfl rfl rfl rfl rfl (by kernel_rfl) Try.func4 (by kernel_rfl)
    (of_decide_eq_true (by kernel_rfl)) (by unfold Func.isWrapper; first | (rw [if_pos (by decide +kernel)]; kernel_rfl) | (rw [if_neg (by decide +kernel)]; exact ⟨rfl, rfl⟩))
    (fun os started H enc _ => lifted os started H enc)

/-- The statement. -/
theorem proved : Rows.FnExactTrackOfSaid :=
  over
#print axioms proved
end Go.Proofs.Ytdhdmdjahfnicaa.fnExactTrackOf
