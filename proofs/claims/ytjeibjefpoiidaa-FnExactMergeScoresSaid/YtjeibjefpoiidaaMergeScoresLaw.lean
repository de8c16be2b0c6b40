/- The law FnExactMergeScores holds at every input. The step from the walk to the row follows the guide's own template. -/
import Derived.Test.YtjeibjefpoiidaaMem
import Derived.Test.YtjeibjefpoiidaaCl
import Derived.Test.YtjeibjefpoiidaaCs
import Derived.Test.YtjeibjefpoiidaaSd
import Derived.Test.YtjeibjefpoiidaaCmk
import Derived.Test.YtjeibjefpoiidaaOc
import Derived.Test.YtjeibjefpoiidaaMm7
import Derived.Test.YtjeibjefpoiidaaMn7
import Derived.Test.YtjeibjefpoiidaaMi7
import Derived.Deep.SlicePairs
namespace Go.Proofs.Ytjeibjefpoiidaa.fnExactMergeScores
open Go.ChangeShapes Go.WideShapes Go.ChangeAt Go.RowKit Go.WideMaps Go.WideElems Go.Proofs.Ytjeibjefpoiidaa.Mem
open Go.ChangeMaps (open_string shut_string)
set_option linter.unusedVariables false
set_option linter.unusedSimpArgs false

theorem own : ownKnob Try.prog.godebug = none := by kernel_rfl
theorem laidOut : laidOutB Try.prog = true := by kernel_rfl

open Go.Proofs.Ytjeibjefpoiidaa.P2 Go.Proofs.Ytjeibjefpoiidaa.Cd Go.Proofs.Ytjeibjefpoiidaa.Cv Go.Proofs.Ytjeibjefpoiidaa.Cl Go.Proofs.Ytjeibjefpoiidaa.Cs Go.Proofs.Ytjeibjefpoiidaa.Sd Go.Proofs.Ytjeibjefpoiidaa.Cmk Go.Proofs.Ytjeibjefpoiidaa.Oc Go.Proofs.Ytjeibjefpoiidaa.Mg Go.Proofs.Ytjeibjefpoiidaa.Mm7 Go.Proofs.Ytjeibjefpoiidaa.Mi7 Go.Proofs.Ytjeibjefpoiidaa.Mn7
open Go.Proofs.Ytjeibjefpoiidaa.Rw (owns_below owns_grown owns_base)

theorem mgL_small (zs xs : List C) : (mgL zs xs).length ≤ 1048576 := by
  cases hg : mgG zs xs
  · rw [mgL_no hg]; simp
  · rw [mgL_yes hg]
    unfold mgG at hg
    simp only [Bool.and_eq_true] at hg
    obtain ⟨h1, h2, h3, h4⟩ := hg
    have a := (Cq.score_set.1 (score_of h1))
    have b := (score_of h2).1
    rw [(mg_ord xs zs a.2.1 h4).2.length_eq, List.length_append]
    have := a.1
    omega
theorem own_at {w : World} {base : Nat} {e : TypeId} {size g n c : Nat} {xs : List Value} (h : w.ownsRow base e size (.slice (some ⟨g, 0, none⟩) n c) n xs) : base ≤ g := (h.lt g rfl).1

set_option maxRecDepth 100000 in
set_option maxHeartbeats 4000000 in
theorem walk (A0 : Option Addr) (n0 c0 : Nat) (zs0 : List C) (hn0 : zs0.length = n0) (hm0 : n0 ≤ maxLen) (A1 : Option Addr) (n1 c1 : Nat) (zs1 : List C) (hn1 : zs1.length = n1) (hm1 : n1 ≤ maxLen) (w : World) (hr0 : Rd w w.heap.size A0 (dls zs0)) (hwf0 : ∀ z ∈ zs0, Dok z) (hr1 : Rd w w.heap.size A1 (dls zs1)) (hwf1 : ∀ z ∈ zs1, Dok z) :
    Calls Try.prog 4 #[.slice A0 n0 c0, .slice A1 n1 c1] w fun e w' => e = .returned (.bool true) ∧ Below w.heap.size w w' := by
  have SZ0 := Lib.hid (fun (W : World) (hW : Below w.heap.size w W) => szCueW A0 n0 c0 zs0 1048576 W (show (0 : Int) ≤ 1048576 by omega) (show (1048576 : Int) ≤ 1048576 by omega) hn0 hm0 ((hr0.below hW).more hW.size) hwf0)
  obtain ⟨L0, hL0⟩ : ∃ L, szW 1048576 n0 zs0 = L := ⟨_, rfl⟩
  have hB0 : ¬ L0 < 0 → n0 ≤ 1048576 ∧ L0 ≤ 1048576 ∧ bulk zs0 ≤ 1048576 := by
    intro h
    rw [← hL0] at h ⊢
    unfold szW at h ⊢
    by_cases hh : 1048576 - (n0 : Int) - bulk zs0 < 0
    · rw [if_pos hh] at h; exact absurd (by decide) h
    · rw [if_neg hh]; omega
  rw [hL0] at SZ0
  by_cases hz0 : L0 < 0
  · clear hB0
    have BB := Lib.hid (Below.refl w.heap.size w)
    clear hr0 hwf0 hm0 hn0 hr1 hwf1 hm1 hn1
    go_enter Try.func4, Try.ntmps4
    go_wp2_with fail
    refine (SZ0.out _ BB.out).mono ?_
    rintro e w10 ⟨rfl, hb⟩
    have BB2 := Lib.hid (BB.out.trans (hb.mono BB.out.size))
    clear hb SZ0 BB
    have BB := BB2
    clear BB2
    go_wp2_with fail
    go_returns
    exact ⟨rfl, BB.out⟩
  obtain ⟨hb0, hl0, hk0⟩ := hB0 hz0
  clear hL0 hB0
  have SZ1 := Lib.hid (fun (W : World) (hW : Below w.heap.size w W) => szCueW A1 n1 c1 zs1 L0 W (by omega) hl0 hn1 hm1 ((hr1.below hW).more hW.size) hwf1)
  obtain ⟨L1, hL1⟩ : ∃ L, szW L0 n1 zs1 = L := ⟨_, rfl⟩
  have hB1 : ¬ L1 < 0 → n1 ≤ 1048576 ∧ L1 ≤ 1048576 ∧ bulk zs1 ≤ 1048576 := by
    intro h
    rw [← hL1] at h ⊢
    unfold szW at h ⊢
    by_cases hh : L0 - (n1 : Int) - bulk zs1 < 0
    · rw [if_pos hh] at h; exact absurd (by decide) h
    · rw [if_neg hh]; omega
  rw [hL1] at SZ1
  by_cases hz1 : L1 < 0
  · clear hB1
    have BB := Lib.hid (Below.refl w.heap.size w)
    clear hr0 hwf0 hm0 hn0 hr1 hwf1 hm1 hn1
    go_enter Try.func4, Try.ntmps4
    go_wp2_with fail
    refine (SZ0.out _ BB.out).mono ?_
    rintro e w10 ⟨rfl, hb⟩
    have BB2 := Lib.hid (BB.out.trans (hb.mono BB.out.size))
    clear hb SZ0 BB
    have BB := BB2
    clear BB2
    go_wp2_with fail
    refine (SZ1.out _ BB.out).mono ?_
    rintro e w11 ⟨rfl, hb⟩
    have BB2 := Lib.hid (BB.out.trans (hb.mono BB.out.size))
    clear hb SZ1 BB
    have BB := BB2
    clear BB2
    go_wp2_with fail
    go_returns
    exact ⟨rfl, BB.out⟩
  obtain ⟨hb1, hl1, hk1⟩ := hB1 hz1
  clear hL1 hB1
  have hsz0 : ∀ z ∈ zs0, z.nm.size ≤ 1048576 := fun z hm => by
    obtain ⟨k, hk, rfl⟩ := List.getElem_of_mem hm
    have h1 := bulk_take (List.getElem?_eq_getElem hk)
    have h2 := bulk_le zs0 (k + 1)
    omega
  have hsz1 : ∀ z ∈ zs1, z.nm.size ≤ 1048576 := fun z hm => by
    obtain ⟨k, hk, rfl⟩ := List.getElem_of_mem hm
    have h1 := bulk_take (List.getElem?_eq_getElem hk)
    have h2 := bulk_le zs1 (k + 1)
    omega
  by_cases hpos : 0 < n0 + n1
  rotate_left 1
  · skip
    obtain rfl : n0 = 0 := by omega
    obtain rfl : n1 = 0 := by omega
    obtain rfl := List.length_eq_zero_iff.1 hn0
    obtain rfl := List.length_eq_zero_iff.1 hn1
    have CS := Lib.hid (show ∀ (b0 b1 : Nat) (W : World), Calls Try.prog 18 #[.slice (some ⟨b0, 0, none⟩) 0 0, .slice (some ⟨b1, 0, none⟩) 0 0] W (fun e w' => ∃ g c, e = .returned (.tuple #[.slice (some ⟨g, 0, none⟩) 0 c, .bool true]) ∧ w'.ownsRow W.heap.size 31 4 (.slice (some ⟨g, 0, none⟩) 0 c) 0 (dls []) ∧ Below W.heap.size W w') from fun b0 b1 W => by have := mergeS b0 0 0 0 [] b1 0 0 0 [] W rfl (by omega) rfl (by omega) hsz0 hsz1 (rdn W _) (rdn W _); rw [merge_nil.1, merge_nil.2] at this; exact this)
    have CI := Lib.hid (fun (b0 b1 : Nat) (W : World) => mergeN ⟨b0, 0, none⟩ ⟨b1, 0, none⟩ 0 0 W)
    have MX0 := Lib.hid (show ∀ (B g c : Nat) (W : World), W.ownsRow B 31 4 (.slice (some ⟨g, 0, none⟩) 0 c) 0 (dls []) → Calls Try.prog 16 #[.slice (some ⟨g, 0, none⟩) 0 c, .int .i64 1] W (fun e w' => e = .returned (.int .i64 1) ∧ w'.ownsRow B 31 4 (.slice (some ⟨g, 0, none⟩) 0 c) 0 (dls (mkd 1 0)) ∧ W.grownBy w' (some g)) from fun B g c W h => by have := markCueS B g 0 c 1 [] W rfl (by omega) (by omega) (by omega) h; unfold Cmk.Laid at this; rw [show (((1 : Nat) : Int) + ((0 * 4 : Nat) : Int)) = 1 by omega, show ((1 : Nat) : Int) = 1 by omega] at this; exact this)
    have MX1 := Lib.hid (show ∀ (B g c : Nat) (W : World), W.ownsRow B 31 4 (.slice (some ⟨g, 0, none⟩) 0 c) 0 (dls []) → Calls Try.prog 16 #[.slice (some ⟨g, 0, none⟩) 0 c, .int .i64 1] W (fun e w' => e = .returned (.int .i64 1) ∧ w'.ownsRow B 31 4 (.slice (some ⟨g, 0, none⟩) 0 c) 0 (dls (mkd 1 0)) ∧ W.grownBy w' (some g)) from fun B g c W h => by have := markCueS B g 0 c 1 [] W rfl (by omega) (by omega) (by omega) h; unfold Cmk.Laid at this; rw [show (((1 : Nat) : Int) + ((0 * 4 : Nat) : Int)) = 1 by omega, show ((1 : Nat) : Int) = 1 by omega] at this; exact this)
    have HG := Lib.hid (fun W => show Calls Try.prog 17 #[.slice none 0 0, .int .i64 1] W (fun e w' => e = .returned (.int .i64 1) ∧ Below W.heap.size W w') from by have := heldCueS none 0 0 1 W (by omega) (by omega) (by omega) (Or.inl rfl); exact this)
    have EQ := Lib.hid (show ∀ (A B : Option Addr) (c d : Nat) (W : World), Rd W W.heap.size A (dls []) → Rd W W.heap.size B (dls []) → Calls Try.prog 15 #[.slice A 0 c, .slice B 0 d] W (fun e w' => e = .returned (.bool true) ∧ Below W.heap.size W w') from fun A B c d W h k => eqCueS A B 0 c d [] _ W rfl (by omega) (Nat.le_refl _) h k)
    have HR0 := Lib.hid hr0
    have HR1 := Lib.hid hr1
    have HN0 := Lib.hid hn0
    have HN1 := Lib.hid hn1
    have hu : undef = Value.tuple #[] := rfl
    have BB := Lib.hid (Below.refl w.heap.size w)
    clear hr0 hr1 hwf0 hwf1 hsz0 hsz1 hn0 hn1 hm0 hm1
    go_enter Try.func4, Try.ntmps4
    go_wp2_with fail
    refine (SZ0.out _ BB.out).mono ?_
    rintro e u1 ⟨rfl, hb⟩
    have BB2 := Lib.hid (BB.out.trans (hb.mono BB.out.size))
    clear hb BB
    have BB := BB2
    clear BB2
    clear SZ0
    go_wp2_with fail
    refine (SZ1.out _ BB.out).mono ?_
    rintro e u2 ⟨rfl, hb⟩
    have BB2 := Lib.hid (BB.out.trans (hb.mono BB.out.size))
    clear hb BB
    have BB := BB2
    clear BB2
    clear SZ1
    go_wp2_with fail
    refine (toCueS A0 0 c0 [] _ HN0.out (by omega) ((HR0.out.below BB.out).more BB.out.size)).mono ?_
    rintro e u3 ⟨gP0, rfl, _, ho, hb⟩
    have wlP0 : w.heap.size ≤ gP0 := Nat.le_trans BB.out.size (own_at ho)
    have XN := Lib.hid (owns_base ho wlP0)
    clear ho
    have BB2 := Lib.hid (BB.out.trans (hb.mono BB.out.size))
    clear hb BB
    have BB := BB2
    clear BB2
    have P0 := XN
    clear XN
    go_wp2_with fail
    refine (toCueS A1 0 c1 [] _ HN1.out (by omega) ((HR1.out.below BB.out).more BB.out.size)).mono ?_
    rintro e u4 ⟨gP1, rfl, _, ho, hb⟩
    have wlP1 : w.heap.size ≤ gP1 := Nat.le_trans BB.out.size (own_at ho)
    have ne_P0_P1 : gP0 < gP1 := Nat.lt_of_lt_of_le (P0.out.lt _ rfl).2 (own_at ho)
    have XN := Lib.hid (owns_base ho wlP1)
    clear ho
    have BB2 := Lib.hid (BB.out.trans (hb.mono BB.out.size))
    have P0n := Lib.hid (owns_below P0.out hb)
    clear hb BB P0
    have BB := BB2
    clear BB2
    have P0 := P0n
    clear P0n
    have P1 := XN
    clear XN
    go_wp2_with fail
    refine (CS.out _ _ _).mono ?_
    rintro e u5 ⟨gW0, cW0, rfl, ho, hb⟩
    have wlW0 : w.heap.size ≤ gW0 := Nat.le_trans BB.out.size (own_at ho)
    have ne_P0_W0 : gP0 < gW0 := Nat.lt_of_lt_of_le (P0.out.lt _ rfl).2 (own_at ho)
    have ne_P1_W0 : gP1 < gW0 := Nat.lt_of_lt_of_le (P1.out.lt _ rfl).2 (own_at ho)
    have XN := Lib.hid (owns_base ho wlW0)
    clear ho
    have BB2 := Lib.hid (BB.out.trans (hb.mono BB.out.size))
    have P0n := Lib.hid (owns_below P0.out hb)
    have P1n := Lib.hid (owns_below P1.out hb)
    clear hb BB P0 P1
    have BB := BB2
    clear BB2
    have P0 := P0n
    clear P0n
    have P1 := P1n
    clear P1n
    have W0 := XN
    clear XN
    clear P0
    clear P1
    go_wp2_with fail
    refine (toCueS A0 0 c0 [] _ HN0.out (by omega) ((HR0.out.below BB.out).more BB.out.size)).mono ?_
    rintro e u6 ⟨gX0, rfl, _, ho, hb⟩
    have wlX0 : w.heap.size ≤ gX0 := Nat.le_trans BB.out.size (own_at ho)
    have ne_W0_X0 : gW0 < gX0 := Nat.lt_of_lt_of_le (W0.out.lt _ rfl).2 (own_at ho)
    have XN := Lib.hid (owns_base ho wlX0)
    clear ho
    have BB2 := Lib.hid (BB.out.trans (hb.mono BB.out.size))
    have W0n := Lib.hid (owns_below W0.out hb)
    clear hb BB W0
    have BB := BB2
    clear BB2
    have W0 := W0n
    clear W0n
    have X0 := XN
    clear XN
    go_wp2_with fail
    refine (toCueS A1 0 c1 [] _ HN1.out (by omega) ((HR1.out.below BB.out).more BB.out.size)).mono ?_
    rintro e u7 ⟨gX1, rfl, _, ho, hb⟩
    have wlX1 : w.heap.size ≤ gX1 := Nat.le_trans BB.out.size (own_at ho)
    have ne_W0_X1 : gW0 < gX1 := Nat.lt_of_lt_of_le (W0.out.lt _ rfl).2 (own_at ho)
    have ne_X0_X1 : gX0 < gX1 := Nat.lt_of_lt_of_le (X0.out.lt _ rfl).2 (own_at ho)
    have XN := Lib.hid (owns_base ho wlX1)
    clear ho
    have BB2 := Lib.hid (BB.out.trans (hb.mono BB.out.size))
    have W0n := Lib.hid (owns_below W0.out hb)
    have X0n := Lib.hid (owns_below X0.out hb)
    clear hb BB W0 X0
    have BB := BB2
    clear BB2
    have W0 := W0n
    clear W0n
    have X0 := X0n
    clear X0n
    have X1 := XN
    clear XN
    go_wp2_with fail
    refine (CI.out _ _ _).mono ?_
    rintro e u8 ⟨rfl, hb⟩
    have BB2 := Lib.hid (BB.out.trans (hb.mono BB.out.size))
    have W0n := Lib.hid (owns_below W0.out hb)
    have X0n := Lib.hid (owns_below X0.out hb)
    have X1n := Lib.hid (owns_below X1.out hb)
    clear hb BB W0 X0 X1
    have BB := BB2
    clear BB2
    have W0 := W0n
    clear W0n
    have X0 := X0n
    clear X0n
    have X1 := X1n
    clear X1n
    go_wp2_with fail
    refine (EQ.out _ _ _ _ _ (rdn _ _) (Rd.own W0.out)).mono ?_
    rintro e u9 ⟨rfl, hb⟩
    have BB2 := Lib.hid (BB.out.trans (hb.mono BB.out.size))
    have W0n := Lib.hid (owns_below W0.out hb)
    have X0n := Lib.hid (owns_below X0.out hb)
    have X1n := Lib.hid (owns_below X1.out hb)
    clear hb BB W0 X0 X1
    have BB := BB2
    clear BB2
    have W0 := W0n
    clear W0n
    have X0 := X0n
    clear X0n
    have X1 := X1n
    clear X1n
    go_wp2_with fail
    refine (toCueS A0 0 c0 [] _ HN0.out (by omega) ((HR0.out.below BB.out).more BB.out.size)).mono ?_
    rintro e u10 ⟨gY0, rfl, _, ho, hb⟩
    have wlY0 : w.heap.size ≤ gY0 := Nat.le_trans BB.out.size (own_at ho)
    have ne_W0_Y0 : gW0 < gY0 := Nat.lt_of_lt_of_le (W0.out.lt _ rfl).2 (own_at ho)
    have ne_X0_Y0 : gX0 < gY0 := Nat.lt_of_lt_of_le (X0.out.lt _ rfl).2 (own_at ho)
    have ne_X1_Y0 : gX1 < gY0 := Nat.lt_of_lt_of_le (X1.out.lt _ rfl).2 (own_at ho)
    have XN := Lib.hid (owns_base ho wlY0)
    clear ho
    have BB2 := Lib.hid (BB.out.trans (hb.mono BB.out.size))
    have W0n := Lib.hid (owns_below W0.out hb)
    have X0n := Lib.hid (owns_below X0.out hb)
    have X1n := Lib.hid (owns_below X1.out hb)
    clear hb BB W0 X0 X1
    have BB := BB2
    clear BB2
    have W0 := W0n
    clear W0n
    have X0 := X0n
    clear X0n
    have X1 := X1n
    clear X1n
    have Y0 := XN
    clear XN
    go_wp2_with fail
    refine (EQ.out _ _ _ _ _ (Rd.own X0.out) (Rd.own Y0.out)).mono ?_
    rintro e u11 ⟨rfl, hb⟩
    have BB2 := Lib.hid (BB.out.trans (hb.mono BB.out.size))
    have W0n := Lib.hid (owns_below W0.out hb)
    have X0n := Lib.hid (owns_below X0.out hb)
    have X1n := Lib.hid (owns_below X1.out hb)
    have Y0n := Lib.hid (owns_below Y0.out hb)
    clear hb BB W0 X0 X1 Y0
    have BB := BB2
    clear BB2
    have W0 := W0n
    clear W0n
    have X0 := X0n
    clear X0n
    have X1 := X1n
    clear X1n
    have Y0 := Y0n
    clear Y0n
    clear Y0
    go_wp2_with fail
    refine (toCueS A1 0 c1 [] _ HN1.out (by omega) ((HR1.out.below BB.out).more BB.out.size)).mono ?_
    rintro e u12 ⟨gY1, rfl, _, ho, hb⟩
    have wlY1 : w.heap.size ≤ gY1 := Nat.le_trans BB.out.size (own_at ho)
    have ne_W0_Y1 : gW0 < gY1 := Nat.lt_of_lt_of_le (W0.out.lt _ rfl).2 (own_at ho)
    have ne_X0_Y1 : gX0 < gY1 := Nat.lt_of_lt_of_le (X0.out.lt _ rfl).2 (own_at ho)
    have ne_X1_Y1 : gX1 < gY1 := Nat.lt_of_lt_of_le (X1.out.lt _ rfl).2 (own_at ho)
    have XN := Lib.hid (owns_base ho wlY1)
    clear ho
    have BB2 := Lib.hid (BB.out.trans (hb.mono BB.out.size))
    have W0n := Lib.hid (owns_below W0.out hb)
    have X0n := Lib.hid (owns_below X0.out hb)
    have X1n := Lib.hid (owns_below X1.out hb)
    clear hb BB W0 X0 X1
    have BB := BB2
    clear BB2
    have W0 := W0n
    clear W0n
    have X0 := X0n
    clear X0n
    have X1 := X1n
    clear X1n
    have Y1 := XN
    clear XN
    go_wp2_with fail
    refine (EQ.out _ _ _ _ _ (Rd.own X1.out) (Rd.own Y1.out)).mono ?_
    rintro e u13 ⟨rfl, hb⟩
    have BB2 := Lib.hid (BB.out.trans (hb.mono BB.out.size))
    have W0n := Lib.hid (owns_below W0.out hb)
    have X0n := Lib.hid (owns_below X0.out hb)
    have X1n := Lib.hid (owns_below X1.out hb)
    have Y1n := Lib.hid (owns_below Y1.out hb)
    clear hb BB W0 X0 X1 Y1
    have BB := BB2
    clear BB2
    have W0 := W0n
    clear W0n
    have X0 := X0n
    clear X0n
    have X1 := X1n
    clear X1n
    have Y1 := Y1n
    clear Y1n
    clear Y1
    go_wp2_with fail
    refine (MX0.out _ _ _ _ X0.out).mono ?_
    rintro e u14 ⟨rfl, ho, hg⟩
    have BB2 := Lib.hid (BB.out.grown hg BB.out.size (fun k hk => by cases hk; exact wlX0))
    have W0n := Lib.hid (owns_grown W0.out hg (fun k hk => by cases hk; intro hk2; cases hk2; exact absurd ne_W0_X0 (Nat.lt_irrefl _)))
    have X1n := Lib.hid (owns_grown X1.out hg (fun k hk => by cases hk; intro hk2; cases hk2; exact absurd ne_X0_X1 (Nat.lt_irrefl _)))
    have X0n := Lib.hid ho
    clear ho hg BB W0 X0 X1
    have BB := BB2
    clear BB2
    have W0 := W0n
    clear W0n
    have X0 := X0n
    clear X0n
    have X1 := X1n
    clear X1n
    go_wp2_with fail
    refine (MX1.out _ _ _ _ X1.out).mono ?_
    rintro e u15 ⟨rfl, ho, hg⟩
    have BB2 := Lib.hid (BB.out.grown hg BB.out.size (fun k hk => by cases hk; exact wlX1))
    have W0n := Lib.hid (owns_grown W0.out hg (fun k hk => by cases hk; intro hk2; cases hk2; exact absurd ne_W0_X1 (Nat.lt_irrefl _)))
    have X0n := Lib.hid (owns_grown X0.out hg (fun k hk => by cases hk; intro hk2; cases hk2; exact absurd ne_X0_X1 (Nat.lt_irrefl _)))
    have X1n := Lib.hid ho
    clear ho hg BB W0 X0 X1
    have BB := BB2
    clear BB2
    have W0 := W0n
    clear W0n
    have X0 := X0n
    clear X0n
    have X1 := X1n
    clear X1n
    go_wp2_with fail
    refine (EQ.out _ _ _ _ _ (rdn _ _) (Rd.own W0.out)).mono ?_
    rintro e u16 ⟨rfl, hb⟩
    have BB2 := Lib.hid (BB.out.trans (hb.mono BB.out.size))
    have W0n := Lib.hid (owns_below W0.out hb)
    have X0n := Lib.hid (owns_below X0.out hb)
    have X1n := Lib.hid (owns_below X1.out hb)
    clear hb BB W0 X0 X1
    have BB := BB2
    clear BB2
    have W0 := W0n
    clear W0n
    have X0 := X0n
    clear X0n
    have X1 := X1n
    clear X1n
    go_wp2_with fail
    refine (markN 1 _).mono ?_
    rintro e u17 ⟨rfl, hb⟩
    have BB2 := Lib.hid (BB.out.trans (hb.mono BB.out.size))
    have W0n := Lib.hid (owns_below W0.out hb)
    have X0n := Lib.hid (owns_below X0.out hb)
    have X1n := Lib.hid (owns_below X1.out hb)
    clear hb BB W0 X0 X1
    have BB := BB2
    clear BB2
    have W0 := W0n
    clear W0n
    have X0 := X0n
    clear X0n
    have X1 := X1n
    clear X1n
    clear X0
    clear X1
    go_wp2_with fail
    refine (HG.out _).mono ?_
    rintro e u18 ⟨rfl, hb⟩
    have BB2 := Lib.hid (BB.out.trans (hb.mono BB.out.size))
    have W0n := Lib.hid (owns_below W0.out hb)
    clear hb BB W0
    have BB := BB2
    clear BB2
    have W0 := W0n
    clear W0n
    go_wp2_with fail
    refine (toCueS A0 0 c0 [] _ HN0.out (by omega) ((HR0.out.below BB.out).more BB.out.size)).mono ?_
    rintro e u19 ⟨gQ0, rfl, _, ho, hb⟩
    have wlQ0 : w.heap.size ≤ gQ0 := Nat.le_trans BB.out.size (own_at ho)
    have ne_W0_Q0 : gW0 < gQ0 := Nat.lt_of_lt_of_le (W0.out.lt _ rfl).2 (own_at ho)
    have XN := Lib.hid (owns_base ho wlQ0)
    clear ho
    have BB2 := Lib.hid (BB.out.trans (hb.mono BB.out.size))
    have W0n := Lib.hid (owns_below W0.out hb)
    clear hb BB W0
    have BB := BB2
    clear BB2
    have W0 := W0n
    clear W0n
    have Q0 := XN
    clear XN
    go_wp2_with fail
    refine (toCueS A1 0 c1 [] _ HN1.out (by omega) ((HR1.out.below BB.out).more BB.out.size)).mono ?_
    rintro e u20 ⟨gQ1, rfl, _, ho, hb⟩
    have wlQ1 : w.heap.size ≤ gQ1 := Nat.le_trans BB.out.size (own_at ho)
    have ne_W0_Q1 : gW0 < gQ1 := Nat.lt_of_lt_of_le (W0.out.lt _ rfl).2 (own_at ho)
    have ne_Q0_Q1 : gQ0 < gQ1 := Nat.lt_of_lt_of_le (Q0.out.lt _ rfl).2 (own_at ho)
    have XN := Lib.hid (owns_base ho wlQ1)
    clear ho
    have BB2 := Lib.hid (BB.out.trans (hb.mono BB.out.size))
    have W0n := Lib.hid (owns_below W0.out hb)
    have Q0n := Lib.hid (owns_below Q0.out hb)
    clear hb BB W0 Q0
    have BB := BB2
    clear BB2
    have W0 := W0n
    clear W0n
    have Q0 := Q0n
    clear Q0n
    have Q1 := XN
    clear XN
    go_wp2_with fail
    refine (CI.out _ _ _).mono ?_
    rintro e u21 ⟨rfl, hb⟩
    have BB2 := Lib.hid (BB.out.trans (hb.mono BB.out.size))
    have W0n := Lib.hid (owns_below W0.out hb)
    have Q0n := Lib.hid (owns_below Q0.out hb)
    have Q1n := Lib.hid (owns_below Q1.out hb)
    clear hb BB W0 Q0 Q1
    have BB := BB2
    clear BB2
    have W0 := W0n
    clear W0n
    have Q0 := Q0n
    clear Q0n
    have Q1 := Q1n
    clear Q1n
    clear Q0
    clear Q1
    go_wp2_with fail
    refine (EQ.out _ _ _ _ _ (rdn _ _) (Rd.own W0.out)).mono ?_
    rintro e u22 ⟨rfl, hb⟩
    have BB2 := Lib.hid (BB.out.trans (hb.mono BB.out.size))
    have W0n := Lib.hid (owns_below W0.out hb)
    clear hb BB W0
    have BB := BB2
    clear BB2
    have W0 := W0n
    clear W0n
    go_wp2_with fail
    refine (HG.out _).mono ?_
    rintro e u23 ⟨rfl, hb⟩
    have BB2 := Lib.hid (BB.out.trans (hb.mono BB.out.size))
    have W0n := Lib.hid (owns_below W0.out hb)
    clear hb BB W0
    have BB := BB2
    clear BB2
    have W0 := W0n
    clear W0n
    go_wp2_with fail
    go_ret
    exact ⟨rfl, BB.out⟩
  obtain ⟨zr, hzr⟩ : ∃ z, mgL zs0 zs1 = z := ⟨_, rfl⟩
  obtain ⟨m, hm⟩ : ∃ m, zr.length = m := ⟨_, rfl⟩
  have hbm : m ≤ 1048576 := by (rw [← hm, ← hzr]; exact mgL_small zs0 zs1)
  have HM := Lib.hid hm
  obtain ⟨r, hrr⟩ : ∃ r, mgG zs0 zs1 = r := ⟨_, rfl⟩
  have CS := Lib.hid (show ∀ (b0 : Nat) (b1 : Nat) (W : World) (h0 : Rd W W.heap.size (some ⟨b0, 0, none⟩) (dls zs0)) (h1 : Rd W W.heap.size (some ⟨b1, 0, none⟩) (dls zs1)), Calls Try.prog 18 #[.slice (some ⟨b0, 0, none⟩) n0 n0, .slice (some ⟨b1, 0, none⟩) n1 n1] W (fun e w' => ∃ g c, e = .returned (.tuple #[.slice (some ⟨g, 0, none⟩) m c, .bool r]) ∧ w'.ownsRow W.heap.size 31 4 (.slice (some ⟨g, 0, none⟩) m c) m (dls zr) ∧ Below W.heap.size W w') from fun b0 b1 W h0 h1 => by have := mergeS b0 0 n0 n0 zs0 b1 0 n1 n1 zs1 W hn0 hb0 hn1 hb1 hsz0 hsz1 h0 h1; rw [hzr, hrr] at this; unfold RowB at this; rw [hm] at this; exact this)
  have CI := Lib.hid (show ∀ (b0 : Nat) (b1 : Nat) (W : World) (h0 : Rd W W.heap.size (some ⟨b0, 0, none⟩) (dls zs0)) (h1 : Rd W W.heap.size (some ⟨b1, 0, none⟩) (dls zs1)), Calls Try.prog 19 #[.slice (some ⟨b0, 0, none⟩) n0 n0, .slice (some ⟨b1, 0, none⟩) n1 n1] W (fun e w' => ∃ g c, e = .returned (.tuple #[.slice (some ⟨g, 0, none⟩) m c, .bool r]) ∧ w'.ownsRow W.heap.size 31 4 (.slice (some ⟨g, 0, none⟩) m c) m (dls zr) ∧ Below W.heap.size W w') from fun b0 b1 W h0 h1 => by have := mergeI ⟨b0, 0, none⟩ ⟨b1, 0, none⟩ n0 n0 zs0 n1 n1 zs1 W hn0 hn1 hb0 hb1 hpos h0 h1; rw [hzr, hrr] at this; unfold RowB at this; rw [hm] at this; exact this)
  obtain ⟨K0, hK0⟩ : ∃ K : Int, ((1 + n0 * 4 : Nat) : Int) = K := ⟨_, rfl⟩
  have pK0 : ¬ K0 < 0 := by omega
  have MX0 := Lib.hid (show ∀ (B g c : Nat) (W : World), W.ownsRow B 31 4 (.slice (some ⟨g, 0, none⟩) n0 c) n0 (dls zs0) → Calls Try.prog 16 #[.slice (some ⟨g, 0, none⟩) n0 c, .int .i64 1] W (fun e w' => e = .returned (.int .i64 K0) ∧ w'.ownsRow B 31 4 (.slice (some ⟨g, 0, none⟩) n0 c) n0 (dls (mkd 1 n0)) ∧ W.grownBy w' (some g)) from fun B g c W h => by have := markCueS B g n0 c 1 zs0 W hn0 hb0 (by omega) (by omega) h; unfold Cmk.Laid at this; rw [show (((1 : Nat) : Int) + ((n0 * 4 : Nat) : Int)) = K0 by omega, show ((1 : Nat) : Int) = 1 by omega] at this; exact this)
  obtain ⟨K1, hK1⟩ : ∃ K : Int, ((1 + n0 * 4 + n1 * 4 : Nat) : Int) = K := ⟨_, rfl⟩
  have pK1 : ¬ K1 < 0 := by omega
  have MX1 := Lib.hid (show ∀ (B g c : Nat) (W : World), W.ownsRow B 31 4 (.slice (some ⟨g, 0, none⟩) n1 c) n1 (dls zs1) → Calls Try.prog 16 #[.slice (some ⟨g, 0, none⟩) n1 c, .int .i64 K0] W (fun e w' => e = .returned (.int .i64 K1) ∧ w'.ownsRow B 31 4 (.slice (some ⟨g, 0, none⟩) n1 c) n1 (dls (mkd (1 + n0 * 4) n1)) ∧ W.grownBy w' (some g)) from fun B g c W h => by have := markCueS B g n1 c (1 + n0 * 4) zs1 W hn1 hb1 (by omega) (by omega) h; unfold Cmk.Laid at this; rw [show ((((1 + n0 * 4) : Nat) : Int) + ((n1 * 4 : Nat) : Int)) = K1 by omega, show (((1 + n0 * 4) : Nat) : Int) = K0 by omega] at this; exact this)
  obtain ⟨KR, hKR⟩ : ∃ K : Int, 1 + ((m * 4 : Nat) : Int) = K := ⟨_, rfl⟩
  have pKR : ¬ KR < 0 := by omega
  have MG := Lib.hid (show ∀ (B g c : Nat) (W : World), W.ownsRow B 31 4 (.slice (some ⟨g, 0, none⟩) m c) m (dls zr) → Calls Try.prog 16 #[.slice (some ⟨g, 0, none⟩) m c, .int .i64 1] W (fun e w' => e = .returned (.int .i64 KR) ∧ w'.ownsRow B 31 4 (.slice (some ⟨g, 0, none⟩) m c) m (dls (mkd 1 m)) ∧ W.grownBy w' (some g)) from fun B g c W h => by have := markCueS B g m c 1 zr W hm hbm (by omega) (by omega) h; unfold Cmk.Laid at this; rw [show (((1 : Nat) : Int) + ((m * 4 : Nat) : Int)) = KR by omega, show ((1 : Nat) : Int) = 1 by omega] at this; exact this)
  have HG := Lib.hid (show ∀ (A : Option Addr) (c : Nat) (W : World), Rd W W.heap.size A (dls (mkd 1 m)) → Calls Try.prog 17 #[.slice A m c, .int .i64 1] W (fun e w' => e = .returned (.int .i64 KR) ∧ Below W.heap.size W w') from fun A c W h => by have := heldCueS A m c 1 W hbm (by omega) (by omega) h; rw [show (((1 : Nat) : Int) + ((m * 4 : Nat) : Int)) = KR by omega, show ((1 : Nat) : Int) = 1 by omega] at this; exact this)
  have EQ := Lib.hid (show ∀ (A B : Option Addr) (c d : Nat) (W : World), Rd W W.heap.size A (dls zr) → Rd W W.heap.size B (dls zr) → Calls Try.prog 15 #[.slice A m c, .slice B m d] W (fun e w' => e = .returned (.bool true) ∧ Below W.heap.size W w') from fun A B c d W h k => eqCueS A B m c d zr _ W hm hbm (Nat.le_refl _) h k)
  have EA0 := Lib.hid (show ∀ (A B : Option Addr) (c d : Nat) (W : World), Rd W W.heap.size A (dls zs0) → Rd W W.heap.size B (dls zs0) → Calls Try.prog 15 #[.slice A n0 c, .slice B n0 d] W (fun e w' => e = .returned (.bool true) ∧ Below W.heap.size W w') from fun A B c d W h k => eqCueS A B n0 c d zs0 _ W hn0 hb0 (Nat.le_refl _) h k)
  have EA1 := Lib.hid (show ∀ (A B : Option Addr) (c d : Nat) (W : World), Rd W W.heap.size A (dls zs1) → Rd W W.heap.size B (dls zs1) → Calls Try.prog 15 #[.slice A n1 c, .slice B n1 d] W (fun e w' => e = .returned (.bool true) ∧ Below W.heap.size W w') from fun A B c d W h k => eqCueS A B n1 c d zs1 _ W hn1 hb1 (Nat.le_refl _) h k)
  have HR0 := Lib.hid hr0
  have HN0 := Lib.hid hn0
  have HR1 := Lib.hid hr1
  have HN1 := Lib.hid hn1
  have hu : undef = Value.tuple #[] := rfl
  have BB := Lib.hid (Below.refl w.heap.size w)
  clear hr0 hn0 hwf0 hm0 hsz0 hk0 hK0 hr1 hn1 hwf1 hm1 hsz1 hk1 hK1 hzr hm hKR hrr
  cases r
  all_goals
    go_enter Try.func4, Try.ntmps4
    go_wp2_with fail
    refine (SZ0.out _ BB.out).mono ?_
    rintro e u1 ⟨rfl, hb⟩
    have BB2 := Lib.hid (BB.out.trans (hb.mono BB.out.size))
    clear hb BB
    have BB := BB2
    clear BB2
    clear SZ0
    go_wp2_with fail
    refine (SZ1.out _ BB.out).mono ?_
    rintro e u2 ⟨rfl, hb⟩
    have BB2 := Lib.hid (BB.out.trans (hb.mono BB.out.size))
    clear hb BB
    have BB := BB2
    clear BB2
    clear SZ1
    go_wp2_with fail
    refine (toCueS A0 n0 c0 zs0 _ HN0.out hb0 ((HR0.out.below BB.out).more BB.out.size)).mono ?_
    rintro e u3 ⟨gP0, rfl, _, ho, hb⟩
    have wlP0 : w.heap.size ≤ gP0 := Nat.le_trans BB.out.size (own_at ho)
    have XN := Lib.hid (owns_base ho wlP0)
    clear ho
    have BB2 := Lib.hid (BB.out.trans (hb.mono BB.out.size))
    clear hb BB
    have BB := BB2
    clear BB2
    have P0 := XN
    clear XN
    go_wp2_with fail
    refine (toCueS A1 n1 c1 zs1 _ HN1.out hb1 ((HR1.out.below BB.out).more BB.out.size)).mono ?_
    rintro e u4 ⟨gP1, rfl, _, ho, hb⟩
    have wlP1 : w.heap.size ≤ gP1 := Nat.le_trans BB.out.size (own_at ho)
    have ne_P0_P1 : gP0 < gP1 := Nat.lt_of_lt_of_le (P0.out.lt _ rfl).2 (own_at ho)
    have XN := Lib.hid (owns_base ho wlP1)
    clear ho
    have BB2 := Lib.hid (BB.out.trans (hb.mono BB.out.size))
    have P0n := Lib.hid (owns_below P0.out hb)
    clear hb BB P0
    have BB := BB2
    clear BB2
    have P0 := P0n
    clear P0n
    have P1 := XN
    clear XN
    go_wp2_with fail
    refine (CS.out _ _ _ (Rd.own P0.out) (Rd.own P1.out)).mono ?_
    rintro e u5 ⟨gW0, cW0, rfl, ho, hb⟩
    have wlW0 : w.heap.size ≤ gW0 := Nat.le_trans BB.out.size (own_at ho)
    have ne_P0_W0 : gP0 < gW0 := Nat.lt_of_lt_of_le (P0.out.lt _ rfl).2 (own_at ho)
    have ne_P1_W0 : gP1 < gW0 := Nat.lt_of_lt_of_le (P1.out.lt _ rfl).2 (own_at ho)
    have XN := Lib.hid (owns_base ho wlW0)
    clear ho
    have BB2 := Lib.hid (BB.out.trans (hb.mono BB.out.size))
    have P0n := Lib.hid (owns_below P0.out hb)
    have P1n := Lib.hid (owns_below P1.out hb)
    clear hb BB P0 P1
    have BB := BB2
    clear BB2
    have P0 := P0n
    clear P0n
    have P1 := P1n
    clear P1n
    have W0 := XN
    clear XN
    clear P0
    clear P1
    go_wp2_with fail
    refine (toCueS A0 n0 c0 zs0 _ HN0.out hb0 ((HR0.out.below BB.out).more BB.out.size)).mono ?_
    rintro e u6 ⟨gX0, rfl, _, ho, hb⟩
    have wlX0 : w.heap.size ≤ gX0 := Nat.le_trans BB.out.size (own_at ho)
    have ne_W0_X0 : gW0 < gX0 := Nat.lt_of_lt_of_le (W0.out.lt _ rfl).2 (own_at ho)
    have XN := Lib.hid (owns_base ho wlX0)
    clear ho
    have BB2 := Lib.hid (BB.out.trans (hb.mono BB.out.size))
    have W0n := Lib.hid (owns_below W0.out hb)
    clear hb BB W0
    have BB := BB2
    clear BB2
    have W0 := W0n
    clear W0n
    have X0 := XN
    clear XN
    go_wp2_with fail
    refine (toCueS A1 n1 c1 zs1 _ HN1.out hb1 ((HR1.out.below BB.out).more BB.out.size)).mono ?_
    rintro e u7 ⟨gX1, rfl, _, ho, hb⟩
    have wlX1 : w.heap.size ≤ gX1 := Nat.le_trans BB.out.size (own_at ho)
    have ne_W0_X1 : gW0 < gX1 := Nat.lt_of_lt_of_le (W0.out.lt _ rfl).2 (own_at ho)
    have ne_X0_X1 : gX0 < gX1 := Nat.lt_of_lt_of_le (X0.out.lt _ rfl).2 (own_at ho)
    have XN := Lib.hid (owns_base ho wlX1)
    clear ho
    have BB2 := Lib.hid (BB.out.trans (hb.mono BB.out.size))
    have W0n := Lib.hid (owns_below W0.out hb)
    have X0n := Lib.hid (owns_below X0.out hb)
    clear hb BB W0 X0
    have BB := BB2
    clear BB2
    have W0 := W0n
    clear W0n
    have X0 := X0n
    clear X0n
    have X1 := XN
    clear XN
    go_wp2_with fail
    refine (CI.out _ _ _ (Rd.own X0.out) (Rd.own X1.out)).mono ?_
    rintro e u8 ⟨gG0, cG0, rfl, ho, hb⟩
    have wlG0 : w.heap.size ≤ gG0 := Nat.le_trans BB.out.size (own_at ho)
    have ne_W0_G0 : gW0 < gG0 := Nat.lt_of_lt_of_le (W0.out.lt _ rfl).2 (own_at ho)
    have ne_X0_G0 : gX0 < gG0 := Nat.lt_of_lt_of_le (X0.out.lt _ rfl).2 (own_at ho)
    have ne_X1_G0 : gX1 < gG0 := Nat.lt_of_lt_of_le (X1.out.lt _ rfl).2 (own_at ho)
    have XN := Lib.hid (owns_base ho wlG0)
    clear ho
    have BB2 := Lib.hid (BB.out.trans (hb.mono BB.out.size))
    have W0n := Lib.hid (owns_below W0.out hb)
    have X0n := Lib.hid (owns_below X0.out hb)
    have X1n := Lib.hid (owns_below X1.out hb)
    clear hb BB W0 X0 X1
    have BB := BB2
    clear BB2
    have W0 := W0n
    clear W0n
    have X0 := X0n
    clear X0n
    have X1 := X1n
    clear X1n
    have G0 := XN
    clear XN
    go_wp2_with fail
    refine (EQ.out _ _ _ _ _ (Rd.own G0.out) (Rd.own W0.out)).mono ?_
    rintro e u9 ⟨rfl, hb⟩
    have BB2 := Lib.hid (BB.out.trans (hb.mono BB.out.size))
    have W0n := Lib.hid (owns_below W0.out hb)
    have X0n := Lib.hid (owns_below X0.out hb)
    have X1n := Lib.hid (owns_below X1.out hb)
    have G0n := Lib.hid (owns_below G0.out hb)
    clear hb BB W0 X0 X1 G0
    have BB := BB2
    clear BB2
    have W0 := W0n
    clear W0n
    have X0 := X0n
    clear X0n
    have X1 := X1n
    clear X1n
    have G0 := G0n
    clear G0n
    go_wp2_with fail
    refine (toCueS A0 n0 c0 zs0 _ HN0.out hb0 ((HR0.out.below BB.out).more BB.out.size)).mono ?_
    rintro e u10 ⟨gY0, rfl, _, ho, hb⟩
    have wlY0 : w.heap.size ≤ gY0 := Nat.le_trans BB.out.size (own_at ho)
    have ne_W0_Y0 : gW0 < gY0 := Nat.lt_of_lt_of_le (W0.out.lt _ rfl).2 (own_at ho)
    have ne_X0_Y0 : gX0 < gY0 := Nat.lt_of_lt_of_le (X0.out.lt _ rfl).2 (own_at ho)
    have ne_X1_Y0 : gX1 < gY0 := Nat.lt_of_lt_of_le (X1.out.lt _ rfl).2 (own_at ho)
    have ne_G0_Y0 : gG0 < gY0 := Nat.lt_of_lt_of_le (G0.out.lt _ rfl).2 (own_at ho)
    have XN := Lib.hid (owns_base ho wlY0)
    clear ho
    have BB2 := Lib.hid (BB.out.trans (hb.mono BB.out.size))
    have W0n := Lib.hid (owns_below W0.out hb)
    have X0n := Lib.hid (owns_below X0.out hb)
    have X1n := Lib.hid (owns_below X1.out hb)
    have G0n := Lib.hid (owns_below G0.out hb)
    clear hb BB W0 X0 X1 G0
    have BB := BB2
    clear BB2
    have W0 := W0n
    clear W0n
    have X0 := X0n
    clear X0n
    have X1 := X1n
    clear X1n
    have G0 := G0n
    clear G0n
    have Y0 := XN
    clear XN
    go_wp2_with fail
    refine (EA0.out _ _ _ _ _ (Rd.own X0.out) (Rd.own Y0.out)).mono ?_
    rintro e u11 ⟨rfl, hb⟩
    have BB2 := Lib.hid (BB.out.trans (hb.mono BB.out.size))
    have W0n := Lib.hid (owns_below W0.out hb)
    have X0n := Lib.hid (owns_below X0.out hb)
    have X1n := Lib.hid (owns_below X1.out hb)
    have G0n := Lib.hid (owns_below G0.out hb)
    have Y0n := Lib.hid (owns_below Y0.out hb)
    clear hb BB W0 X0 X1 G0 Y0
    have BB := BB2
    clear BB2
    have W0 := W0n
    clear W0n
    have X0 := X0n
    clear X0n
    have X1 := X1n
    clear X1n
    have G0 := G0n
    clear G0n
    have Y0 := Y0n
    clear Y0n
    clear Y0
    go_wp2_with fail
    refine (toCueS A1 n1 c1 zs1 _ HN1.out hb1 ((HR1.out.below BB.out).more BB.out.size)).mono ?_
    rintro e u12 ⟨gY1, rfl, _, ho, hb⟩
    have wlY1 : w.heap.size ≤ gY1 := Nat.le_trans BB.out.size (own_at ho)
    have ne_W0_Y1 : gW0 < gY1 := Nat.lt_of_lt_of_le (W0.out.lt _ rfl).2 (own_at ho)
    have ne_X0_Y1 : gX0 < gY1 := Nat.lt_of_lt_of_le (X0.out.lt _ rfl).2 (own_at ho)
    have ne_X1_Y1 : gX1 < gY1 := Nat.lt_of_lt_of_le (X1.out.lt _ rfl).2 (own_at ho)
    have ne_G0_Y1 : gG0 < gY1 := Nat.lt_of_lt_of_le (G0.out.lt _ rfl).2 (own_at ho)
    have XN := Lib.hid (owns_base ho wlY1)
    clear ho
    have BB2 := Lib.hid (BB.out.trans (hb.mono BB.out.size))
    have W0n := Lib.hid (owns_below W0.out hb)
    have X0n := Lib.hid (owns_below X0.out hb)
    have X1n := Lib.hid (owns_below X1.out hb)
    have G0n := Lib.hid (owns_below G0.out hb)
    clear hb BB W0 X0 X1 G0
    have BB := BB2
    clear BB2
    have W0 := W0n
    clear W0n
    have X0 := X0n
    clear X0n
    have X1 := X1n
    clear X1n
    have G0 := G0n
    clear G0n
    have Y1 := XN
    clear XN
    go_wp2_with fail
    refine (EA1.out _ _ _ _ _ (Rd.own X1.out) (Rd.own Y1.out)).mono ?_
    rintro e u13 ⟨rfl, hb⟩
    have BB2 := Lib.hid (BB.out.trans (hb.mono BB.out.size))
    have W0n := Lib.hid (owns_below W0.out hb)
    have X0n := Lib.hid (owns_below X0.out hb)
    have X1n := Lib.hid (owns_below X1.out hb)
    have G0n := Lib.hid (owns_below G0.out hb)
    have Y1n := Lib.hid (owns_below Y1.out hb)
    clear hb BB W0 X0 X1 G0 Y1
    have BB := BB2
    clear BB2
    have W0 := W0n
    clear W0n
    have X0 := X0n
    clear X0n
    have X1 := X1n
    clear X1n
    have G0 := G0n
    clear G0n
    have Y1 := Y1n
    clear Y1n
    clear Y1
    go_wp2_with fail
    refine (MX0.out _ _ _ _ X0.out).mono ?_
    rintro e u14 ⟨rfl, ho, hg⟩
    have BB2 := Lib.hid (BB.out.grown hg BB.out.size (fun k hk => by cases hk; exact wlX0))
    have W0n := Lib.hid (owns_grown W0.out hg (fun k hk => by cases hk; intro hk2; cases hk2; exact absurd ne_W0_X0 (Nat.lt_irrefl _)))
    have X1n := Lib.hid (owns_grown X1.out hg (fun k hk => by cases hk; intro hk2; cases hk2; exact absurd ne_X0_X1 (Nat.lt_irrefl _)))
    have G0n := Lib.hid (owns_grown G0.out hg (fun k hk => by cases hk; intro hk2; cases hk2; exact absurd ne_X0_G0 (Nat.lt_irrefl _)))
    have X0n := Lib.hid ho
    clear ho hg BB W0 X0 X1 G0
    have BB := BB2
    clear BB2
    have W0 := W0n
    clear W0n
    have X0 := X0n
    clear X0n
    have X1 := X1n
    clear X1n
    have G0 := G0n
    clear G0n
    go_wp2_with fail
    refine (MX1.out _ _ _ _ X1.out).mono ?_
    rintro e u15 ⟨rfl, ho, hg⟩
    have BB2 := Lib.hid (BB.out.grown hg BB.out.size (fun k hk => by cases hk; exact wlX1))
    have W0n := Lib.hid (owns_grown W0.out hg (fun k hk => by cases hk; intro hk2; cases hk2; exact absurd ne_W0_X1 (Nat.lt_irrefl _)))
    have X0n := Lib.hid (owns_grown X0.out hg (fun k hk => by cases hk; intro hk2; cases hk2; exact absurd ne_X0_X1 (Nat.lt_irrefl _)))
    have G0n := Lib.hid (owns_grown G0.out hg (fun k hk => by cases hk; intro hk2; cases hk2; exact absurd ne_X1_G0 (Nat.lt_irrefl _)))
    have X1n := Lib.hid ho
    clear ho hg BB W0 X0 X1 G0
    have BB := BB2
    clear BB2
    have W0 := W0n
    clear W0n
    have X0 := X0n
    clear X0n
    have X1 := X1n
    clear X1n
    have G0 := G0n
    clear G0n
    go_wp2_with fail
    refine (EQ.out _ _ _ _ _ (Rd.own G0.out) (Rd.own W0.out)).mono ?_
    rintro e u16 ⟨rfl, hb⟩
    have BB2 := Lib.hid (BB.out.trans (hb.mono BB.out.size))
    have W0n := Lib.hid (owns_below W0.out hb)
    have X0n := Lib.hid (owns_below X0.out hb)
    have X1n := Lib.hid (owns_below X1.out hb)
    have G0n := Lib.hid (owns_below G0.out hb)
    clear hb BB W0 X0 X1 G0
    have BB := BB2
    clear BB2
    have W0 := W0n
    clear W0n
    have X0 := X0n
    clear X0n
    have X1 := X1n
    clear X1n
    have G0 := G0n
    clear G0n
    go_wp2_with fail
    refine (MG.out _ _ _ _ G0.out).mono ?_
    rintro e u17 ⟨rfl, ho, hg⟩
    have BB2 := Lib.hid (BB.out.grown hg BB.out.size (fun k hk => by cases hk; exact wlG0))
    have W0n := Lib.hid (owns_grown W0.out hg (fun k hk => by cases hk; intro hk2; cases hk2; exact absurd ne_W0_G0 (Nat.lt_irrefl _)))
    have X0n := Lib.hid (owns_grown X0.out hg (fun k hk => by cases hk; intro hk2; cases hk2; exact absurd ne_X0_G0 (Nat.lt_irrefl _)))
    have X1n := Lib.hid (owns_grown X1.out hg (fun k hk => by cases hk; intro hk2; cases hk2; exact absurd ne_X1_G0 (Nat.lt_irrefl _)))
    have G0n := Lib.hid ho
    clear ho hg BB W0 X0 X1 G0
    have BB := BB2
    clear BB2
    have W0 := W0n
    clear W0n
    have X0 := X0n
    clear X0n
    have X1 := X1n
    clear X1n
    have G0 := G0n
    clear G0n
    clear X0
    clear X1
    go_wp2_with fail
    refine (HG.out _ _ _ (Rd.own G0.out)).mono ?_
    rintro e u18 ⟨rfl, hb⟩
    have BB2 := Lib.hid (BB.out.trans (hb.mono BB.out.size))
    have W0n := Lib.hid (owns_below W0.out hb)
    have G0n := Lib.hid (owns_below G0.out hb)
    clear hb BB W0 G0
    have BB := BB2
    clear BB2
    have W0 := W0n
    clear W0n
    have G0 := G0n
    clear G0n
    go_wp2_with fail
    refine (toCueS A0 n0 c0 zs0 _ HN0.out hb0 ((HR0.out.below BB.out).more BB.out.size)).mono ?_
    rintro e u19 ⟨gQ0, rfl, _, ho, hb⟩
    have wlQ0 : w.heap.size ≤ gQ0 := Nat.le_trans BB.out.size (own_at ho)
    have ne_W0_Q0 : gW0 < gQ0 := Nat.lt_of_lt_of_le (W0.out.lt _ rfl).2 (own_at ho)
    have ne_G0_Q0 : gG0 < gQ0 := Nat.lt_of_lt_of_le (G0.out.lt _ rfl).2 (own_at ho)
    have XN := Lib.hid (owns_base ho wlQ0)
    clear ho
    have BB2 := Lib.hid (BB.out.trans (hb.mono BB.out.size))
    have W0n := Lib.hid (owns_below W0.out hb)
    have G0n := Lib.hid (owns_below G0.out hb)
    clear hb BB W0 G0
    have BB := BB2
    clear BB2
    have W0 := W0n
    clear W0n
    have G0 := G0n
    clear G0n
    have Q0 := XN
    clear XN
    go_wp2_with fail
    refine (toCueS A1 n1 c1 zs1 _ HN1.out hb1 ((HR1.out.below BB.out).more BB.out.size)).mono ?_
    rintro e u20 ⟨gQ1, rfl, _, ho, hb⟩
    have wlQ1 : w.heap.size ≤ gQ1 := Nat.le_trans BB.out.size (own_at ho)
    have ne_W0_Q1 : gW0 < gQ1 := Nat.lt_of_lt_of_le (W0.out.lt _ rfl).2 (own_at ho)
    have ne_G0_Q1 : gG0 < gQ1 := Nat.lt_of_lt_of_le (G0.out.lt _ rfl).2 (own_at ho)
    have ne_Q0_Q1 : gQ0 < gQ1 := Nat.lt_of_lt_of_le (Q0.out.lt _ rfl).2 (own_at ho)
    have XN := Lib.hid (owns_base ho wlQ1)
    clear ho
    have BB2 := Lib.hid (BB.out.trans (hb.mono BB.out.size))
    have W0n := Lib.hid (owns_below W0.out hb)
    have G0n := Lib.hid (owns_below G0.out hb)
    have Q0n := Lib.hid (owns_below Q0.out hb)
    clear hb BB W0 G0 Q0
    have BB := BB2
    clear BB2
    have W0 := W0n
    clear W0n
    have G0 := G0n
    clear G0n
    have Q0 := Q0n
    clear Q0n
    have Q1 := XN
    clear XN
    go_wp2_with fail
    refine (CI.out _ _ _ (Rd.own Q0.out) (Rd.own Q1.out)).mono ?_
    rintro e u21 ⟨gH0, cH0, rfl, ho, hb⟩
    have wlH0 : w.heap.size ≤ gH0 := Nat.le_trans BB.out.size (own_at ho)
    have ne_W0_H0 : gW0 < gH0 := Nat.lt_of_lt_of_le (W0.out.lt _ rfl).2 (own_at ho)
    have ne_G0_H0 : gG0 < gH0 := Nat.lt_of_lt_of_le (G0.out.lt _ rfl).2 (own_at ho)
    have ne_Q0_H0 : gQ0 < gH0 := Nat.lt_of_lt_of_le (Q0.out.lt _ rfl).2 (own_at ho)
    have ne_Q1_H0 : gQ1 < gH0 := Nat.lt_of_lt_of_le (Q1.out.lt _ rfl).2 (own_at ho)
    have XN := Lib.hid (owns_base ho wlH0)
    clear ho
    have BB2 := Lib.hid (BB.out.trans (hb.mono BB.out.size))
    have W0n := Lib.hid (owns_below W0.out hb)
    have G0n := Lib.hid (owns_below G0.out hb)
    have Q0n := Lib.hid (owns_below Q0.out hb)
    have Q1n := Lib.hid (owns_below Q1.out hb)
    clear hb BB W0 G0 Q0 Q1
    have BB := BB2
    clear BB2
    have W0 := W0n
    clear W0n
    have G0 := G0n
    clear G0n
    have Q0 := Q0n
    clear Q0n
    have Q1 := Q1n
    clear Q1n
    have H0 := XN
    clear XN
    clear Q0
    clear Q1
    go_wp2_with fail
    refine (EQ.out _ _ _ _ _ (Rd.own H0.out) (Rd.own W0.out)).mono ?_
    rintro e u22 ⟨rfl, hb⟩
    have BB2 := Lib.hid (BB.out.trans (hb.mono BB.out.size))
    have W0n := Lib.hid (owns_below W0.out hb)
    have G0n := Lib.hid (owns_below G0.out hb)
    have H0n := Lib.hid (owns_below H0.out hb)
    clear hb BB W0 G0 H0
    have BB := BB2
    clear BB2
    have W0 := W0n
    clear W0n
    have G0 := G0n
    clear G0n
    have H0 := H0n
    clear H0n
    go_wp2_with fail
    refine (HG.out _ _ _ (Rd.own G0.out)).mono ?_
    rintro e u23 ⟨rfl, hb⟩
    have BB2 := Lib.hid (BB.out.trans (hb.mono BB.out.size))
    have W0n := Lib.hid (owns_below W0.out hb)
    have G0n := Lib.hid (owns_below G0.out hb)
    have H0n := Lib.hid (owns_below H0.out hb)
    clear hb BB W0 G0 H0
    have BB := BB2
    clear BB2
    have W0 := W0n
    clear W0n
    have G0 := G0n
    clear G0n
    have H0 := H0n
    clear H0n
    go_wp2_with fail
    go_ret
    exact ⟨rfl, BB.out⟩

set_option maxRecDepth 100000 in
theorem lifted (os : Os) (started : os.Started) (H : Type) (enc : TypeId × Value → H) :
    ReturnsInHanded {} Try.checked os 4 .any (Rows.fnExactMergeScoresSpec.pre6 enc Try.prog Try.f4 Rows.fnExactMergeScoresRow.domain false) (Rows.fnExactMergeScoresSpec.post enc Try.prog Try.f4 false true false false) := by
  refine returnsInHanded_of_change (C := Try.checked) own started (by kernel_rfl) Try.func4
    (ChangeSpec.witness6 (enc := enc) (C := Try.checked) false ⟨#[], #[.slice none 0 0, .slice none 0 0], []⟩ 8 (by kernel_rfl) (by kernel_rfl) (by kernel_rfl) (by kernel_rfl)) ?_
  intro W base args ds gs before hval0 hW hcnd hsz
  have hval : ∀ (j : Nat) t v, Try.f4.params[j]? = some t → args[j]? = some v → Value.okWide Try.prog W .any base t v := hval0
  have hW' := hW
  obtain ⟨p, q, hA0, hV, rfl, hfz, hnd⟩ := hW
  have hA1 := hA0
  have hA : DataW.TrodAll enc Try.prog W 0 (fun _ => true) true Try.f4.params.toList args.toList ds p := hA0
  rw [Try.params4] at hA hval
  obtain ⟨v0, vs0, d0, ds0, p0, q0, hargs, rfl, rfl, h0, r0⟩ := trodAll_cons hA
  obtain ⟨v1, vs1, d1, ds1, p1, q1, rfl, rfl, rfl, h1, r1⟩ := trodAll_cons r0
  obtain ⟨rfl, rfl, rfl⟩ := trodAll_nil r1
  obtain rfl : args = #[v0, v1] := by cases args; simp_all
  obtain ⟨rfl, rfl⟩ := trodVars_none hV
  obtain ⟨A0, n0, c0, a0, rfl, l0, m0, g0, w0⟩ := Cd.take_cues Try.underlying22 (by kernel_rfl) Cd.read_this (hval 0 22 v0 rfl rfl) h0
  obtain ⟨A1, n1, c1, a1, rfl, l1, m1, g1, w1⟩ := Cd.take_cues Try.underlying22 (by kernel_rfl) Cd.read_this (hval 1 22 v1 rfl rfl) h1
  clear hA0 hval0
  rw [List.append_nil] at hW'
  refine (walk A0 n0 c0 a0 l0 m0 A1 n1 c1 a1 l1 m1 W g0 w0 g1 w1).mono fun e W' ⟨he, hb⟩ => ?_
  subst he
  exact ⟨_, rfl, post_law rfl hW' hA1 laidOut (by rw [Try.params4]; exact of_decide_eq_true (by kernel_rfl)) 4 (by kernel_rfl) Try.underlying4 rfl hb⟩

theorem over : Rows.fnExactMergeScoresRow.holds Try.pinned (OpenSpec.ofChange Rows.fnExactMergeScoresSpec) :=
  OpenClaim.holds_of_wide 4 Try.f4 rfl rfl rfl rfl rfl rfl rfl ⟨rfl, rfl, rfl, rfl, rfl⟩ rfl rfl rfl rfl rfl (by kernel_rfl) Try.func4 (by kernel_rfl)
    (of_decide_eq_true (by kernel_rfl)) (by unfold Func.isWrapper; first | (rw [if_pos (by decide +kernel)]; kernel_rfl) | (rw [if_neg (by decide +kernel)]; exact ⟨rfl, rfl⟩))
    (fun os started H enc _ => lifted os started H enc)

/-- The statement. -/
theorem proved : Rows.FnExactMergeScoresSaid :=
  over
#print axioms proved
end Go.Proofs.Ytjeibjefpoiidaa.fnExactMergeScores
