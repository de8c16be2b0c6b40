/- slices.Grow of nothing, and slices.Concat of two, at cues. -/
import Derived.Test.YtgcheplneolonacCr
import Derived.Lib.AppendZeros
namespace Go.Proofs.Ytgcheplneolonac.Cc7
open Go.RowKit Go.ChangeShapes Go.WideShapes Go.WideElems Go.Deep Go.Proofs.Ytgcheplneolonac.Mem Go.Proofs.Ytgcheplneolonac.Rw Go.Proofs.Ytgcheplneolonac.P2 Go.Proofs.Ytgcheplneolonac.Cd Go.Proofs.Ytgcheplneolonac.Cv Go.Proofs.Ytgcheplneolonac.Cl Go.Proofs.Ytgcheplneolonac.Cs
set_option linter.unusedVariables false
set_option linter.unusedSimpArgs false
open Go.Proofs.Ytgcheplneolonac.Sd Go.Proofs.Ytgcheplneolonac.Oc Go.Proofs.Ytgcheplneolonac.Cr
open Go.Proofs.Ytgcheplneolonac.Rw (owns_below owns_grown owns_base)

theorem szz {z : Array Value} {n C : Nat} (hz : z.size = 4) (h : n ≤ C) : (Builtin.zeroCells z n ++ Builtin.zeroCells z (C - n)).size = C * 4 := by
  rw [Array.size_append, size_zeroCells, size_zeroCells, hz]; omega

set_option maxHeartbeats 1000000 in
set_option maxRecDepth 100000 in
theorem growC (n0 : Nat) (h0 : 0 < n0) (hb : n0 ≤ 2097152) (w : World) :
    Calls Try.prog 44 #[.slice none 0 0, .int .i64 n0] w fun e w' => ∃ g c, e = .returned (.slice (some ⟨g, 0, none⟩) 0 c) ∧ w'.ownsRow w.heap.size 26 4 (.slice (some ⟨g, 0, none⟩) 0 c) 0 [] ∧ Below w.heap.size w w' := by
  obtain ⟨i0, hi, hz0, hz1, hz2⟩ := info_of infoD
  have run := Lib.run_append_nil_zeros w 24 3 24 26 i0 (.agg #[.int .i64 0, .string ⟨#[]⟩, .int .i64 0, .int .i64 0]) .i64 .i64 Try.underlying24 Try.underlying3 hi hz0 n0 h0 (by rw [hz1]; decide) (by omega) (by rw [hz2]; omega)
  have g1 := grownCap_ge w n0 0 26
  have g2 := grownCap_le_maxLen w n0 0 26 (by unfold maxLen; omega)
  generalize grownCap w n0 0 26 = C at *
  have hs := szz (z := (Value.agg #[.int .i64 0, .string ⟨#[]⟩, .int .i64 0, .int .i64 0]).cells) (n := n0) (C := C) rfl g1
  generalize (Builtin.zeroCells (Value.agg #[.int .i64 0, .string ⟨#[]⟩, .int .i64 0, .int .i64 0]).cells n0 ++ Builtin.zeroCells (Value.agg #[.int .i64 0, .string ⟨#[]⟩, .int .i64 0, .int .i64 0]).cells (C - n0)) = Z at *
  have RO := Lib.hid (show (w.drew.alloc (.cells Z 26)).ownsRow w.heap.size 26 4 (.slice (some ⟨w.heap.size, 0, none⟩) 0 C) 0 [] from ⟨rfl, Or.inr ⟨w.heap.size, C, Z, rfl, Nat.le_refl _, heap_alloc_new w.drew _, Nat.zero_le _, g2, hs, by simp⟩⟩)
  have BO := Lib.hid (show Below w.heap.size w (w.drew.alloc (.cells Z 26)) by go_grown)
  have hp : (0 : Int) < (n0 : Int) := by omega
  unfold maxLen at g2
  clear hs
  go_enter Try.func44, Try.ntmps44
  go_wp2_with (at_builtin; refine Lib.wpList_append_run _ rfl _ _ _ _ rfl _ _ rfl rfl _ _ run ?_)
  go_ret
  exact ⟨_, _, rfl, RO.out, BO.out⟩

set_option maxHeartbeats 1000000 in
theorem growN (w : World) : Calls Try.prog 44 #[.slice none 0 0, .int .i64 0] w fun e w' => e = .returned (.slice none 0 0) ∧ w' = w := by
  go_enter Try.func44, Try.ntmps44
  go_wp2_with fail
  go_ret
  exact ⟨rfl, rfl⟩

theorem cells_of {w w1 : World} {a : Addr} {zs : List C} (hr : Rd w w.heap.size (some a) (dls zs)) (hb : Below w.heap.size w w1) : ∀ j u, (dls zs)[j]? = some u → w1.cell? (a.add j) = some u := by
  intro j u hj
  have hl := (List.getElem?_eq_some_iff.1 hj).1
  obtain ⟨b, o, e, hbl, hc⟩ := (hr.below hb).get hl
  injection e with e
  subst e
  have := hc j u hj
  rw [show (⟨b, o, none⟩ : Addr).add j = ⟨b, o + j, none⟩ by simp [Addr.add]]
  exact this
theorem dls_app2 (zs xs : List C) : dls zs ++ dls xs = dls (zs ++ xs) := by unfold dls; rw [List.flatMap_append]

set_option maxHeartbeats 4000000 in
set_option maxRecDepth 100000 in
theorem concatC (bs os : Nat) (a b : Addr) (n0 c9 m0 c8 : Nat) (zs xs : List C) (w : World) (h0 : w.cell? ⟨bs, os, none⟩ = some (.slice (some a) n0 c9)) (h1 : w.cell? ⟨bs, os + 1, none⟩ = some (.slice (some b) m0 c8)) (hn : zs.length = n0) (hm : xs.length = m0) (hb : n0 ≤ 1048576) (hb2 : m0 ≤ 1048576) (hp : 0 < n0 + m0) (hr : Rd w w.heap.size (some a) (dls zs)) (hx : Rd w w.heap.size (some b) (dls xs)) :
    Calls Try.prog 27 #[.slice (some ⟨bs, os, none⟩) 2 2] w fun e w' => ∃ g c, e = .returned (.slice (some ⟨g, 0, none⟩) (n0 + m0) c) ∧ w'.ownsRow w.heap.size 26 4 (.slice (some ⟨g, 0, none⟩) (n0 + m0) c) (n0 + m0) (dls (zs ++ xs)) ∧ Below w.heap.size w w' := by
  obtain ⟨i0, hi, hz0, hz1, hz2⟩ := info_of infoD
  have GC := Lib.hid (growC (n0 + m0) hp (by omega))
  have HC := Lib.hid (fun (W : World) (hW : Below w.heap.size w W) => cells_of hr hW)
  have HD := Lib.hid (fun (W : World) (hW : Below w.heap.size w W) => cells_of hx hW)
  have H0 := Lib.hid h0
  have H1 := Lib.hid h1
  have HN := Lib.hid hn
  have HM := Lib.hid hm
  have ec : ((n0 + m0 : Nat) : Int) = (n0 : Int) + (m0 : Int) := by omega
  have EC := Lib.hid ec
  clear hr hx hn hm ec
  go_enter Try.func27, Try.ntmps27
  go_wp2_with fail
  go_loop [3, 11] (fun s i => (i = .int .i64 0 ∧ s = .int .i64 0) ∨ (i = .int .i64 1 ∧ s = .int .i64 n0) ∨ (i = .int .i64 2 ∧ s = .int .i64 ((n0 : Int) + m0))) (fun _ i => 2 - (intOf i).toNat)
  case atStart => exact Or.inl ⟨rfl, rfl⟩
  case round =>
    rcases hrel with ⟨rfl, rfl⟩ | ⟨rfl, rfl⟩ | ⟨rfl, rfl⟩
    · go_wp2_with fail
      go_round
      case rel => exact Or.inr (Or.inl ⟨by first | rfl | simp, by first | rfl | simp⟩)
      case measure => simp [intOf]
    · go_wp2_with fail
      go_round
      case rel => exact Or.inr (Or.inr ⟨by first | rfl | simp, by first | rfl | simp⟩)
      case measure => simp [intOf]
    · rw [← EC.out]
      go_wp2_with fail
      refine (GC.out w).mono ?_
      rintro e w1 ⟨g, c, rfl, ho, hb1⟩
      have O1 := Lib.hid ho
      have B1 := Lib.hid hb1
      clear ho hb1 h0 h1
      go_wp2_with fail
      go_loopw [6, 27] (fun v i wr => Hid (Below w.heap.size w wr) ∧ ((i = .int .i64 0 ∧ (∃ g c, v = .slice (some ⟨g, 0, none⟩) 0 c) ∧ Hid (wr.ownsRow w.heap.size 26 4 v 0 [])) ∨ (i = .int .i64 1 ∧ (∃ g c, v = .slice (some ⟨g, 0, none⟩) n0 c) ∧ Hid (wr.ownsRow w.heap.size 26 4 v n0 (dls zs))) ∨ (i = .int .i64 2 ∧ (∃ g c, v = .slice (some ⟨g, 0, none⟩) (n0 + m0) c) ∧ Hid (wr.ownsRow w.heap.size 26 4 v (n0 + m0) (dls (zs ++ xs)))))) (fun _ i _ => 2 - (intOf i).toNat)
      case atStart => exact ⟨B1, Or.inl ⟨rfl, ⟨_, _, rfl⟩, O1⟩⟩
      case round =>
        clear O1 B1
        obtain ⟨BK, hrel⟩ := hrel
        have hsw : w.heap.size ≤ wr.heap.size := BK.out.size
        have k0 := cell_below BK.out H0.out
        have k1 := cell_below BK.out H1.out
        rcases hrel with ⟨rfl, ⟨gb, gc, rfl⟩, OK⟩ | ⟨rfl, ⟨gb, gc, rfl⟩, OK⟩ | ⟨rfl, ⟨gb, gc, rfl⟩, OK⟩
        · have HCW := Lib.hid (HC.out wr BK.out)
          go_wp2_with (at_builtin; refine wpList_append_own _ rfl _ _ 24 rfl w.heap.size 26 i0 (.agg #[.int .i64 0, .string ⟨#[]⟩, .int .i64 0, .int .i64 0]) 4 40 Try.underlying24 hi hz0 hz1 hz2 rfl (by decide) _ _ _ rfl OK.out a n0 _ (dls zs) rfl (by rw [dls_len, HN.out]) HCW.out (fun u hu => dls_cell hu) (by unfold maxLen; omega) (by omega) hsw ?_; intro v' w5 hown' hgrow hnil)
          have hg : ∃ g c, v' = .slice (some ⟨g, 0, none⟩) n0 c := by
            rcases hown'.2 with ⟨e1, _⟩ | ⟨g, cap, cur, e1, _⟩
            · exact absurd (hnil.1 e1).1 (by intro h; cases h)
            · exact ⟨g, cap, by rw [e1, Nat.zero_add]⟩
          obtain ⟨g5, c5, rfl⟩ := hg
          have R5 := Lib.hid (show w5.ownsRow w.heap.size 26 4 (.slice (some ⟨g5, 0, none⟩) n0 c5) n0 (dls zs) by
            have := hown'; rw [Nat.zero_add] at this; exact this)
          have B5 := Lib.hid (BK.out.grown hgrow hsw (fun j hj => own_base OK.out j hj))
          clear hown' hgrow hnil OK BK HCW k0 k1
          go_wp2_with fail
          go_roundw
          case rel => exact ⟨B5, Or.inr (Or.inl ⟨by first | rfl | simp, ⟨_, _, rfl⟩, R5⟩)⟩
          case measure => simp [intOf]
        · have HDW := Lib.hid (HD.out wr BK.out)
          go_wp2_with (at_builtin; refine wpList_append_own _ rfl _ _ 24 rfl w.heap.size 26 i0 (.agg #[.int .i64 0, .string ⟨#[]⟩, .int .i64 0, .int .i64 0]) 4 40 Try.underlying24 hi hz0 hz1 hz2 rfl (by decide) _ _ _ rfl OK.out b m0 _ (dls xs) rfl (by rw [dls_len, HM.out]) HDW.out (fun u hu => dls_cell hu) (by unfold maxLen; omega) (by omega) hsw ?_; intro v' w5 hown' hgrow hnil)
          have hg : ∃ g c, v' = .slice (some ⟨g, 0, none⟩) (n0 + m0) c := by
            rcases hown'.2 with ⟨e1, _⟩ | ⟨g, cap, cur, e1, _⟩
            · exact absurd (hnil.1 e1).1 (by intro h; cases h)
            · exact ⟨g, cap, e1⟩
          obtain ⟨g5, c5, rfl⟩ := hg
          have R5 := Lib.hid (show w5.ownsRow w.heap.size 26 4 (.slice (some ⟨g5, 0, none⟩) (n0 + m0) c5) (n0 + m0) (dls (zs ++ xs)) by
            rw [← dls_app2]; exact hown')
          have B5 := Lib.hid (BK.out.grown hgrow hsw (fun j hj => own_base OK.out j hj))
          clear hown' hgrow hnil OK BK HDW k0 k1
          go_wp2_with fail
          go_roundw
          case rel => exact ⟨B5, Or.inr (Or.inr ⟨by first | rfl | simp, ⟨_, _, rfl⟩, R5⟩)⟩
          case measure => simp [intOf]
        · go_wp2_with fail
          go_ret
          exact ⟨gb, gc, rfl, OK.out, BK.out⟩
end Go.Proofs.Ytgcheplneolonac.Cc7
