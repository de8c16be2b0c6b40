/- slices.Grow of nothing, and slices.Concat of two, at floats. -/
import Derived.Test.YtmbiomekbinplaaFx8
import Derived.Lib.AppendZeros
import Derived.Laws.OwnMore
import Derived.OwnWalk
namespace Go.Proofs.Ytmbiomekbinplaa.Cc8
open Go.RowKit Go.ChangeShapes Go.WideShapes Go.WideElems Go.Deep Go.Proofs.Ytmbiomekbinplaa.Mem Go.Proofs.Ytmbiomekbinplaa.Tk Go.Proofs.Ytmbiomekbinplaa.Ti8 Go.Proofs.Ytmbiomekbinplaa.Rw Go.Proofs.Ytmbiomekbinplaa.Meas Go.Proofs.Ytmbiomekbinplaa.Fw8
set_option linter.unusedVariables false
set_option linter.unusedSimpArgs false

theorem fls_cell {zs : List Int} {u : Value} (h : u ∈ fls zs) : u.oneCell' = true := by obtain ⟨z, _, rfl⟩ := List.mem_map.1 h; rfl
theorem cell_below {w w' : World} {b o : Nat} {v : Value} (h : Below w.heap.size w w') (hc : w.cell? ⟨b, o, none⟩ = some v) : w'.cell? ⟨b, o, none⟩ = some v := (h.cell (p := ⟨b, o, none⟩) (World.block_lt_of_cell? w _ hc)).trans hc
theorem szz {z : Array Value} {n C : Nat} (hz : z.size = 1) (h : n ≤ C) : (Builtin.zeroCells z n ++ Builtin.zeroCells z (C - n)).size = C * 1 := by
  rw [Array.size_append, size_zeroCells, size_zeroCells, hz]; omega

set_option maxHeartbeats 1000000 in
set_option maxRecDepth 100000 in
theorem growC (n0 : Nat) (h0 : 0 < n0) (hb : n0 ≤ 2097152) (w : World) :
    Calls Try.prog 53 #[.slice none 0 0, .int .i64 n0] w fun e w' => ∃ g c, e = .returned (.slice (some ⟨g, 0, none⟩) 0 c) ∧ w'.ownsRow w.heap.size 58 1 (.slice (some ⟨g, 0, none⟩) 0 c) 0 [] ∧ Below w.heap.size w w' := by
  obtain ⟨i0, hi, hz0, hz1, hz2⟩ := info_of infoF
  have run := Lib.run_append_nil_zeros w 51 3 51 58 i0 (.float .f32 0) .i64 .i64 Try.underlying51 Try.underlying3 hi hz0 n0 h0 (by rw [hz1]; decide) (by omega) (by rw [hz2]; omega)
  have g1 := grownCap_ge w n0 0 58
  have g2 := grownCap_le_maxLen w n0 0 58 (by unfold maxLen; omega)
  generalize grownCap w n0 0 58 = C at *
  have hs := szz (z := (Value.float .f32 0).cells) (n := n0) (C := C) rfl g1
  generalize (Builtin.zeroCells (Value.float .f32 0).cells n0 ++ Builtin.zeroCells (Value.float .f32 0).cells (C - n0)) = Z at *
  have RO := Lib.hid (show (w.drew.alloc (.cells Z 58)).ownsRow w.heap.size 58 1 (.slice (some ⟨w.heap.size, 0, none⟩) 0 C) 0 [] from ⟨rfl, Or.inr ⟨w.heap.size, C, Z, rfl, Nat.le_refl _, heap_alloc_new w.drew _, Nat.zero_le _, g2, hs, by simp⟩⟩)
  have BO := Lib.hid (show Below w.heap.size w (w.drew.alloc (.cells Z 58)) by go_grown)
  have hp : (0 : Int) < (n0 : Int) := by omega
  unfold maxLen at g2
  clear hs
  go_enter Try.func53, Try.ntmps53
  go_wp2_with (at_builtin; refine Lib.wpList_append_run _ rfl _ _ _ _ rfl _ _ rfl rfl _ _ run ?_)
  go_ret
  exact ⟨_, _, rfl, RO.out, BO.out⟩

set_option maxHeartbeats 1000000 in
theorem growN (w : World) : Calls Try.prog 53 #[.slice none 0 0, .int .i64 0] w fun e w' => e = .returned (.slice none 0 0) ∧ w' = w := by
  go_enter Try.func53, Try.ntmps53
  go_wp2_with fail
  go_ret
  exact ⟨rfl, rfl⟩

theorem cells_of {w w1 : World} {a : Addr} {zs : List Int} (hr : Rd w w.heap.size (some a) (fls zs)) (hb : Below w.heap.size w w1) : ∀ j u, (fls zs)[j]? = some u → w1.cell? (a.add j) = some u := by
  intro j u hj
  have hl := (List.getElem?_eq_some_iff.1 hj).1
  obtain ⟨b, o, e, hbl, hc⟩ := (hr.below hb).get hl
  injection e with e
  subst e
  have := hc j u hj
  rw [show (⟨b, o, none⟩ : Addr).add j = ⟨b, o + j, none⟩ by simp [Addr.add]]
  exact this
theorem fls_app2 (zs xs : List Int) : fls zs ++ fls xs = fls (zs ++ xs) := by unfold fls; rw [List.map_append]

set_option maxHeartbeats 4000000 in
set_option maxRecDepth 100000 in
theorem concatC (bs os : Nat) (a b : Addr) (n0 c9 m0 c8 : Nat) (zs xs : List Int) (w : World) (h0 : w.cell? ⟨bs, os, none⟩ = some (.slice (some a) n0 c9)) (h1 : w.cell? ⟨bs, os + 1, none⟩ = some (.slice (some b) m0 c8)) (hn : zs.length = n0) (hm : xs.length = m0) (hb : n0 ≤ 1048576) (hb2 : m0 ≤ 1048576) (hp : 0 < n0 + m0) (hr : Rd w w.heap.size (some a) (fls zs)) (hx : Rd w w.heap.size (some b) (fls xs)) :
    Calls Try.prog 45 #[.slice (some ⟨bs, os, none⟩) 2 2] w fun e w' => ∃ g c, e = .returned (.slice (some ⟨g, 0, none⟩) (n0 + m0) c) ∧ w'.ownsRow w.heap.size 58 1 (.slice (some ⟨g, 0, none⟩) (n0 + m0) c) (n0 + m0) (fls (zs ++ xs)) ∧ Below w.heap.size w w' := by
  obtain ⟨i0, hi, hz0, hz1, hz2⟩ := info_of infoF
  have GC := Lib.hid (growC (n0 + m0) hp (by omega))
  have HC := Lib.hid (fun (W : World) (hW : Below w.heap.size w W) => cells_of hr hW)
  have HD := Lib.hid (fun (W : World) (hW : Below w.heap.size w W) => cells_of hx hW)
  have H0 := Lib.hid h0
  have H1 := Lib.hid h1
  have HN := Lib.hid hn
  have HM := Lib.hid hm
  have ec : ((n0 + m0 : Nat) : Int) = (n0 : Int) + (m0 : Int) := by omega
  have EC := Lib.hid ec
  clear hr hx hn hm ec
  go_enter Try.func45, Try.ntmps45
  go_wp2_with fail
  go_loop [3, 11] (fun s i => (i = .int .i64 0 ∧ s = .int .i64 0) ∨ (i = .int .i64 1 ∧ s = .int .i64 n0) ∨ (i = .int .i64 2 ∧ s = .int .i64 ((n0 : Int) + m0))) (fun _ i => 2 - (intOf i).toNat)
  case atStart => exact Or.inl ⟨rfl, rfl⟩
  case round =>
    rcases hrel with ⟨rfl, rfl⟩ | ⟨rfl, rfl⟩ | ⟨rfl, rfl⟩
    · go_wp2_with fail
      go_round
      case rel => exact Or.inr (Or.inl ⟨by first | rfl | simp, by first | rfl | simp⟩)
      case measure => simp [intOf]
    · go_wp2_with fail
      go_round
      case rel => exact Or.inr (Or.inr ⟨by first | rfl | simp, by first | rfl | simp⟩)
      case measure => simp [intOf]
    · rw [← EC.out]
      go_wp2_with fail
      refine (GC.out w).mono ?_
      rintro e w1 ⟨g, c, rfl, ho, hb1⟩
      have O1 := Lib.hid ho
      have B1 := Lib.hid hb1
      clear ho hb1 h0 h1
      go_wp2_with fail
      go_loopw [6, 27] (fun v i wr => Hid (Below w.heap.size w wr) ∧ ((i = .int .i64 0 ∧ (∃ g c, v = .slice (some ⟨g, 0, none⟩) 0 c) ∧ Hid (wr.ownsRow w.heap.size 58 1 v 0 [])) ∨ (i = .int .i64 1 ∧ (∃ g c, v = .slice (some ⟨g, 0, none⟩) n0 c) ∧ Hid (wr.ownsRow w.heap.size 58 1 v n0 (fls zs))) ∨ (i = .int .i64 2 ∧ (∃ g c, v = .slice (some ⟨g, 0, none⟩) (n0 + m0) c) ∧ Hid (wr.ownsRow w.heap.size 58 1 v (n0 + m0) (fls (zs ++ xs)))))) (fun _ i _ => 2 - (intOf i).toNat)
      case atStart => exact ⟨B1, Or.inl ⟨rfl, ⟨_, _, rfl⟩, O1⟩⟩
      case round =>
        clear O1 B1
        obtain ⟨BK, hrel⟩ := hrel
        have hsw : w.heap.size ≤ wr.heap.size := BK.out.size
        have k0 := cell_below BK.out H0.out
        have k1 := cell_below BK.out H1.out
        rcases hrel with ⟨rfl, ⟨gb, gc, rfl⟩, OK⟩ | ⟨rfl, ⟨gb, gc, rfl⟩, OK⟩ | ⟨rfl, ⟨gb, gc, rfl⟩, OK⟩
        · have HCW := Lib.hid (HC.out wr BK.out)
          go_wp2_with (at_builtin; refine wpList_append_own _ rfl _ _ 51 rfl w.heap.size 58 i0 (.float .f32 0) 1 4 Try.underlying51 hi hz0 hz1 hz2 rfl (by decide) _ _ _ rfl OK.out a n0 _ (fls zs) rfl (by rw [fls_len, HN.out, Nat.mul_one]) HCW.out (fun u hu => fls_cell hu) (by unfold maxLen; omega) (by omega) hsw ?_; intro v' w5 hown' hgrow hnil)
          have hg : ∃ g c, v' = .slice (some ⟨g, 0, none⟩) n0 c := by
            rcases hown'.2 with ⟨e1, _⟩ | ⟨g, cap, cur, e1, _⟩
            · exact absurd (hnil.1 e1).1 (by intro h; cases h)
            · exact ⟨g, cap, by rw [e1, Nat.zero_add]⟩
          obtain ⟨g5, c5, rfl⟩ := hg
          have R5 := Lib.hid (show w5.ownsRow w.heap.size 58 1 (.slice (some ⟨g5, 0, none⟩) n0 c5) n0 (fls zs) by
            have := hown'; rw [Nat.zero_add] at this; exact this)
          have B5 := Lib.hid (BK.out.grown hgrow hsw (fun j hj => own_base OK.out j hj))
          clear hown' hgrow hnil OK BK HCW k0 k1
          go_wp2_with fail
          go_roundw
          case rel => exact ⟨B5, Or.inr (Or.inl ⟨by first | rfl | simp, ⟨_, _, rfl⟩, R5⟩)⟩
          case measure => simp [intOf]
        · have HDW := Lib.hid (HD.out wr BK.out)
          go_wp2_with (at_builtin; refine wpList_append_own _ rfl _ _ 51 rfl w.heap.size 58 i0 (.float .f32 0) 1 4 Try.underlying51 hi hz0 hz1 hz2 rfl (by decide) _ _ _ rfl OK.out b m0 _ (fls xs) rfl (by rw [fls_len, HM.out, Nat.mul_one]) HDW.out (fun u hu => fls_cell hu) (by unfold maxLen; omega) (by omega) hsw ?_; intro v' w5 hown' hgrow hnil)
          have hg : ∃ g c, v' = .slice (some ⟨g, 0, none⟩) (n0 + m0) c := by
            rcases hown'.2 with ⟨e1, _⟩ | ⟨g, cap, cur, e1, _⟩
            · exact absurd (hnil.1 e1).1 (by intro h; cases h)
            · exact ⟨g, cap, e1⟩
          obtain ⟨g5, c5, rfl⟩ := hg
          have R5 := Lib.hid (show w5.ownsRow w.heap.size 58 1 (.slice (some ⟨g5, 0, none⟩) (n0 + m0) c5) (n0 + m0) (fls (zs ++ xs)) by
            rw [← fls_app2]; exact hown')
          have B5 := Lib.hid (BK.out.grown hgrow hsw (fun j hj => own_base OK.out j hj))
          clear hown' hgrow hnil OK BK HDW k0 k1
          go_wp2_with fail
          go_roundw
          case rel => exact ⟨B5, Or.inr (Or.inr ⟨by first | rfl | simp, ⟨_, _, rfl⟩, R5⟩)⟩
          case measure => simp [intOf]
        · go_wp2_with fail
          go_ret
          exact ⟨gb, gc, rfl, OK.out, BK.out⟩
set_option maxHeartbeats 2000000 in
set_option maxRecDepth 100000 in
theorem concatN (bs os : Nat) (a b : Addr) (c9 c8 : Nat) (w : World) (h0 : w.cell? ⟨bs, os, none⟩ = some (.slice (some a) 0 c9)) (h1 : w.cell? ⟨bs, os + 1, none⟩ = some (.slice (some b) 0 c8)) :
    Calls Try.prog 45 #[.slice (some ⟨bs, os, none⟩) 2 2] w fun e w' => e = .returned (.slice none 0 0) ∧ Below w.heap.size w w' := by
  have GC := Lib.hid (growN w)
  obtain ⟨i0, hi, hz0, hz1, hz2⟩ := info_of infoF
  have R0 := Lib.hid (show w.ownsRow w.heap.size 58 1 (.slice none 0 0) 0 [] from ⟨rfl, Or.inl ⟨rfl, rfl⟩⟩)
  go_enter Try.func45, Try.ntmps45
  go_wp2_with fail
  go_loop [3, 11] (fun s i => s = .int .i64 0 ∧ (i = .int .i64 0 ∨ i = .int .i64 1 ∨ i = .int .i64 2)) (fun _ i => 2 - (intOf i).toNat)
  case atStart => exact ⟨rfl, Or.inl rfl⟩
  case round =>
    obtain ⟨rfl, hrel⟩ := hrel
    rcases hrel with rfl | rfl | rfl
    · go_wp2_with fail
      go_round
      case rel => exact ⟨by first | rfl | simp, Or.inr (Or.inl (by first | rfl | simp))⟩
      case measure => simp [intOf]
    · go_wp2_with fail
      go_round
      case rel => exact ⟨by first | rfl | simp, Or.inr (Or.inr (by first | rfl | simp))⟩
      case measure => simp [intOf]
    · go_wp2_with fail
      refine GC.out.mono ?_
      rintro e w1 ⟨rfl, rfl⟩
      go_wp2_with fail
      go_loopw [6, 27] (fun v i wr => v = .slice none 0 0 ∧ Hid (Below w1.heap.size w1 wr) ∧ (i = .int .i64 0 ∨ i = .int .i64 1 ∨ i = .int .i64 2)) (fun _ i _ => 2 - (intOf i).toNat)
      case atStart => exact ⟨rfl, Lib.hid (Below.refl _ _), Or.inl rfl⟩
      case round =>
        obtain ⟨rfl, BK, hrel⟩ := hrel
        have k0 := cell_below BK.out h0
        have k1 := cell_below BK.out h1
        rcases hrel with rfl | rfl | rfl
        · go_wp2_with fail
          go_roundw
          case rel => exact ⟨rfl, BK, Or.inr (Or.inl (by first | rfl | simp))⟩
          case measure => simp [intOf]
        · go_wp2_with fail
          go_roundw
          case rel => exact ⟨rfl, BK, Or.inr (Or.inr (by first | rfl | simp))⟩
          case measure => simp [intOf]
        · go_wp2_with fail
          go_ret
          exact ⟨rfl, BK.out⟩
end Go.Proofs.Ytmbiomekbinplaa.Cc8
