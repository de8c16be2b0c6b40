/- OnlyNames of the model. -/
import Derived.Test.YtapijndbchopbaaOc
import Derived.Test.YtapijndbchopbaaSm7
import Derived.Deep.RegionHeld3
namespace Go.Proofs.Ytapijndbchopbaa.Om7
open Go.RowKit Go.ChangeShapes Go.WideShapes Go.WideElems Go.Deep Go.Proofs.Ytapijndbchopbaa.Mem Go.Proofs.Ytapijndbchopbaa.Rw Go.Proofs.Ytapijndbchopbaa.P2 Go.Proofs.Ytapijndbchopbaa.Cd Go.Proofs.Ytapijndbchopbaa.Cv Go.Proofs.Ytapijndbchopbaa.Cl Go.Proofs.Ytapijndbchopbaa.Cs
set_option linter.unusedVariables false
set_option linter.unusedSimpArgs false
open Go.Proofs.Ytapijndbchopbaa.Sd Go.Proofs.Ytapijndbchopbaa.Tn Go.Proofs.Ytapijndbchopbaa.Oc Go.Proofs.Ytapijndbchopbaa.Sm7 Go.Proofs.Ytapijndbchopbaa.Strs
open Go.Proofs.Ytapijndbchopbaa.Rw (owns_below owns_grown)

set_option maxHeartbeats 4000000 in
set_option maxRecDepth 100000 in
theorem onlyS (A : Option Addr) (n0 c9 : Nat) (zs : List C) (B : Option Addr) (m0 c8 : Nat) (ss : List ByteArray) (w : World) (hn : zs.length = n0) (hb : n0 ≤ 1048576) (hm : ss.length = m0) (hb2 : m0 ≤ 1048576) (hsz : ∀ z ∈ zs, z.nm.size ≤ 1048576) (hr : Rd w w.heap.size A (dls zs)) (hs : Rd w w.heap.size B (strs ss)) :
    Calls Try.prog 40 #[.slice A n0 c9, .slice B m0 c8] w (RowC w (only zs ss)) := by
  have hu : undef = Value.tuple #[] := rfl
  have HR := Lib.hid hr
  have HN := Lib.hid hn
  have HM := Lib.hid hm
  have HT := Lib.hid hs
  have CS := Lib.hid (fun (W : World) (hW : Below w.heap.size w W) => scoreS A n0 c9 zs W hn hb hsz ((hr.below hW).more hW.size))
  have R0 := Lib.hid (World.ownsRow_lit (base := w.heap.size) (e := 26) (size := 4) w #[] 0 (Nat.le_refl _) (Nat.zero_le _) rfl)
  have B0 := Lib.hid (show Below w.heap.size w (w.alloc (.cells #[] 26)) from (Below.refl _ _).alloc (Nat.le_refl _) _)
  obtain ⟨i0, hi, hz0, hz1, hz2⟩ := info_of infoD
  obtain ⟨sc, hsc⟩ : ∃ r, score zs = r := ⟨_, rfl⟩
  rw [hsc] at CS
  have HSC := Lib.hid hsc
  clear hr hn hm hs hsc hsz
  go_enter Try.func40, Try.ntmps40
  go_wp2_with fail
  go_loopw [5, 11] (fun v i wr => ∃ k : Nat, k ≤ n0 ∧ ((bon sc (pick (zs.take k) ss))).length ≤ k ∧ i = .int .i64 k ∧ (∃ g c, v = .slice (some ⟨g, 0, none⟩) ((bon sc (pick (zs.take k) ss))).length c) ∧ Hid (wr.ownsRow w.heap.size 26 4 v ((bon sc (pick (zs.take k) ss))).length (dls (bon sc (pick (zs.take k) ss)))) ∧ Hid (Below w.heap.size w wr)) (fun _ i _ => n0 - (intOf i).toNat)
  case atStart => cases sc <;> exact ⟨0, Nat.zero_le _, Nat.zero_le _, rfl, ⟨_, _, rfl⟩, R0, B0⟩
  case round =>
    obtain ⟨k, hk, hlk, rfl, ⟨gb, gc, rfl⟩, RK, BK⟩ := hrel
    clear R0 B0
    have hsw : w.heap.size ≤ wr.heap.size := BK.out.size
    obtain ⟨L, hL⟩ : ∃ L, (bon sc (pick (zs.take k) ss)) = L := ⟨_, rfl⟩
    rw [hL] at RK hlk
    rw [hL]
    have HL := Lib.hid hL
    clear hL
    obtain ⟨q, hq⟩ : ∃ q, L.length = q := ⟨_, rfl⟩
    rw [hq] at RK hlk
    rw [hq]
    have HQ := Lib.hid hq
    clear hq
    by_cases hlt : k < n0
    · obtain ⟨z, hz⟩ : ∃ z, zs[k]? = some z := ⟨_, List.getElem?_eq_getElem (by rw [HN.out]; exact hlt)⟩
      have HZ := Lib.hid hz
      have RW := Lib.hid (HR.out.below BK.out)
      have TW := Lib.hid (HT.out.below BK.out)
      obtain ⟨hq9, hhq⟩ : ∃ r, hasN ss z.nm = r := ⟨_, rfl⟩
      have HHQ := Lib.hid hhq
      obtain ⟨t, n, l, r⟩ := z
      obtain ⟨b, o, eA, hbl, hcell⟩ := RW.out.get (k := k * 4) (by rw [dls_len, HN.out]; omega)
      have zz := dls_get hz
      simp only [] at hhq HHQ
      have c0 := hcell _ _ zz.1
      have c1 := hcell _ _ zz.2.1
      rw [← Nat.add_assoc] at c1
      have c2 := hcell _ _ zz.2.2.1
      rw [← Nat.add_assoc] at c2
      have c3 := hcell _ _ zz.2.2.2
      rw [← Nat.add_assoc] at c3
      clear hcell zz hz hbl
      subst eA
      have CB := Lib.hid (fun (W : World) (hW : Below w.heap.size w W) => l1Text B m0 c8 ss n w.heap.size W HM.out hb2 (HT.out.below hW))
      rw [hhq] at CB
      clear hhq
      have P1 := Lib.hid (show Below w.heap.size w (wr.alloc (.cells (ca t n l r) 26)) from BK.out.alloc BK.out.size _)
      have Q1 := Lib.hid (show (wr.alloc (.cells (ca t n l r) 26)).ownsRow w.heap.size 26 4 (.slice (some ⟨gb, 0, none⟩) q gc) q (dls L) from by repeat (first | with_reducible exact RK.out | refine World.ownsRow.alloc ?_ _ | refine own_drew ?_))
      have key : sc = false ∨ hq9 = false ∨ (sc = true ∧ hq9 = true) := by cases sc <;> cases hq9 <;> simp
      cases sc
      · have HP := Lib.hid (show bon false (pick (zs.take (k + 1)) ss) = L by rw [← HL.out]; rfl)
        go_wp2_with fail
        refine (CS.out _ P1.out).mono ?_
        rintro e w3 ⟨rfl, hb9⟩
        have k0 : w3.cell? ⟨wr.heap.size, 0, none⟩ = some (.int .i64 t) := cell_below hb9 (cell_here rfl)
        have k1 : w3.cell? ⟨wr.heap.size, 1, none⟩ = some (.string n) := cell_below hb9 (cell_here rfl)
        have k2 : w3.cell? ⟨wr.heap.size, 2, none⟩ = some (.int .i64 l) := cell_below hb9 (cell_here rfl)
        have k3 : w3.cell? ⟨wr.heap.size, 3, none⟩ = some (.int .i64 r) := cell_below hb9 (cell_here rfl)
        have R3 := Lib.hid (owns_below Q1.out hb9)
        have B3 := Lib.hid (P1.out.trans (hb9.mono P1.out.size))
        have hlw : wr.heap.size < w3.heap.size := by have := hb9.size; simp at this; omega
        clear hb9 P1 Q1 RK BK c0 c1 c2 c3
        have RZ := R3
        have BZ := B3
        go_wp2_with fail
        go_roundw
        case rel => first | exact ⟨k + 1, by omega, by rw [HP.out, HQ.out]; omega, by go_num, ⟨_, _, by rw [HP.out, HQ.out]⟩, by rw [HP.out, HQ.out]; exact RZ, BZ⟩ | ((repeat apply Exists.intro); exact ⟨⟨k + 1, by omega, by rw [HP.out, HQ.out]; omega, by go_num, ⟨_, _, by rw [HP.out, HQ.out]⟩, by rw [HP.out, HQ.out]; exact RZ, BZ⟩, rfl⟩)
        case measure => simp [intOf]; omega
      cases hq9
      · have HP := Lib.hid (show bon true (pick (zs.take (k + 1)) ss) = L by rw [← HL.out]; exact pick_no HZ.out HHQ.out)
        go_wp2_with fail
        refine (CS.out _ P1.out).mono ?_
        rintro e w3 ⟨rfl, hb9⟩
        have k0 : w3.cell? ⟨wr.heap.size, 0, none⟩ = some (.int .i64 t) := cell_below hb9 (cell_here rfl)
        have k1 : w3.cell? ⟨wr.heap.size, 1, none⟩ = some (.string n) := cell_below hb9 (cell_here rfl)
        have k2 : w3.cell? ⟨wr.heap.size, 2, none⟩ = some (.int .i64 l) := cell_below hb9 (cell_here rfl)
        have k3 : w3.cell? ⟨wr.heap.size, 3, none⟩ = some (.int .i64 r) := cell_below hb9 (cell_here rfl)
        have R3 := Lib.hid (owns_below Q1.out hb9)
        have B3 := Lib.hid (P1.out.trans (hb9.mono P1.out.size))
        have hlw : wr.heap.size < w3.heap.size := by have := hb9.size; simp at this; omega
        clear hb9 P1 Q1 RK BK c0 c1 c2 c3
        go_wp2_with fail
        refine (CB.out _ (by first | exact B3.out | (refine Below.drew ?_; exact B3.out))).mono ?_
        rintro e w4 ⟨rfl, m9, rfl⟩
        have RZ := Lib.hid (own_drewN m9 R3.out)
        have BZ := Lib.hid (below_drewN B3.out m9)
        go_wp2_with fail
        go_roundw
        case rel => first | exact ⟨k + 1, by omega, by rw [HP.out, HQ.out]; omega, by go_num, ⟨_, _, by rw [HP.out, HQ.out]⟩, by rw [HP.out, HQ.out]; exact RZ, BZ⟩ | ((repeat apply Exists.intro); exact ⟨⟨k + 1, by omega, by rw [HP.out, HQ.out]; omega, by go_num, ⟨_, _, by rw [HP.out, HQ.out]⟩, by rw [HP.out, HQ.out]; exact RZ, BZ⟩, rfl⟩)
        case measure => simp [intOf]; omega
      · have HP := Lib.hid (show bon true (pick (zs.take (k + 1)) ss) = L ++ [⟨t, n, l, r⟩] by rw [← HL.out]; exact pick_yes HZ.out HHQ.out)
        have HPL := Lib.hid (show (bon true (pick (zs.take (k + 1)) ss)).length = q + 1 by rw [HP.out, List.length_append, HQ.out]; rfl)
        go_wp2_with fail
        refine (CS.out _ P1.out).mono ?_
        rintro e w3 ⟨rfl, hb9⟩
        have k0 : w3.cell? ⟨wr.heap.size, 0, none⟩ = some (.int .i64 t) := cell_below hb9 (cell_here rfl)
        have k1 : w3.cell? ⟨wr.heap.size, 1, none⟩ = some (.string n) := cell_below hb9 (cell_here rfl)
        have k2 : w3.cell? ⟨wr.heap.size, 2, none⟩ = some (.int .i64 l) := cell_below hb9 (cell_here rfl)
        have k3 : w3.cell? ⟨wr.heap.size, 3, none⟩ = some (.int .i64 r) := cell_below hb9 (cell_here rfl)
        have R3 := Lib.hid (owns_below Q1.out hb9)
        have B3 := Lib.hid (P1.out.trans (hb9.mono P1.out.size))
        have hlw : wr.heap.size < w3.heap.size := by have := hb9.size; simp at this; omega
        clear hb9 P1 Q1 RK BK c0 c1 c2 c3
        go_wp2_with fail
        refine (CB.out _ (by first | exact B3.out | (refine Below.drew ?_; exact B3.out))).mono ?_
        rintro e w4 ⟨rfl, m9, rfl⟩
        have RZ := Lib.hid (own_drewN m9 R3.out)
        have BZ := Lib.hid (below_drewN B3.out m9)
        have k0 : (w3.drewN m9).cell? ⟨wr.heap.size, 0, none⟩ = some (.int .i64 t) := k0
        have k1 : (w3.drewN m9).cell? ⟨wr.heap.size, 1, none⟩ = some (.string n) := k1
        have k2 : (w3.drewN m9).cell? ⟨wr.heap.size, 2, none⟩ = some (.int .i64 l) := k2
        have k3 : (w3.drewN m9).cell? ⟨wr.heap.size, 3, none⟩ = some (.int .i64 r) := k3
        have HW := Lib.hid (show wr.heap.size < (w3.drewN m9).heap.size from hlw)
        generalize w3.drewN m9 = w4 at *
        have hown := RZ.out.alloc
        clear CB CS R3 B3 hlw
        go_wp2_with (at_builtin; refine wpList_append_own _ rfl _ _ 34 rfl w.heap.size 26 i0 (.agg #[.int .i64 0, .string ⟨#[]⟩, .int .i64 0, .int .i64 0]) 4 40 Try.underlying34 hi hz0 hz1 hz2 rfl (by decide) _ _ _ rfl (hown _) ⟨w4.heap.size, 0, none⟩ 1 1 [.int .i64 t, .string n, .int .i64 l, .int .i64 r] rfl rfl (by intro j u hj; match j, hj with | 0, hj => (simp at hj; subst hj; simp [Addr.add]) | 1, hj => (simp at hj; subst hj; simp [Addr.add]) | 2, hj => (simp at hj; subst hj; simp [Addr.add]) | 3, hj => (simp at hj; subst hj; simp [Addr.add])) (by intro u hu9; simp at hu9; rcases hu9 with rfl | rfl | rfl | rfl <;> rfl) (by unfold maxLen; omega) (by omega) (by have := BZ.out.size; simp; omega) ?_; intro v' w5 hown' hgrow hnil)
        rw [show dls L ++ [.int .i64 t, .string n, .int .i64 l, .int .i64 r] = dls (bon true (pick (zs.take (k + 1)) ss)) by rw [HP.out]; exact dls_snoc _ ⟨t, n, l, r⟩] at hown'
        obtain ⟨g5, c5, rfl⟩ := own_mk hown'
        have R6 := Lib.hid hown'
        have B6 := Lib.hid ((BZ.out.alloc BZ.out.size _).grown hgrow (by have := BZ.out.size; simp; omega) (fun j hj => own_base RZ.out j hj))
        clear hown' hgrow hnil hown RZ BZ HW k0 k1 k2 k3
        go_wp2_with fail
        go_roundw
        case rel => first | exact ⟨k + 1, by omega, by rw [HPL.out]; omega, by go_num, ⟨_, _, by rw [HPL.out]⟩, by rw [HPL.out]; exact R6, B6⟩ | ((repeat apply Exists.intro); exact ⟨⟨k + 1, by omega, by rw [HPL.out]; omega, by go_num, ⟨_, _, by rw [HPL.out]⟩, by rw [HPL.out]; exact R6, B6⟩, rfl⟩)
        case measure => simp [intOf]; omega
    · obtain rfl : k = n0 := by omega
      have HF := Lib.hid (show only zs ss = L by rw [← HL.out, List.take_of_length_le (by rw [HN.out]; exact Nat.le_refl _)]; unfold only; rw [HSC.out]; cases sc <;> rfl)
      go_wp2_with fail
      go_returns
      rw [HF.out]
      exact ⟨gb, gc, by rw [HQ.out]; first | done | rfl, by rw [HQ.out]; exact RK.out, BK.out⟩
end Go.Proofs.Ytapijndbchopbaa.Om7
