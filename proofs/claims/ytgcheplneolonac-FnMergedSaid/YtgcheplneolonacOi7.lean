/- OnlyNames of the program. -/
import Derived.Test.YtgcheplneolonacOc
import Derived.Test.YtgcheplneolonacSi7
import Derived.Deep.RegionHeld3
namespace Go.Proofs.Ytgcheplneolonac.Oi7
open Go.RowKit Go.ChangeShapes Go.WideShapes Go.WideElems Go.Deep Go.Proofs.Ytgcheplneolonac.Mem Go.Proofs.Ytgcheplneolonac.Rw Go.Proofs.Ytgcheplneolonac.P2 Go.Proofs.Ytgcheplneolonac.Cd Go.Proofs.Ytgcheplneolonac.Cv Go.Proofs.Ytgcheplneolonac.Cl Go.Proofs.Ytgcheplneolonac.Cs
set_option linter.unusedVariables false
set_option linter.unusedSimpArgs false
open Go.Proofs.Ytgcheplneolonac.Sd Go.Proofs.Ytgcheplneolonac.Tn Go.Proofs.Ytgcheplneolonac.Oc Go.Proofs.Ytgcheplneolonac.Si7 Go.Proofs.Ytgcheplneolonac.Strs
open Go.Proofs.Ytgcheplneolonac.Rw (owns_below owns_grown)

set_option maxHeartbeats 4000000 in
set_option maxRecDepth 100000 in
theorem onlyI (A : Option Addr) (n0 c9 : Nat) (zs : List C) (B : Option Addr) (m0 c8 : Nat) (ss : List ByteArray) (w : World) (hn : zs.length = n0) (hb : n0 ≤ 1048576) (hm : ss.length = m0) (hb2 : m0 ≤ 1048576) (hr : Rd w w.heap.size A (dls zs)) (hs : Rd w w.heap.size B (strs ss)) :
    Calls Try.prog 12 #[.slice A n0 c9, .slice B m0 c8] w (RowC w (only zs ss)) := by
  have hu : undef = Value.tuple #[] := rfl
  have HR := Lib.hid hr
  have HN := Lib.hid hn
  have HM := Lib.hid hm
  have HT := Lib.hid hs
  have CS := Lib.hid (fun (W : World) (hW : Below w.heap.size w W) => scoreI A n0 c9 zs W hn hb ((hr.below hW).more hW.size))
  have R0 := Lib.hid (World.ownsRow_lit (base := w.heap.size) (e := 26) (size := 4) w #[] 0 (Nat.le_refl _) (Nat.zero_le _) rfl)
  have B0 := Lib.hid (show Below w.heap.size w (w.alloc (.cells #[] 26)) from (Below.refl _ _).alloc (Nat.le_refl _) _)
  obtain ⟨i0, hi, hz0, hz1, hz2⟩ := info_of infoD
  obtain ⟨sc, hsc⟩ : ∃ r, score zs = r := ⟨_, rfl⟩
  rw [hsc] at CS
  have HSC := Lib.hid hsc
  clear hr hn hm hs hsc
  cases sc
  · go_enter Try.func12, Try.ntmps12
    go_wp2_with fail
    refine (CS.out _ B0.out).mono ?_
    rintro e w2 ⟨rfl, hb9⟩
    have B2 := Lib.hid (B0.out.trans (hb9.mono B0.out.size))
    have R2 := Lib.hid (owns_below R0.out hb9)
    clear hb9
    go_wp2_with fail
    go_returns
    rw [only_no HSC.out]
    exact ⟨_, _, rfl, R2.out, B2.out⟩
  have HONLY := Lib.hid (only_yes HSC.out ss)
  go_enter Try.func12, Try.ntmps12
  go_wp2_with fail
  refine (CS.out _ B0.out).mono ?_
  rintro e w2 ⟨rfl, hb9⟩
  have B2 := Lib.hid (B0.out.trans (hb9.mono B0.out.size))
  have R2 := Lib.hid (owns_below R0.out hb9)
  clear hb9 B0 R0 CS
  go_wp2_with fail
  go_loopw [5, 15] (fun v i wr => ∃ k : Nat, k ≤ n0 ∧ ((pick (zs.take k) ss)).length ≤ k ∧ i = .int .i64 k ∧ (∃ g c, v = .slice (some ⟨g, 0, none⟩) ((pick (zs.take k) ss)).length c) ∧ Hid (wr.ownsRow w.heap.size 26 4 v ((pick (zs.take k) ss)).length (dls (pick (zs.take k) ss))) ∧ Hid (Below w.heap.size w wr)) (fun _ i _ => n0 - (intOf i).toNat)
  case atStart => exact ⟨0, Nat.zero_le _, Nat.zero_le _, rfl, ⟨_, _, rfl⟩, R2, B2⟩
  case round =>
    obtain ⟨k, hk, hlk, rfl, ⟨gb, gc, rfl⟩, RK, BK⟩ := hrel
    clear R2 B2
    have hsw : w.heap.size ≤ wr.heap.size := BK.out.size
    obtain ⟨L, hL⟩ : ∃ L, (pick (zs.take k) ss) = L := ⟨_, rfl⟩
    rw [hL] at RK hlk
    rw [hL]
    have HL := Lib.hid hL
    clear hL
    obtain ⟨q, hq⟩ : ∃ q, L.length = q := ⟨_, rfl⟩
    rw [hq] at RK hlk
    rw [hq]
    have HQ := Lib.hid hq
    clear hq
    by_cases hlt : k < n0
    · obtain ⟨z, hz⟩ : ∃ z, zs[k]? = some z := ⟨_, List.getElem?_eq_getElem (by rw [HN.out]; exact hlt)⟩
      have HZ := Lib.hid hz
      have RW := Lib.hid (HR.out.below BK.out)
      have TW := Lib.hid (HT.out.below BK.out)
      obtain ⟨hq9, hhq⟩ : ∃ r, hasN ss z.nm = r := ⟨_, rfl⟩
      have HHQ := Lib.hid hhq
      obtain ⟨t, n, l, r⟩ := z
      obtain ⟨b, o, eA, hbl, hcell⟩ := RW.out.get (k := k * 4) (by rw [dls_len, HN.out]; omega)
      have zz := dls_get hz
      simp only [] at hhq HHQ
      have c0 := hcell _ _ zz.1
      have c1 := hcell _ _ zz.2.1
      rw [← Nat.add_assoc] at c1
      have c2 := hcell _ _ zz.2.2.1
      rw [← Nat.add_assoc] at c2
      have c3 := hcell _ _ zz.2.2.2
      rw [← Nat.add_assoc] at c3
      clear hcell zz hz hbl
      subst eA
      have CT := Lib.hid (fun (W : World) (hW : Below wr.heap.size wr W) => contains B m0 c8 ss n wr.heap.size W HM.out hb2 ((TW.out.more BK.out.size).below hW))
      rw [hhq] at CT
      clear hhq
      cases hq9
      · have HP := Lib.hid (show pick (zs.take (k + 1)) ss = L by rw [← HL.out]; exact pick_no HZ.out HHQ.out)
        go_wp2_with fail
        refine (CT.out _ (by go_grown)).mono ?_
        rintro e w3 ⟨rfl, m9, rfl⟩
        have R3 := Lib.hid (own_drewN m9 (show (wr.alloc (.cells (ca t n l r) 26)).ownsRow w.heap.size 26 4 (.slice (some ⟨gb, 0, none⟩) q gc) q (dls L) from by repeat (first | with_reducible exact RK.out | refine World.ownsRow.alloc ?_ _ | refine own_drew ?_)))
        have B3 := Lib.hid (below_drewN (BK.out.alloc BK.out.size (.cells (ca t n l r) 26)) m9)
        go_wp2_with fail
        go_roundw
        case rel => first | exact ⟨k + 1, by omega, by rw [HP.out, HQ.out]; omega, by go_num, ⟨_, _, by rw [HP.out, HQ.out]⟩, by rw [HP.out, HQ.out]; exact R3, B3⟩ | ((repeat apply Exists.intro); exact ⟨⟨k + 1, by omega, by rw [HP.out, HQ.out]; omega, by go_num, ⟨_, _, by rw [HP.out, HQ.out]⟩, by rw [HP.out, HQ.out]; exact R3, B3⟩, rfl⟩)
        case measure => simp [intOf]; omega
      · have HP := Lib.hid (show pick (zs.take (k + 1)) ss = L ++ [⟨t, n, l, r⟩] by rw [← HL.out]; exact pick_yes HZ.out HHQ.out)
        have HPL := Lib.hid (show (pick (zs.take (k + 1)) ss).length = q + 1 by rw [HP.out, List.length_append, HQ.out]; rfl)
        go_wp2_with fail
        refine (CT.out _ (by go_grown)).mono ?_
        rintro e w3 ⟨rfl, m9, rfl⟩
        have R3 := Lib.hid (own_drewN m9 (show (wr.alloc (.cells (ca t n l r) 26)).ownsRow w.heap.size 26 4 (.slice (some ⟨gb, 0, none⟩) q gc) q (dls L) from by repeat (first | with_reducible exact RK.out | refine World.ownsRow.alloc ?_ _ | refine own_drew ?_)))
        have B3 := Lib.hid (below_drewN (BK.out.alloc BK.out.size (.cells (ca t n l r) 26)) m9)
        have k0 : ((wr.alloc (.cells (ca t n l r) 26)).drewN m9).cell? ⟨wr.heap.size, 0, none⟩ = some (.int .i64 t) := cell_here (W := wr) rfl
        have k1 : ((wr.alloc (.cells (ca t n l r) 26)).drewN m9).cell? ⟨wr.heap.size, 1, none⟩ = some (.string n) := cell_here (W := wr) rfl
        have k2 : ((wr.alloc (.cells (ca t n l r) 26)).drewN m9).cell? ⟨wr.heap.size, 2, none⟩ = some (.int .i64 l) := cell_here (W := wr) rfl
        have k3 : ((wr.alloc (.cells (ca t n l r) 26)).drewN m9).cell? ⟨wr.heap.size, 3, none⟩ = some (.int .i64 r) := cell_here (W := wr) rfl
        have HW := Lib.hid (show wr.heap.size + 1 = ((wr.alloc (.cells (ca t n l r) 26)).drewN m9).heap.size by simp)
        generalize ((wr.alloc (.cells (ca t n l r) 26)).drewN m9) = w4 at *
        have hown := R3.out.alloc
        clear CT RK BK
        go_wp2_with (at_builtin; refine wpList_append_own _ rfl _ _ 24 rfl w.heap.size 26 i0 (.agg #[.int .i64 0, .string ⟨#[]⟩, .int .i64 0, .int .i64 0]) 4 40 Try.underlying24 hi hz0 hz1 hz2 rfl (by decide) _ _ _ rfl (hown _) ⟨w4.heap.size, 0, none⟩ 1 1 [.int .i64 t, .string n, .int .i64 l, .int .i64 r] rfl rfl (by intro j u hj; match j, hj with | 0, hj => (simp at hj; subst hj; simp [Addr.add]) | 1, hj => (simp at hj; subst hj; simp [Addr.add]) | 2, hj => (simp at hj; subst hj; simp [Addr.add]) | 3, hj => (simp at hj; subst hj; simp [Addr.add])) (by intro u hu9; simp at hu9; rcases hu9 with rfl | rfl | rfl | rfl <;> rfl) (by unfold maxLen; omega) (by omega) (by have := B3.out.size; simp; omega) ?_; intro v' w5 hown' hgrow hnil)
        rw [show dls L ++ [.int .i64 t, .string n, .int .i64 l, .int .i64 r] = dls (pick (zs.take (k + 1)) ss) by rw [HP.out]; exact dls_snoc _ ⟨t, n, l, r⟩] at hown'
        obtain ⟨g5, c5, rfl⟩ := own_mk hown'
        have R6 := Lib.hid hown'
        have B6 := Lib.hid ((B3.out.alloc B3.out.size _).grown hgrow (by have := B3.out.size; simp; omega) (fun j hj => own_base R3.out j hj))
        clear hown' hgrow hnil hown R3 B3 HW k0 k1 k2 k3
        go_wp2_with fail
        go_roundw
        case rel => first | exact ⟨k + 1, by omega, by rw [HPL.out]; omega, by go_num, ⟨_, _, by rw [HPL.out]⟩, by rw [HPL.out]; exact R6, B6⟩ | ((repeat apply Exists.intro); exact ⟨⟨k + 1, by omega, by rw [HPL.out]; omega, by go_num, ⟨_, _, by rw [HPL.out]⟩, by rw [HPL.out]; exact R6, B6⟩, rfl⟩)
        case measure => simp [intOf]; omega
    · obtain rfl : k = n0 := by omega
      have HF := Lib.hid (show only zs ss = L by rw [HONLY.out, ← HL.out, List.take_of_length_le (by rw [HN.out]; exact Nat.le_refl _)])
      go_wp2_with fail
      go_returns
      rw [HF.out]
      exact ⟨gb, gc, by rw [HQ.out]; first | done | rfl, by rw [HQ.out]; exact RK.out, BK.out⟩
end Go.Proofs.Ytgcheplneolonac.Oi7
