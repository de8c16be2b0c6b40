/- RemoveCue of the model. -/
import Derived.Test.YtapijndbchopbaaVd7
import Derived.Test.YtapijndbchopbaaSm7
namespace Go.Proofs.Ytapijndbchopbaa.Vm7
open Go.RowKit Go.ChangeShapes Go.WideShapes Go.WideElems Go.Deep Go.Proofs.Ytapijndbchopbaa.Mem Go.Proofs.Ytapijndbchopbaa.Rw Go.Proofs.Ytapijndbchopbaa.P2 Go.Proofs.Ytapijndbchopbaa.Cd Go.Proofs.Ytapijndbchopbaa.Cv Go.Proofs.Ytapijndbchopbaa.Cl Go.Proofs.Ytapijndbchopbaa.Cs
set_option linter.unusedVariables false
set_option linter.unusedSimpArgs false
open Go.Proofs.Ytapijndbchopbaa.Sd Go.Proofs.Ytapijndbchopbaa.Tn Go.Proofs.Ytapijndbchopbaa.Oc Go.Proofs.Ytapijndbchopbaa.Cr Go.Proofs.Ytapijndbchopbaa.Cq Go.Proofs.Ytapijndbchopbaa.Vd7 Go.Proofs.Ytapijndbchopbaa.Sm7
open Go.Proofs.Ytapijndbchopbaa.Rw (owns_below owns_grown)

set_option maxHeartbeats 4000000 in
set_option maxRecDepth 100000 in
theorem removeS (ad : Addr) (n0 c9 : Nat) (zs : List C) (q : Int) (s : ByteArray) (w : World) (hn : zs.length = n0) (hb : n0 ≤ 1048576) (hsz : ∀ z ∈ zs, z.nm.size ≤ 1048576) (hr : Rd w w.heap.size (some ad) (dls zs)) :
    Calls Try.prog 23 #[.slice (some ad) n0 c9, .int .i64 q, .string s] w (RowB w (rmL zs q s) (rmG zs q s)) := by
  have hu : undef = Value.tuple #[] := rfl
  have HR := Lib.hid hr
  have HN := Lib.hid hn
  have R0 := Lib.hid (World.ownsRow_lit (base := w.heap.size) (e := 26) (size := 4) w #[] 0 (Nat.le_refl _) (Nat.zero_le _) rfl)
  have B0 := Lib.hid (show Below w.heap.size w (w.alloc (.cells #[] 26)) from (Below.refl _ _).alloc (Nat.le_refl _) _)
  have CS := Lib.hid (fun (W : World) (hW : Below w.heap.size w W) => scoreS (some ad) n0 c9 zs W hn hb hsz ((hr.below hW).more hW.size))
  have CC := Lib.hid (fun (W : World) (hW : Below w.heap.size w W) => copiesC ad n0 c9 zs W hn hb ((hr.below hW).more hW.size))
  obtain ⟨i0, hi, hz0, hz1, hz2⟩ := info_of infoD
  clear hr hn hsz
  go_enter Try.func23, Try.ntmps23
  go_wp2_with fail
  go_loopw [8, 14] (fun v i wr => ∃ k : Nat, k ≤ n0 ∧ (rmP (zs.take k) q s).length ≤ k ∧ i = .int .i64 k ∧ (∃ g c, v = .slice (some ⟨g, 0, none⟩) (rmP (zs.take k) q s).length c) ∧ Hid (wr.ownsRow w.heap.size 26 4 v (rmP (zs.take k) q s).length (dls (rmP (zs.take k) q s))) ∧ Hid (Below w.heap.size w wr)) (fun _ i _ => n0 - (intOf i).toNat)
  case atStart => exact ⟨0, Nat.zero_le _, Nat.zero_le _, rfl, ⟨_, _, rfl⟩, R0, B0⟩
  case round =>
    obtain ⟨k, hk, hlk, rfl, ⟨gb, gc, rfl⟩, RK, BK⟩ := hrel
    clear R0 B0
    obtain ⟨L, hL⟩ : ∃ L, rmP (zs.take k) q s = L := ⟨_, rfl⟩
    rw [hL] at RK hlk
    rw [hL]
    have HL := Lib.hid hL
    clear hL
    obtain ⟨m, hm⟩ : ∃ m, L.length = m := ⟨_, rfl⟩
    rw [hm] at RK hlk
    rw [hm]
    have HM := Lib.hid hm
    clear hm
    by_cases hlt : k < n0
    · obtain ⟨z, hz⟩ : ∃ z, zs[k]? = some z := ⟨_, List.getElem?_eq_getElem (by rw [HN.out]; exact hlt)⟩
      have HZ := Lib.hid hz
      have RW := Lib.hid (HR.out.below BK.out)
      obtain ⟨t, n, l, r⟩ := z
      obtain ⟨b, o, eA, hbl, hcell⟩ := RW.out.get (k := k * 4) (by rw [dls_len, HN.out]; omega)
      have zz := dls_get hz
      have c0 := hcell _ _ zz.1
      have c1 := hcell _ _ zz.2.1
      rw [← Nat.add_assoc] at c1
      have c2 := hcell _ _ zz.2.2.1
      rw [← Nat.add_assoc] at c2
      have c3 := hcell _ _ zz.2.2.2
      rw [← Nat.add_assoc] at c3
      clear hcell zz hz hbl
      injection eA with eA
      subst eA
      have B4 := Lib.hid (show Below w.heap.size w (wr.alloc (.cells (ca t n l r) 26)) from BK.out.alloc BK.out.size _)
      have R4 := Lib.hid (show (wr.alloc (.cells (ca t n l r) 26)).ownsRow w.heap.size 26 4 (.slice (some ⟨gb, 0, none⟩) m gc) m (dls L) from RK.out.alloc _)
      cases hT : isT q s ⟨t, n, l, r⟩
      · have HP := Lib.hid (show rmP (zs.take (k + 1)) q s = L ++ [⟨t, n, l, r⟩] by rw [← HL.out]; exact rmP_yes HZ.out hT)
        have HPL := Lib.hid (show (rmP (zs.take (k + 1)) q s).length = m + 1 by rw [HP.out, List.length_append, HM.out]; rfl)
        have key : ((t == q) = false ∧ t ≠ q) ∨ (t = q ∧ (n.toList == s.toList) = false) := by
          unfold isT sb at hT
          simp only [] at hT
          cases h1 : (t == q)
          · exact Or.inl ⟨rfl, by simpa using h1⟩
          · refine Or.inr ⟨by simpa using h1, ?_⟩
            rw [h1, Bool.true_and] at hT
            exact hT
        have k0 : (wr.alloc (.cells (ca t n l r) 26)).cell? ⟨wr.heap.size, 0, none⟩ = some (.int .i64 t) := cell_here rfl
        have k1 : (wr.alloc (.cells (ca t n l r) 26)).cell? ⟨wr.heap.size, 1, none⟩ = some (.string n) := cell_here rfl
        have k2 : (wr.alloc (.cells (ca t n l r) 26)).cell? ⟨wr.heap.size, 2, none⟩ = some (.int .i64 l) := cell_here rfl
        have k3 : (wr.alloc (.cells (ca t n l r) 26)).cell? ⟨wr.heap.size, 3, none⟩ = some (.int .i64 r) := cell_here rfl
        have hown := R4.out.alloc
        clear hT RK BK
        rcases key with ⟨key, key2⟩ | ⟨key2, key⟩
        · have kd : decide (t = q) = false := decide_eq_false key2
          go_upto_region 6 with fail
          have HW := Lib.hid (show wr.heap.size < (wr.alloc (.cells (ca t n l r) 26)).heap.size by simp)
          generalize wr.alloc (.cells (ca t n l r) 26) = w4 at *
          go_wp2_with (at_builtin; refine wpList_append_own _ rfl _ _ 34 rfl w.heap.size 26 i0 (.agg #[.int .i64 0, .string ⟨#[]⟩, .int .i64 0, .int .i64 0]) 4 40 Try.underlying34 hi hz0 hz1 hz2 rfl (by decide) _ _ _ rfl (hown _) ⟨w4.heap.size, 0, none⟩ 1 1 [.int .i64 t, .string n, .int .i64 l, .int .i64 r] rfl rfl (by intro j u hj; match j, hj with | 0, hj => (simp at hj; subst hj; simp [Addr.add]) | 1, hj => (simp at hj; subst hj; simp [Addr.add]) | 2, hj => (simp at hj; subst hj; simp [Addr.add]) | 3, hj => (simp at hj; subst hj; simp [Addr.add])) (by intro u hu9; simp at hu9; rcases hu9 with rfl | rfl | rfl | rfl <;> rfl) (by unfold maxLen; omega) (by omega) (by have := B4.out.size; simp; omega) ?_; intro v' w5 hown' hgrow hnil)
          rw [show dls L ++ [.int .i64 t, .string n, .int .i64 l, .int .i64 r] = dls (rmP (zs.take (k + 1)) q s) by rw [HP.out]; exact dls_snoc _ ⟨t, n, l, r⟩] at hown'
          obtain ⟨g5, c5, rfl⟩ := own_mk hown'
          have R6 := Lib.hid hown'
          have B6 := Lib.hid ((B4.out.alloc B4.out.size _).grown hgrow (by have := B4.out.size; simp; omega) (fun j hj => own_base R4.out j hj))
          clear hown' hgrow hnil hown R4 B4 k0 k1 k2 k3
          go_wp2_with fail
          go_roundw
          case rel => first | exact ⟨k + 1, by omega, by rw [HPL.out]; omega, by go_num, ⟨_, _, by rw [HPL.out]⟩, by rw [HPL.out]; exact R6, B6⟩ | ((repeat apply Exists.intro); exact ⟨⟨k + 1, by omega, by rw [HPL.out]; omega, by go_num, ⟨_, _, by rw [HPL.out]⟩, by rw [HPL.out]; exact R6, B6⟩, rfl⟩)
          case measure => simp [intOf]; omega
        · have k9 := key2.symm
          clear key2
          subst k9
          go_upto_region 6 with fail
          have HW := Lib.hid (show wr.heap.size < (wr.alloc (.cells (ca q n l r) 26)).heap.size by simp)
          generalize wr.alloc (.cells (ca q n l r) 26) = w4 at *
          go_wp2_with (at_builtin; refine wpList_append_own _ rfl _ _ 34 rfl w.heap.size 26 i0 (.agg #[.int .i64 0, .string ⟨#[]⟩, .int .i64 0, .int .i64 0]) 4 40 Try.underlying34 hi hz0 hz1 hz2 rfl (by decide) _ _ _ rfl (hown _) ⟨w4.heap.size, 0, none⟩ 1 1 [.int .i64 q, .string n, .int .i64 l, .int .i64 r] rfl rfl (by intro j u hj; match j, hj with | 0, hj => (simp at hj; subst hj; simp [Addr.add]) | 1, hj => (simp at hj; subst hj; simp [Addr.add]) | 2, hj => (simp at hj; subst hj; simp [Addr.add]) | 3, hj => (simp at hj; subst hj; simp [Addr.add])) (by intro u hu9; simp at hu9; rcases hu9 with rfl | rfl | rfl | rfl <;> rfl) (by unfold maxLen; omega) (by omega) (by have := B4.out.size; simp; omega) ?_; intro v' w5 hown' hgrow hnil)
          rw [show dls L ++ [.int .i64 q, .string n, .int .i64 l, .int .i64 r] = dls (rmP (zs.take (k + 1)) q s) by rw [HP.out]; exact dls_snoc _ ⟨q, n, l, r⟩] at hown'
          obtain ⟨g5, c5, rfl⟩ := own_mk hown'
          have R6 := Lib.hid hown'
          have B6 := Lib.hid ((B4.out.alloc B4.out.size _).grown hgrow (by have := B4.out.size; simp; omega) (fun j hj => own_base R4.out j hj))
          clear hown' hgrow hnil hown R4 B4 k0 k1 k2 k3
          go_wp2_with fail
          go_roundw
          case rel => first | exact ⟨k + 1, by omega, by rw [HPL.out]; omega, by go_num, ⟨_, _, by rw [HPL.out]⟩, by rw [HPL.out]; exact R6, B6⟩ | ((repeat apply Exists.intro); exact ⟨⟨k + 1, by omega, by rw [HPL.out]; omega, by go_num, ⟨_, _, by rw [HPL.out]⟩, by rw [HPL.out]; exact R6, B6⟩, rfl⟩)
          case measure => simp [intOf]; omega
      · have HP := Lib.hid (show rmP (zs.take (k + 1)) q s = L by rw [← HL.out]; exact rmP_no HZ.out hT)
        obtain ⟨e1, e2⟩ := isT_iff.1 hT
        simp only [] at e1 e2
        subst e1 e2
        have n2 : (n.toList == n.toList) = true := by simp
        have R6 := R4
        have B6 := B4
        clear hT RK BK R4 B4
        go_wp2_with fail
        go_roundw
        case rel => first | exact ⟨k + 1, by omega, by rw [HP.out, HM.out]; omega, by go_num, ⟨_, _, by rw [HP.out, HM.out]⟩, by rw [HP.out, HM.out]; exact R6, B6⟩ | ((repeat apply Exists.intro); exact ⟨⟨k + 1, by omega, by rw [HP.out, HM.out]; omega, by go_num, ⟨_, _, by rw [HP.out, HM.out]⟩, by rw [HP.out, HM.out]; exact R6, B6⟩, rfl⟩)
        case measure => simp [intOf]; omega
    · obtain rfl : k = n0 := by omega
      have HF := Lib.hid (show rmP zs q s = L by rw [← HL.out, List.take_of_length_le (by rw [HN.out]; exact Nat.le_refl _)])
      have CS2 := CS.out wr BK.out
      have HE := Lib.hid (show m = k ↔ hasT zs q s = false by rw [← rmP_same, HF.out, HM.out, HN.out])
      obtain ⟨sc, hsc⟩ : ∃ r, score zs = r := ⟨_, rfl⟩
      rw [hsc] at CS2
      have CS2 := Lib.hid CS2
      have HSC := Lib.hid hsc
      clear hsc CS
      by_cases good : sc = true ∧ m ≠ k
      · obtain ⟨rfl, hmk⟩ := good
        have HG := Lib.hid (show rmG zs q s = true by
          unfold rmG; rw [HSC.out, Bool.true_and]
          cases c : hasT zs q s
          · exact absurd (HE.out.2 c) hmk
          · rfl)
        have HRL := Lib.hid (show rmL zs q s = L by rw [rmL_yes HG.out, HF.out])
        have d1 : ((m : Int) == (k : Int)) = false := by simp; omega
        have d2 : decide ((m : Int) = (k : Int)) = false := decide_eq_false (by omega)
        have d3 : ¬ ((m : Int) = (k : Int)) := by omega
        go_wp2_with fail
        refine CS2.out.mono ?_
        rintro e w4 ⟨rfl, hb9⟩
        have R6 := Lib.hid (owns_below RK.out hb9)
        have B6 := Lib.hid (BK.out.trans (hb9.mono BK.out.size))
        clear hb9
        go_wp2_with fail
        go_returns
        rw [HG.out, HRL.out]
        exact ⟨gb, gc, by rw [HM.out]; first | done | rfl, by rw [HM.out]; exact R6.out, B6.out⟩
      · have HG := Lib.hid (show rmG zs q s = false by
          unfold rmG; rw [HSC.out]
          cases sc
          · rfl
          · rw [Bool.true_and]; exact HE.out.1 (by by_cases c : m = k; exact c; exact absurd ⟨rfl, c⟩ good))
        have HRL := Lib.hid (rmL_no HG.out)
        cases sc
        · clear good
          go_wp2_with fail
          refine CS2.out.mono ?_
          rintro e w4 ⟨rfl, hb9⟩
          have B6 := Lib.hid (BK.out.trans (hb9.mono BK.out.size))
          clear hb9
          go_wp2_with fail
          refine (CC.out _ B6.out).mono ?_
          rintro e w9 ⟨g, c, rfl, ho, hb9⟩
          have B9 := Lib.hid (B6.out.trans (hb9.mono B6.out.size))
          have RO := Lib.hid (Rw.owns_base ho (Nat.le_trans B6.out.size (ho.lt g rfl).1))
          clear ho hb9
          go_wp2_with fail
          go_returns
          rw [HRL.out, HG.out]
          exact ⟨g, c, rfl, RO.out, B9.out⟩
        · obtain rfl : m = k := by by_cases c : m = k; exact c; exact absurd ⟨rfl, c⟩ good
          clear good
          go_wp2_with fail
          refine CS2.out.mono ?_
          rintro e w4 ⟨rfl, hb9⟩
          have B6 := Lib.hid (BK.out.trans (hb9.mono BK.out.size))
          clear hb9
          go_wp2_with fail
          refine (CC.out _ B6.out).mono ?_
          rintro e w9 ⟨g, c, rfl, ho, hb9⟩
          have B9 := Lib.hid (B6.out.trans (hb9.mono B6.out.size))
          have RO := Lib.hid (Rw.owns_base ho (Nat.le_trans B6.out.size (ho.lt g rfl).1))
          clear ho hb9
          go_wp2_with fail
          go_returns
          rw [HRL.out, HG.out]
          exact ⟨g, c, rfl, RO.out, B9.out⟩
end Go.Proofs.Ytapijndbchopbaa.Vm7
