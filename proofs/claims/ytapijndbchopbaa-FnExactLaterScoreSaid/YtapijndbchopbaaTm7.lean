/- LaterScore of the model. -/
import Derived.Test.YtapijndbchopbaaTd7
import Derived.Test.YtapijndbchopbaaSm7
namespace Go.Proofs.Ytapijndbchopbaa.Tm7
open Go.RowKit Go.ChangeShapes Go.WideShapes Go.WideElems Go.Deep Go.Proofs.Ytapijndbchopbaa.Mem Go.Proofs.Ytapijndbchopbaa.Rw Go.Proofs.Ytapijndbchopbaa.P2 Go.Proofs.Ytapijndbchopbaa.Cd Go.Proofs.Ytapijndbchopbaa.Cv Go.Proofs.Ytapijndbchopbaa.Cl Go.Proofs.Ytapijndbchopbaa.Cs
set_option linter.unusedVariables false
set_option linter.unusedSimpArgs false
open Go.Proofs.Ytapijndbchopbaa.Sd Go.Proofs.Ytapijndbchopbaa.Oc Go.Proofs.Ytapijndbchopbaa.Ld Go.Proofs.Ytapijndbchopbaa.Td7 Go.Proofs.Ytapijndbchopbaa.Sm7 Go.Proofs.Ytapijndbchopbaa.Jt
open Go.Proofs.Ytapijndbchopbaa.Rw (owns_below owns_grown)

set_option maxHeartbeats 4000000 in
set_option maxRecDepth 100000 in
theorem laterS (A : Option Addr) (n0 c9 : Nat) (zs : List C) (q : Int) (w : World) (hn : zs.length = n0) (hb : n0 ≤ 1048576) (wq : (Lit.int .i64 q).wf = true) (hsz : ∀ z ∈ zs, z.nm.size ≤ 1048576) (hr : Rd w w.heap.size A (dls zs)) :
    Calls Try.prog 38 #[.slice A n0 c9, .int .i64 q] w (RowB w (ltL zs q) (ltG zs q)) := by
  have hu : undef = Value.tuple #[] := rfl
  have HR := Lib.hid hr
  have HN := Lib.hid hn
  have HS := Lib.hid hsz
  have R0 := Lib.hid (World.ownsRow_lit (base := w.heap.size) (e := 26) (size := 4) w #[] 0 (Nat.le_refl _) (Nat.zero_le _) rfl)
  have B0 := Lib.hid (show Below w.heap.size w (w.alloc (.cells #[] 26)) from (Below.refl _ _).alloc (Nat.le_refl _) _)
  have CS := Lib.hid (fun (W : World) (hW : Below w.heap.size w W) => scoreS A n0 c9 zs W hn hb hsz ((hr.below hW).more hW.size))
  obtain ⟨i0, hi, hz0, hz1, hz2⟩ := info_of infoD
  obtain ⟨sc, hsc⟩ : ∃ r, score zs = r := ⟨_, rfl⟩
  rw [hsc] at CS
  have HSC := Lib.hid hsc
  clear hr hn hsz hsc
  by_cases bad : sc = false ∨ q < 0 ∨ 64 < q
  · have HG := Lib.hid (show ltG zs q = false by
      unfold ltG; rw [HSC.out]
      rcases bad with h | h
      · rw [h]; rfl
      · rw [iw_no h]; cases sc <;> rfl)
    have HL := Lib.hid (ltL_no HG.out)
    cases sc
    · clear bad
      go_enter Try.func38, Try.ntmps38
      go_wp2_with fail
      refine (CS.out _ B0.out).mono ?_
      rintro e w2 ⟨rfl, hb9⟩
      have B2 := Lib.hid (B0.out.trans (hb9.mono B0.out.size))
      have R2 := Lib.hid (owns_below R0.out hb9)
      clear hb9
      go_wp2_with fail
      go_returns
      rw [HL.out, HG.out]
      exact ⟨_, _, rfl, R2.out, B2.out⟩
    · have bad2 : q < 0 ∨ 64 < q := by rcases bad with h | h; cases h; exact h
      clear bad
      by_cases q0 : q < 0
      · go_enter Try.func38, Try.ntmps38
        go_wp2_with fail
        refine (CS.out _ B0.out).mono ?_
        rintro e w2 ⟨rfl, hb9⟩
        have B2 := Lib.hid (B0.out.trans (hb9.mono B0.out.size))
        have R2 := Lib.hid (owns_below R0.out hb9)
        clear hb9 bad2
        go_wp2_with fail
        go_returns
        rw [HL.out, HG.out]
        exact ⟨_, _, rfl, R2.out, B2.out⟩
      · have q1 : 64 < q := by omega
        go_enter Try.func38, Try.ntmps38
        go_wp2_with fail
        refine (CS.out _ B0.out).mono ?_
        rintro e w2 ⟨rfl, hb9⟩
        have B2 := Lib.hid (B0.out.trans (hb9.mono B0.out.size))
        have R2 := Lib.hid (owns_below R0.out hb9)
        clear hb9 bad2
        go_wp2_with fail
        go_returns
        rw [HL.out, HG.out]
        exact ⟨_, _, rfl, R2.out, B2.out⟩
  obtain rfl : sc = true := by cases sc; exact absurd (Or.inl rfl) bad; rfl
  have q0 : ¬ q < 0 := fun h => bad (Or.inr (Or.inl h))
  have q1 : ¬ 64 < q := fun h => bad (Or.inr (Or.inr h))
  have HG := Lib.hid (show ltG zs q = allB q zs by unfold ltG; rw [HSC.out, iw_yes (by omega)]; rfl)
  have HV := Lib.hid (show ∀ x ∈ zs, cB x = true from score_all HSC.out)
  clear bad
  go_enter Try.func38, Try.ntmps38
  go_wp2_with fail
  refine (CS.out _ B0.out).mono ?_
  rintro e w2 ⟨rfl, hb9⟩
  have B2 := Lib.hid (B0.out.trans (hb9.mono B0.out.size))
  have R2 := Lib.hid (owns_below R0.out hb9)
  clear hb9 B0 R0 CS
  go_wp2_with fail
  go_loopw [6, 24] (fun v i wr => ∃ k : Nat, k ≤ n0 ∧ i = .int .i64 k ∧ (∃ g c, v = .slice (some ⟨g, 0, none⟩) k c) ∧ Hid (∀ (j : Nat) (d : C), j < k → zs[j]? = some d → cB (shC q d) = true) ∧ Hid (wr.ownsRow w.heap.size 26 4 v k (dls ((zs.take k).map (shC q)))) ∧ Hid (Below w.heap.size w wr)) (fun _ i _ => n0 - (intOf i).toNat)
  case atStart => exact ⟨0, Nat.zero_le _, rfl, ⟨_, _, rfl⟩, Lib.hid (fun j d h => by omega), R2, B2⟩
  case round =>
    obtain ⟨k, hk, rfl, ⟨gb, gc, rfl⟩, AK, RK, BK⟩ := hrel
    clear R2 B2
    by_cases hlt : k < n0
    · obtain ⟨z, hz⟩ : ∃ z, zs[k]? = some z := ⟨_, List.getElem?_eq_getElem (by rw [HN.out]; exact hlt)⟩
      have HZ := Lib.hid hz
      have RW := Lib.hid (HR.out.below BK.out)
      have hcb := cB_in (HV.out z (mem_at hz))
      have zsz := HS.out z (mem_at hz)
      have TK := Lib.hid (show (zs.take (k + 1)).map (shC q) = (zs.take k).map (shC q) ++ [shC q z] by
        obtain ⟨hk', rfl⟩ := List.getElem?_eq_some_iff.1 hz
        rw [List.take_succ_eq_append_getElem hk', List.map_append]; rfl)
      obtain ⟨bd, hbd⟩ : ∃ r, cB (shC q z) = r := ⟨_, rfl⟩
      have HBD := Lib.hid hbd
      have CD := isCueS (z.tk + q) z.nm z.lv z.rp zsz
      rw [show cueB (z.tk + q) z.nm z.lv z.rp = cB (shC q z) from rfl, hbd] at CD
      have CD := Lib.hid CD
      clear hbd
      obtain ⟨t, n, l, r⟩ := z
      obtain ⟨b, o, eA, hbl, hcell⟩ := RW.out.get (k := k * 4) (by rw [dls_len, HN.out]; omega)
      have zz := dls_get hz
      simp only [] at hcb CD
      have c0 := hcell _ _ zz.1
      have c1 := hcell _ _ zz.2.1
      rw [← Nat.add_assoc] at c1
      have c2 := hcell _ _ zz.2.2.1
      rw [← Nat.add_assoc] at c2
      have c3 := hcell _ _ zz.2.2.2
      rw [← Nat.add_assoc] at c3
      have hw : wrap64 (t + q) = t + q := IntWalk.wrap64_in _ (by omega)
      have P1 := Lib.hid (show Below w.heap.size w (wr.alloc (.cells (ca (t + q) n l r) 26)) from BK.out.alloc BK.out.size _)
      have Q1 := Lib.hid (show (wr.alloc (.cells (ca (t + q) n l r) 26)).ownsRow w.heap.size 26 4 (.slice (some ⟨gb, 0, none⟩) k gc) k (dls ((zs.take k).map (shC q))) from RK.out.alloc _)
      clear hcell zz hz hbl hcb zsz
      subst eA
      cases bd
      · have HH := Lib.hid (show allB q zs = false from all_no fun H => by have := H k _ HZ.out; rw [HBD.out] at this; cases this)
        have HL := Lib.hid (ltL_no (HG.out.trans HH.out))
        go_wp2_with fail
        refine (CD.out _).mono ?_
        rintro e w3 ⟨rfl, rfl⟩
        have B3 := Lib.hid (P1.out.alloc P1.out.size (.cells (ca (t + q) n l r) 26))
        clear P1 Q1 RK BK c0 c1 c2 c3
        generalize ((wr.alloc (.cells (ca (t + q) n l r) 26)).alloc (.cells (ca (t + q) n l r) 26)) = w4 at *
        go_wp2_with fail
        go_returns
        rw [HG.out, HH.out, HL.out]
        exact ⟨_, _, rfl, World.ownsRow_lit (base := w.heap.size) (e := 26) (size := 4) _ #[] 0 B3.out.size (Nat.zero_le _) rfl, B3.out.alloc B3.out.size _⟩
      · go_wp2_with fail
        refine (CD.out _).mono ?_
        rintro e w3 ⟨rfl, rfl⟩
        have B3 := Lib.hid (P1.out.alloc P1.out.size (.cells (ca (t + q) n l r) 26))
        have R3 := Lib.hid (Q1.out.alloc (.cells (ca (t + q) n l r) 26))
        have k0 : ((wr.alloc (.cells (ca (t + q) n l r) 26)).alloc (.cells (ca (t + q) n l r) 26)).cell? ⟨wr.heap.size, 0, none⟩ = some (.int .i64 (t + q)) := cell_alloc (cell_here rfl)
        have k1 : ((wr.alloc (.cells (ca (t + q) n l r) 26)).alloc (.cells (ca (t + q) n l r) 26)).cell? ⟨wr.heap.size, 1, none⟩ = some (.string n) := cell_alloc (cell_here rfl)
        have k2 : ((wr.alloc (.cells (ca (t + q) n l r) 26)).alloc (.cells (ca (t + q) n l r) 26)).cell? ⟨wr.heap.size, 2, none⟩ = some (.int .i64 l) := cell_alloc (cell_here rfl)
        have k3 : ((wr.alloc (.cells (ca (t + q) n l r) 26)).alloc (.cells (ca (t + q) n l r) 26)).cell? ⟨wr.heap.size, 3, none⟩ = some (.int .i64 r) := cell_alloc (cell_here rfl)
        clear P1 Q1 RK BK c0 c1 c2 c3
        generalize ((wr.alloc (.cells (ca (t + q) n l r) 26)).alloc (.cells (ca (t + q) n l r) 26)) = w4 at *
        have hown := R3.out.alloc
        go_wp2_with (at_builtin; refine wpList_append_own _ rfl _ _ 34 rfl w.heap.size 26 i0 (.agg #[.int .i64 0, .string ⟨#[]⟩, .int .i64 0, .int .i64 0]) 4 40 Try.underlying34 hi hz0 hz1 hz2 rfl (by decide) _ _ _ rfl (hown _) ⟨w4.heap.size, 0, none⟩ 1 1 [.int .i64 (t + q), .string n, .int .i64 l, .int .i64 r] rfl rfl (by intro j u hj; match j, hj with | 0, hj => (simp at hj; subst hj; simp [Addr.add]) | 1, hj => (simp at hj; subst hj; simp [Addr.add]) | 2, hj => (simp at hj; subst hj; simp [Addr.add]) | 3, hj => (simp at hj; subst hj; simp [Addr.add])) (by intro u hu9; simp at hu9; rcases hu9 with rfl | rfl | rfl | rfl <;> rfl) (by unfold maxLen; omega) (by omega) (by have := B3.out.size; simp; omega) ?_; intro v' w5 hown' hgrow hnil)
        rw [show dls ((zs.take k).map (shC q)) ++ [.int .i64 (t + q), .string n, .int .i64 l, .int .i64 r] = dls ((zs.take (k + 1)).map (shC q)) by rw [TK.out]; exact dls_snoc _ ⟨t + q, n, l, r⟩] at hown'
        obtain ⟨g5, c5, rfl⟩ := own_mk hown'
        have R6 := Lib.hid hown'
        have B6 := Lib.hid ((B3.out.alloc B3.out.size _).grown hgrow (by have := B3.out.size; simp; omega) (fun j hj => own_base R3.out j hj))
        have A6 := Lib.hid (show ∀ (j : Nat) (d : C), j < k + 1 → zs[j]? = some d → cB (shC q d) = true from fun j d hj hd => by
          by_cases e : j = k
          · subst e; rw [HZ.out] at hd; cases hd; exact HBD.out
          · exact AK.out j d (by omega) hd)
        clear hown' hgrow hnil hown R3 B3 k0 k1 k2 k3
        go_wp2_with fail
        go_roundw
        case rel => first | exact ⟨k + 1, by omega, by go_num, ⟨_, _, rfl⟩, A6, R6, B6⟩ | ((repeat apply Exists.intro); exact ⟨⟨k + 1, by omega, by go_num, ⟨_, _, rfl⟩, A6, R6, B6⟩, rfl⟩)
        case measure => simp [intOf]; omega
    · obtain rfl : k = n0 := by omega
      have HH := Lib.hid (show allB q zs = true from all_yes fun j d hd => AK.out j d (by have := (List.getElem?_eq_some_iff.1 hd).1; rw [HN.out] at this; exact this) hd)
      have HL := Lib.hid (show ltL zs q = (zs.take k).map (shC q) by rw [ltL_yes (HG.out.trans HH.out), List.take_of_length_le (by rw [HN.out]; exact Nat.le_refl _)])
      have HM := Lib.hid (show ((zs.take k).map (shC q)).length = k by rw [List.length_map, List.length_take, HN.out]; omega)
      go_wp2_with fail
      go_returns
      rw [HG.out, HH.out, HL.out]
      exact ⟨gb, gc, by rw [HM.out]; first | done | rfl, by rw [HM.out]; exact RK.out, BK.out⟩
end Go.Proofs.Ytapijndbchopbaa.Tm7
