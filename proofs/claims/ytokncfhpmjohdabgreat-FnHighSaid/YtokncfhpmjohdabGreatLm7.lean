/- LevelAt of the model. -/
import Derived.Test.YtokncfhpmjohdabGreatM5
import Derived.Test.YtokncfhpmjohdabGreatSm7
set_option linter.unusedVariables false
set_option linter.unusedSimpArgs false
namespace Go.Proofs.YtokncfhpmjohdabGreat.Lm7
open Go.RowKit Go.ChangeShapes Go.WideShapes Go.WideElems Go.Deep Go.Proofs.YtokncfhpmjohdabGreat.Mem Go.Proofs.YtokncfhpmjohdabGreat.Rw Go.Proofs.YtokncfhpmjohdabGreat.P2 Go.Proofs.YtokncfhpmjohdabGreat.Cd Go.Proofs.YtokncfhpmjohdabGreat.Cv Go.Proofs.YtokncfhpmjohdabGreat.Cl Go.Proofs.YtokncfhpmjohdabGreat.Cs
set_option linter.unusedVariables false
set_option linter.unusedSimpArgs false
open Go.Proofs.YtokncfhpmjohdabGreat.Sd Go.Proofs.YtokncfhpmjohdabGreat.Tn Go.Proofs.YtokncfhpmjohdabGreat.Oc Go.Proofs.YtokncfhpmjohdabGreat.Ld Go.Proofs.YtokncfhpmjohdabGreat.Hc Go.Proofs.YtokncfhpmjohdabGreat.Sm7 Go.Proofs.YtokncfhpmjohdabGreat.RampAt

set_option maxHeartbeats 4000000 in
set_option maxRecDepth 100000 in
theorem l7Level (A : Option Addr) (n0 c9 : Nat) (zs : List C) (s : ByteArray) (t : Int) (w : World) (hn : zs.length = n0) (hb : n0 ≤ 1048576) (ht : 0 ≤ t) (hwt : t ≤ 9223372036854775807) (hall : ∀ x ∈ zs, cB x = true) (hr : Rd w w.heap.size A (dls zs)) :
    Calls Tryz.prog 119 #[.slice A n0 c9, .string s, .int .i64 t] w fun e w' => e = .returned (.int .i64 (levP t (pick zs [s]))) ∧ Below w.heap.size w w' := by
  have hu : undef = Value.tuple #[] := rfl
  have HR := Lib.hid hr
  have HN := Lib.hid hn
  have HA := Lib.hid hall
  have H0 := Lib.hid (show R4 (w.alloc (.cells (ca 0 ⟨#[]⟩ 0 0) 63)) w.heap.size (.int .i64 (d0).tk) (.string (d0).nm) (.int .i64 (d0).lv) (.int .i64 (d0).rp) from R4.new _ _ _ _ _ _)
  have B0 := Lib.hid (show Below w.heap.size w (w.alloc (.cells (ca 0 ⟨#[]⟩ 0 0) 63)) from (Below.refl _ _).alloc (Nat.le_refl _) _)
  clear hr hn hall
  go_enter Tryz.func119, Tryz.ntmps119
  go_wp2_with fail
  go_loopw [7, 14] (fun v i wr => ∃ k : Nat, k ≤ n0 ∧ i = .int .i64 k ∧ v = .int .i64 (reach t (pick (zs.take k) [s])).1 ∧ Hid (R4 wr w.heap.size (.int .i64 (reach t (pick (zs.take k) [s])).2.tk) (.string (reach t (pick (zs.take k) [s])).2.nm) (.int .i64 (reach t (pick (zs.take k) [s])).2.lv) (.int .i64 (reach t (pick (zs.take k) [s])).2.rp)) ∧ Hid (Below w.heap.size w wr)) (fun _ i _ => n0 - (intOf i).toNat)
  case atStart => exact ⟨0, Nat.zero_le _, rfl, rfl, H0, B0⟩
  case round =>
    obtain ⟨k, hk, rfl, rfl, RK, BK⟩ := hrel
    clear H0 B0
    obtain ⟨u, hu9⟩ : ∃ u, reach t (pick (zs.take k) [s]) = u := ⟨_, rfl⟩
    have TU := Lib.hid (hu9 ▸ reach_tame t _ (pick_all fun x hx => HA.out x (List.mem_of_mem_take hx)) : Tame t u)
    rw [hu9] at RK
    rw [hu9]
    have HU := Lib.hid hu9
    clear hu9
    obtain ⟨lv9, ⟨lt, ln, ll, lr⟩⟩ := u
    simp only [] at RK ⊢
    have tm := TU.out
    simp only [Tame] at tm
    by_cases hlt : k < n0
    · obtain ⟨z, hz⟩ : ∃ z, zs[k]? = some z := ⟨_, List.getElem?_eq_getElem (by rw [HN.out]; exact hlt)⟩
      have HZ := Lib.hid hz
      have RW := Lib.hid (HR.out.below BK.out)
      have hcb := cB_in (HA.out z (mem_at hz))
      have hon := hasN_one s z.nm
      obtain ⟨t1, n, l, r⟩ := z
      obtain ⟨b, o, eA, hbl, hcell⟩ := RW.out.get (k := k * 4) (by rw [dls_len, HN.out]; omega)
      have zz := dls_get hz
      simp only [] at hcb hon
      have c0 := hcell _ _ zz.1
      have c1 := hcell _ _ zz.2.1
      rw [← Nat.add_assoc] at c1
      have c2 := hcell _ _ zz.2.2.1
      rw [← Nat.add_assoc] at c2
      have c3 := hcell _ _ zz.2.2.2
      rw [← Nat.add_assoc] at c3
      clear hcell zz hz hbl
      subst eA
      have k0 := RK.out.c0
      have k1 := RK.out.c1
      have k2 := RK.out.c2
      have k3 := RK.out.c3
      have hq : w.heap.size < wr.heap.size := RK.out.lt
      have f0 := RK.out.f0
      have f1 := RK.out.f1
      have f2 := RK.out.f2
      have f3 := RK.out.f3
      have WA := Lib.hid (RK.out.alloc (.cells (ca t1 n l r) 63))
      have BA := Lib.hid (BK.out.alloc BK.out.size (.cells (ca t1 n l r) 63))
      cases hnm : (n.toList == s.toList)
      · rw [hnm] at hon
        have HP := Lib.hid (show reach t (pick (zs.take (k + 1)) [s]) = (lv9, ⟨lt, ln, ll, lr⟩) by rw [pick_no HZ.out hon]; exact HU.out)
        have RZ := WA
        have BZ := BA
        clear hon f0 f1 f2 f3 k0 k1 k2 k3 tm
        go_wp2_with fail
        go_roundw
        case rel => first | exact ⟨k + 1, by omega, by go_num, by rw [HP.out]; (try rfl), by rw [HP.out]; exact RZ, BZ⟩ | ((repeat apply Exists.intro); exact ⟨⟨k + 1, by omega, by go_num, by rw [HP.out]; (try rfl), by rw [HP.out]; exact RZ, BZ⟩, rfl⟩)
        case measure => simp [intOf]; omega
      rw [hnm] at hon
      have HS := Lib.hid (show reach t (pick (zs.take (k + 1)) [s]) = stepC t (lv9, ⟨lt, ln, ll, lr⟩) ⟨t1, n, l, r⟩ by rw [pick_yes HZ.out hon, reach_snoc, HU.out])
      by_cases htk : t1 ≤ t
      · have HP := Lib.hid (show reach t (pick (zs.take (k + 1)) [s]) = (level lv9 ll (t1 - lt) lr, ⟨t1, n, l, r⟩) by rw [HS.out, step_yes _ htk])
        have CR := RampAt.spec lv9 ll (t1 - lt) lr (wf64 (by omega) (by omega)) (wf64 (by omega) (by omega))
        have hw : wrap64 (t1 - lt) = t1 - lt := IntWalk.wrap64_in _ (by omega)
        obtain ⟨v, hv⟩ : ∃ v, level lv9 ll (t1 - lt) lr = v := ⟨_, rfl⟩
        rw [hv] at CR HP
        have CR := Lib.hid CR
        clear hon hv tm hcb
        go_wp2_with fail
        refine (CR.out _).mono ?_
        rintro e w3 ⟨rfl, rfl⟩
        have d0 : (wr.alloc (.cells (ca t1 n l r) 63)).cell? ⟨wr.heap.size, 0, none⟩ = some (.int .i64 t1) := cell_here rfl
        have d1 : (wr.alloc (.cells (ca t1 n l r) 63)).cell? ⟨wr.heap.size, 1, none⟩ = some (.string n) := cell_here rfl
        have d2 : (wr.alloc (.cells (ca t1 n l r) 63)).cell? ⟨wr.heap.size, 2, none⟩ = some (.int .i64 l) := cell_here rfl
        have d3 : (wr.alloc (.cells (ca t1 n l r) 63)).cell? ⟨wr.heap.size, 3, none⟩ = some (.int .i64 r) := cell_here rfl
        have RZ := Lib.hid (WA.out.put (.int .i64 t1) (.string n) (.int .i64 l) (.int .i64 r))
        have BZ := Lib.hid (BA.out.grown (put_grown _ w.heap.size (.int .i64 t1) (.string n) (.int .i64 l) (.int .i64 r)) BA.out.size (fun j hj => by cases hj; exact Nat.le_refl _))
        have k0 := WA.out.c0
        have k1 := WA.out.c1
        have k2 := WA.out.c2
        have k3 := WA.out.c3
        have f0 := WA.out.f0
        have f1 := WA.out.f1
        have f2 := WA.out.f2
        have f3 := WA.out.f3
        clear WA BA RK BK c0 c1 c2 c3
        generalize wr.alloc (.cells (ca t1 n l r) 63) = V at *
        go_wp2_with fail
        go_roundw
        case rel => first | exact ⟨k + 1, by omega, by go_num, by rw [HP.out]; (try rfl), by rw [HP.out]; exact RZ, BZ⟩ | ((repeat apply Exists.intro); exact ⟨⟨k + 1, by omega, by go_num, by rw [HP.out]; (try rfl), by rw [HP.out]; exact RZ, BZ⟩, rfl⟩)
        case measure => simp [intOf]; omega
      · have HP := Lib.hid (show reach t (pick (zs.take (k + 1)) [s]) = (lv9, ⟨lt, ln, ll, lr⟩) by rw [HS.out, step_no _ htk])
        have RZ := WA
        have BZ := BA
        have ht0 : decide (t1 ≤ t) = false := decide_eq_false htk
        clear hon f0 f1 f2 f3 k0 k1 k2 k3 tm
        go_wp2_with fail
        go_roundw
        case rel => first | exact ⟨k + 1, by omega, by go_num, by rw [HP.out]; (try rfl), by rw [HP.out]; exact RZ, BZ⟩ | ((repeat apply Exists.intro); exact ⟨⟨k + 1, by omega, by go_num, by rw [HP.out]; (try rfl), by rw [HP.out]; exact RZ, BZ⟩, rfl⟩)
        case measure => simp [intOf]; omega
    · obtain rfl : k = n0 := by omega
      have HF := Lib.hid (show reach t (pick zs [s]) = (lv9, ⟨lt, ln, ll, lr⟩) by have := HU.out; rw [List.take_of_length_le (by rw [HN.out]; exact Nat.le_refl _)] at this; exact this)
      have CR := RampAt.spec lv9 ll (t - lt) lr (wf64 (by omega) (by omega)) (wf64 (by omega) (by omega))
      have hw : wrap64 (t - lt) = t - lt := IntWalk.wrap64_in _ (by omega)
      have HV := Lib.hid (show levP t (pick zs [s]) = level lv9 ll (t - lt) lr by unfold levP; rw [HF.out])
      obtain ⟨v, hv⟩ : ∃ v, level lv9 ll (t - lt) lr = v := ⟨_, rfl⟩
      rw [hv] at CR HV
      have CR := Lib.hid CR
      clear hv tm
      have k0 := RK.out.c0
      have k1 := RK.out.c1
      have k2 := RK.out.c2
      have k3 := RK.out.c3
      have hq : w.heap.size < wr.heap.size := RK.out.lt
      go_wp2_with fail
      refine (CR.out _).mono ?_
      rintro e w3 ⟨rfl, rfl⟩
      go_wp2_with fail
      go_ret
      exact ⟨by rw [HV.out]; first | done | rfl, BK.out⟩

end Go.Proofs.YtokncfhpmjohdabGreat.Lm7
