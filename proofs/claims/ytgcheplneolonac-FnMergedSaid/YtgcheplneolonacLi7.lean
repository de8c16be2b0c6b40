/- LevelAt of the program. -/
import Derived.Test.YtgcheplneolonacHc
import Derived.Test.YtgcheplneolonacOi7
namespace Go.Proofs.Ytgcheplneolonac.Li7
open Go.RowKit Go.ChangeShapes Go.WideShapes Go.WideElems Go.Deep Go.Proofs.Ytgcheplneolonac.Mem Go.Proofs.Ytgcheplneolonac.Rw Go.Proofs.Ytgcheplneolonac.P2 Go.Proofs.Ytgcheplneolonac.Cd Go.Proofs.Ytgcheplneolonac.Cv Go.Proofs.Ytgcheplneolonac.Cl Go.Proofs.Ytgcheplneolonac.Cs
set_option linter.unusedVariables false
set_option linter.unusedSimpArgs false
open Go.Proofs.Ytgcheplneolonac.Sd Go.Proofs.Ytgcheplneolonac.Tn Go.Proofs.Ytgcheplneolonac.Oc Go.Proofs.Ytgcheplneolonac.Ld Go.Proofs.Ytgcheplneolonac.Hc Go.Proofs.Ytgcheplneolonac.Oi7 Go.Proofs.Ytgcheplneolonac.RampAt
open Go.Proofs.Ytgcheplneolonac.Rw (owns_below owns_grown grown_trans grown_refl)

theorem below_grown {w w' : World} {r : Option Nat} (h : Below w.heap.size w w') : w.grownBy w' r := ⟨h.os, h.tape, h.output, h.size, fun j hj _ => h.block j hj⟩
theorem rd_one (W : World) (s : ByteArray) : Rd (W.alloc (.cells #[.string s] 9)) (W.alloc (.cells #[.string s] 9)).heap.size (some ⟨W.heap.size, 0, none⟩) (Strs.strs [s]) := by
  refine Or.inr ⟨W.heap.size, 0, rfl, by simp, fun j v hj => ?_⟩
  match j, hj with
  | 0, hj => simp [Strs.strs] at hj; subst hj; exact cell_here rfl

set_option maxHeartbeats 4000000 in
set_option maxRecDepth 100000 in
theorem levelI (A : Option Addr) (n0 c9 : Nat) (zs : List C) (s : ByteArray) (t : Int) (w : World) (hn : zs.length = n0) (hb : n0 ≤ 1048576) (wt : (Lit.int .i64 t).wf = true) (hr : Rd w w.heap.size A (dls zs)) :
    Calls Try.prog 15 #[.slice A n0 c9, .string s, .int .i64 t] w fun e w' => e = .returned (.int .i64 (levV zs s t)) ∧ Below w.heap.size w w' := by
  have hu : undef = Value.tuple #[] := rfl
  have hwt := bounds_i64 wt
  obtain ⟨ys, hys⟩ : ∃ ys, only zs [s] = ys := ⟨_, rfl⟩
  have HA := Lib.hid (hys ▸ only_all zs [s] : ∀ x ∈ ys, cB x = true)
  have HL := Lib.hid (show ys.length ≤ 1048576 by rw [← hys]; have := only_len zs [s]; omega)
  have HV := Lib.hid (show levV zs s t = levP t ys by unfold levV; rw [hys])
  obtain ⟨W1, hW1⟩ : ∃ W, w.alloc (.cells #[.int .i64 0, .int .i64 0, .int .i64 0, .int .i64 0] 58) = W := ⟨_, rfl⟩
  have P1 : Below w.heap.size w W1 := by rw [← hW1]; exact (Below.refl _ _).alloc (Nat.le_refl _) _
  have s1 : W1.heap.size = w.heap.size + 1 := by rw [← hW1]; simp
  have H1 : R4 W1 w.heap.size (.int .i64 0) (.int .i64 0) (.int .i64 0) (.int .i64 0) := by rw [← hW1]; exact R4.new _ _ _ _ _ _
  have P2 := P1.alloc P1.size (.cells #[.string s] 9)
  have HI := H1.alloc (.cells #[.string s] 9)
  have CO := (onlyI A n0 c9 zs (some ⟨W1.heap.size, 0, none⟩) 1 1 [s] (W1.alloc (.cells #[.string s] 9)) hn hb rfl (by omega) ((hr.below P2).more P2.size) (rd_one W1 s))
  rw [hys, s1] at CO
  have HI := Lib.hid HI
  have P2 := Lib.hid P2
  clear hr hn hys P1 H1 s1
  subst hW1
  have CO := Lib.hid CO
  go_enter Try.func15, Try.ntmps15
  go_wp2_with fail
  refine CO.out.mono ?_
  rintro e w2 ⟨g, c, rfl, ho, hb2⟩
  obtain ⟨m, hm⟩ : ∃ m, ys.length = m := ⟨_, rfl⟩
  have HM := Lib.hid hm
  rw [hm] at ho HL ⊢
  have hml := HL.out
  have R2 := Lib.hid (show R4 w2 w.heap.size _ _ _ _ from HI.out.below hb2)
  have B2 := Lib.hid (P2.out.trans (hb2.mono P2.out.size))
  have hgw : w.heap.size < g := by have := (ho.lt g rfl).1; have := HI.out.lt; omega
  have RO := Lib.hid ho
  clear ho hb2 hm HI P2 CO HL
  go_wp2_with fail
  go_loopw [16] (fun i wr => ∃ k : Nat, k ≤ m ∧ i = .int .i64 k ∧ Hid (R4 wr w.heap.size (.int .i64 (reach t (ys.take k)).1) (.int .i64 (reach t (ys.take k)).2.lv) (.int .i64 (reach t (ys.take k)).2.tk) (.int .i64 (reach t (ys.take k)).2.rp)) ∧ Hid (w2.grownBy wr (some w.heap.size))) (fun i _ => m - (intOf i).toNat)
  case atStart => exact ⟨0, Nat.zero_le _, rfl, R2, Lib.hid (grown_refl _ _)⟩
  case round =>
    obtain ⟨k, hk, rfl, RK, GK⟩ := hrel
    clear R2
    obtain ⟨u, hu9⟩ : ∃ u, reach t (ys.take k) = u := ⟨_, rfl⟩
    have TU := Lib.hid (hu9 ▸ reach_tame t _ (fun x hx => HA.out x (List.mem_of_mem_take hx)) : Tame t u)
    rw [hu9] at RK
    have HU := Lib.hid hu9
    clear hu9
    obtain ⟨lv9, ⟨lt, ln, ll, lr⟩⟩ := u
    simp only [] at RK
    have tm := TU.out
    simp only [Tame] at tm
    have hq : w.heap.size < wr.heap.size := RK.out.lt
    have k0 := RK.out.c0
    have k1 := RK.out.c1
    have k2 := RK.out.c2
    have k3 := RK.out.c3
    by_cases hlt : k < m
    · obtain ⟨z, hz⟩ : ∃ z, ys[k]? = some z := ⟨_, List.getElem?_eq_getElem (by rw [HM.out]; exact hlt)⟩
      have HZ := Lib.hid hz
      have RW := Rd.own (owns_grown RO.out GK.out (fun q hq => by cases hq; intro h2; cases h2; exact absurd hgw (Nat.lt_irrefl _)))
      have hcb := cB_in (HA.out z (mem_at hz))
      have HS2 := Lib.hid (show reach t (ys.take (k + 1)) = stepC t (lv9, ⟨lt, ln, ll, lr⟩) z by
        obtain ⟨hk', e⟩ := List.getElem?_eq_some_iff.1 hz
        rw [List.take_succ_eq_append_getElem hk', reach_snoc, HU.out, e])
      obtain ⟨t1, n, l, r⟩ := z
      obtain ⟨b, o, eA, hbl, hcell⟩ := RW.get (k := k * 4) (by rw [dls_len, HM.out]; omega)
      have zz := dls_get hz
      simp only [] at hcb
      have c0 := hcell _ _ zz.1
      have c1 := hcell _ _ zz.2.1
      rw [← Nat.add_assoc] at c1
      have c2 := hcell _ _ zz.2.2.1
      rw [← Nat.add_assoc] at c2
      have c3 := hcell _ _ zz.2.2.2
      rw [← Nat.add_assoc] at c3
      injection eA with eA
      injection eA with e1 e2 e3
      subst e1 e2
      simp only [Nat.zero_add] at c0 c1 c2 c3
      clear hcell zz hz hbl RW
      have WA := Lib.hid (RK.out.alloc (.cells (ca t1 n l r) 26))
      have GA := Lib.hid (grown_trans GK.out (World.grownBy_alloc wr (.cells (ca t1 n l r) 26) (some w.heap.size)))
      by_cases htk : t1 ≤ t
      · have HP := Lib.hid (show reach t (ys.take (k + 1)) = (level lv9 ll (t1 - lt) lr, ⟨t1, n, l, r⟩) by rw [HS2.out, step_yes _ htk])
        have CR := interruptedI lv9 ll lt lr t1 n l r (IntWalk.wrap64_in _ (by omega)) (wf64 (by omega) (by omega)) (wf64 (by omega) (by omega))
        obtain ⟨v, hv⟩ : ∃ v, level lv9 ll (t1 - lt) lr = v := ⟨_, rfl⟩
        rw [hv] at CR HP
        have CR := Lib.hid CR
        clear hv tm hcb
        go_wp2_with fail
        refine (CR.out _).mono ?_
        rintro e w3 ⟨rfl, hb3⟩
        have W3 := Lib.hid (WA.out.below hb3)
        have G3 := Lib.hid (grown_trans GA.out (below_grown (r := some w.heap.size) hb3))
        clear hb3 WA GA RK GK c0 c1 c2 c3 k0 k1 k2 k3 hq
        have RZ := Lib.hid (W3.out.put (.int .i64 v) (.int .i64 l) (.int .i64 t1) (.int .i64 r))
        have GZ := Lib.hid (grown_trans G3.out (put_grown w3 w.heap.size (.int .i64 v) (.int .i64 l) (.int .i64 t1) (.int .i64 r)))
        have k0 := W3.out.c0
        have k1 := W3.out.c1
        have k2 := W3.out.c2
        have k3 := W3.out.c3
        have f0 := W3.out.f0
        have f1 := W3.out.f1
        have f2 := W3.out.f2
        have f3 := W3.out.f3
        clear W3 G3
        go_wp2_with fail
        go_roundw
        case rel => first | exact ⟨k + 1, by omega, by go_num, by rw [HP.out]; exact RZ, GZ⟩ | ((repeat apply Exists.intro); exact ⟨⟨k + 1, by omega, by go_num, by rw [HP.out]; exact RZ, GZ⟩, rfl⟩)
        case measure => simp [intOf]; omega
      · have HP := Lib.hid (show reach t (ys.take (k + 1)) = (lv9, ⟨lt, ln, ll, lr⟩) by rw [HS2.out, step_no _ htk])
        have RZ := WA
        have GZ := GA
        have ht0 : decide (t1 ≤ t) = false := decide_eq_false htk
        clear k0 k1 k2 k3 tm
        go_wp2_with fail
        go_roundw
        case rel => first | exact ⟨k + 1, by omega, by go_num, by rw [HP.out]; exact RZ, GZ⟩ | ((repeat apply Exists.intro); exact ⟨⟨k + 1, by omega, by go_num, by rw [HP.out]; exact RZ, GZ⟩, rfl⟩)
        case measure => simp [intOf]; omega
    · obtain rfl : k = m := by omega
      have HF := Lib.hid (show reach t ys = (lv9, ⟨lt, ln, ll, lr⟩) by have := HU.out; rw [List.take_of_length_le (by rw [HM.out]; exact Nat.le_refl _)] at this; exact this)
      have CR := levelAtI lv9 ll lt lr t (IntWalk.wrap64_in _ (by omega)) (wf64 (by omega) (by omega)) (wf64 (by omega) (by omega))
      have HW := Lib.hid (show levV zs s t = level lv9 ll (t - lt) lr by rw [HV.out]; unfold levP; rw [HF.out])
      obtain ⟨v, hv⟩ : ∃ v, level lv9 ll (t - lt) lr = v := ⟨_, rfl⟩
      rw [hv] at CR HW
      have CR := Lib.hid CR
      have BZ := Lib.hid (B2.out.grown GK.out B2.out.size (fun q hq => by cases hq; exact Nat.le_refl _))
      clear hv tm
      go_wp2_with fail
      refine (CR.out _).mono ?_
      rintro e w3 ⟨rfl, rfl⟩
      go_wp2_with fail
      go_ret
      exact ⟨by rw [HW.out]; first | done | rfl, BZ.out.alloc BZ.out.size _⟩
end Go.Proofs.Ytgcheplneolonac.Li7
