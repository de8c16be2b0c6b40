/- What the model answers for a heading that is turned. -/
import Derived.Test.YtokncfhpmjohdabGreatM6
import Derived.Test.YtokncfhpmjohdabGreatIr
import Derived.Test.YtokncfhpmjohdabGreatM8
import Derived.StillTailTactics
set_option linter.unusedVariables false
set_option linter.unusedSimpArgs false
namespace Go.Proofs.YtokncfhpmjohdabGreat.Hd
open Go.RowKit Go.Proofs.YtokncfhpmjohdabGreat.Cm Go.Proofs.YtokncfhpmjohdabGreat.Pl
set_option linter.unusedVariables false

end Go.Proofs.YtokncfhpmjohdabGreat.Hd
namespace Go.Proofs.YtokncfhpmjohdabGreat.Mo
open Go.RowKit Go.ChangeShapes Go.WideShapes Go.WideElems Go.Deep Go.Proofs.YtokncfhpmjohdabGreat.Mem Go.Proofs.YtokncfhpmjohdabGreat.Rw Go.Proofs.YtokncfhpmjohdabGreat.Pw Go.Proofs.YtokncfhpmjohdabGreat.P2 Go.Proofs.YtokncfhpmjohdabGreat.Dd Go.Proofs.YtokncfhpmjohdabGreat.Dv Go.Proofs.YtokncfhpmjohdabGreat.Dl Go.Proofs.YtokncfhpmjohdabGreat.Ds Go.Proofs.YtokncfhpmjohdabGreat.Fd Go.Proofs.YtokncfhpmjohdabGreat.Ch Go.Proofs.YtokncfhpmjohdabGreat.Hn Go.Proofs.YtokncfhpmjohdabGreat.Po
set_option linter.unusedVariables false
set_option linter.unusedSimpArgs false
open Go.Proofs.YtokncfhpmjohdabGreat.Cm Go.Proofs.YtokncfhpmjohdabGreat.Pl Go.Proofs.YtokncfhpmjohdabGreat.Str Go.Proofs.YtokncfhpmjohdabGreat.Hd Go.Proofs.YtokncfhpmjohdabGreat.Jt Go.Proofs.YtokncfhpmjohdabGreat.Ho Go.Proofs.YtokncfhpmjohdabGreat.Pa Go.Proofs.YtokncfhpmjohdabGreat.Di Go.Proofs.YtokncfhpmjohdabGreat.Ig Go.Proofs.YtokncfhpmjohdabGreat.Ir Go.Proofs.YtokncfhpmjohdabGreat.IsName
open Go.Proofs.YtokncfhpmjohdabGreat.Rw (owns_below owns_grown)

/-- A list of the call's own that holds these devices. -/
def RowD (w : World) (ds : List D) (e : Ending) (w' : World) : Prop :=
  ∃ g c, e = .returned (.slice (some ⟨g, 0, none⟩) ds.length c) ∧ w'.ownsRow w.heap.size 36 8 (.slice (some ⟨g, 0, none⟩) ds.length c) ds.length (dls ds) ∧ Below w.heap.size w w'
/-- .. and whether it has all of them. -/
def RowB (w : World) (ds : List D) (r : Bool) (e : Ending) (w' : World) : Prop :=
  ∃ g c, e = .returned (.tuple #[.slice (some ⟨g, 0, none⟩) ds.length c, .bool r]) ∧ w'.ownsRow w.heap.size 36 8 (.slice (some ⟨g, 0, none⟩) ds.length c) ds.length (dls ds) ∧ Below w.heap.size w w'
theorem own_mk {w : World} {base n : Nat} {v : Value} {xs : List Value} (h : w.ownsRow base 36 8 v (n + 1) xs) : ∃ g c, v = .slice (some ⟨g, 0, none⟩) (n + 1) c := by
  rcases h.2 with ⟨_, e⟩ | ⟨g, cap, cur, e, _⟩
  · omega
  · exact ⟨g, cap, e⟩
theorem own_drew {w : World} {base n : Nat} {v : Value} {xs : List Value} (h : w.ownsRow base 36 8 v n xs) : w.drew.ownsRow base 36 8 v n xs := ⟨h.1, h.2⟩
theorem own_base {w : World} {base n : Nat} {v : Value} {xs : List Value} (h : w.ownsRow base 36 8 v n xs) : ∀ k, v.ownBlock = some k → base ≤ k := fun k e => (h.lt k e).1

end Go.Proofs.YtokncfhpmjohdabGreat.Mo
namespace Go.Proofs.YtokncfhpmjohdabGreat.Iq
open Go.RowKit Go.ChangeShapes Go.WideShapes Go.WideElems Go.Deep Go.Proofs.YtokncfhpmjohdabGreat.Mem Go.Proofs.YtokncfhpmjohdabGreat.Rw Go.Proofs.YtokncfhpmjohdabGreat.Pw Go.Proofs.YtokncfhpmjohdabGreat.P2 Go.Proofs.YtokncfhpmjohdabGreat.Dd Go.Proofs.YtokncfhpmjohdabGreat.Dv Go.Proofs.YtokncfhpmjohdabGreat.Dl Go.Proofs.YtokncfhpmjohdabGreat.Ds Go.Proofs.YtokncfhpmjohdabGreat.Fd Go.Proofs.YtokncfhpmjohdabGreat.Ch Go.Proofs.YtokncfhpmjohdabGreat.Hn Go.Proofs.YtokncfhpmjohdabGreat.Po
set_option linter.unusedVariables false
set_option linter.unusedSimpArgs false
open Go.Proofs.YtokncfhpmjohdabGreat.Ho Go.Proofs.YtokncfhpmjohdabGreat.Pa Go.Proofs.YtokncfhpmjohdabGreat.Di Go.Proofs.YtokncfhpmjohdabGreat.Ig

set_option maxHeartbeats 8000000 in
set_option maxRecDepth 100000 in
theorem rigI (A : Option Addr) (n0 c9 : Nat) (zs : List D) (w : World) (hn : zs.length = n0) (hb : n0 ≤ 1048576) (hr : Rd w w.heap.size A (dls zs)) :
    Calls Tryz.prog 61 #[.slice A n0 c9] w fun e w' => e = .returned (.bool (rig zs)) ∧ Below w.heap.size w w' := by
  have hu : undef = Value.tuple #[] := rfl
  have HR := Lib.hid hr
  have HN := Lib.hid hn
  clear hr hn
  by_cases h8 : (8 : Int) < (n0 : Int)
  · have HH := Lib.hid (show rig zs = false from rig_no fun H => by have := H.1; rw [HN.out] at this; omega)
    go_enter Tryz.func61, Tryz.ntmps61
    go_wp2_with fail
    go_returns
    exact ⟨by rw [HH.out]; rfl, Below.refl _ _⟩
  go_enter Tryz.func61, Tryz.ntmps61
  go_wp2_with fail
  go_loopw [10] (fun i wr => ∃ k : Nat, k ≤ n0 ∧ i = .int .i64 k ∧ Hid (∀ (j : Nat) (d : D), j < k → zs[j]? = some d → dB d = true ∧ ordA zs j = true) ∧ Hid (Below w.heap.size w wr)) (fun i _ => n0 - (intOf i).toNat)
  case atStart => exact ⟨0, Nat.zero_le _, rfl, Lib.hid (fun j d h => by omega), Lib.hid (Below.refl _ _)⟩
  case round =>
    obtain ⟨k, hk, rfl, AK, BK⟩ := hrel
    by_cases hlt : k < n0
    · obtain ⟨z, hz⟩ : ∃ z, zs[k]? = some z := ⟨_, List.getElem?_eq_getElem (by rw [HN.out]; exact hlt)⟩
      have HZ := Lib.hid hz
      have hdb : dB z = devB z.nm z.kd z.ln z.x z.y z.hd z.tl z.ms := rfl
      have CD := isDeviceI z.nm z.kd z.ln z.x z.y z.hd z.tl z.ms
      rw [← hdb] at CD
      have RW := Lib.hid (HR.out.below BK.out)
      obtain ⟨bd, hbd⟩ : ∃ r, dB z = r := ⟨_, rfl⟩
      rw [hbd] at CD
      have CD := Lib.hid CD
      have HBD := Lib.hid hbd
      clear hdb hbd
      obtain ⟨n, q, l, x, y, h, t, m⟩ := z
      simp only [] at CD
      obtain ⟨b, o, eA, hbl, hcell⟩ := RW.out.get (k := k * 8) (by rw [dls_len, HN.out]; omega)
      have HC := Lib.hid hcell
      have zz := dls_get hz
      have c0 := hcell _ _ zz.1
      have c1 := hcell _ _ zz.2.1
      rw [← Nat.add_assoc] at c1
      have c2 := hcell _ _ zz.2.2.1
      rw [← Nat.add_assoc] at c2
      have c3 := hcell _ _ zz.2.2.2.1
      rw [← Nat.add_assoc] at c3
      have c4 := hcell _ _ zz.2.2.2.2.1
      rw [← Nat.add_assoc] at c4
      have c5 := hcell _ _ zz.2.2.2.2.2.1
      rw [← Nat.add_assoc] at c5
      have c6 := hcell _ _ zz.2.2.2.2.2.2.1
      rw [← Nat.add_assoc] at c6
      have c7 := hcell _ _ zz.2.2.2.2.2.2.2
      rw [← Nat.add_assoc] at c7
      clear hcell zz hz
      subst eA
      cases bd
      · have HH := Lib.hid (show rig zs = false from rig_no fun H => by have := H.2 k _ HZ.out; rw [HBD.out] at this; cases this.1)
        go_wp2_with fail
        refine (CD.out _).mono ?_
        rintro e w1 ⟨rfl, hb1⟩
        have B1 := Lib.hid (BK.out.trans (Below.mono (Below.trans (by go_grown) (hb1.mono (by simp)) : Below wr.heap.size wr w1) BK.out.size))
        have W1 := Lib.hid (show Below wr.heap.size wr w1 from Below.trans (by go_grown) (hb1.mono (by simp)))
        have p1 : wr.heap.size < w1.heap.size := by have := hb1.size; simp at this; omega
        clear hb1 c0 c1 c2 c3 c4 c5 c6 c7
        go_wp2_with fail
        go_ret
        exact ⟨by rw [HH.out]; rfl, B1.out⟩
      by_cases k0 : k = 0
      · have HO := Lib.hid (show ordA zs k = true by rw [k0]; rfl)
        have g1 : decide (0 < (k : Int)) = false := decide_eq_false (by omega)
        have g2 : ¬ 0 < (k : Int) := by omega
        have g0 : ¬ 0 < k := by omega
        have HK0 := Lib.hid k0
        clear k0
        go_wp2_with fail
        refine (CD.out _).mono ?_
        rintro e w1 ⟨rfl, hb1⟩
        have k0 : w1.cell? ⟨wr.heap.size, 0, none⟩ = some (.string n) := (hb1.cell (by simp)).trans (by simp [go_sem])
        have k1 : w1.cell? ⟨wr.heap.size, 1, none⟩ = some (.int .i64 q) := (hb1.cell (by simp)).trans (by simp [go_sem])
        have k2 : w1.cell? ⟨wr.heap.size, 2, none⟩ = some (.string l) := (hb1.cell (by simp)).trans (by simp [go_sem])
        have k3 : w1.cell? ⟨wr.heap.size, 3, none⟩ = some (.int .i64 x) := (hb1.cell (by simp)).trans (by simp [go_sem])
        have k4 : w1.cell? ⟨wr.heap.size, 4, none⟩ = some (.int .i64 y) := (hb1.cell (by simp)).trans (by simp [go_sem])
        have k5 : w1.cell? ⟨wr.heap.size, 5, none⟩ = some (.int .i64 h) := (hb1.cell (by simp)).trans (by simp [go_sem])
        have k6 : w1.cell? ⟨wr.heap.size, 6, none⟩ = some (.int .i64 t) := (hb1.cell (by simp)).trans (by simp [go_sem])
        have k7 : w1.cell? ⟨wr.heap.size, 7, none⟩ = some (.int .i64 m) := (hb1.cell (by simp)).trans (by simp [go_sem])
        have B1 := Lib.hid (BK.out.trans (Below.mono (Below.trans (by go_grown) (hb1.mono (by simp)) : Below wr.heap.size wr w1) BK.out.size))
        have W1 := Lib.hid (show Below wr.heap.size wr w1 from Below.trans (by go_grown) (hb1.mono (by simp)))
        have p1 : wr.heap.size < w1.heap.size := by have := hb1.size; simp at this; omega
        clear hb1 c0 c1 c2 c3 c4 c5 c6 c7
        go_wp2_with fail
        refine wp_region_noPanic ?_
        refine wp_region_held_drew (S := (fun w' => Below w1.heap.size w1 w')) (by kernel_rfl) ?_ (fun hH => ?_)
        · exact (Below.refl _ _).drew
        refine wpAnyH_take (i := 0) (oi := { dst := some 18, op := _, type := _, pos := _, after := _, guard := _ }) (v := ?_) rfl (by kernel_rfl) (by kernel_rfl) (by kernel_rfl) (fun _ _ _ h => h) (Or.inl ⟨by rfl, ?_⟩) hH ?_
        rotate_left 1
        · intro W hSw
          (try dsimp only at hSw)
          go_simp
          (try with_reducible rfl)
        try simp only [Act.put, List.setIfInBounds_toArray, List.set_cons_zero, List.set_cons_succ]
        refine wpAnyH_take (i := 1) (oi := { dst := some 19, op := _, type := _, pos := _, after := _, guard := _ }) (v := ?_) rfl (by kernel_rfl) (by kernel_rfl) (by kernel_rfl) (fun _ _ _ h => h) (Or.inl ⟨by rfl, ?_⟩) hH ?_
        rotate_left 1
        · intro W hSw
          (try dsimp only at hSw)
          go_simp
          (try with_reducible rfl)
        try simp only [Act.put, List.setIfInBounds_toArray, List.set_cons_zero, List.set_cons_succ]
        refine wpAnyH_take (i := 2) (oi := { dst := some 20, op := _, type := _, pos := _, after := _, guard := _ }) (v := ?_) rfl (by kernel_rfl) (by kernel_rfl) (by kernel_rfl) (fun _ _ _ h => h) (Or.inl ⟨by rfl, ?_⟩) hH ?_
        rotate_left 1
        · intro W hSw
          (try dsimp only at hSw)
          go_simp
          (try with_reducible rfl)
        try simp only [Act.put, List.setIfInBounds_toArray, List.set_cons_zero, List.set_cons_succ]
        refine wpAnyH_take (i := 3) (oi := { dst := some 21, op := _, type := _, pos := _, after := _, guard := _ }) (v := undef) rfl (by kernel_rfl) (by kernel_rfl) (by kernel_rfl) (fun _ _ _ h => h) (Or.inr ⟨by simp [Region.wanted, yielded, hu, HK0.out], rfl⟩) hH ?_
        try simp only [Act.put, List.setIfInBounds_toArray, List.set_cons_zero, List.set_cons_succ]
        refine wpAnyH_take (i := 4) (oi := { dst := some 22, op := _, type := _, pos := _, after := _, guard := _ }) (v := undef) rfl (by kernel_rfl) (by kernel_rfl) (by kernel_rfl) (fun _ _ _ h => h) (Or.inr ⟨by simp [Region.wanted, yielded, hu, HK0.out], rfl⟩) hH ?_
        try simp only [Act.put, List.setIfInBounds_toArray, List.set_cons_zero, List.set_cons_succ]
        refine wpAnyH_take (i := 5) (oi := { dst := some 23, op := _, type := _, pos := _, after := _, guard := _ }) (v := undef) rfl (by kernel_rfl) (by kernel_rfl) (by kernel_rfl) (fun _ _ _ h => h) (Or.inr ⟨by simp [Region.wanted, yielded, hu, HK0.out], rfl⟩) hH ?_
        try simp only [Act.put, List.setIfInBounds_toArray, List.set_cons_zero, List.set_cons_succ]
        refine wpAnyH_take (i := 6) (oi := { dst := some 24, op := _, type := _, pos := _, after := _, guard := _ }) (v := undef) rfl (by kernel_rfl) (by kernel_rfl) (by kernel_rfl) (fun _ _ _ h => h) (Or.inr ⟨by simp [Region.wanted, yielded, hu, HK0.out], rfl⟩) hH ?_
        try simp only [Act.put, List.setIfInBounds_toArray, List.set_cons_zero, List.set_cons_succ]
        refine wpAnyH_take (i := 7) (oi := { dst := some 25, op := _, type := _, pos := _, after := _, guard := _ }) (v := undef) rfl (by kernel_rfl) (by kernel_rfl) (by kernel_rfl) (fun _ _ _ h => h) (Or.inr ⟨by simp [Region.wanted, yielded, hu, HK0.out], rfl⟩) hH ?_
        try simp only [Act.put, List.setIfInBounds_toArray, List.set_cons_zero, List.set_cons_succ]
        refine wpAnyH_take (i := 8) (oi := { dst := some 26, op := _, type := _, pos := _, after := _, guard := _ }) (v := undef) rfl (by kernel_rfl) (by kernel_rfl) (by kernel_rfl) (fun _ _ _ h => h) (Or.inr ⟨by simp [Region.wanted, yielded, hu, HK0.out], rfl⟩) hH ?_
        try simp only [Act.put, List.setIfInBounds_toArray, List.set_cons_zero, List.set_cons_succ]
        refine wpAnyH_take (i := 9) (oi := { dst := some 27, op := _, type := _, pos := _, after := _, guard := _ }) (v := undef) rfl (by kernel_rfl) (by kernel_rfl) (by kernel_rfl) (fun _ _ _ h => h) (Or.inr ⟨by simp [Region.wanted, yielded, hu, HK0.out], rfl⟩) hH ?_
        try simp only [Act.put, List.setIfInBounds_toArray, List.set_cons_zero, List.set_cons_succ]
        refine wpAnyH_take (i := 10) (oi := { dst := some 28, op := _, type := _, pos := _, after := _, guard := _ }) (v := undef) rfl (by kernel_rfl) (by kernel_rfl) (by kernel_rfl) (fun _ _ _ h => h) (Or.inr ⟨by simp [Region.wanted, yielded, hu, HK0.out], rfl⟩) hH ?_
        try simp only [Act.put, List.setIfInBounds_toArray, List.set_cons_zero, List.set_cons_succ]
        refine wpAnyH_take (i := 11) (oi := { dst := some 29, op := _, type := _, pos := _, after := _, guard := _ }) (v := ?_) rfl (by kernel_rfl) (by kernel_rfl) (by kernel_rfl) (fun _ _ _ h => h) (Or.inl ⟨by rfl, ?_⟩) hH ?_
        rotate_left 1
        · intro W hSw
          (try dsimp only at hSw)
          go_simp
          (try with_reducible rfl)
        try simp only [Act.put, List.setIfInBounds_toArray, List.set_cons_zero, List.set_cons_succ]
        refine wpAnyH_done (by kernel_rfl) ?_ _
        refine NoPanic.normal ?_
        have B4 := Lib.hid (B1.out.trans (hH.mono B1.out.size))
        clear hH k0 k1 k2 k3 k4 k5 k6 k7 p1
        go_wp2_with fail
        go_roundw
        case rel => exact ⟨k + 1, by omega, by go_num, Lib.hid (fun j d hj hd => by
          by_cases e : j = k
          · subst e; rw [HZ.out] at hd; cases hd; exact ⟨HBD.out, HO.out⟩
          · exact AK.out j d (by omega) hd), B4⟩
        case measure => simp [intOf]; omega
      obtain ⟨p, hp⟩ : ∃ p, k = p + 1 := ⟨k - 1, by omega⟩
      obtain ⟨d2, hd2⟩ : ∃ d, zs[p]? = some d := ⟨_, List.getElem?_eq_getElem (by rw [HN.out]; omega)⟩
      have HO := ordA_succ hd2 (by rw [← hp]; exact HZ.out)
      rw [← hp] at HO
      obtain ⟨n2, q2, l2, x2, y2, h2, t2, m2⟩ := d2
      have zz := dls_get hd2
      simp only [] at HO
      have e0 := HC.out _ _ zz.1
      have e1 := HC.out _ _ zz.2.1
      rw [← Nat.add_assoc] at e1
      have e2 := HC.out _ _ zz.2.2.1
      rw [← Nat.add_assoc] at e2
      have e3 := HC.out _ _ zz.2.2.2.1
      rw [← Nat.add_assoc] at e3
      have e4 := HC.out _ _ zz.2.2.2.2.1
      rw [← Nat.add_assoc] at e4
      have e5 := HC.out _ _ zz.2.2.2.2.2.1
      rw [← Nat.add_assoc] at e5
      have e6 := HC.out _ _ zz.2.2.2.2.2.2.1
      rw [← Nat.add_assoc] at e6
      have e7 := HC.out _ _ zz.2.2.2.2.2.2.2
      rw [← Nat.add_assoc] at e7
      have gk : 0 < k := by omega
      have g0 : decide (0 < k) = true := decide_eq_true gk
      have g1 : decide (0 < (k : Int)) = true := decide_eq_true (by omega)
      have g2 : 0 < (k : Int) := by omega
      have g3 : IntKind.i64.wrap ((k : Int) - 1) = (p : Int) := by rw [hp, IntWalk.i64_in _ (by omega)]; omega
      have g4 : wrap64 ((k : Int) - 1) = (p : Int) := by rw [hp, IntWalk.wrap64_in _ (by omega)]; omega
      have g5 : p < n0 := by omega
      have CC := Lib.hid (compareNames n2 n q2 l2 x2 y2 h2 t2 m2 q l x y h t m)
      obtain ⟨bo, hbo⟩ : ∃ r, lt n2 n = r := ⟨_, rfl⟩
      rw [hbo] at HO
      have HO := Lib.hid HO
      obtain ⟨v, hv⟩ : ∃ v, cn n2 n = v := ⟨_, rfl⟩
      have hvb : decide (0 ≤ v) = !bo := by
        rw [← hv, ← hbo]; unfold cn
        cases lt n2 n
        · cases sb n2 n <;> rfl
        · rfl
      rw [hv] at CC
      clear hd2 hp hbo hv k0 zz
      cases bo
      all_goals
        simp only [Bool.not_true, Bool.not_false] at hvb
        go_wp2_with fail
        refine (CD.out _).mono ?_
        rintro e w1 ⟨rfl, hb1⟩
        have k0 : w1.cell? ⟨wr.heap.size, 0, none⟩ = some (.string n) := (hb1.cell (by simp)).trans (by simp [go_sem])
        have k1 : w1.cell? ⟨wr.heap.size, 1, none⟩ = some (.int .i64 q) := (hb1.cell (by simp)).trans (by simp [go_sem])
        have k2 : w1.cell? ⟨wr.heap.size, 2, none⟩ = some (.string l) := (hb1.cell (by simp)).trans (by simp [go_sem])
        have k3 : w1.cell? ⟨wr.heap.size, 3, none⟩ = some (.int .i64 x) := (hb1.cell (by simp)).trans (by simp [go_sem])
        have k4 : w1.cell? ⟨wr.heap.size, 4, none⟩ = some (.int .i64 y) := (hb1.cell (by simp)).trans (by simp [go_sem])
        have k5 : w1.cell? ⟨wr.heap.size, 5, none⟩ = some (.int .i64 h) := (hb1.cell (by simp)).trans (by simp [go_sem])
        have k6 : w1.cell? ⟨wr.heap.size, 6, none⟩ = some (.int .i64 t) := (hb1.cell (by simp)).trans (by simp [go_sem])
        have k7 : w1.cell? ⟨wr.heap.size, 7, none⟩ = some (.int .i64 m) := (hb1.cell (by simp)).trans (by simp [go_sem])
        have B1 := Lib.hid (BK.out.trans (Below.mono (Below.trans (by go_grown) (hb1.mono (by simp)) : Below wr.heap.size wr w1) BK.out.size))
        have W1 := Lib.hid (show Below wr.heap.size wr w1 from Below.trans (by go_grown) (hb1.mono (by simp)))
        have p1 : wr.heap.size < w1.heap.size := by have := hb1.size; simp at this; omega
        clear hb1 c0 c1 c2 c3 c4 c5 c6 c7
        have f0 := W1.out.cell (p := ⟨b, o + p * 8, none⟩) (Nat.lt_of_lt_of_le hbl BK.out.size)
        rw [e0] at f0
        have f1 := W1.out.cell (p := ⟨b, o + p * 8 + 1, none⟩) (Nat.lt_of_lt_of_le hbl BK.out.size)
        rw [e1] at f1
        have f2 := W1.out.cell (p := ⟨b, o + p * 8 + 2, none⟩) (Nat.lt_of_lt_of_le hbl BK.out.size)
        rw [e2] at f2
        have f3 := W1.out.cell (p := ⟨b, o + p * 8 + 3, none⟩) (Nat.lt_of_lt_of_le hbl BK.out.size)
        rw [e3] at f3
        have f4 := W1.out.cell (p := ⟨b, o + p * 8 + 4, none⟩) (Nat.lt_of_lt_of_le hbl BK.out.size)
        rw [e4] at f4
        have f5 := W1.out.cell (p := ⟨b, o + p * 8 + 5, none⟩) (Nat.lt_of_lt_of_le hbl BK.out.size)
        rw [e5] at f5
        have f6 := W1.out.cell (p := ⟨b, o + p * 8 + 6, none⟩) (Nat.lt_of_lt_of_le hbl BK.out.size)
        rw [e6] at f6
        have f7 := W1.out.cell (p := ⟨b, o + p * 8 + 7, none⟩) (Nat.lt_of_lt_of_le hbl BK.out.size)
        rw [e7] at f7
        clear e0 e1 e2 e3 e4 e5 e6 e7
        go_wp2_with fail
        refine wp_region_noPanic ?_
        refine wp_region_held_drew (S := (fun w' => w'.cell? ⟨wr.heap.size, 0, none⟩ = some (.string n) ∧ w'.cell? ⟨wr.heap.size, 1, none⟩ = some (.int .i64 q) ∧ w'.cell? ⟨wr.heap.size, 2, none⟩ = some (.string l) ∧ w'.cell? ⟨wr.heap.size, 3, none⟩ = some (.int .i64 x) ∧ w'.cell? ⟨wr.heap.size, 4, none⟩ = some (.int .i64 y) ∧ w'.cell? ⟨wr.heap.size, 5, none⟩ = some (.int .i64 h) ∧ w'.cell? ⟨wr.heap.size, 6, none⟩ = some (.int .i64 t) ∧ w'.cell? ⟨wr.heap.size, 7, none⟩ = some (.int .i64 m) ∧ w'.cell? ⟨b, o + p * 8, none⟩ = some (.string n2) ∧ w'.cell? ⟨b, o + p * 8 + 1, none⟩ = some (.int .i64 q2) ∧ w'.cell? ⟨b, o + p * 8 + 2, none⟩ = some (.string l2) ∧ w'.cell? ⟨b, o + p * 8 + 3, none⟩ = some (.int .i64 x2) ∧ w'.cell? ⟨b, o + p * 8 + 4, none⟩ = some (.int .i64 y2) ∧ w'.cell? ⟨b, o + p * 8 + 5, none⟩ = some (.int .i64 h2) ∧ w'.cell? ⟨b, o + p * 8 + 6, none⟩ = some (.int .i64 t2) ∧ w'.cell? ⟨b, o + p * 8 + 7, none⟩ = some (.int .i64 m2) ∧ Below w1.heap.size w1 w')) (by kernel_rfl) ?_ (fun hH => ?_)
        · exact ⟨k0, k1, k2, k3, k4, k5, k6, k7, f0, f1, f2, f3, f4, f5, f6, f7, (Below.refl _ _).drew⟩
        refine wpAnyH_take (i := 0) (oi := { dst := some 18, op := _, type := _, pos := _, after := _, guard := _ }) (v := ?_) rfl (by kernel_rfl) (by kernel_rfl) (by kernel_rfl) (fun _ _ _ h => h) (Or.inl ⟨by rfl, ?_⟩) hH ?_
        rotate_left 1
        · intro W hSw
          (try dsimp only at hSw)
          go_simp
          (try with_reducible rfl)
        try simp only [Act.put, List.setIfInBounds_toArray, List.set_cons_zero, List.set_cons_succ]
        refine wpAnyH_take (i := 1) (oi := { dst := some 19, op := _, type := _, pos := _, after := _, guard := _ }) (v := ?_) rfl (by kernel_rfl) (by kernel_rfl) (by kernel_rfl) (fun _ _ _ h => h) (Or.inl ⟨by rfl, ?_⟩) hH ?_
        rotate_left 1
        · intro W hSw
          (try dsimp only at hSw)
          go_simp
          (try with_reducible rfl)
        try simp only [Act.put, List.setIfInBounds_toArray, List.set_cons_zero, List.set_cons_succ]
        refine wpAnyH_take (i := 2) (oi := { dst := some 20, op := _, type := _, pos := _, after := _, guard := _ }) (v := ?_) rfl (by kernel_rfl) (by kernel_rfl) (by kernel_rfl) (fun _ _ _ h => h) (Or.inl ⟨by rfl, ?_⟩) hH ?_
        rotate_left 1
        · intro W hSw
          (try dsimp only at hSw)
          go_simp
          (try with_reducible rfl)
        try simp only [Act.put, List.setIfInBounds_toArray, List.set_cons_zero, List.set_cons_succ]
        refine wpAnyH_take (i := 3) (oi := { dst := some 21, op := _, type := _, pos := _, after := _, guard := _ }) (v := ?_) rfl (by kernel_rfl) (by kernel_rfl) (by kernel_rfl) (fun _ _ _ h => h) (Or.inl ⟨by rfl, ?_⟩) hH ?_
        rotate_left 1
        · intro W hSw
          (try dsimp only at hSw)
          go_simp
          (try with_reducible rfl)
        try simp only [Act.put, List.setIfInBounds_toArray, List.set_cons_zero, List.set_cons_succ]
        refine wpAnyH_take (i := 4) (oi := { dst := some 22, op := _, type := _, pos := _, after := _, guard := _ }) (v := ?_) rfl (by kernel_rfl) (by kernel_rfl) (by kernel_rfl) (fun _ _ _ h => h) (Or.inl ⟨by rfl, ?_⟩) hH ?_
        rotate_left 1
        · intro W hSw
          (try dsimp only at hSw)
          go_simp
          (try with_reducible rfl)
        try simp only [Act.put, List.setIfInBounds_toArray, List.set_cons_zero, List.set_cons_succ]
        refine wpAnyH_take (i := 5) (oi := { dst := some 23, op := _, type := _, pos := _, after := _, guard := _ }) (v := ?_) rfl (by kernel_rfl) (by kernel_rfl) (by kernel_rfl) (fun _ _ _ h => h) (Or.inl ⟨by rfl, ?_⟩) hH ?_
        rotate_left 1
        · intro W hSw
          (try dsimp only at hSw)
          go_simp
          (try with_reducible rfl)
        try simp only [Act.put, List.setIfInBounds_toArray, List.set_cons_zero, List.set_cons_succ]
        refine wpAnyH_take (i := 6) (oi := { dst := some 24, op := _, type := _, pos := _, after := _, guard := _ }) (v := ?_) rfl (by kernel_rfl) (by kernel_rfl) (by kernel_rfl) (fun _ _ _ h => h) (Or.inl ⟨by rfl, ?_⟩) hH ?_
        rotate_left 1
        · intro W hSw
          (try dsimp only at hSw)
          go_simp
          (try with_reducible rfl)
        try simp only [Act.put, List.setIfInBounds_toArray, List.set_cons_zero, List.set_cons_succ]
        refine wpAnyH_take (i := 7) (oi := { dst := some 25, op := _, type := _, pos := _, after := _, guard := _ }) (v := ?_) rfl (by kernel_rfl) (by kernel_rfl) (by kernel_rfl) (fun _ _ _ h => h) (Or.inl ⟨by rfl, ?_⟩) hH ?_
        rotate_left 1
        · intro W hSw
          (try dsimp only at hSw)
          go_simp
          (try with_reducible rfl)
        try simp only [Act.put, List.setIfInBounds_toArray, List.set_cons_zero, List.set_cons_succ]
        refine wpAnyH_take (i := 8) (oi := { dst := some 26, op := _, type := _, pos := _, after := _, guard := _ }) (v := ?_) rfl (by kernel_rfl) (by kernel_rfl) (by kernel_rfl) (fun _ _ _ h => h) (Or.inl ⟨by rfl, ?_⟩) hH ?_
        rotate_left 1
        · intro W hSw
          (try dsimp only at hSw)
          go_simp
          (try with_reducible rfl)
        try simp only [Act.put, List.setIfInBounds_toArray, List.set_cons_zero, List.set_cons_succ]
        refine wpAnyH_ready (rs := [9]) (by kernel_rfl) (by simp) (AllReadyH.cons rfl (fun K hK => ?_) AllReadyH.nil)
        go_simp
        go_at_call 102; ((with_reducible refine (CC.out _).mono ?_); rintro e r1 ⟨rfl, hb9⟩); go_wp2_with fail
        refine hK.out _ _ ?_ (fun hG => ?_)
        · exact ⟨cell_below hb9 hH.1, cell_below hb9 hH.2.1, cell_below hb9 hH.2.2.1, cell_below hb9 hH.2.2.2.1, cell_below hb9 hH.2.2.2.2.1, cell_below hb9 hH.2.2.2.2.2.1, cell_below hb9 hH.2.2.2.2.2.2.1, cell_below hb9 hH.2.2.2.2.2.2.2.1, cell_below hb9 hH.2.2.2.2.2.2.2.2.1, cell_below hb9 hH.2.2.2.2.2.2.2.2.2.1, cell_below hb9 hH.2.2.2.2.2.2.2.2.2.2.1, cell_below hb9 hH.2.2.2.2.2.2.2.2.2.2.2.1, cell_below hb9 hH.2.2.2.2.2.2.2.2.2.2.2.2.1, cell_below hb9 hH.2.2.2.2.2.2.2.2.2.2.2.2.2.1, cell_below hb9 hH.2.2.2.2.2.2.2.2.2.2.2.2.2.2.1, cell_below hb9 hH.2.2.2.2.2.2.2.2.2.2.2.2.2.2.2.1, Below.trans hH.2.2.2.2.2.2.2.2.2.2.2.2.2.2.2.2 (hb9.mono hH.2.2.2.2.2.2.2.2.2.2.2.2.2.2.2.2.size)⟩
        replace hH := hG
        clear hK K hG
        try simp only [Act.put, List.setIfInBounds_toArray, List.set_cons_zero, List.set_cons_succ]
        refine wpAnyH_take (i := 10) (oi := { dst := some 28, op := _, type := _, pos := _, after := _, guard := _ }) (v := ?_) rfl (by kernel_rfl) (by kernel_rfl) (by kernel_rfl) (fun _ _ _ h => h) (Or.inl ⟨by rfl, ?_⟩) hH ?_
        rotate_left 1
        · intro W hSw
          (try dsimp only at hSw)
          go_simp
          (try with_reducible rfl)
        try simp only [Act.put, List.setIfInBounds_toArray, List.set_cons_zero, List.set_cons_succ]
        refine wpAnyH_take (i := 11) (oi := { dst := some 29, op := _, type := _, pos := _, after := _, guard := _ }) (v := ?_) rfl (by kernel_rfl) (by kernel_rfl) (by kernel_rfl) (fun _ _ _ h => h) (Or.inl ⟨by rfl, ?_⟩) hH ?_
        rotate_left 1
        · intro W hSw
          (try dsimp only at hSw)
          go_simp
          (try with_reducible rfl)
        try simp only [Act.put, List.setIfInBounds_toArray, List.set_cons_zero, List.set_cons_succ]
        refine wpAnyH_done (by kernel_rfl) ?_ _
        refine NoPanic.normal ?_
        have B4 := Lib.hid (B1.out.trans (hH.2.2.2.2.2.2.2.2.2.2.2.2.2.2.2.2.mono B1.out.size))
        clear hH k0 k1 k2 k3 k4 k5 k6 k7 p1 f0 f1 f2 f3 f4 f5 f6 f7
        go_wp2_with fail
      · have HH := Lib.hid (show rig zs = false from rig_no fun H => by have := H.2 k _ HZ.out; rw [HO.out] at this; cases this.2.1)
        go_ret
        exact ⟨by rw [HH.out]; rfl, B4.out⟩
      · go_roundw
        case rel => exact ⟨k + 1, by omega, by go_num, Lib.hid (fun j d hj hd => by
          by_cases e : j = k
          · subst e; rw [HZ.out] at hd; cases hd; exact ⟨HBD.out, HO.out⟩
          · exact AK.out j d (by omega) hd), B4⟩
        case measure => simp [intOf]; omega
    · obtain rfl : k = n0 := by omega
      have HE := Lib.hid (show heldB zs = rig zs by
        have hall : ∀ (j : Nat) (d : D), zs[j]? = some d → dB d = true ∧ ordA zs j = true := fun j d hd => AK.out j d (by have := (List.getElem?_eq_some_iff.1 hd).1; rw [HN.out] at this; exact this) hd
        by_cases hh : Held zs
        · rw [held_yes hh, rig_yes ⟨by rw [HN.out]; omega, fun j d hd => ⟨(hall j d hd).1, (hall j d hd).2, hh j d hd⟩⟩]
        · rw [held_no hh, rig_no fun H => hh fun j d hd => (H.2 j d hd).2.2])
      have CA := Lib.hid (areHeld A k c9 zs wr HN.out hb ((HR.out.below BK.out).more BK.out.size))
      rw [HE.out] at CA
      go_wp2_with fail
      refine CA.out.mono ?_
      rintro e w1 ⟨rfl, hb1⟩
      have B1 := Lib.hid (BK.out.trans (hb1.mono BK.out.size))
      clear hb1
      go_wp2_with fail
      go_ret
      exact ⟨rfl, B1.out⟩
end Go.Proofs.YtokncfhpmjohdabGreat.Iq
namespace Go.Proofs.YtokncfhpmjohdabGreat.Sf
open Go.RowKit Go.Proofs.YtokncfhpmjohdabGreat.Cm Go.Proofs.YtokncfhpmjohdabGreat.Pl Go.Proofs.YtokncfhpmjohdabGreat.Str Go.Proofs.YtokncfhpmjohdabGreat.Pw Go.Proofs.YtokncfhpmjohdabGreat.P2
set_option linter.unusedVariables false

theorem units (w : World) : Calls Tryz.prog 87 #[] w fun e w' => e = .returned (.slice (some ⟨w.heap.size, 0, none⟩) 4 4) ∧ w' = w.alloc (.cells #[.complex .f32 1065353216 0, .complex .f32 0 1065353216, .complex .f32 3212836864 0, .complex .f32 0 3212836864] 71) := by
  go_enter Tryz.func87, Tryz.ntmps87
  go_wp2
  go_returns
  exact ⟨rfl, rfl⟩

theorem i32_0 : I32 0 0 := ⟨false, by decide, by decide⟩

end Go.Proofs.YtokncfhpmjohdabGreat.Sf
namespace Go.Proofs.YtokncfhpmjohdabGreat.Dp
open Go.RowKit Go.Proofs.YtokncfhpmjohdabGreat.Cx Go.Proofs.YtokncfhpmjohdabGreat.Cm Go.Proofs.YtokncfhpmjohdabGreat.Pl Go.Proofs.YtokncfhpmjohdabGreat.Str Go.Proofs.YtokncfhpmjohdabGreat.Pw Go.Proofs.YtokncfhpmjohdabGreat.P2 Go.Proofs.YtokncfhpmjohdabGreat.Hd Go.Proofs.YtokncfhpmjohdabGreat.Sf Go.Proofs.YtokncfhpmjohdabGreat.Jt
set_option linter.unusedVariables false
set_option linter.unusedSimpArgs false

theorem grown_trans {a b c : World} {row : Option Nat} (h : a.grownBy b row) (k : b.grownBy c row) : a.grownBy c row :=
  ⟨k.os.trans h.os, k.tape.trans h.tape, k.output.trans h.output, Nat.le_trans h.size k.size, fun j hj hr => (k.block j (Nat.lt_of_lt_of_le hj h.size) hr).trans (h.block j hj hr)⟩
theorem grown_refl (w : World) (r : Option Nat) : w.grownBy w r := ⟨rfl, rfl, rfl, Nat.le_refl _, fun _ _ _ => rfl⟩
theorem grown_drew (w : World) (r : Option Nat) : w.grownBy w.drew r := ⟨rfl, rfl, rfl, Nat.le_refl _, fun _ _ _ => rfl⟩
theorem grown_set (w : World) (g j : Nat) (v : Value) : w.grownBy (w.setCell ⟨g, j, none⟩ v) (some g) :=
  ⟨rfl, rfl, rfl, by simp [World.setCell], fun k _ hr => Below.heap_setCell _ _ _ _ (by show k ≠ g; exact fun e => hr (by rw [e]))⟩

theorem wp_still_tail {P : Program} {id : Nat} {Q : Exit → Act → World → Prop} {a : Act} {w : World} {l : List Oper} (n : Nat) (hm : P.follows .mixedOrders = true) (hB : Region.lexTailB .any l.toArray n = true)
    (h : ∀ W2, W2 = w.drew → wpStill P l.toArray W2 (fun a' => wpList P l.toArray Q (l.drop n) a' W2) (l.take n) a) : (Code.region id l.toArray true).wp P Q a w := wp_region_still_tail n hm hB (h _ rfl)

@[go_sem] theorem run_store_float (P : Program) (w : World) (a : Addr) (m : Mode) (k : FloatKind) (b : Nat) : (store a (.float k b) m).run P w = stored P w a (.float k b) m := run_store P w a _ m rfl
@[go_sem] theorem run_store_complex (P : Program) (w : World) (a : Addr) (m : Mode) (k : FloatKind) (b c : Nat) : (store a (.complex k b c) m).run P w = stored P w a (.complex k b c) m := run_store P w a _ m rfl

/-- Block b is a drop of these words. -/
def DB (w : World) (b : Nat) (x y p q h s : Nat) : Prop := w.heap[b]? = some (.cells #[.complex .f32 x y, .complex .f32 p q, .float .f32 h, .float .f32 s] 122 (0, 0))

section
variable {w w' : World} {b b' : Nat} {x y p q h s : Nat}
theorem DB.c0 (k : DB w b x y p q h s) : w.cell? ⟨b, 0, none⟩ = some (.complex .f32 x y) := by simp [World.cell?, show w.heap[b]? = _ from k]
theorem DB.c1 (k : DB w b x y p q h s) : w.cell? ⟨b, 1, none⟩ = some (.complex .f32 p q) := by simp [World.cell?, show w.heap[b]? = _ from k]
theorem DB.c2 (k : DB w b x y p q h s) : w.cell? ⟨b, 2, none⟩ = some (.float .f32 h) := by simp [World.cell?, show w.heap[b]? = _ from k]
theorem DB.c3 (k : DB w b x y p q h s) : w.cell? ⟨b, 3, none⟩ = some (.float .f32 s) := by simp [World.cell?, show w.heap[b]? = _ from k]
theorem DB.f0 (k : DB w b x y p q h s) : w.frozen? ⟨b, 0, none⟩ = false := by simp [World.frozen?, show w.heap[b]? = _ from k]
theorem DB.f2 (k : DB w b x y p q h s) : w.frozen? ⟨b, 2, none⟩ = false := by simp [World.frozen?, show w.heap[b]? = _ from k]
theorem DB.f3 (k : DB w b x y p q h s) : w.frozen? ⟨b, 3, none⟩ = false := by simp [World.frozen?, show w.heap[b]? = _ from k]
theorem DB.lt (k : DB w b x y p q h s) : b < w.heap.size := (Array.getElem?_eq_some_iff.1 k).1
theorem DB.drew (k : DB w b x y p q h s) : DB w.drew b x y p q h s := k
theorem DB.new (w : World) (x y p q h s : Nat) : DB (w.alloc (.cells #[.complex .f32 x y, .complex .f32 p q, .float .f32 h, .float .f32 s] 122)) w.heap.size x y p q h s := heap_alloc_new w _
theorem DB.below (k : DB w b x y p q h s) (hb : Below w.heap.size w w') : DB w' b x y p q h s := (hb.block b k.lt).trans k
theorem DB.grown {r : Option Nat} (k : DB w b x y p q h s) (g : w.grownBy w' r) (hr : some b ≠ r) : DB w' b x y p q h s := (g.block b k.lt hr).trans k
theorem DB.set0 (u v : Nat) (k : DB w b x y p q h s) : DB (w.setCell ⟨b, 0, none⟩ (.complex .f32 u v)) b u v p q h s := by
  obtain ⟨hlt, hk⟩ := Array.getElem?_eq_some_iff.1 k
  show (w.heap.modify b _)[b]? = _
  rw [Array.getElem?_eq_getElem (by rw [Array.size_modify]; exact hlt), Array.getElem_modify_self, hk]
  rfl
theorem DB.set2 (u : Nat) (k : DB w b x y p q h s) : DB (w.setCell ⟨b, 2, none⟩ (.float .f32 u)) b x y p q u s := by
  obtain ⟨hlt, hk⟩ := Array.getElem?_eq_some_iff.1 k
  show (w.heap.modify b _)[b]? = _
  rw [Array.getElem?_eq_getElem (by rw [Array.size_modify]; exact hlt), Array.getElem_modify_self, hk]
  rfl
theorem DB.set3 (u : Nat) (k : DB w b x y p q h s) : DB (w.setCell ⟨b, 3, none⟩ (.float .f32 u)) b x y p q h u := by
  obtain ⟨hlt, hk⟩ := Array.getElem?_eq_some_iff.1 k
  show (w.heap.modify b _)[b]? = _
  rw [Array.getElem?_eq_getElem (by rw [Array.size_modify]; exact hlt), Array.getElem_modify_self, hk]
  rfl
end

/-- Block b is a drop at this place, with this way and height and speed, in eighths. -/
def Fly (w : World) (b : Nat) (X Y P Q H S : Int) : Prop := ∃ x y p q h s : Nat, DB w b x y p q h s ∧ I32 X x ∧ I32 Y y ∧ I32 P p ∧ I32 Q q ∧ I32 H h ∧ I32 S s

theorem Fly.lt {w : World} {b : Nat} {X Y P Q H S : Int} (k : Fly w b X Y P Q H S) : b < w.heap.size := let ⟨_, _, _, _, _, _, d, _⟩ := k; d.lt
theorem Fly.below {w w' : World} {b : Nat} {X Y P Q H S : Int} (k : Fly w b X Y P Q H S) (hb : Below w.heap.size w w') : Fly w' b X Y P Q H S :=
  let ⟨x, y, p, q, h, s, d, i⟩ := k; ⟨x, y, p, q, h, s, d.below hb, i⟩
theorem Fly.grown {w w' : World} {b : Nat} {X Y P Q H S : Int} {r : Option Nat} (k : Fly w b X Y P Q H S) (g : w.grownBy w' r) (hr : some b ≠ r) : Fly w' b X Y P Q H S :=
  let ⟨x, y, p, q, h, s, d, i⟩ := k; ⟨x, y, p, q, h, s, d.grown g hr, i⟩

theorem fadd {P : Program} {a b : Int} {x y : Nat} (ha : a.natAbs < 16777216) (hb : b.natAbs < 16777216) (hx : I32 a x) (hy : I32 b y) : ∃ r, (∀ t w, (binOp .add t (.float .f32 x) (.float .f32 y)).run P w = .ok (.float .f32 r) w) ∧ I32 (a + b) r := by
  obtain ⟨r, h1, h2⟩ := add_is (s32 a ha) (s32 b hb) hx hy
  exact ⟨r, fun t w => run_float_arith w .add t .f32 x y r h1, h2⟩
theorem fsub {P : Program} {a b : Int} {x y : Nat} (ha : a.natAbs < 16777216) (hb : b.natAbs < 16777216) (hx : I32 a x) (hy : I32 b y) : ∃ r, (∀ t w, (binOp .sub t (.float .f32 x) (.float .f32 y)).run P w = .ok (.float .f32 r) w) ∧ I32 (a - b) r := by
  obtain ⟨r, h1, h2⟩ := sub_is (s32 a ha) (s32 b hb) hx hy
  exact ⟨r, fun t w => run_float_arith w .sub t .f32 x y r h1, h2⟩

theorem whole2 (w : World) : Calls Tryz.prog 88 #[.int .i64 2] w fun e w' => e = .returned (.float .f32 (Meas.f32 2)) ∧ w' = w := (Meas.wholesOf 2 (by decide) w).mono fun _ _ h => ⟨h.1, h.2.symm⟩

/-- What a tick leaves. -/
def Ticked (w : World) (b : Nat) (X Y P Q H S : Int) (e : Ending) (w' : World) : Prop := e = .returned (.tuple #[]) ∧ Fly w' b X Y P Q H S ∧ w.grownBy w' (some b)

set_option maxHeartbeats 2000000 in
set_option maxRecDepth 100000 in
theorem fly {w : World} {b : Nat} {X Y P Q H S : Int} (k : Fly w b X Y P Q H S) (hX : X.natAbs < 8388608) (hY : Y.natAbs < 8388608) (hP : P.natAbs < 8388608) (hQ : Q.natAbs < 8388608) (hH : H.natAbs < 8388608) (hS : S.natAbs < 8388608) :
    Calls Tryz.prog 50 #[.pointer (some ⟨b, 0, none⟩)] w (Ticked w b (X + P) (Y + Q) P Q (H + S) (S - 2)) := by
  obtain ⟨x, y, p, q, h, s, hD, i1, i2, i3, i4, i5, i6⟩ := k
  obtain ⟨u, v, e1, j1, j2⟩ := csum (P := Tryz.prog) .add 1 (Or.inl ⟨rfl, rfl⟩) hX hY hP hQ i1 i2 i3 i4
  obtain ⟨g, e2, j3⟩ := fadd (P := Tryz.prog) (by omega) (by omega) i5 i6
  obtain ⟨r, e3, j4⟩ := fsub (P := Tryz.prog) (b := 2) (by omega) (by decide) i6 (i32_f32 2)
  rw [Int.one_mul] at j1 j2
  have J := Lib.hid (And.intro j1 (And.intro j2 (And.intro i3 (And.intro i4 (And.intro j3 j4)))))
  have D := Lib.hid hD
  have W2 := Lib.hid whole2
  clear i1 i2 i3 i4 i5 i6 j1 j2 j3 j4 hD hX hY hP hQ hH hS
  go_enter Tryz.func50, Tryz.ntmps50
  go_wp2_with fail
  refine wp_still_tail 11 (by kernel_rfl) (by kernel_rfl) ?_
  intro V hV
  have D1 := Lib.hid (show DB V b x y p q h s by rw [hV]; exact D.out.drew)
  have G1 := Lib.hid (show w.grownBy V (some b) by rw [hV]; exact grown_drew _ _)
  have c0 := D1.out.c0
  have c1 := D1.out.c1
  have f0 := D1.out.f0
  clear hV D
  simp only [List.take_succ_cons, List.take_zero, List.drop_succ_cons, List.drop_zero]
  repeat still_step
  refine wpStill_nil ?_
  clear c1
  go_wp2_with fail
  clear c0 f0
  refine wp_still_tail 11 (by kernel_rfl) (by kernel_rfl) ?_
  intro V2 hV
  have D2 := Lib.hid (show DB V2 b u v p q h s by rw [hV]; exact (D1.out.set0 u v).drew)
  have G2 := Lib.hid (show w.grownBy V2 (some b) by rw [hV]; exact grown_trans G1.out (grown_trans (grown_set _ _ _ _) (grown_drew _ _)))
  have c2 := D2.out.c2
  have c3 := D2.out.c3
  have f2 := D2.out.f2
  clear hV D1 G1
  simp only [List.take_succ_cons, List.take_zero, List.drop_succ_cons, List.drop_zero]
  repeat still_step
  refine wpStill_nil ?_
  clear c3
  go_wp2_with fail
  clear c2 f2
  refine wp_still_tail 8 (by kernel_rfl) (by kernel_rfl) ?_
  intro V3 hV
  have D3 := Lib.hid (show DB V3 b u v p q g s by rw [hV]; exact (D2.out.set2 g).drew)
  have G3 := Lib.hid (show w.grownBy V3 (some b) by rw [hV]; exact grown_trans G2.out (grown_trans (grown_set _ _ _ _) (grown_drew _ _)))
  have c3 := D3.out.c3
  have f3 := D3.out.f3
  clear hV D2 G2
  simp only [List.take_succ_cons, List.take_zero, List.drop_succ_cons, List.drop_zero]
  iterate 4 still_step
  still_call (W2.out _)
  repeat still_step
  refine wpStill_nil ?_
  go_wp2_with fail
  go_returns
  exact ⟨rfl, ⟨u, v, p, q, g, r, D3.out.set3 r, J.out⟩, grown_trans G3.out (grown_set _ _ _ _)⟩

end Go.Proofs.YtokncfhpmjohdabGreat.Dp
namespace Go.Proofs.YtokncfhpmjohdabGreat.Dp
open Go.RowKit Go.Proofs.YtokncfhpmjohdabGreat.Cx Go.Proofs.YtokncfhpmjohdabGreat.Cm Go.Proofs.YtokncfhpmjohdabGreat.Pl Go.Proofs.YtokncfhpmjohdabGreat.Str Go.Proofs.YtokncfhpmjohdabGreat.Pw Go.Proofs.YtokncfhpmjohdabGreat.P2 Go.Proofs.YtokncfhpmjohdabGreat.Hd Go.Proofs.YtokncfhpmjohdabGreat.Sf Go.Proofs.YtokncfhpmjohdabGreat.Jt
set_option linter.unusedVariables false
set_option linter.unusedSimpArgs false

/-- The height behind k ticks. -/
def hg (l : Int) (k : Nat) : Int := (k : Int) * (l + 1 - k)
theorem hg_succ (l : Int) (k : Nat) : hg l k + (l - 2 * k) = hg l (k + 1) := by
  unfold hg
  have e : (((k + 1 : Nat) : Int)) = (k : Int) + 1 := by omega
  rw [e]
  generalize (k : Int) = m
  have h1 : (m + 1) * (l + 1 - (m + 1)) = m * (l + 1 - (m + 1)) + (l + 1 - (m + 1)) := by rw [Int.add_mul, Int.one_mul]
  have h2 : m * (l + 1 - (m + 1)) = m * (l + 1 - m) - m := by
    rw [show l + 1 - (m + 1) = (l + 1 - m) - 1 by omega, Int.mul_sub, Int.mul_one]
  rw [h1, h2]; omega
theorem hg_zero (l : Int) : hg l 0 = 0 := by unfold hg; simp
theorem hg_end {l : Int} {k : Nat} (h : (k : Int) = l + 1) : hg l k = 0 := by unfold hg; rw [h]; simp
theorem hg_nonneg {l : Int} {k : Nat} (h : (k : Int) ≤ l + 1) : 0 ≤ hg l k := Int.mul_nonneg (by omega) (by omega)
theorem hg_pos {l : Int} {k : Nat} (h0 : 1 ≤ k) (h : (k : Int) ≤ l) : 0 < hg l k := Int.mul_pos (by omega) (by omega)
theorem hg_le {l : Int} {k : Nat} (h : (k : Int) ≤ l + 1) (hl : l ≤ 32) : hg l k ≤ 1089 :=
  Int.le_trans (Int.mul_le_mul (a := (k : Int)) (b := l + 1 - k) (c := 33) (d := 33) (by omega) (by omega) (by omega) (by omega)) (by omega)

/-- Where it is behind k ticks. -/
def wy (X P : Int) (k : Nat) : Int := X + (k : Int) * P
theorem wy_zero (X P : Int) : wy X P 0 = X := by unfold wy; simp
theorem wy_succ (X P : Int) (k : Nat) : wy X P k + P = wy X P (k + 1) := by
  unfold wy
  rw [show (((k + 1 : Nat) : Int)) = (k : Int) + 1 by omega, Int.add_mul, Int.one_mul]; omega
theorem wy_le {X P : Int} {k : Nat} (hX : -1024 ≤ X ∧ X ≤ 1024) (hP : -16 ≤ P ∧ P ≤ 16) (hk : k ≤ 33) : -1552 ≤ wy X P k ∧ wy X P k ≤ 1552 := by
  unfold wy
  have h1 : (k : Int) * P ≤ (k : Int) * 16 := Int.mul_le_mul_of_nonneg_left hP.2 (by omega)
  have h2 : (k : Int) * (-16) ≤ (k : Int) * P := Int.mul_le_mul_of_nonneg_left hP.1 (by omega)
  omega

/-- What a drop of this jet is behind k ticks. -/
def At (w : World) (b : Nat) (X Y P Q l : Int) (k : Nat) : Prop := Fly w b (wy X P k) (wy Y Q k) P Q (hg l k) (l - 2 * k)

structure Ok (X Y P Q l : Int) : Prop where
  x : -1024 ≤ X ∧ X ≤ 1024
  y : -1024 ≤ Y ∧ Y ≤ 1024
  p : -16 ≤ P ∧ P ≤ 16
  q : -16 ≤ Q ∧ Q ≤ 16
  l : 1 ≤ l ∧ l ≤ 32

theorem At.tick {w : World} {b : Nat} {X Y P Q l : Int} {k : Nat} (o : Ok X Y P Q l) (h : At w b X Y P Q l k) (hk : (k : Int) ≤ l + 1) :
    Calls Tryz.prog 50 #[.pointer (some ⟨b, 0, none⟩)] w fun e w' => e = .returned (.tuple #[]) ∧ At w' b X Y P Q l (k + 1) ∧ w.grownBy w' (some b) := by
  have b1 := wy_le (k := k) o.x o.p (by have := o.l; omega)
  have b2 := wy_le (k := k) o.y o.q (by have := o.l; omega)
  have b3 := hg_le hk o.l.2
  have b4 := hg_nonneg hk
  have hp := o.p
  have hq := o.q
  have hl := o.l
  refine (fly h (by omega) (by omega) (by omega) (by omega) (by omega) (by omega)).mono fun e w' r => ⟨r.1, ?_, r.2.2⟩
  have := r.2.1
  rw [wy_succ, wy_succ, hg_succ] at this
  unfold At
  rw [show l - 2 * (((k + 1 : Nat) : Int)) = l - 2 * (k : Int) - 2 by omega]
  exact this

theorem leq0 {n : Int} {x : Nat} (hn : n.natAbs < 16777216) (h : I32 n x) : (FloatKind.f32.format.order x 0 == some .lt || FloatKind.f32.format.order x 0 == some .eq) = decide (n ≤ 0) := by
  have o : FloatKind.f32.format.order x 0 = some (compare n 0) := order_is (s32 n hn) (s32 0 (by decide)) h i32_0
  rw [o]
  rcases (by omega : n < 0 ∨ n = 0 ∨ 0 < n) with c | c | c
  · rw [Meas.cmp_lt c, decide_eq_true (by omega)]; rfl
  · rw [Meas.cmp_eq c, decide_eq_true (by omega)]; rfl
  · rw [Meas.cmp_gt c, decide_eq_false (by omega)]; rfl

theorem isDown {w : World} {b : Nat} {X Y P Q H S : Int} {c : Bool} (k : Fly w b X Y P Q H S) (hn : H.natAbs < 16777216) (hc : decide (H ≤ 0) = c) :
    Calls Tryz.prog 142 #[.pointer (some ⟨b, 0, none⟩)] w fun e w' => e = .returned (.bool c) ∧ w = w' := by
  obtain ⟨x, y, p, q, h, s, hD, i1, i2, i3, i4, i5, i6⟩ := k
  have c0 := hD.c2
  have o := leq0 hn i5
  rw [hc] at o
  clear hD i1 i2 i3 i4 i5 i6 hc hn
  go_enter Tryz.func142, Tryz.ntmps142
  go_wp2
  go_returns
  exact ⟨rfl, rfl⟩

theorem risesNoMore {w : World} {b : Nat} {X Y P Q H S : Int} {c : Bool} (k : Fly w b X Y P Q H S) (hn : S.natAbs < 16777216) (hc : decide (S ≤ 0) = c) :
    Calls Tryz.prog 51 #[.pointer (some ⟨b, 0, none⟩)] w fun e w' => e = .returned (.bool c) ∧ w = w' := by
  obtain ⟨x, y, p, q, h, s, hD, i1, i2, i3, i4, i5, i6⟩ := k
  have c0 := hD.c3
  have o := leq0 hn i6
  rw [hc] at o
  clear hD i1 i2 i3 i4 i5 i6 hc hn
  go_enter Tryz.func51, Tryz.ntmps51
  go_wp2
  go_returns
  exact ⟨rfl, rfl⟩

end Go.Proofs.YtokncfhpmjohdabGreat.Dp
namespace Go.Proofs.YtokncfhpmjohdabGreat.Dp
open Go.RowKit Go.Proofs.YtokncfhpmjohdabGreat.Cx Go.Proofs.YtokncfhpmjohdabGreat.Cm Go.Proofs.YtokncfhpmjohdabGreat.Pl Go.Proofs.YtokncfhpmjohdabGreat.Str Go.Proofs.YtokncfhpmjohdabGreat.Pw Go.Proofs.YtokncfhpmjohdabGreat.P2 Go.Proofs.YtokncfhpmjohdabGreat.Hd Go.Proofs.YtokncfhpmjohdabGreat.Sf Go.Proofs.YtokncfhpmjohdabGreat.Jt
set_option linter.unusedVariables false
set_option linter.unusedSimpArgs false

theorem ret_i {a b : Int} (h : a = b) : Ending.returned (.int .i64 a) = .returned (.int .i64 b) := by rw [h]

/-- What counting leaves: N ticks were counted, and the drop is where it is then. -/
def Counted (w : World) (b : Nat) (X Y P Q l : Int) (N : Nat) (e : Ending) (w' : World) : Prop :=
  e = .returned (.int .i64 N) ∧ At w' b X Y P Q l N ∧ w.grownBy w' (some b)
/-- What a repetition leaves. -/
def Gone (w : World) (b : Nat) (X Y P Q l : Int) (N : Nat) (e : Ending) (w' : World) : Prop :=
  e = .returned (.tuple #[]) ∧ At w' b X Y P Q l N ∧ w.grownBy w' (some b)

set_option maxHeartbeats 1000000 in
theorem until_isDown {w : World} {b : Nat} {X Y P Q l : Int} {N : Nat} (o : Ok X Y P Q l) (hN : (N : Int) = l + 1) (h : At w b X Y P Q l 0) :
    Calls Tryz.prog 49 #[.func (.func 50) #[.pointer (some ⟨b, 0, none⟩)] #[], .func (.func 142) #[.pointer (some ⟨b, 0, none⟩)] #[]] w (Counted w b X Y P Q l N) := by
  have hl := o.l
  have O := Lib.hid o
  have H0 := Lib.hid h
  clear o h
  go_enter Tryz.func49, Tryz.ntmps49
  go_wp2_with fail
  refine (At.tick O.out H0.out (by omega)).mono ?_
  rintro e w1 ⟨rfl, h1, g1⟩
  have H1 := Lib.hid h1
  have G1 := Lib.hid g1
  clear h1 g1
  go_wp2_with fail
  go_loopw [5] (fun n wr => ∃ k : Nat, 1 ≤ k ∧ k ≤ N ∧ n = .int .i64 k ∧ Hid (At wr b X Y P Q l k) ∧ Hid (w.grownBy wr (some b))) (fun n _ => N - (intOf n).toNat)
  case atStart => exact ⟨1, by omega, by omega, rfl, H1, G1⟩
  case round =>
    obtain ⟨k, k1, k2, rfl, HK, GK⟩ := hrel
    have b3 := hg_le (k := k) (by omega) hl.2
    have b4 := hg_nonneg (l := l) (k := k) (by omega)
    by_cases hlt : k < N
    · have C := Lib.hid (isDown (c := false) HK.out (by omega) (decide_eq_false (by have := hg_pos (l := l) k1 (by omega); omega)))
      clear b3 b4
      go_wp2_with fail
      refine C.out.mono ?_
      rintro e w' ⟨rfl, rfl⟩
      go_wp2_with fail
      refine (At.tick O.out HK.out (by omega)).mono ?_
      rintro e w2 ⟨rfl, h2, g2⟩
      have H2 := Lib.hid h2
      have G2 := Lib.hid (grown_trans GK.out g2)
      clear h2 g2
      go_wp2_with fail
      go_roundw
      case rel => exact ⟨k + 1, by omega, by omega, by go_num, H2, G2⟩
      case measure => simp [intOf]; omega
    · have hk : k = N := by omega
      have C := Lib.hid (isDown (c := true) HK.out (by omega) (decide_eq_true (by rw [hg_end (by omega)]; decide)))
      clear b3 b4
      have HK2 := Lib.hid (hk ▸ HK.out)
      have RI := Lib.hid (show Ending.returned (.int .i64 (k : Int)) = .returned (.int .i64 (N : Int)) by rw [hk])
      clear hk
      go_wp2_with fail
      refine C.out.mono ?_
      rintro e w' ⟨rfl, rfl⟩
      go_wp2_with fail
      go_returns
      exact ⟨RI.out, HK2.out, GK.out⟩

set_option maxHeartbeats 1000000 in
theorem until_risesNoMore {w : World} {b : Nat} {X Y P Q l : Int} {N : Nat} (o : Ok X Y P Q l) (hN : (N : Int) = (l + 1) / 2) (h : At w b X Y P Q l 0) :
    Calls Tryz.prog 49 #[.func (.func 50) #[.pointer (some ⟨b, 0, none⟩)] #[], .func (.func 51) #[.pointer (some ⟨b, 0, none⟩)] #[]] w (Counted w b X Y P Q l N) := by
  have hl := o.l
  have O := Lib.hid o
  have H0 := Lib.hid h
  clear o h
  go_enter Tryz.func49, Tryz.ntmps49
  go_wp2_with fail
  refine (At.tick O.out H0.out (by omega)).mono ?_
  rintro e w1 ⟨rfl, h1, g1⟩
  have H1 := Lib.hid h1
  have G1 := Lib.hid g1
  clear h1 g1
  go_wp2_with fail
  go_loopw [5] (fun n wr => ∃ k : Nat, 1 ≤ k ∧ k ≤ N ∧ n = .int .i64 k ∧ Hid (At wr b X Y P Q l k) ∧ Hid (w.grownBy wr (some b))) (fun n _ => N - (intOf n).toNat)
  case atStart => exact ⟨1, by omega, by omega, rfl, H1, G1⟩
  case round =>
    obtain ⟨k, k1, k2, rfl, HK, GK⟩ := hrel
    have b3 := hg_le (k := k) (by omega) hl.2
    have b4 := hg_nonneg (l := l) (k := k) (by omega)
    by_cases hlt : k < N
    · have C := Lib.hid (risesNoMore (c := false) HK.out (by omega) (decide_eq_false (by omega)))
      clear b3 b4
      go_wp2_with fail
      refine C.out.mono ?_
      rintro e w' ⟨rfl, rfl⟩
      go_wp2_with fail
      refine (At.tick O.out HK.out (by omega)).mono ?_
      rintro e w2 ⟨rfl, h2, g2⟩
      have H2 := Lib.hid h2
      have G2 := Lib.hid (grown_trans GK.out g2)
      clear h2 g2
      go_wp2_with fail
      go_roundw
      case rel => exact ⟨k + 1, by omega, by omega, by go_num, H2, G2⟩
      case measure => simp [intOf]; omega
    · have hk : k = N := by omega
      have C := Lib.hid (risesNoMore (c := true) HK.out (by omega) (decide_eq_true (by omega)))
      clear b3 b4
      have HK2 := Lib.hid (hk ▸ HK.out)
      have RI := Lib.hid (show Ending.returned (.int .i64 (k : Int)) = .returned (.int .i64 (N : Int)) by rw [hk])
      clear hk
      go_wp2_with fail
      refine C.out.mono ?_
      rintro e w' ⟨rfl, rfl⟩
      go_wp2_with fail
      go_returns
      exact ⟨RI.out, HK2.out, GK.out⟩

set_option maxHeartbeats 1000000 in
theorem repeatTick {w : World} {b : Nat} {X Y P Q l : Int} {N : Nat} (o : Ok X Y P Q l) (hN : (N : Int) ≤ l + 1) (h : At w b X Y P Q l 0) :
    Calls Tryz.prog 153 #[.func (.func 50) #[.pointer (some ⟨b, 0, none⟩)] #[], .int .i64 N] w (Gone w b X Y P Q l N) := by
  have hl := o.l
  have O := Lib.hid o
  have H0 := Lib.hid h
  clear o h
  go_enter Tryz.func153, Tryz.ntmps153
  go_wp2_with fail
  go_loopw [5] (fun n wr => ∃ k : Nat, k ≤ N ∧ n = .int .i64 k ∧ Hid (At wr b X Y P Q l k) ∧ Hid (w.grownBy wr (some b))) (fun n _ => N - (intOf n).toNat)
  case atStart => exact ⟨0, by omega, rfl, H0, Lib.hid (grown_refl _ _)⟩
  case round =>
    obtain ⟨k, k2, rfl, HK, GK⟩ := hrel
    by_cases hlt : k < N
    · go_wp2_with fail
      refine (At.tick O.out HK.out (by omega)).mono ?_
      rintro e w2 ⟨rfl, h2, g2⟩
      have H2 := Lib.hid h2
      have G2 := Lib.hid (grown_trans GK.out g2)
      clear h2 g2
      go_wp2_with fail
      go_roundw
      case rel => exact ⟨k + 1, by omega, by go_num, H2, G2⟩
      case measure => simp [intOf]; omega
    · have hk : k = N := by omega
      have HK2 := Lib.hid (hk ▸ HK.out)
      clear hk
      go_wp2_with fail
      go_returns
      exact ⟨rfl, HK2.out, GK.out⟩

end Go.Proofs.YtokncfhpmjohdabGreat.Dp
