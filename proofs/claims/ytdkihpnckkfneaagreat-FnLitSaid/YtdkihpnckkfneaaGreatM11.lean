/- What the model answers for a heading that is turned. -/
import Derived.Test.YtdkihpnckkfneaaGreatM7
import Derived.Test.YtdkihpnckkfneaaGreatIr
import Derived.Test.YtdkihpnckkfneaaGreatIg
import Derived.Test.YtdkihpnckkfneaaGreatM8
import Derived.BigRegion
import Derived.Lib.SliceRun
import Derived.Deep.RegionLaw
import Derived.Deep.DeepCutAuto
namespace Go.Proofs.YtdkihpnckkfneaaGreat.Hd
open Go.RowKit Go.Proofs.YtdkihpnckkfneaaGreat.Cm Go.Proofs.YtdkihpnckkfneaaGreat.Pl
set_option linter.unusedVariables false

end Go.Proofs.YtdkihpnckkfneaaGreat.Hd
namespace Go.Proofs.YtdkihpnckkfneaaGreat.Mo
open Go.RowKit Go.ChangeShapes Go.WideShapes Go.WideElems Go.Deep Go.Proofs.YtdkihpnckkfneaaGreat.Mem Go.Proofs.YtdkihpnckkfneaaGreat.Rw Go.Proofs.YtdkihpnckkfneaaGreat.Pw Go.Proofs.YtdkihpnckkfneaaGreat.P2 Go.Proofs.YtdkihpnckkfneaaGreat.Dd Go.Proofs.YtdkihpnckkfneaaGreat.Dv Go.Proofs.YtdkihpnckkfneaaGreat.Dl Go.Proofs.YtdkihpnckkfneaaGreat.Ds Go.Proofs.YtdkihpnckkfneaaGreat.Fd Go.Proofs.YtdkihpnckkfneaaGreat.Ch Go.Proofs.YtdkihpnckkfneaaGreat.Hn Go.Proofs.YtdkihpnckkfneaaGreat.Po
set_option linter.unusedVariables false
set_option linter.unusedSimpArgs false
open Go.Proofs.YtdkihpnckkfneaaGreat.Cm Go.Proofs.YtdkihpnckkfneaaGreat.Pl Go.Proofs.YtdkihpnckkfneaaGreat.Str Go.Proofs.YtdkihpnckkfneaaGreat.Hd Go.Proofs.YtdkihpnckkfneaaGreat.Jt Go.Proofs.YtdkihpnckkfneaaGreat.Ho Go.Proofs.YtdkihpnckkfneaaGreat.Pa Go.Proofs.YtdkihpnckkfneaaGreat.Di Go.Proofs.YtdkihpnckkfneaaGreat.Ig Go.Proofs.YtdkihpnckkfneaaGreat.Ir Go.Proofs.YtdkihpnckkfneaaGreat.IsName
open Go.Proofs.YtdkihpnckkfneaaGreat.Rw (owns_below owns_grown)

/-- A device that is turned and moved. -/
def mvD (n a b : Int) (d : D) : D := if d.kd = 1 then d else ⟨d.nm, d.kd, d.ln, tx (n % 4).toNat d.x d.y + a, ty (n % 4).toNat d.x d.y + b, if d.kd = 2 then th d.hd n else d.hd, d.tl, d.ms⟩
theorem mvD_1 {n a b : Int} {d : D} (h : d.kd = 1) : mvD n a b d = d := by unfold mvD; rw [if_pos h]
theorem mvD_o {n a b : Int} {d : D} (h : d.kd ≠ 1) : mvD n a b d = ⟨d.nm, d.kd, d.ln, tx (n % 4).toNat d.x d.y + a, ty (n % 4).toNat d.x d.y + b, if d.kd = 2 then th d.hd n else d.hd, d.tl, d.ms⟩ := by unfold mvD; rw [if_neg h]
def AllV (n a b : Int) (zs : List D) : Prop := ∀ (k : Nat) (d : D), zs[k]? = some d → dB (mvD n a b d) = true
noncomputable def mvB (n a b : Int) (zs : List D) : Bool := @decide (AllV n a b zs) (Classical.propDecidable _)
theorem mvB_yes {n a b : Int} {zs : List D} (h : AllV n a b zs) : mvB n a b zs = true := by unfold mvB; exact @decide_eq_true _ (Classical.propDecidable _) h
theorem mvB_no {n a b : Int} {zs : List D} (h : ¬ AllV n a b zs) : mvB n a b zs = false := by unfold mvB; exact @decide_eq_false _ (Classical.propDecidable _) h
noncomputable def mvL (n a b : Int) (zs : List D) : List D := if mvB n a b zs = true then zs.map (mvD n a b) else []
theorem mvL_len (n a b : Int) (zs : List D) : (mvL n a b zs).length ≤ zs.length := by unfold mvL; split <;> simp
/-- The places of a valid device that is no pump. -/
theorem dB_place {d : D} (h : dB d = true) (h1 : d.kd ≠ 1) : (-4096 ≤ d.x ∧ d.x ≤ 4096) ∧ (-4096 ≤ d.y ∧ d.y ≤ 4096) := by
  unfold dB devB at h
  rw [Bool.and_eq_true, if_neg h1] at h
  by_cases h2 : d.kd = 2
  · rw [if_pos h2] at h
    unfold nozB at h
    rw [Bool.and_eq_true, Bool.and_eq_true] at h
    have := jt_iff.1 h.2.2.1
    omega
  · rw [if_neg h2] at h
    by_cases h3 : d.kd = 3
    · rw [if_pos h3] at h
      unfold lampB at h
      rw [Bool.and_eq_true, Bool.and_eq_true] at h
      exact pl_yes h.2.2.1
    · rw [if_neg h3] at h; cases h.2
theorem dB_kinds {d : D} (h : dB d = true) : d.kd = 1 ∨ d.kd = 2 ∨ d.kd = 3 := by
  unfold dB devB at h
  rw [Bool.and_eq_true] at h
  by_cases h1 : d.kd = 1
  · exact Or.inl h1
  by_cases h2 : d.kd = 2
  · exact Or.inr (Or.inl h2)
  by_cases h3 : d.kd = 3
  · exact Or.inr (Or.inr h3)
  · rw [if_neg h1, if_neg h2, if_neg h3] at h; cases h.2
theorem th_in {h n : Int} (e : hd h = true) : hd (th h n) = true := by
  unfold th; rw [if_pos e]; exact hd_mk (by omega)
/-- A valid device that is turned is valid. -/
theorem dB_turned (n : Int) {d : D} (h : dB d = true) : dB (mvD n 0 0 d) = true := by
  by_cases h1 : d.kd = 1
  · rw [mvD_1 h1]; exact h
  · rw [mvD_o h1]
    unfold dB devB at h ⊢
    simp only [] at h ⊢
    rw [Bool.and_eq_true] at h ⊢
    refine ⟨h.1, ?_⟩
    have h := h.2
    rw [if_neg h1] at h ⊢
    by_cases h2 : d.kd = 2
    · rw [if_pos h2] at h ⊢
      unfold nozB at h ⊢
      rw [Bool.and_eq_true, Bool.and_eq_true] at h ⊢
      refine ⟨h.1, ?_, h.2.2⟩
      have hj := jt_iff.1 h.2.1
      have b1 := txle (k := (n % 4).toNat) hj.1 hj.2.1
      have b2 := tyle (k := (n % 4).toNat) hj.1 hj.2.1
      have b3 := hd_yes (th_in (n := n) (hd_mk hj.2.2.1))
      rw [if_pos h2]
      exact jt_iff.2 (by omega)
    · rw [if_neg h2] at h ⊢
      by_cases h3 : d.kd = 3
      · rw [if_pos h3] at h ⊢
        unfold lampB at h ⊢
        rw [Bool.and_eq_true, Bool.and_eq_true] at h ⊢
        have hp := pl_yes h.2.1
        have b1 := txle (k := (n % 4).toNat) hp.1 hp.2
        have b2 := tyle (k := (n % 4).toNat) hp.1 hp.2
        rw [if_neg h2]
        exact ⟨h.1, pl_mk (by omega) (by omega), h.2.2⟩
      · rw [if_neg h3] at h; cases h

/-- A list of the call's own that holds these devices. -/
def RowD (w : World) (ds : List D) (e : Ending) (w' : World) : Prop :=
  ∃ g c, e = .returned (.slice (some ⟨g, 0, none⟩) ds.length c) ∧ w'.ownsRow w.heap.size 36 8 (.slice (some ⟨g, 0, none⟩) ds.length c) ds.length (dls ds) ∧ Below w.heap.size w w'
/-- .. and whether it has all of them. -/
def RowB (w : World) (ds : List D) (r : Bool) (e : Ending) (w' : World) : Prop :=
  ∃ g c, e = .returned (.tuple #[.slice (some ⟨g, 0, none⟩) ds.length c, .bool r]) ∧ w'.ownsRow w.heap.size 36 8 (.slice (some ⟨g, 0, none⟩) ds.length c) ds.length (dls ds) ∧ Below w.heap.size w w'
theorem own_mk {w : World} {base n : Nat} {v : Value} {xs : List Value} (h : w.ownsRow base 36 8 v (n + 1) xs) : ∃ g c, v = .slice (some ⟨g, 0, none⟩) (n + 1) c := by
  rcases h.2 with ⟨_, e⟩ | ⟨g, cap, cur, e, _⟩
  · omega
  · exact ⟨g, cap, e⟩
theorem own_drew {w : World} {base n : Nat} {v : Value} {xs : List Value} (h : w.ownsRow base 36 8 v n xs) : w.drew.ownsRow base 36 8 v n xs := ⟨h.1, h.2⟩
theorem own_base {w : World} {base n : Nat} {v : Value} {xs : List Value} (h : w.ownsRow base 36 8 v n xs) : ∀ k, v.ownBlock = some k → base ≤ k := fun k e => (h.lt k e).1

end Go.Proofs.YtdkihpnckkfneaaGreat.Mo
namespace Go.Proofs.YtdkihpnckkfneaaGreat.Iq
open Go.RowKit Go.ChangeShapes Go.WideShapes Go.WideElems Go.Deep Go.Proofs.YtdkihpnckkfneaaGreat.Mem Go.Proofs.YtdkihpnckkfneaaGreat.Rw Go.Proofs.YtdkihpnckkfneaaGreat.Pw Go.Proofs.YtdkihpnckkfneaaGreat.P2 Go.Proofs.YtdkihpnckkfneaaGreat.Dd Go.Proofs.YtdkihpnckkfneaaGreat.Dv Go.Proofs.YtdkihpnckkfneaaGreat.Dl Go.Proofs.YtdkihpnckkfneaaGreat.Ds Go.Proofs.YtdkihpnckkfneaaGreat.Fd Go.Proofs.YtdkihpnckkfneaaGreat.Ch Go.Proofs.YtdkihpnckkfneaaGreat.Hn Go.Proofs.YtdkihpnckkfneaaGreat.Po
set_option linter.unusedVariables false
set_option linter.unusedSimpArgs false
open Go.Proofs.YtdkihpnckkfneaaGreat.Ho Go.Proofs.YtdkihpnckkfneaaGreat.Pa Go.Proofs.YtdkihpnckkfneaaGreat.Di Go.Proofs.YtdkihpnckkfneaaGreat.Ig

set_option maxHeartbeats 8000000 in
set_option maxRecDepth 100000 in
theorem rigI (A : Option Addr) (n0 c9 : Nat) (zs : List D) (w : World) (hn : zs.length = n0) (hb : n0 ≤ 1048576) (hr : Rd w w.heap.size A (dls zs)) :
    Calls Tryz.prog 37 #[.slice A n0 c9] w fun e w' => e = .returned (.bool (rig zs)) ∧ Below w.heap.size w w' := by
  have hu : undef = Value.tuple #[] := rfl
  have HR := Lib.hid hr
  have HN := Lib.hid hn
  clear hr hn
  by_cases h8 : (8 : Int) < (n0 : Int)
  · have HH := Lib.hid (show rig zs = false from rig_no fun H => by have := H.1; rw [HN.out] at this; omega)
    go_enter Tryz.func37, Tryz.ntmps37
    go_wp2_with fail
    go_returns
    exact ⟨by rw [HH.out]; rfl, Below.refl _ _⟩
  go_enter Tryz.func37, Tryz.ntmps37
  go_wp2_with fail
  go_loopw [10] (fun i wr => ∃ k : Nat, k ≤ n0 ∧ i = .int .i64 k ∧ Hid (∀ (j : Nat) (d : D), j < k → zs[j]? = some d → dB d = true ∧ ordA zs j = true) ∧ Hid (Below w.heap.size w wr)) (fun i _ => n0 - (intOf i).toNat)
  case atStart => exact ⟨0, Nat.zero_le _, rfl, Lib.hid (fun j d h => by omega), Lib.hid (Below.refl _ _)⟩
  case round =>
    obtain ⟨k, hk, rfl, AK, BK⟩ := hrel
    by_cases hlt : k < n0
    · obtain ⟨z, hz⟩ : ∃ z, zs[k]? = some z := ⟨_, List.getElem?_eq_getElem (by rw [HN.out]; exact hlt)⟩
      have HZ := Lib.hid hz
      have hdb : dB z = devB z.nm z.kd z.ln z.x z.y z.hd z.tl z.ms := rfl
      have CD := isDeviceI z.nm z.kd z.ln z.x z.y z.hd z.tl z.ms
      rw [← hdb] at CD
      have RW := Lib.hid (HR.out.below BK.out)
      obtain ⟨bd, hbd⟩ : ∃ r, dB z = r := ⟨_, rfl⟩
      rw [hbd] at CD
      have CD := Lib.hid CD
      have HBD := Lib.hid hbd
      clear hdb hbd
      obtain ⟨n, q, l, x, y, h, t, m⟩ := z
      simp only [] at CD
      obtain ⟨b, o, eA, hbl, hcell⟩ := RW.out.get (k := k * 8) (by rw [dls_len, HN.out]; omega)
      have HC := Lib.hid hcell
      have zz := dls_get hz
      have c0 := hcell _ _ zz.1
      have c1 := hcell _ _ zz.2.1
      rw [← Nat.add_assoc] at c1
      have c2 := hcell _ _ zz.2.2.1
      rw [← Nat.add_assoc] at c2
      have c3 := hcell _ _ zz.2.2.2.1
      rw [← Nat.add_assoc] at c3
      have c4 := hcell _ _ zz.2.2.2.2.1
      rw [← Nat.add_assoc] at c4
      have c5 := hcell _ _ zz.2.2.2.2.2.1
      rw [← Nat.add_assoc] at c5
      have c6 := hcell _ _ zz.2.2.2.2.2.2.1
      rw [← Nat.add_assoc] at c6
      have c7 := hcell _ _ zz.2.2.2.2.2.2.2
      rw [← Nat.add_assoc] at c7
      clear hcell zz hz
      subst eA
      cases bd
      · have HH := Lib.hid (show rig zs = false from rig_no fun H => by have := H.2 k _ HZ.out; rw [HBD.out] at this; cases this.1)
        go_wp2_with fail
        refine (CD.out _).mono ?_
        rintro e w1 ⟨rfl, hb1⟩
        have B1 := Lib.hid (BK.out.trans (Below.mono (Below.trans (by go_grown) (hb1.mono (by simp)) : Below wr.heap.size wr w1) BK.out.size))
        have W1 := Lib.hid (show Below wr.heap.size wr w1 from Below.trans (by go_grown) (hb1.mono (by simp)))
        have p1 : wr.heap.size < w1.heap.size := by have := hb1.size; simp at this; omega
        clear hb1 c0 c1 c2 c3 c4 c5 c6 c7
        go_wp2_with fail
        go_ret
        exact ⟨by rw [HH.out]; rfl, B1.out⟩
      by_cases k0 : k = 0
      · have HO := Lib.hid (show ordA zs k = true by rw [k0]; rfl)
        have g1 : decide (0 < (k : Int)) = false := decide_eq_false (by omega)
        have g2 : ¬ 0 < (k : Int) := by omega
        have g0 : ¬ 0 < k := by omega
        have HK0 := Lib.hid k0
        clear k0
        go_wp2_with fail
        refine (CD.out _).mono ?_
        rintro e w1 ⟨rfl, hb1⟩
        have k0 : w1.cell? ⟨wr.heap.size, 0, none⟩ = some (.string n) := (hb1.cell (by simp)).trans (by simp [go_sem])
        have k1 : w1.cell? ⟨wr.heap.size, 1, none⟩ = some (.int .i64 q) := (hb1.cell (by simp)).trans (by simp [go_sem])
        have k2 : w1.cell? ⟨wr.heap.size, 2, none⟩ = some (.string l) := (hb1.cell (by simp)).trans (by simp [go_sem])
        have k3 : w1.cell? ⟨wr.heap.size, 3, none⟩ = some (.int .i64 x) := (hb1.cell (by simp)).trans (by simp [go_sem])
        have k4 : w1.cell? ⟨wr.heap.size, 4, none⟩ = some (.int .i64 y) := (hb1.cell (by simp)).trans (by simp [go_sem])
        have k5 : w1.cell? ⟨wr.heap.size, 5, none⟩ = some (.int .i64 h) := (hb1.cell (by simp)).trans (by simp [go_sem])
        have k6 : w1.cell? ⟨wr.heap.size, 6, none⟩ = some (.int .i64 t) := (hb1.cell (by simp)).trans (by simp [go_sem])
        have k7 : w1.cell? ⟨wr.heap.size, 7, none⟩ = some (.int .i64 m) := (hb1.cell (by simp)).trans (by simp [go_sem])
        have B1 := Lib.hid (BK.out.trans (Below.mono (Below.trans (by go_grown) (hb1.mono (by simp)) : Below wr.heap.size wr w1) BK.out.size))
        have W1 := Lib.hid (show Below wr.heap.size wr w1 from Below.trans (by go_grown) (hb1.mono (by simp)))
        have p1 : wr.heap.size < w1.heap.size := by have := hb1.size; simp at this; omega
        clear hb1 c0 c1 c2 c3 c4 c5 c6 c7
        go_wp2_with fail
        refine wp_region_noPanic ?_
        refine wp_region_held_drew (S := (fun w' => Below w1.heap.size w1 w')) (by kernel_rfl) ?_ (fun hH => ?_)
        · exact (Below.refl _ _).drew
        refine wpAnyH_take (i := 0) (oi := { dst := some 18, op := _, type := _, pos := _, after := _, guard := _ }) (v := ?_) rfl (by kernel_rfl) (by kernel_rfl) (by kernel_rfl) (fun _ _ _ h => h) (Or.inl ⟨by rfl, ?_⟩) hH ?_
        rotate_left 1
        · intro W hSw
          (try dsimp only at hSw)
          go_simp
          (try with_reducible rfl)
        try simp only [Act.put, List.setIfInBounds_toArray, List.set_cons_zero, List.set_cons_succ]
        refine wpAnyH_take (i := 1) (oi := { dst := some 19, op := _, type := _, pos := _, after := _, guard := _ }) (v := ?_) rfl (by kernel_rfl) (by kernel_rfl) (by kernel_rfl) (fun _ _ _ h => h) (Or.inl ⟨by rfl, ?_⟩) hH ?_
        rotate_left 1
        · intro W hSw
          (try dsimp only at hSw)
          go_simp
          (try with_reducible rfl)
        try simp only [Act.put, List.setIfInBounds_toArray, List.set_cons_zero, List.set_cons_succ]
        refine wpAnyH_take (i := 2) (oi := { dst := some 20, op := _, type := _, pos := _, after := _, guard := _ }) (v := ?_) rfl (by kernel_rfl) (by kernel_rfl) (by kernel_rfl) (fun _ _ _ h => h) (Or.inl ⟨by rfl, ?_⟩) hH ?_
        rotate_left 1
        · intro W hSw
          (try dsimp only at hSw)
          go_simp
          (try with_reducible rfl)
        try simp only [Act.put, List.setIfInBounds_toArray, List.set_cons_zero, List.set_cons_succ]
        refine wpAnyH_take (i := 3) (oi := { dst := some 21, op := _, type := _, pos := _, after := _, guard := _ }) (v := undef) rfl (by kernel_rfl) (by kernel_rfl) (by kernel_rfl) (fun _ _ _ h => h) (Or.inr ⟨by simp [Region.wanted, yielded, hu, HK0.out], rfl⟩) hH ?_
        try simp only [Act.put, List.setIfInBounds_toArray, List.set_cons_zero, List.set_cons_succ]
        refine wpAnyH_take (i := 4) (oi := { dst := some 22, op := _, type := _, pos := _, after := _, guard := _ }) (v := undef) rfl (by kernel_rfl) (by kernel_rfl) (by kernel_rfl) (fun _ _ _ h => h) (Or.inr ⟨by simp [Region.wanted, yielded, hu, HK0.out], rfl⟩) hH ?_
        try simp only [Act.put, List.setIfInBounds_toArray, List.set_cons_zero, List.set_cons_succ]
        refine wpAnyH_take (i := 5) (oi := { dst := some 23, op := _, type := _, pos := _, after := _, guard := _ }) (v := undef) rfl (by kernel_rfl) (by kernel_rfl) (by kernel_rfl) (fun _ _ _ h => h) (Or.inr ⟨by simp [Region.wanted, yielded, hu, HK0.out], rfl⟩) hH ?_
        try simp only [Act.put, List.setIfInBounds_toArray, List.set_cons_zero, List.set_cons_succ]
        refine wpAnyH_take (i := 6) (oi := { dst := some 24, op := _, type := _, pos := _, after := _, guard := _ }) (v := undef) rfl (by kernel_rfl) (by kernel_rfl) (by kernel_rfl) (fun _ _ _ h => h) (Or.inr ⟨by simp [Region.wanted, yielded, hu, HK0.out], rfl⟩) hH ?_
        try simp only [Act.put, List.setIfInBounds_toArray, List.set_cons_zero, List.set_cons_succ]
        refine wpAnyH_take (i := 7) (oi := { dst := some 25, op := _, type := _, pos := _, after := _, guard := _ }) (v := undef) rfl (by kernel_rfl) (by kernel_rfl) (by kernel_rfl) (fun _ _ _ h => h) (Or.inr ⟨by simp [Region.wanted, yielded, hu, HK0.out], rfl⟩) hH ?_
        try simp only [Act.put, List.setIfInBounds_toArray, List.set_cons_zero, List.set_cons_succ]
        refine wpAnyH_take (i := 8) (oi := { dst := some 26, op := _, type := _, pos := _, after := _, guard := _ }) (v := undef) rfl (by kernel_rfl) (by kernel_rfl) (by kernel_rfl) (fun _ _ _ h => h) (Or.inr ⟨by simp [Region.wanted, yielded, hu, HK0.out], rfl⟩) hH ?_
        try simp only [Act.put, List.setIfInBounds_toArray, List.set_cons_zero, List.set_cons_succ]
        refine wpAnyH_take (i := 9) (oi := { dst := some 27, op := _, type := _, pos := _, after := _, guard := _ }) (v := undef) rfl (by kernel_rfl) (by kernel_rfl) (by kernel_rfl) (fun _ _ _ h => h) (Or.inr ⟨by simp [Region.wanted, yielded, hu, HK0.out], rfl⟩) hH ?_
        try simp only [Act.put, List.setIfInBounds_toArray, List.set_cons_zero, List.set_cons_succ]
        refine wpAnyH_take (i := 10) (oi := { dst := some 28, op := _, type := _, pos := _, after := _, guard := _ }) (v := undef) rfl (by kernel_rfl) (by kernel_rfl) (by kernel_rfl) (fun _ _ _ h => h) (Or.inr ⟨by simp [Region.wanted, yielded, hu, HK0.out], rfl⟩) hH ?_
        try simp only [Act.put, List.setIfInBounds_toArray, List.set_cons_zero, List.set_cons_succ]
        refine wpAnyH_take (i := 11) (oi := { dst := some 29, op := _, type := _, pos := _, after := _, guard := _ }) (v := ?_) rfl (by kernel_rfl) (by kernel_rfl) (by kernel_rfl) (fun _ _ _ h => h) (Or.inl ⟨by rfl, ?_⟩) hH ?_
        rotate_left 1
        · intro W hSw
          (try dsimp only at hSw)
          go_simp
          (try with_reducible rfl)
        try simp only [Act.put, List.setIfInBounds_toArray, List.set_cons_zero, List.set_cons_succ]
        refine wpAnyH_done (by kernel_rfl) ?_ _
        refine NoPanic.normal ?_
        have B4 := Lib.hid (B1.out.trans (hH.mono B1.out.size))
        clear hH k0 k1 k2 k3 k4 k5 k6 k7 p1
        go_wp2_with fail
        go_roundw
        case rel => exact ⟨k + 1, by omega, by go_num, Lib.hid (fun j d hj hd => by
          by_cases e : j = k
          · subst e; rw [HZ.out] at hd; cases hd; exact ⟨HBD.out, HO.out⟩
          · exact AK.out j d (by omega) hd), B4⟩
        case measure => simp [intOf]; omega
      obtain ⟨p, hp⟩ : ∃ p, k = p + 1 := ⟨k - 1, by omega⟩
      obtain ⟨d2, hd2⟩ : ∃ d, zs[p]? = some d := ⟨_, List.getElem?_eq_getElem (by rw [HN.out]; omega)⟩
      have HO := ordA_succ hd2 (by rw [← hp]; exact HZ.out)
      rw [← hp] at HO
      obtain ⟨n2, q2, l2, x2, y2, h2, t2, m2⟩ := d2
      have zz := dls_get hd2
      simp only [] at HO
      have e0 := HC.out _ _ zz.1
      have e1 := HC.out _ _ zz.2.1
      rw [← Nat.add_assoc] at e1
      have e2 := HC.out _ _ zz.2.2.1
      rw [← Nat.add_assoc] at e2
      have e3 := HC.out _ _ zz.2.2.2.1
      rw [← Nat.add_assoc] at e3
      have e4 := HC.out _ _ zz.2.2.2.2.1
      rw [← Nat.add_assoc] at e4
      have e5 := HC.out _ _ zz.2.2.2.2.2.1
      rw [← Nat.add_assoc] at e5
      have e6 := HC.out _ _ zz.2.2.2.2.2.2.1
      rw [← Nat.add_assoc] at e6
      have e7 := HC.out _ _ zz.2.2.2.2.2.2.2
      rw [← Nat.add_assoc] at e7
      have gk : 0 < k := by omega
      have g0 : decide (0 < k) = true := decide_eq_true gk
      have g1 : decide (0 < (k : Int)) = true := decide_eq_true (by omega)
      have g2 : 0 < (k : Int) := by omega
      have g3 : IntKind.i64.wrap ((k : Int) - 1) = (p : Int) := by rw [hp, IntWalk.i64_in _ (by omega)]; omega
      have g4 : wrap64 ((k : Int) - 1) = (p : Int) := by rw [hp, IntWalk.wrap64_in _ (by omega)]; omega
      have g5 : p < n0 := by omega
      have CC := Lib.hid (compareNames n2 n q2 l2 x2 y2 h2 t2 m2 q l x y h t m)
      obtain ⟨bo, hbo⟩ : ∃ r, lt n2 n = r := ⟨_, rfl⟩
      rw [hbo] at HO
      have HO := Lib.hid HO
      obtain ⟨v, hv⟩ : ∃ v, cn n2 n = v := ⟨_, rfl⟩
      have hvb : decide (0 ≤ v) = !bo := by
        rw [← hv, ← hbo]; unfold cn
        cases lt n2 n
        · cases sb n2 n <;> rfl
        · rfl
      rw [hv] at CC
      clear hd2 hp hbo hv k0 zz
      cases bo
      all_goals
        simp only [Bool.not_true, Bool.not_false] at hvb
        go_wp2_with fail
        refine (CD.out _).mono ?_
        rintro e w1 ⟨rfl, hb1⟩
        have k0 : w1.cell? ⟨wr.heap.size, 0, none⟩ = some (.string n) := (hb1.cell (by simp)).trans (by simp [go_sem])
        have k1 : w1.cell? ⟨wr.heap.size, 1, none⟩ = some (.int .i64 q) := (hb1.cell (by simp)).trans (by simp [go_sem])
        have k2 : w1.cell? ⟨wr.heap.size, 2, none⟩ = some (.string l) := (hb1.cell (by simp)).trans (by simp [go_sem])
        have k3 : w1.cell? ⟨wr.heap.size, 3, none⟩ = some (.int .i64 x) := (hb1.cell (by simp)).trans (by simp [go_sem])
        have k4 : w1.cell? ⟨wr.heap.size, 4, none⟩ = some (.int .i64 y) := (hb1.cell (by simp)).trans (by simp [go_sem])
        have k5 : w1.cell? ⟨wr.heap.size, 5, none⟩ = some (.int .i64 h) := (hb1.cell (by simp)).trans (by simp [go_sem])
        have k6 : w1.cell? ⟨wr.heap.size, 6, none⟩ = some (.int .i64 t) := (hb1.cell (by simp)).trans (by simp [go_sem])
        have k7 : w1.cell? ⟨wr.heap.size, 7, none⟩ = some (.int .i64 m) := (hb1.cell (by simp)).trans (by simp [go_sem])
        have B1 := Lib.hid (BK.out.trans (Below.mono (Below.trans (by go_grown) (hb1.mono (by simp)) : Below wr.heap.size wr w1) BK.out.size))
        have W1 := Lib.hid (show Below wr.heap.size wr w1 from Below.trans (by go_grown) (hb1.mono (by simp)))
        have p1 : wr.heap.size < w1.heap.size := by have := hb1.size; simp at this; omega
        clear hb1 c0 c1 c2 c3 c4 c5 c6 c7
        have f0 := W1.out.cell (p := ⟨b, o + p * 8, none⟩) (Nat.lt_of_lt_of_le hbl BK.out.size)
        rw [e0] at f0
        have f1 := W1.out.cell (p := ⟨b, o + p * 8 + 1, none⟩) (Nat.lt_of_lt_of_le hbl BK.out.size)
        rw [e1] at f1
        have f2 := W1.out.cell (p := ⟨b, o + p * 8 + 2, none⟩) (Nat.lt_of_lt_of_le hbl BK.out.size)
        rw [e2] at f2
        have f3 := W1.out.cell (p := ⟨b, o + p * 8 + 3, none⟩) (Nat.lt_of_lt_of_le hbl BK.out.size)
        rw [e3] at f3
        have f4 := W1.out.cell (p := ⟨b, o + p * 8 + 4, none⟩) (Nat.lt_of_lt_of_le hbl BK.out.size)
        rw [e4] at f4
        have f5 := W1.out.cell (p := ⟨b, o + p * 8 + 5, none⟩) (Nat.lt_of_lt_of_le hbl BK.out.size)
        rw [e5] at f5
        have f6 := W1.out.cell (p := ⟨b, o + p * 8 + 6, none⟩) (Nat.lt_of_lt_of_le hbl BK.out.size)
        rw [e6] at f6
        have f7 := W1.out.cell (p := ⟨b, o + p * 8 + 7, none⟩) (Nat.lt_of_lt_of_le hbl BK.out.size)
        rw [e7] at f7
        clear e0 e1 e2 e3 e4 e5 e6 e7
        go_wp2_with fail
        refine wp_region_noPanic ?_
        refine wp_region_held_drew (S := (fun w' => w'.cell? ⟨wr.heap.size, 0, none⟩ = some (.string n) ∧ w'.cell? ⟨wr.heap.size, 1, none⟩ = some (.int .i64 q) ∧ w'.cell? ⟨wr.heap.size, 2, none⟩ = some (.string l) ∧ w'.cell? ⟨wr.heap.size, 3, none⟩ = some (.int .i64 x) ∧ w'.cell? ⟨wr.heap.size, 4, none⟩ = some (.int .i64 y) ∧ w'.cell? ⟨wr.heap.size, 5, none⟩ = some (.int .i64 h) ∧ w'.cell? ⟨wr.heap.size, 6, none⟩ = some (.int .i64 t) ∧ w'.cell? ⟨wr.heap.size, 7, none⟩ = some (.int .i64 m) ∧ w'.cell? ⟨b, o + p * 8, none⟩ = some (.string n2) ∧ w'.cell? ⟨b, o + p * 8 + 1, none⟩ = some (.int .i64 q2) ∧ w'.cell? ⟨b, o + p * 8 + 2, none⟩ = some (.string l2) ∧ w'.cell? ⟨b, o + p * 8 + 3, none⟩ = some (.int .i64 x2) ∧ w'.cell? ⟨b, o + p * 8 + 4, none⟩ = some (.int .i64 y2) ∧ w'.cell? ⟨b, o + p * 8 + 5, none⟩ = some (.int .i64 h2) ∧ w'.cell? ⟨b, o + p * 8 + 6, none⟩ = some (.int .i64 t2) ∧ w'.cell? ⟨b, o + p * 8 + 7, none⟩ = some (.int .i64 m2) ∧ Below w1.heap.size w1 w')) (by kernel_rfl) ?_ (fun hH => ?_)
        · exact ⟨k0, k1, k2, k3, k4, k5, k6, k7, f0, f1, f2, f3, f4, f5, f6, f7, (Below.refl _ _).drew⟩
        refine wpAnyH_take (i := 0) (oi := { dst := some 18, op := _, type := _, pos := _, after := _, guard := _ }) (v := ?_) rfl (by kernel_rfl) (by kernel_rfl) (by kernel_rfl) (fun _ _ _ h => h) (Or.inl ⟨by rfl, ?_⟩) hH ?_
        rotate_left 1
        · intro W hSw
          (try dsimp only at hSw)
          go_simp
          (try with_reducible rfl)
        try simp only [Act.put, List.setIfInBounds_toArray, List.set_cons_zero, List.set_cons_succ]
        refine wpAnyH_take (i := 1) (oi := { dst := some 19, op := _, type := _, pos := _, after := _, guard := _ }) (v := ?_) rfl (by kernel_rfl) (by kernel_rfl) (by kernel_rfl) (fun _ _ _ h => h) (Or.inl ⟨by rfl, ?_⟩) hH ?_
        rotate_left 1
        · intro W hSw
          (try dsimp only at hSw)
          go_simp
          (try with_reducible rfl)
        try simp only [Act.put, List.setIfInBounds_toArray, List.set_cons_zero, List.set_cons_succ]
        refine wpAnyH_take (i := 2) (oi := { dst := some 20, op := _, type := _, pos := _, after := _, guard := _ }) (v := ?_) rfl (by kernel_rfl) (by kernel_rfl) (by kernel_rfl) (fun _ _ _ h => h) (Or.inl ⟨by rfl, ?_⟩) hH ?_
        rotate_left 1
        · intro W hSw
          (try dsimp only at hSw)
          go_simp
          (try with_reducible rfl)
        try simp only [Act.put, List.setIfInBounds_toArray, List.set_cons_zero, List.set_cons_succ]
        refine wpAnyH_take (i := 3) (oi := { dst := some 21, op := _, type := _, pos := _, after := _, guard := _ }) (v := ?_) rfl (by kernel_rfl) (by kernel_rfl) (by kernel_rfl) (fun _ _ _ h => h) (Or.inl ⟨by rfl, ?_⟩) hH ?_
        rotate_left 1
        · intro W hSw
          (try dsimp only at hSw)
          go_simp
          (try with_reducible rfl)
        try simp only [Act.put, List.setIfInBounds_toArray, List.set_cons_zero, List.set_cons_succ]
        refine wpAnyH_take (i := 4) (oi := { dst := some 22, op := _, type := _, pos := _, after := _, guard := _ }) (v := ?_) rfl (by kernel_rfl) (by kernel_rfl) (by kernel_rfl) (fun _ _ _ h => h) (Or.inl ⟨by rfl, ?_⟩) hH ?_
        rotate_left 1
        · intro W hSw
          (try dsimp only at hSw)
          go_simp
          (try with_reducible rfl)
        try simp only [Act.put, List.setIfInBounds_toArray, List.set_cons_zero, List.set_cons_succ]
        refine wpAnyH_take (i := 5) (oi := { dst := some 23, op := _, type := _, pos := _, after := _, guard := _ }) (v := ?_) rfl (by kernel_rfl) (by kernel_rfl) (by kernel_rfl) (fun _ _ _ h => h) (Or.inl ⟨by rfl, ?_⟩) hH ?_
        rotate_left 1
        · intro W hSw
          (try dsimp only at hSw)
          go_simp
          (try with_reducible rfl)
        try simp only [Act.put, List.setIfInBounds_toArray, List.set_cons_zero, List.set_cons_succ]
        refine wpAnyH_take (i := 6) (oi := { dst := some 24, op := _, type := _, pos := _, after := _, guard := _ }) (v := ?_) rfl (by kernel_rfl) (by kernel_rfl) (by kernel_rfl) (fun _ _ _ h => h) (Or.inl ⟨by rfl, ?_⟩) hH ?_
        rotate_left 1
        · intro W hSw
          (try dsimp only at hSw)
          go_simp
          (try with_reducible rfl)
        try simp only [Act.put, List.setIfInBounds_toArray, List.set_cons_zero, List.set_cons_succ]
        refine wpAnyH_take (i := 7) (oi := { dst := some 25, op := _, type := _, pos := _, after := _, guard := _ }) (v := ?_) rfl (by kernel_rfl) (by kernel_rfl) (by kernel_rfl) (fun _ _ _ h => h) (Or.inl ⟨by rfl, ?_⟩) hH ?_
        rotate_left 1
        · intro W hSw
          (try dsimp only at hSw)
          go_simp
          (try with_reducible rfl)
        try simp only [Act.put, List.setIfInBounds_toArray, List.set_cons_zero, List.set_cons_succ]
        refine wpAnyH_take (i := 8) (oi := { dst := some 26, op := _, type := _, pos := _, after := _, guard := _ }) (v := ?_) rfl (by kernel_rfl) (by kernel_rfl) (by kernel_rfl) (fun _ _ _ h => h) (Or.inl ⟨by rfl, ?_⟩) hH ?_
        rotate_left 1
        · intro W hSw
          (try dsimp only at hSw)
          go_simp
          (try with_reducible rfl)
        try simp only [Act.put, List.setIfInBounds_toArray, List.set_cons_zero, List.set_cons_succ]
        refine wpAnyH_ready (rs := [9]) (by kernel_rfl) (by simp) (AllReadyH.cons rfl (fun K hK => ?_) AllReadyH.nil)
        go_simp
        go_at_call 67; ((with_reducible refine (CC.out _).mono ?_); rintro e r1 ⟨rfl, hb9⟩); go_wp2_with fail
        refine hK.out _ _ ?_ (fun hG => ?_)
        · exact ⟨cell_below hb9 hH.1, cell_below hb9 hH.2.1, cell_below hb9 hH.2.2.1, cell_below hb9 hH.2.2.2.1, cell_below hb9 hH.2.2.2.2.1, cell_below hb9 hH.2.2.2.2.2.1, cell_below hb9 hH.2.2.2.2.2.2.1, cell_below hb9 hH.2.2.2.2.2.2.2.1, cell_below hb9 hH.2.2.2.2.2.2.2.2.1, cell_below hb9 hH.2.2.2.2.2.2.2.2.2.1, cell_below hb9 hH.2.2.2.2.2.2.2.2.2.2.1, cell_below hb9 hH.2.2.2.2.2.2.2.2.2.2.2.1, cell_below hb9 hH.2.2.2.2.2.2.2.2.2.2.2.2.1, cell_below hb9 hH.2.2.2.2.2.2.2.2.2.2.2.2.2.1, cell_below hb9 hH.2.2.2.2.2.2.2.2.2.2.2.2.2.2.1, cell_below hb9 hH.2.2.2.2.2.2.2.2.2.2.2.2.2.2.2.1, Below.trans hH.2.2.2.2.2.2.2.2.2.2.2.2.2.2.2.2 (hb9.mono hH.2.2.2.2.2.2.2.2.2.2.2.2.2.2.2.2.size)⟩
        replace hH := hG
        clear hK K hG
        try simp only [Act.put, List.setIfInBounds_toArray, List.set_cons_zero, List.set_cons_succ]
        refine wpAnyH_take (i := 10) (oi := { dst := some 28, op := _, type := _, pos := _, after := _, guard := _ }) (v := ?_) rfl (by kernel_rfl) (by kernel_rfl) (by kernel_rfl) (fun _ _ _ h => h) (Or.inl ⟨by rfl, ?_⟩) hH ?_
        rotate_left 1
        · intro W hSw
          (try dsimp only at hSw)
          go_simp
          (try with_reducible rfl)
        try simp only [Act.put, List.setIfInBounds_toArray, List.set_cons_zero, List.set_cons_succ]
        refine wpAnyH_take (i := 11) (oi := { dst := some 29, op := _, type := _, pos := _, after := _, guard := _ }) (v := ?_) rfl (by kernel_rfl) (by kernel_rfl) (by kernel_rfl) (fun _ _ _ h => h) (Or.inl ⟨by rfl, ?_⟩) hH ?_
        rotate_left 1
        · intro W hSw
          (try dsimp only at hSw)
          go_simp
          (try with_reducible rfl)
        try simp only [Act.put, List.setIfInBounds_toArray, List.set_cons_zero, List.set_cons_succ]
        refine wpAnyH_done (by kernel_rfl) ?_ _
        refine NoPanic.normal ?_
        have B4 := Lib.hid (B1.out.trans (hH.2.2.2.2.2.2.2.2.2.2.2.2.2.2.2.2.mono B1.out.size))
        clear hH k0 k1 k2 k3 k4 k5 k6 k7 p1 f0 f1 f2 f3 f4 f5 f6 f7
        go_wp2_with fail
      · have HH := Lib.hid (show rig zs = false from rig_no fun H => by have := H.2 k _ HZ.out; rw [HO.out] at this; cases this.2.1)
        go_ret
        exact ⟨by rw [HH.out]; rfl, B4.out⟩
      · go_roundw
        case rel => exact ⟨k + 1, by omega, by go_num, Lib.hid (fun j d hj hd => by
          by_cases e : j = k
          · subst e; rw [HZ.out] at hd; cases hd; exact ⟨HBD.out, HO.out⟩
          · exact AK.out j d (by omega) hd), B4⟩
        case measure => simp [intOf]; omega
    · obtain rfl : k = n0 := by omega
      have HE := Lib.hid (show heldB zs = rig zs by
        have hall : ∀ (j : Nat) (d : D), zs[j]? = some d → dB d = true ∧ ordA zs j = true := fun j d hd => AK.out j d (by have := (List.getElem?_eq_some_iff.1 hd).1; rw [HN.out] at this; exact this) hd
        by_cases hh : Held zs
        · rw [held_yes hh, rig_yes ⟨by rw [HN.out]; omega, fun j d hd => ⟨(hall j d hd).1, (hall j d hd).2, hh j d hd⟩⟩]
        · rw [held_no hh, rig_no fun H => hh fun j d hd => (H.2 j d hd).2.2])
      have CA := Lib.hid (areHeld A k c9 zs wr HN.out hb ((HR.out.below BK.out).more BK.out.size))
      rw [HE.out] at CA
      go_wp2_with fail
      refine CA.out.mono ?_
      rintro e w1 ⟨rfl, hb1⟩
      have B1 := Lib.hid (BK.out.trans (hb1.mono BK.out.size))
      clear hb1
      go_wp2_with fail
      go_ret
      exact ⟨rfl, B1.out⟩
end Go.Proofs.YtdkihpnckkfneaaGreat.Iq
namespace Go.Proofs.YtdkihpnckkfneaaGreat.Dp
open Go.RowKit
/-- The cells of a jet. -/
def J5 (w : World) (b : Nat) (x y h t l : Int) : Prop := w.cell? ⟨b, 0, none⟩ = some (.int .i64 x) ∧ w.cell? ⟨b, 1, none⟩ = some (.int .i64 y) ∧ w.cell? ⟨b, 2, none⟩ = some (.int .i64 h) ∧ w.cell? ⟨b, 3, none⟩ = some (.int .i64 t) ∧ w.cell? ⟨b, 4, none⟩ = some (.int .i64 l)
end Go.Proofs.YtdkihpnckkfneaaGreat.Dp
namespace Go.Proofs.YtdkihpnckkfneaaGreat.Dr4
open Go.RowKit Go.Proofs.YtdkihpnckkfneaaGreat.Cm Go.Proofs.YtdkihpnckkfneaaGreat.Pl Go.Proofs.YtdkihpnckkfneaaGreat.Str Go.Proofs.YtdkihpnckkfneaaGreat.Pw Go.Proofs.YtdkihpnckkfneaaGreat.P2 Go.Proofs.YtdkihpnckkfneaaGreat.Hd Go.Proofs.YtdkihpnckkfneaaGreat.Jt Go.Proofs.YtdkihpnckkfneaaGreat.Dp
set_option linter.unusedVariables false
set_option linter.unusedSimpArgs false

/-- Block b is a jet of the call's own. -/
def JB (w : World) (b : Nat) (x y h t l : Int) : Prop := w.heap[b]? = some (.cells (jc x y h t l) 43 (0, 0))
section
variable {w w' : World} {b b' : Nat} {x y h t l u : Int}
theorem JB.c (k : JB w b x y h t l) : J5 w b x y h t l := by
  have e : w.heap[b]? = _ := k
  refine ⟨?_, ?_, ?_, ?_, ?_⟩ <;> simp [World.cell?, e]
theorem JB.f (k : JB w b x y h t l) (i : Nat) (hi : i < 5 := by omega) : w.frozen? ⟨b, i, none⟩ = false := by simp [World.frozen?, show w.heap[b]? = _ from k]
theorem JB.lt (k : JB w b x y h t l) : b < w.heap.size := (Array.getElem?_eq_some_iff.1 k).1
theorem JB.new (w : World) (x y h t l : Int) : JB (w.alloc (.cells (jc x y h t l) 43)) w.heap.size x y h t l := heap_alloc_new w _
theorem JB.alloc (k : JB w b x y h t l) (o : Obj) : JB (w.alloc o) b x y h t l := (Below.heap_alloc _ _ _ k.lt).trans k
theorem JB.below (k : JB w b x y h t l) (hb : Below w.heap.size w w') : JB w' b x y h t l := (hb.block b k.lt).trans k
theorem JB.drew (k : JB w b x y h t l) : JB w.drew b x y h t l := k
theorem JB.grown {r : Option Nat} (k : JB w b x y h t l) (g : w.grownBy w' r) (hr : some b ≠ r) : JB w' b x y h t l := (g.block b k.lt hr).trans k
theorem JB.other (k : JB w b x y h t l) (j : Nat) (v : Value) (hne : b ≠ b') : JB (w.setCell ⟨b', j, none⟩ v) b x y h t l := (Below.heap_setCell _ _ _ _ hne).trans k
theorem JB.set0 (u : Int) (k : JB w b x y h t l) : JB (w.setCell ⟨b, 0, none⟩ (.int .i64 u)) b u y h t l := by
  obtain ⟨hlt, hk⟩ := Array.getElem?_eq_some_iff.1 k
  show (w.heap.modify b _)[b]? = _
  rw [Array.getElem?_eq_getElem (by rw [Array.size_modify]; exact hlt), Array.getElem_modify_self, hk]
  rfl
theorem JB.set1 (u : Int) (k : JB w b x y h t l) : JB (w.setCell ⟨b, 1, none⟩ (.int .i64 u)) b x u h t l := by
  obtain ⟨hlt, hk⟩ := Array.getElem?_eq_some_iff.1 k
  show (w.heap.modify b _)[b]? = _
  rw [Array.getElem?_eq_getElem (by rw [Array.size_modify]; exact hlt), Array.getElem_modify_self, hk]
  rfl
theorem JB.set2 (u : Int) (k : JB w b x y h t l) : JB (w.setCell ⟨b, 2, none⟩ (.int .i64 u)) b x y u t l := by
  obtain ⟨hlt, hk⟩ := Array.getElem?_eq_some_iff.1 k
  show (w.heap.modify b _)[b]? = _
  rw [Array.getElem?_eq_getElem (by rw [Array.size_modify]; exact hlt), Array.getElem_modify_self, hk]
  rfl
theorem JB.set3 (u : Int) (k : JB w b x y h t l) : JB (w.setCell ⟨b, 3, none⟩ (.int .i64 u)) b x y h u l := by
  obtain ⟨hlt, hk⟩ := Array.getElem?_eq_some_iff.1 k
  show (w.heap.modify b _)[b]? = _
  rw [Array.getElem?_eq_getElem (by rw [Array.size_modify]; exact hlt), Array.getElem_modify_self, hk]
  rfl
theorem JB.set4 (u : Int) (k : JB w b x y h t l) : JB (w.setCell ⟨b, 4, none⟩ (.int .i64 u)) b x y h t u := by
  obtain ⟨hlt, hk⟩ := Array.getElem?_eq_some_iff.1 k
  show (w.heap.modify b _)[b]? = _
  rw [Array.getElem?_eq_getElem (by rw [Array.size_modify]; exact hlt), Array.getElem_modify_self, hk]
  rfl
theorem JB.set (k : JB w b x y h t l) (x' y' h' t' l' : Int) : JB (((((w.setCell ⟨b, 0, none⟩ (.int .i64 x')).setCell ⟨b, 1, none⟩ (.int .i64 y')).setCell ⟨b, 2, none⟩ (.int .i64 h')).setCell ⟨b, 3, none⟩ (.int .i64 t')).setCell ⟨b, 4, none⟩ (.int .i64 l')) b x' y' h' t' l' :=
  ((((k.set0 x').set1 y').set2 h').set3 t').set4 l'
end

end Go.Proofs.YtdkihpnckkfneaaGreat.Dr4
namespace Go.Proofs.YtdkihpnckkfneaaGreat.Tp
open Go.RowKit Go.Proofs.YtdkihpnckkfneaaGreat.Cm Go.Proofs.YtdkihpnckkfneaaGreat.Pl Go.Proofs.YtdkihpnckkfneaaGreat.Str Go.Proofs.YtdkihpnckkfneaaGreat.Pw Go.Proofs.YtdkihpnckkfneaaGreat.P2
set_option linter.unusedVariables false

theorem placeI {x y : Int} {b : Bool} (h : (ms x && ms y) = b) (w : World) : Calls Tryz.prog 161 #[.agg #[.int .i64 x, .int .i64 y]] w fun e w' => e = .returned (.bool b) ∧ Below w.heap.size w w' :=
  (isPlaceI_of h w).mono fun e w' k => ⟨k.1, by rw [k.2]; go_grown⟩
theorem placeS {x y : Int} {b : Bool} (h : (ms x && ms y) = b) (w : World) : Calls Tryz.prog 103 #[.agg #[.int .i64 x, .int .i64 y]] w fun e w' => e = .returned (.bool b) ∧ Below w.heap.size w w' :=
  (isPlaceS_of h w).mono fun e w' k => ⟨k.1, by rw [k.2]; go_grown⟩

/-- Turned back. -/
theorem back_tx (n x y : Int) : tx ((4 - n.tmod 4) % 4).toNat (tx (n % 4).toNat x y) (ty (n % 4).toNat x y) = x ∧ ty ((4 - n.tmod 4) % 4).toNat (tx (n % 4).toNat x y) (ty (n % 4).toNat x y) = y := by
  have t := tmod4 n
  have e : (4 - n.tmod 4) % 4 = (4 - n % 4) % 4 := by split at t <;> omega
  rw [e]
  rcases mod4_cases n with h | h | h | h <;> rw [h] <;> simp [tx, ty]

theorem tmod_range (n : Int) : -3 ≤ n.tmod 4 ∧ n.tmod 4 ≤ 3 := by
  have t := tmod4 n
  split at t <;> omega

/-- Block b's first two cells hold the place x, y. -/
def CB (w : World) (b : Nat) (x y : Int) : Prop := w.cell? ⟨b, 0, none⟩ = some (.int .i64 x) ∧ w.cell? ⟨b, 1, none⟩ = some (.int .i64 y)
theorem CB.c0 {w : World} {b : Nat} {x y : Int} (h : CB w b x y) : w.cell? ⟨b, 0, none⟩ = some (.int .i64 x) := h.1
theorem CB.c1 {w : World} {b : Nat} {x y : Int} (h : CB w b x y) : w.cell? ⟨b, 1, none⟩ = some (.int .i64 y) := h.2
theorem CB.lt {w : World} {b : Nat} {x y : Int} (h : CB w b x y) : b < w.heap.size := World.block_lt_of_cell? w _ h.1
theorem CB.alloc {w : World} {b : Nat} {x y : Int} (h : CB w b x y) (o : Obj) : CB (w.alloc o) b x y := ⟨cell_alloc h.1, cell_alloc h.2⟩
theorem CB.below {w w' : World} {b : Nat} {x y : Int} (h : CB w b x y) (hb : Below w.heap.size w w') : CB w' b x y := ⟨cell_below hb h.1, cell_below hb h.2⟩
theorem CB.new (w : World) (x y : Int) : CB (w.alloc (.cells #[.int .i64 x, .int .i64 y] 34)) w.heap.size x y := ⟨cell_here rfl, cell_here rfl⟩
theorem CB.lay {W wx : World} {k : Nat} {x y : Int} (h : Lay W wx k x y) : CB wx k x y := ⟨h.c0, h.c1⟩

end Go.Proofs.YtdkihpnckkfneaaGreat.Tp
namespace Go.Proofs.YtdkihpnckkfneaaGreat.Dr4
open Go.RowKit Go.Proofs.YtdkihpnckkfneaaGreat.Cx Go.Proofs.YtdkihpnckkfneaaGreat.Cm Go.Proofs.YtdkihpnckkfneaaGreat.Pl Go.Proofs.YtdkihpnckkfneaaGreat.Str Go.Proofs.YtdkihpnckkfneaaGreat.Pw Go.Proofs.YtdkihpnckkfneaaGreat.P2 Go.Proofs.YtdkihpnckkfneaaGreat.Hd Go.Proofs.YtdkihpnckkfneaaGreat.Jt Go.Proofs.YtdkihpnckkfneaaGreat.Dp
set_option linter.unusedVariables false
set_option linter.unusedSimpArgs false

/-- A jet behind n quarter turns. -/
def turnV (x y h t l n : Int) : Value := if jt x y h t l then jv (tx (n % 4).toNat x y) (ty (n % 4).toNat x y) (th h n) t l else jv 0 0 0 0 0
theorem turnV_no {x y h t l n : Int} (hj : jt x y h t l = false) : turnV x y h t l n = jv 0 0 0 0 0 := by unfold turnV; rw [hj]; rfl
theorem turnV_yes {x y h t l n : Int} (hj : jt x y h t l = true) : turnV x y h t l n = jv (tx (n % 4).toNat x y) (ty (n % 4).toNat x y) (th h n) t l := by unfold turnV; rw [hj]; rfl
theorem pl_of {x y h t l : Int} (hj : jt x y h t l = true) : (ms x && ms y) = true := by
  obtain ⟨hx, hy, _⟩ := jt_iff.1 hj
  exact pl_mk (by omega) (by omega)

end Go.Proofs.YtdkihpnckkfneaaGreat.Dr4
namespace Go.Proofs.YtdkihpnckkfneaaGreat.Tr
open Go.RowKit Go.ChangeShapes Go.WideShapes Go.WideElems Go.Deep Go.Proofs.YtdkihpnckkfneaaGreat.Mem Go.Proofs.YtdkihpnckkfneaaGreat.Rw Go.Proofs.YtdkihpnckkfneaaGreat.Pw Go.Proofs.YtdkihpnckkfneaaGreat.P2 Go.Proofs.YtdkihpnckkfneaaGreat.Dd Go.Proofs.YtdkihpnckkfneaaGreat.Dv Go.Proofs.YtdkihpnckkfneaaGreat.Dl Go.Proofs.YtdkihpnckkfneaaGreat.Ds Go.Proofs.YtdkihpnckkfneaaGreat.Fd Go.Proofs.YtdkihpnckkfneaaGreat.Ch Go.Proofs.YtdkihpnckkfneaaGreat.Hn Go.Proofs.YtdkihpnckkfneaaGreat.Po
set_option linter.unusedVariables false
set_option linter.unusedSimpArgs false
open Go.Proofs.YtdkihpnckkfneaaGreat.Cm Go.Proofs.YtdkihpnckkfneaaGreat.Pl Go.Proofs.YtdkihpnckkfneaaGreat.Str Go.Proofs.YtdkihpnckkfneaaGreat.Hd Go.Proofs.YtdkihpnckkfneaaGreat.Jt Go.Proofs.YtdkihpnckkfneaaGreat.Ho Go.Proofs.YtdkihpnckkfneaaGreat.Pa Go.Proofs.YtdkihpnckkfneaaGreat.Di Go.Proofs.YtdkihpnckkfneaaGreat.Ig Go.Proofs.YtdkihpnckkfneaaGreat.Ir Go.Proofs.YtdkihpnckkfneaaGreat.Iq Go.Proofs.YtdkihpnckkfneaaGreat.IsName Go.Proofs.YtdkihpnckkfneaaGreat.Mo
open Go.Proofs.YtdkihpnckkfneaaGreat.Dr4 (turnV_yes)
open Go.Proofs.YtdkihpnckkfneaaGreat.Rw (owns_below owns_grown)

/-- A rig that is turned. -/
noncomputable def trV (zs : List D) (n : Int) : List D := if rig zs = true then zs.map (mvD n 0 0) else []
theorem trV_len (zs : List D) (n : Int) : (trV zs n).length ≤ zs.length := by unfold trV; split <;> simp

theorem set8 {W : World} {b : Nat} {v0 v1 v2 v3 v4 v5 v6 v7 : Value} (h : ∀ j, j < 8 → (W.cell? ⟨b, j, none⟩).isSome = true) : ((((((((W.setCell ⟨b, 0, none⟩ v0).setCell ⟨b, 1, none⟩ v1).setCell ⟨b, 2, none⟩ v2).setCell ⟨b, 3, none⟩ v3).setCell ⟨b, 4, none⟩ v4).setCell ⟨b, 5, none⟩ v5).setCell ⟨b, 6, none⟩ v6).setCell ⟨b, 7, none⟩ v7).cell? ⟨b, 0, none⟩ = some v0 ∧ ((((((((W.setCell ⟨b, 0, none⟩ v0).setCell ⟨b, 1, none⟩ v1).setCell ⟨b, 2, none⟩ v2).setCell ⟨b, 3, none⟩ v3).setCell ⟨b, 4, none⟩ v4).setCell ⟨b, 5, none⟩ v5).setCell ⟨b, 6, none⟩ v6).setCell ⟨b, 7, none⟩ v7).cell? ⟨b, 1, none⟩ = some v1 ∧ ((((((((W.setCell ⟨b, 0, none⟩ v0).setCell ⟨b, 1, none⟩ v1).setCell ⟨b, 2, none⟩ v2).setCell ⟨b, 3, none⟩ v3).setCell ⟨b, 4, none⟩ v4).setCell ⟨b, 5, none⟩ v5).setCell ⟨b, 6, none⟩ v6).setCell ⟨b, 7, none⟩ v7).cell? ⟨b, 2, none⟩ = some v2 ∧ ((((((((W.setCell ⟨b, 0, none⟩ v0).setCell ⟨b, 1, none⟩ v1).setCell ⟨b, 2, none⟩ v2).setCell ⟨b, 3, none⟩ v3).setCell ⟨b, 4, none⟩ v4).setCell ⟨b, 5, none⟩ v5).setCell ⟨b, 6, none⟩ v6).setCell ⟨b, 7, none⟩ v7).cell? ⟨b, 3, none⟩ = some v3 ∧ ((((((((W.setCell ⟨b, 0, none⟩ v0).setCell ⟨b, 1, none⟩ v1).setCell ⟨b, 2, none⟩ v2).setCell ⟨b, 3, none⟩ v3).setCell ⟨b, 4, none⟩ v4).setCell ⟨b, 5, none⟩ v5).setCell ⟨b, 6, none⟩ v6).setCell ⟨b, 7, none⟩ v7).cell? ⟨b, 4, none⟩ = some v4 ∧ ((((((((W.setCell ⟨b, 0, none⟩ v0).setCell ⟨b, 1, none⟩ v1).setCell ⟨b, 2, none⟩ v2).setCell ⟨b, 3, none⟩ v3).setCell ⟨b, 4, none⟩ v4).setCell ⟨b, 5, none⟩ v5).setCell ⟨b, 6, none⟩ v6).setCell ⟨b, 7, none⟩ v7).cell? ⟨b, 5, none⟩ = some v5 ∧ ((((((((W.setCell ⟨b, 0, none⟩ v0).setCell ⟨b, 1, none⟩ v1).setCell ⟨b, 2, none⟩ v2).setCell ⟨b, 3, none⟩ v3).setCell ⟨b, 4, none⟩ v4).setCell ⟨b, 5, none⟩ v5).setCell ⟨b, 6, none⟩ v6).setCell ⟨b, 7, none⟩ v7).cell? ⟨b, 6, none⟩ = some v6 ∧ ((((((((W.setCell ⟨b, 0, none⟩ v0).setCell ⟨b, 1, none⟩ v1).setCell ⟨b, 2, none⟩ v2).setCell ⟨b, 3, none⟩ v3).setCell ⟨b, 4, none⟩ v4).setCell ⟨b, 5, none⟩ v5).setCell ⟨b, 6, none⟩ v6).setCell ⟨b, 7, none⟩ v7).cell? ⟨b, 7, none⟩ = some v7 := by
  refine ⟨?_, ?_, ?_, ?_, ?_, ?_, ?_, ?_⟩
  · rw [World.cell?_setCell_other _ _ _ _ (by simp), World.cell?_setCell_other _ _ _ _ (by simp), World.cell?_setCell_other _ _ _ _ (by simp), World.cell?_setCell_other _ _ _ _ (by simp), World.cell?_setCell_other _ _ _ _ (by simp), World.cell?_setCell_other _ _ _ _ (by simp), World.cell?_setCell_other _ _ _ _ (by simp)]; refine World.cell?_setCell_same' _ _ _ ?_; exact h 0 (by omega)
  · rw [World.cell?_setCell_other _ _ _ _ (by simp), World.cell?_setCell_other _ _ _ _ (by simp), World.cell?_setCell_other _ _ _ _ (by simp), World.cell?_setCell_other _ _ _ _ (by simp), World.cell?_setCell_other _ _ _ _ (by simp), World.cell?_setCell_other _ _ _ _ (by simp)]; refine World.cell?_setCell_same' _ _ _ ?_; rw [World.cell?_setCell_other _ _ _ _ (by simp)]; exact h 1 (by omega)
  · rw [World.cell?_setCell_other _ _ _ _ (by simp), World.cell?_setCell_other _ _ _ _ (by simp), World.cell?_setCell_other _ _ _ _ (by simp), World.cell?_setCell_other _ _ _ _ (by simp), World.cell?_setCell_other _ _ _ _ (by simp)]; refine World.cell?_setCell_same' _ _ _ ?_; rw [World.cell?_setCell_other _ _ _ _ (by simp), World.cell?_setCell_other _ _ _ _ (by simp)]; exact h 2 (by omega)
  · rw [World.cell?_setCell_other _ _ _ _ (by simp), World.cell?_setCell_other _ _ _ _ (by simp), World.cell?_setCell_other _ _ _ _ (by simp), World.cell?_setCell_other _ _ _ _ (by simp)]; refine World.cell?_setCell_same' _ _ _ ?_; rw [World.cell?_setCell_other _ _ _ _ (by simp), World.cell?_setCell_other _ _ _ _ (by simp), World.cell?_setCell_other _ _ _ _ (by simp)]; exact h 3 (by omega)
  · rw [World.cell?_setCell_other _ _ _ _ (by simp), World.cell?_setCell_other _ _ _ _ (by simp), World.cell?_setCell_other _ _ _ _ (by simp)]; refine World.cell?_setCell_same' _ _ _ ?_; rw [World.cell?_setCell_other _ _ _ _ (by simp), World.cell?_setCell_other _ _ _ _ (by simp), World.cell?_setCell_other _ _ _ _ (by simp), World.cell?_setCell_other _ _ _ _ (by simp)]; exact h 4 (by omega)
  · rw [World.cell?_setCell_other _ _ _ _ (by simp), World.cell?_setCell_other _ _ _ _ (by simp)]; refine World.cell?_setCell_same' _ _ _ ?_; rw [World.cell?_setCell_other _ _ _ _ (by simp), World.cell?_setCell_other _ _ _ _ (by simp), World.cell?_setCell_other _ _ _ _ (by simp), World.cell?_setCell_other _ _ _ _ (by simp), World.cell?_setCell_other _ _ _ _ (by simp)]; exact h 5 (by omega)
  · rw [World.cell?_setCell_other _ _ _ _ (by simp)]; refine World.cell?_setCell_same' _ _ _ ?_; rw [World.cell?_setCell_other _ _ _ _ (by simp), World.cell?_setCell_other _ _ _ _ (by simp), World.cell?_setCell_other _ _ _ _ (by simp), World.cell?_setCell_other _ _ _ _ (by simp), World.cell?_setCell_other _ _ _ _ (by simp), World.cell?_setCell_other _ _ _ _ (by simp)]; exact h 6 (by omega)
  · refine World.cell?_setCell_same' _ _ _ ?_; rw [World.cell?_setCell_other _ _ _ _ (by simp), World.cell?_setCell_other _ _ _ _ (by simp), World.cell?_setCell_other _ _ _ _ (by simp), World.cell?_setCell_other _ _ _ _ (by simp), World.cell?_setCell_other _ _ _ _ (by simp), World.cell?_setCell_other _ _ _ _ (by simp), World.cell?_setCell_other _ _ _ _ (by simp)]; exact h 7 (by omega)

end Go.Proofs.YtdkihpnckkfneaaGreat.Tr
namespace Go.Proofs.YtdkihpnckkfneaaGreat.Sg
open Go.RowKit Go.ChangeShapes Go.WideShapes Go.WideElems Go.Deep Go.Proofs.YtdkihpnckkfneaaGreat.Mem Go.Proofs.YtdkihpnckkfneaaGreat.Rw Go.Proofs.YtdkihpnckkfneaaGreat.Pw Go.Proofs.YtdkihpnckkfneaaGreat.P2 Go.Proofs.YtdkihpnckkfneaaGreat.Dd Go.Proofs.YtdkihpnckkfneaaGreat.Dv Go.Proofs.YtdkihpnckkfneaaGreat.Dl Go.Proofs.YtdkihpnckkfneaaGreat.Ds Go.Proofs.YtdkihpnckkfneaaGreat.Fd Go.Proofs.YtdkihpnckkfneaaGreat.Ch Go.Proofs.YtdkihpnckkfneaaGreat.Hn Go.Proofs.YtdkihpnckkfneaaGreat.Po
set_option linter.unusedVariables false
set_option linter.unusedSimpArgs false
open Go.Proofs.YtdkihpnckkfneaaGreat.Cm Go.Proofs.YtdkihpnckkfneaaGreat.Pl Go.Proofs.YtdkihpnckkfneaaGreat.Str Go.Proofs.YtdkihpnckkfneaaGreat.Hd Go.Proofs.YtdkihpnckkfneaaGreat.Jt Go.Proofs.YtdkihpnckkfneaaGreat.Ho Go.Proofs.YtdkihpnckkfneaaGreat.Pa Go.Proofs.YtdkihpnckkfneaaGreat.Di Go.Proofs.YtdkihpnckkfneaaGreat.Ig Go.Proofs.YtdkihpnckkfneaaGreat.Ir Go.Proofs.YtdkihpnckkfneaaGreat.Iq Go.Proofs.YtdkihpnckkfneaaGreat.IsName Go.Proofs.YtdkihpnckkfneaaGreat.Mo Go.Proofs.YtdkihpnckkfneaaGreat.Tr
open Go.Proofs.YtdkihpnckkfneaaGreat.Rw (owns_below owns_grown)

theorem dls_cell {zs : List D} {v : Value} (h : v ∈ dls zs) : v.oneCell' = true := by
  unfold dls at h
  obtain ⟨d, _, hd⟩ := List.mem_flatMap.1 h
  unfold dc at hd
  simp at hd
  rcases hd with rfl | rfl | rfl | rfl | rfl | rfl | rfl | rfl <;> rfl

end Go.Proofs.YtdkihpnckkfneaaGreat.Sg
namespace Go.Proofs.YtdkihpnckkfneaaGreat.Rm
open Go.RowKit Go.ChangeShapes Go.WideShapes Go.WideElems Go.Deep Go.Proofs.YtdkihpnckkfneaaGreat.Mem Go.Proofs.YtdkihpnckkfneaaGreat.Rw Go.Proofs.YtdkihpnckkfneaaGreat.Pw Go.Proofs.YtdkihpnckkfneaaGreat.P2 Go.Proofs.YtdkihpnckkfneaaGreat.Dd Go.Proofs.YtdkihpnckkfneaaGreat.Dv Go.Proofs.YtdkihpnckkfneaaGreat.Dl Go.Proofs.YtdkihpnckkfneaaGreat.Ds Go.Proofs.YtdkihpnckkfneaaGreat.Fd Go.Proofs.YtdkihpnckkfneaaGreat.Ch Go.Proofs.YtdkihpnckkfneaaGreat.Hn Go.Proofs.YtdkihpnckkfneaaGreat.Po
set_option linter.unusedVariables false
set_option linter.unusedSimpArgs false
open Go.Proofs.YtdkihpnckkfneaaGreat.Cm Go.Proofs.YtdkihpnckkfneaaGreat.Pl Go.Proofs.YtdkihpnckkfneaaGreat.Str Go.Proofs.YtdkihpnckkfneaaGreat.Hd Go.Proofs.YtdkihpnckkfneaaGreat.Jt Go.Proofs.YtdkihpnckkfneaaGreat.Ho Go.Proofs.YtdkihpnckkfneaaGreat.Pa Go.Proofs.YtdkihpnckkfneaaGreat.Di Go.Proofs.YtdkihpnckkfneaaGreat.Ig Go.Proofs.YtdkihpnckkfneaaGreat.Ir Go.Proofs.YtdkihpnckkfneaaGreat.Iq Go.Proofs.YtdkihpnckkfneaaGreat.IsName Go.Proofs.YtdkihpnckkfneaaGreat.Mo Go.Proofs.YtdkihpnckkfneaaGreat.Tr Go.Proofs.YtdkihpnckkfneaaGreat.Sg
open Go.Proofs.YtdkihpnckkfneaaGreat.Rw (owns_below owns_grown)

/-- Cells written over a list, one after another. -/
def layL : List Value → Nat → List Value → List Value
  | xs, _, [] => xs
  | xs, o, u :: r => layL (xs.set o u) (o + 1) r
theorem layL_len : ∀ (r xs : List Value) (o : Nat), (layL xs o r).length = xs.length
  | [], _, _ => rfl
  | u :: r, xs, o => by rw [layL, layL_len r]; simp
theorem layL_get : ∀ (r xs : List Value) (o : Nat), o + r.length ≤ xs.length → ∀ t, (layL xs o r)[t]? = if t < o then xs[t]? else if t < o + r.length then r[t - o]? else xs[t]?
  | [], xs, o, _, t => by
    rw [layL]
    split
    · rfl
    · rw [if_neg (by simp only [List.length_nil]; omega)]
  | u :: r, xs, o, h, t => by
    simp only [List.length_cons] at h
    rw [layL, layL_get r (xs.set o u) (o + 1) (by rw [List.length_set]; omega) t]
    by_cases c1 : t < o
    · rw [if_pos (by omega), if_pos c1, List.getElem?_set_ne (by omega)]
    · rw [if_neg c1]
      by_cases c2 : t = o
      · subst c2
        rw [if_pos (by omega), if_pos (by simp only [List.length_cons]; omega), Nat.sub_self, List.getElem?_set_self (by omega)]; rfl
      · rw [if_neg (by omega)]
        by_cases c3 : t < o + (r.length + 1)
        · rw [if_pos (by omega), if_pos (by simp only [List.length_cons]; exact c3), show t - o = (t - (o + 1)) + 1 by omega, List.getElem?_cons_succ]
        · rw [if_neg (by omega), if_neg (by simp only [List.length_cons]; exact c3), List.getElem?_set_ne (by omega)]
theorem gtrans {a b c : World} {row : Option Nat} (h : a.grownBy b row) (k : b.grownBy c row) : a.grownBy c row :=
  ⟨k.os.trans h.os, k.tape.trans h.tape, k.output.trans h.output, Nat.le_trans h.size k.size, fun i hi hne => (k.block i (Nat.lt_of_lt_of_le hi h.size) hne).trans (h.block i hi hne)⟩
theorem owns_lay {base : Nat} {e : TypeId} {size g n cap : Nat} : ∀ (r : List Value) (o : Nat) (w : World) (xs : List Value), w.ownsRow base e size (.slice (some ⟨g, 0, none⟩) n cap) n xs → (w.setCells g o r).ownsRow base e size (.slice (some ⟨g, 0, none⟩) n cap) n (layL xs o r) ∧ w.grownBy (w.setCells g o r) (some g)
  | [], _, w, _, h => ⟨h, World.grownBy.refl _ _⟩
  | u :: r, o, w, xs, h => by
    obtain ⟨h1, g1⟩ := h.stored o u
    obtain ⟨h2, g2⟩ := owns_lay r (o + 1) _ _ h1
    exact ⟨h2, gtrans g1 g2⟩
theorem owns_fewer {w : World} {base : Nat} {e : TypeId} {size g n cap : Nat} {xs : List Value} (h : w.ownsRow base e size (.slice (some ⟨g, 0, none⟩) n cap) n xs) {m : Nat} (hm : m ≤ n) : w.ownsRow base e size (.slice (some ⟨g, 0, none⟩) m cap) m (xs.take (m * size)) := by
  rcases h.2 with ⟨h', _⟩ | ⟨g', cap', cur, h', hb, hg, hnc, hcm, hcs, htake⟩
  · simp at h'
  · simp only [Value.slice.injEq, Option.some.injEq, Addr.mk.injEq, and_true, true_and] at h'
    obtain ⟨rfl, rfl⟩ := h'
    have hle : m * size ≤ n * size := Nat.mul_le_mul_right _ hm
    refine ⟨by rw [List.length_take, h.1]; omega, .inr ⟨g, cap, cur, rfl, hb, hg, by omega, hcm, hcs, ?_⟩⟩
    rw [← htake, List.take_take, Nat.min_eq_left hle]
theorem owns_cap {w : World} {base : Nat} {e : TypeId} {size g n cap : Nat} {xs : List Value} (h : w.ownsRow base e size (.slice (some ⟨g, 0, none⟩) n cap) n xs) : n ≤ cap ∧ cap ≤ maxLen := by
  rcases h.2 with ⟨h', _⟩ | ⟨g', cap', cur, h', hb, hg, hnc, hcm, hcs, htake⟩
  · simp at h'
  · simp only [Value.slice.injEq, Option.some.injEq, Addr.mk.injEq, and_true, true_and] at h'
    obtain ⟨rfl, rfl⟩ := h'
    exact ⟨hnc, hcm⟩
theorem rd_take {w : World} {B : Nat} {A : Option Addr} {xs : List Value} (h : Rd w B A xs) (k : Nat) : Rd w B A (xs.take k) := by
  rcases h with h | ⟨b, o, e, hb, hc⟩
  · exact Or.inl (by rw [h]; simp)
  · exact Or.inr ⟨b, o, e, hb, fun j u hj => hc j u (by rw [List.getElem?_take] at hj; split at hj; exact hj; cases hj)⟩

theorem dls_app (xs ys : List D) : dls (xs ++ ys) = dls xs ++ dls ys := by unfold dls; rw [List.flatMap_append]
theorem dls_part {zs : List D} {k : Nat} (h : k ≤ zs.length) : dls (zs.take k) = (dls zs).take (k * 8) ∧ dls (zs.drop k) = (dls zs).drop (k * 8) := by
  have e : dls zs = dls (zs.take k) ++ dls (zs.drop k) := by rw [← dls_app, List.take_append_drop]
  have l : (dls (zs.take k)).length = k * 8 := by rw [dls_len, List.length_take]; omega
  rw [e, ← l]
  exact ⟨(List.take_left).symm, (List.drop_left).symm⟩
/-- The list without its j-th. -/
def cut (zs : List D) (j : Nat) : List D := zs.take j ++ zs.drop (j + 1)
theorem cut_len {zs : List D} {j : Nat} (h : j < zs.length) : (cut zs j).length = zs.length - 1 := by unfold cut; simp; omega
theorem cut_lay {zs : List D} {j : Nat} (h : j < zs.length) {z : List Value} (hz : z.length = 8) : (layL (layL (dls zs) (j * 8) (dls (zs.drop (j + 1)))) ((zs.length - 1) * 8) z).take ((zs.length - 1) * 8) = dls (cut zs j) := by
  have l0 := dls_len zs
  have l1 : (dls (zs.drop (j + 1))).length = (zs.length - (j + 1)) * 8 := by rw [dls_len, List.length_drop]
  have l2 : (dls (zs.take j)).length = j * 8 := by rw [dls_len, List.length_take]; omega
  unfold cut
  rw [dls_app]
  apply List.ext_getElem?
  intro t
  rw [List.getElem?_take]
  by_cases c : t < (zs.length - 1) * 8
  · rw [if_pos c, layL_get _ _ _ (by rw [layL_len, hz, l0]; omega), if_pos c, layL_get _ _ _ (by rw [l1, l0]; omega)]
    by_cases c1 : t < j * 8
    · rw [if_pos c1, List.getElem?_append_left (by omega), (dls_part (Nat.le_of_lt h)).1, List.getElem?_take, if_pos c1]
    · rw [if_neg c1, if_pos (by omega), List.getElem?_append_right (by omega), l2]
  · rw [if_neg c, List.getElem?_eq_none (by rw [List.length_append, l1, l2]; omega)]

set_option maxRecDepth 100000 in
set_option maxHeartbeats 400000 in
theorem copiesD (a : Addr) (n0 c9 : Nat) (zs : List D) (w : World) (hn : zs.length = n0) (hb : n0 ≤ 1048576) (hr : Rd w w.heap.size (some a) (dls zs)) :
    Calls Tryz.prog 89 #[.slice (some a) n0 c9] w (RowD w zs) := by
  obtain ⟨i0, hi, hz0, hz1, hz2⟩ := info_of infoD
  have R0 := Lib.hid (World.ownsRow_lit (base := w.heap.size) (e := 36) (size := 8) w #[] 0 (Nat.le_refl _) (Nat.zero_le _) rfl)
  have HC := Lib.hid (show ∀ j u, (dls zs)[j]? = some u → (w.alloc (.cells #[] 36)).cell? (a.add j) = some u by
    intro j u hj
    have hl := (List.getElem?_eq_some_iff.1 hj).1
    obtain ⟨b, o, e, hbl, hc⟩ := hr.get hl
    injection e with e
    subst e
    have := hc j u hj
    rw [show (⟨b, o, none⟩ : Addr).add j = ⟨b, o + j, none⟩ by simp [Addr.add]]
    exact cell_alloc this)
  have HN := Lib.hid hn
  have HW := Lib.hid (show w.heap.size ≤ (w.alloc (.cells #[] 36)).heap.size by simp)
  clear hr hn
  go_enter Tryz.func89, Tryz.ntmps89
  go_wp2_with (at_builtin; refine wpList_append_own _ rfl _ _ 24 rfl w.heap.size 36 i0 (.agg #[.string ⟨#[]⟩, .int .i64 0, .string ⟨#[]⟩, .int .i64 0, .int .i64 0, .int .i64 0, .int .i64 0, .int .i64 0]) 8 80 Tryz.underlying24 hi hz0 hz1 hz2 rfl (by decide) _ _ _ rfl R0.out a n0 _ (dls zs) rfl (by rw [dls_len, HN.out]) HC.out (fun u hu => dls_cell hu) (by unfold maxLen; omega) (by omega) HW.out ?_; intro v' w5 hown' hgrow hnil)
  have hg : ∃ g c, v' = .slice (some ⟨g, 0, none⟩) n0 c := by
    rcases hown'.2 with ⟨e1, _⟩ | ⟨g, cap, cur, e1, _⟩
    · exact absurd (hnil.1 e1).1 (by intro h; cases h)
    · exact ⟨g, cap, by rw [e1, Nat.zero_add]⟩
  obtain ⟨g, c, rfl⟩ := hg
  have RO := Lib.hid (show w5.ownsRow w.heap.size 36 8 (.slice (some ⟨g, 0, none⟩) n0 c) n0 (dls zs) by
    have := hown'; rw [Nat.zero_add] at this; exact this)
  have B5 := Lib.hid (show Below w.heap.size w w5 from Below.grown (by go_grown) hgrow (by simp) (fun j hj => by cases hj; exact Nat.le_refl _))
  clear hown' hgrow hnil R0 HC
  go_wp2_with fail
  go_ret
  exact ⟨g, c, by rw [HN.out]; rfl, by rw [HN.out]; exact RO.out, B5.out⟩

end Go.Proofs.YtdkihpnckkfneaaGreat.Rm
namespace Go.Proofs.YtdkihpnckkfneaaGreat.Pu
open Go.RowKit Go.ChangeShapes Go.WideShapes Go.WideElems Go.Deep Go.Proofs.YtdkihpnckkfneaaGreat.Mem Go.Proofs.YtdkihpnckkfneaaGreat.Rw Go.Proofs.YtdkihpnckkfneaaGreat.Pw Go.Proofs.YtdkihpnckkfneaaGreat.P2 Go.Proofs.YtdkihpnckkfneaaGreat.Dd Go.Proofs.YtdkihpnckkfneaaGreat.Dv Go.Proofs.YtdkihpnckkfneaaGreat.Dl Go.Proofs.YtdkihpnckkfneaaGreat.Ds Go.Proofs.YtdkihpnckkfneaaGreat.Fd Go.Proofs.YtdkihpnckkfneaaGreat.Ch Go.Proofs.YtdkihpnckkfneaaGreat.Hn Go.Proofs.YtdkihpnckkfneaaGreat.Po
set_option linter.unusedVariables false
set_option linter.unusedSimpArgs false
open Go.Proofs.YtdkihpnckkfneaaGreat.Ho Go.Proofs.YtdkihpnckkfneaaGreat.Pa Go.Proofs.YtdkihpnckkfneaaGreat.Di Go.Proofs.YtdkihpnckkfneaaGreat.Ig Go.Proofs.YtdkihpnckkfneaaGreat.Ir Go.Proofs.YtdkihpnckkfneaaGreat.Iq Go.Proofs.YtdkihpnckkfneaaGreat.IsName

/-- The pump on which a device hangs, over so many lines. -/
def pmp (zs : List D) : Nat → D → ByteArray
  | 0, d => d.nm
  | f + 1, d => match zs[(fd zs d.ln).toNat]? with | some e => pmp zs f e | none => d.nm
/-- The pump of a name. -/
noncomputable def pumpV (zs : List D) (s : ByteArray) : ByteArray :=
  if rig zs = true then (if fd zs s < 0 then ⟨#[]⟩ else match zs[(fd zs s).toNat]? with | some d => pmp zs (d.kd - 1).toNat d | none => ⟨#[]⟩) else ⟨#[]⟩
theorem name_full {s : ByteArray} (h : nameB s = true) : (s.toList == []) = false := by
  unfold nameB at h
  have h1 := (@of_decide_eq_true _ (Classical.propDecidable _) h).1
  rw [ByteArray.toList_eq]
  have : s.data.toList.length = s.size := by simp
  cases e : s.data.toList with
  | nil => rw [e] at this; simp at this; omega
  | cons a r => rfl
theorem line_full {n l : ByteArray} (h : lineB n l = true) : (l.toList == []) = false := by
  unfold lineB at h
  rw [Bool.and_eq_true] at h
  exact name_full h.1
/-- What a device of a rig is. -/
theorem kinds {zs : List D} (H : Rig zs) {j : Nat} {d : D} (hd : zs[j]? = some d) :
    (d.kd = 1 ∧ (d.ln.toList == []) = true) ∨ ((d.kd = 2 ∨ d.kd = 3) ∧ (d.ln.toList == []) = false ∧ ∃ (q : Nat) (e : D), fd zs d.ln = (q : Int) ∧ zs[q]? = some e ∧ e.kd = d.kd - 1) := by
  obtain ⟨h1, _, h3⟩ := H.2 j d hd
  unfold dB devB at h1
  rw [Bool.and_eq_true] at h1
  by_cases k1 : d.kd = 1
  · rw [if_pos k1] at h1
    unfold pumpB at h1
    rw [Bool.and_eq_true, Bool.and_eq_true] at h1
    refine Or.inl ⟨k1, ?_⟩
    have h2 := h1.2.2.1
    unfold sb at h2
    rw [show (⟨#[]⟩ : ByteArray).toList = [] by simp [ByteArray.toList_eq]] at h2
    exact h2
  have fin : ∀ q : Int, kAt zs (fd zs d.ln) q = true → ∃ (p : Nat) (e : D), fd zs d.ln = (p : Int) ∧ zs[p]? = some e ∧ e.kd = q := by
    intro q hq
    rcases fd_cases zs d.ln with hf | ⟨p, hf, _, e, he, _⟩
    · rw [hf, kAt_no] at hq; cases hq
    · rw [hf, kAt_yes he] at hq
      exact ⟨p, e, hf, he, by simpa using hq⟩
  by_cases k2 : d.kd = 2
  · rw [if_neg k1, if_pos k2] at h1
    rw [k2, hgV_2] at h3
    unfold nozB at h1
    rw [Bool.and_eq_true] at h1
    exact Or.inr ⟨Or.inl k2, line_full h1.2.1, by rw [k2]; exact fin 1 h3⟩
  by_cases k3 : d.kd = 3
  · rw [if_neg k1, if_neg k2, if_pos k3] at h1
    rw [k3, hgV_3] at h3
    unfold lampB at h1
    rw [Bool.and_eq_true] at h1
    exact Or.inr ⟨Or.inr k3, line_full h1.2.1, by rw [k3]; exact fin 2 h3⟩
  · rw [if_neg k1, if_neg k2, if_neg k3] at h1
    cases h1.2
/-- The chase has come to this device. -/
def At (zs : List D) (r : ByteArray) (j : Nat) (d : D) : Prop := zs[j]? = some d ∧ (d.kd = 1 ∨ d.kd = 2 ∨ d.kd = 3) ∧ pmp zs (d.kd - 1).toNat d = r
theorem at_first {zs : List D} {s : ByteArray} (H : Rig zs) {j : Nat} {d : D} (hf : fd zs s = (j : Int)) (hd : zs[j]? = some d) : At zs (pumpV zs s) j d := by
  refine ⟨hd, ?_, ?_⟩
  · rcases kinds H hd with ⟨k, _⟩ | ⟨k, _⟩ <;> omega
  · unfold pumpV
    rw [if_pos (rig_yes H), hf, if_neg (by omega), Int.toNat_natCast, hd]
theorem at_pump {zs : List D} {r : ByteArray} {j : Nat} {d : D} (h : At zs r j d) (hk : d.kd = 1) : d.nm = r := by
  have := h.2.2
  rw [hk] at this
  exact this
theorem at_next {zs : List D} {r : ByteArray} (H : Rig zs) {j : Nat} {d : D} (h : At zs r j d) (hk : d.kd ≠ 1) : ∃ (q : Nat) (e : D), fd zs d.ln = (q : Int) ∧ At zs r q e ∧ e.kd < d.kd := by
  rcases kinds H h.1 with ⟨k, _⟩ | ⟨k, _, q, e, hf, he, hke⟩
  · exact absurd k hk
  · refine ⟨q, e, hf, ⟨he, by omega, ?_⟩, by omega⟩
    have := h.2.2
    rw [show (d.kd - 1).toNat = (e.kd - 1).toNat + 1 by omega] at this
    unfold pmp at this
    rw [hf, Int.toNat_natCast, he] at this
    exact this
/-- How far the chase still is. -/
def far (zs : List D) (v : Value) : Nat := (((zs[(intOf v).toNat]?).map D.kd).getD 0).toNat
theorem far_at {zs : List D} {j : Nat} {d : D} (h : zs[j]? = some d) : far zs (.int .i64 (j : Int)) = d.kd.toNat := by
  unfold far; simp only [intOf, Int.toNat_natCast, h, Option.map_some, Option.getD_some]
theorem ret_str {a b : ByteArray} (h : a = b) : Ending.returned (.string a) = .returned (.string b) := by rw [h]
/-- The cells of a device of a list. -/
theorem dcells {W : World} {B : Nat} {b o : Nat} {zs : List D} {A : Option Addr} (h : Rd W B A (dls zs)) (eA : A = some ⟨b, o, none⟩) {j : Nat} {d : D} (hd : zs[j]? = some d) :
    W.cell? ⟨b, o + j * 8, none⟩ = some (.string d.nm) ∧ W.cell? ⟨b, o + j * 8 + 1, none⟩ = some (.int .i64 d.kd) ∧ W.cell? ⟨b, o + j * 8 + 2, none⟩ = some (.string d.ln) := by
  obtain ⟨b', o', e, _, hc⟩ := h.get (k := j * 8) (by rw [dls_len]; have := (List.getElem?_eq_some_iff.1 hd).1; omega)
  rw [eA] at e
  injection e with e
  injection e with e1 e2
  subst e1 e2
  have z := dls_get hd
  refine ⟨hc _ _ z.1, ?_, ?_⟩
  · rw [Nat.add_assoc]; exact hc _ _ z.2.1
  · rw [Nat.add_assoc]; exact hc _ _ z.2.2.1

end Go.Proofs.YtdkihpnckkfneaaGreat.Pu
