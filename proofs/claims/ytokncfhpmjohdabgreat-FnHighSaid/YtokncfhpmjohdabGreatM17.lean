/- A show that comes in: its three lists and its ticks. -/
import Derived.Test.YtokncfhpmjohdabGreatM6
import Derived.Test.YtokncfhpmjohdabGreatM1
import Derived.Test.YtokncfhpmjohdabGreatM15
import Derived.Lib.SmallJoins
import Derived.Test.YtokncfhpmjohdabGreatM3
import Derived.Test.YtokncfhpmjohdabGreatM16
import Derived.Test.YtokncfhpmjohdabGreatM4
import Derived.Deep.RegionHeld3
set_option linter.unusedVariables false
set_option linter.unusedSimpArgs false
namespace Go.Proofs.YtokncfhpmjohdabGreat.Sp
open Go.RowKit Go.ChangeShapes Go.WideShapes Go.WideElems Go.Joins Go.Deep Go.Proofs.YtokncfhpmjohdabGreat.Mem Go.Proofs.YtokncfhpmjohdabGreat.Rw
set_option linter.unusedVariables false
set_option linter.unusedSimpArgs false

/-- A show as a value. -/
abbrev sv (A0 : Option Addr) (n0 c0 : Nat) (A1 : Option Addr) (n1 c1 : Nat) (A2 : Option Addr) (n2 c2 : Nat) (T : Int) : Value := .agg #[.slice A0 n0 c0, .slice A1 n1 c1, .slice A2 n2 c2, .int .i64 T]
abbrev sc (A0 : Option Addr) (n0 c0 : Nat) (A1 : Option Addr) (n1 c1 : Nat) (A2 : Option Addr) (n2 c2 : Nat) (T : Int) : Array Value := #[.slice A0 n0 c0, .slice A1 n1 c1, .slice A2 n2 c2, .int .i64 T]

section
variable {H : Type} {enc : TypeId × Value → H} {P : Program} {G : Type} {cells : G → List Value} {K : Nat}
end

section
variable {H : Type} {enc : TypeId × Value → H}
end
end Go.Proofs.YtokncfhpmjohdabGreat.Sp
namespace Go.Proofs.YtokncfhpmjohdabGreat.SzG
open Go.RowKit
set_option linter.unusedVariables false
set_option linter.unusedSimpArgs false

end Go.Proofs.YtokncfhpmjohdabGreat.SzG
namespace Go.Proofs.YtokncfhpmjohdabGreat.Sq
open Go.RowKit Go.ChangeShapes Go.WideShapes Go.WideElems Go.Deep Go.Proofs.YtokncfhpmjohdabGreat.Mem Go.Proofs.YtokncfhpmjohdabGreat.Rw Go.Proofs.YtokncfhpmjohdabGreat.P2 Go.Proofs.YtokncfhpmjohdabGreat.Bk Go.Proofs.YtokncfhpmjohdabGreat.Sp
set_option linter.unusedVariables false
set_option linter.unusedSimpArgs false
abbrev D := Dd.D
abbrev C := Cd.C
abbrev G := Int × Int × Int

/-- A show in memory: its three lists can be read. -/
def SR (w : World) (A0 A1 A2 : Option Addr) (ds : List D) (cs : List C) (gs : List G) : Prop := Rd w w.heap.size A0 (Dd.dls ds) ∧ Rd w w.heap.size A1 (Cd.dls cs) ∧ Rd w w.heap.size A2 (Gs.gls gs)
theorem SR.below {w w' : World} {A0 A1 A2 : Option Addr} {ds : List D} {cs : List C} {gs : List G} (h : SR w A0 A1 A2 ds cs gs) (hb : Below w.heap.size w w') : SR w' A0 A1 A2 ds cs gs :=
  ⟨(h.1.below hb).more hb.size, (h.2.1.below hb).more hb.size, (h.2.2.below hb).more hb.size⟩
section
variable {w w' : World} {A0 A1 A2 : Option Addr} {ds : List D} {cs : List C} {gs : List G}
theorem SR.r0 (h : SR w A0 A1 A2 ds cs gs) : Rd w w.heap.size A0 (Dd.dls ds) := h.1
theorem SR.r1 (h : SR w A0 A1 A2 ds cs gs) : Rd w w.heap.size A1 (Cd.dls cs) := h.2.1
theorem SR.r2 (h : SR w A0 A1 A2 ds cs gs) : Rd w w.heap.size A2 (Gs.gls gs) := h.2.2
theorem SR.at (h : SR w A0 A1 A2 ds cs gs) {B : Nat} (hB : w.heap.size ≤ B) (hb : Below w.heap.size w w') (hB2 : B ≤ w'.heap.size) : SR w' A0 A1 A2 ds cs gs := h.below hb
end
theorem SR.own {w : World} {base g0 g1 g2 n0 n1 n2 c0 c1 c2 : Nat} {ds : List D} {cs : List C} {gs : List G} {e0 e1 e2 : TypeId} {s0 s1 s2 : Nat}
    (h0 : w.ownsRow base e0 s0 (.slice (some ⟨g0, 0, none⟩) n0 c0) n0 (Dd.dls ds)) (h1 : w.ownsRow base e1 s1 (.slice (some ⟨g1, 0, none⟩) n1 c1) n1 (Cd.dls cs)) (h2 : w.ownsRow base e2 s2 (.slice (some ⟨g2, 0, none⟩) n2 c2) n2 (Gs.gls gs)) :
    SR w (some ⟨g0, 0, none⟩) (some ⟨g1, 0, none⟩) (some ⟨g2, 0, none⟩) ds cs gs := ⟨Rd.own h0, Rd.own h1, Rd.own h2⟩
/-- How many there are of each. -/
def Fit (n0 n1 n2 : Nat) (ds : List D) (cs : List C) (gs : List G) : Prop := (ds.length = n0 ∧ n0 ≤ 1048576) ∧ (cs.length = n1 ∧ n1 ≤ 1048576) ∧ (gs.length = n2 ∧ n2 ≤ 1048576)

theorem ret_int {a b : Int} (h : a = b) : Ending.returned (.int .i64 a) = .returned (.int .i64 b) := by rw [h]
end Go.Proofs.YtokncfhpmjohdabGreat.Sq
namespace Go.Proofs.YtokncfhpmjohdabGreat.Si7
open Go.RowKit Go.ChangeShapes Go.WideShapes Go.WideElems Go.Deep Go.Proofs.YtokncfhpmjohdabGreat.Mem Go.Proofs.YtokncfhpmjohdabGreat.Rw Go.Proofs.YtokncfhpmjohdabGreat.P2 Go.Proofs.YtokncfhpmjohdabGreat.Cd Go.Proofs.YtokncfhpmjohdabGreat.Cv Go.Proofs.YtokncfhpmjohdabGreat.Cl Go.Proofs.YtokncfhpmjohdabGreat.Cs
set_option linter.unusedVariables false
set_option linter.unusedSimpArgs false
open Go.Proofs.YtokncfhpmjohdabGreat.Sd

set_option maxHeartbeats 8000000 in
set_option maxRecDepth 100000 in
theorem scoreI (A : Option Addr) (n0 c9 : Nat) (zs : List C) (w : World) (hn : zs.length = n0) (hb : n0 ≤ 1048576) (hr : Rd w w.heap.size A (dls zs)) :
    Calls Tryz.prog 62 #[.slice A n0 c9] w fun e w' => e = .returned (.bool (score zs)) ∧ Below w.heap.size w w' := by
  have hu : undef = Value.tuple #[] := rfl
  have HR := Lib.hid hr
  have HN := Lib.hid hn
  clear hr hn
  by_cases h8 : (12 : Int) < (n0 : Int)
  · have HH := Lib.hid (show score zs = false from score_no fun H => by have := H.1; rw [HN.out] at this; omega)
    go_enter Tryz.func62, Tryz.ntmps62
    go_wp2_with fail
    go_returns
    exact ⟨by rw [HH.out]; rfl, Below.refl _ _⟩
  go_enter Tryz.func62, Tryz.ntmps62
  go_wp2_with fail
  go_loopw [10] (fun i wr => ∃ k : Nat, k ≤ n0 ∧ i = .int .i64 k ∧ Hid (∀ (j : Nat) (d : C), j < k → zs[j]? = some d → cB d = true ∧ ordA zs j = true) ∧ Hid (Below w.heap.size w wr)) (fun i _ => n0 - (intOf i).toNat)
  case atStart => exact ⟨0, Nat.zero_le _, rfl, Lib.hid (fun j d h => by omega), Lib.hid (Below.refl _ _)⟩
  case round =>
    obtain ⟨k, hk, rfl, AK, BK⟩ := hrel
    by_cases hlt : k < n0
    · obtain ⟨z, hz⟩ : ∃ z, zs[k]? = some z := ⟨_, List.getElem?_eq_getElem (by rw [HN.out]; exact hlt)⟩
      have HZ := Lib.hid hz
      have hdb : cB z = cueB z.tk z.nm z.lv z.rp := rfl
      have CD := isCueI z.tk z.nm z.lv z.rp
      rw [← hdb] at CD
      have RW := Lib.hid (HR.out.below BK.out)
      obtain ⟨bd, hbd⟩ : ∃ r, cB z = r := ⟨_, rfl⟩
      rw [hbd] at CD
      have CD := Lib.hid CD
      have HBD := Lib.hid hbd
      clear hdb hbd
      obtain ⟨t, n, l, r⟩ := z
      simp only [] at CD
      obtain ⟨b, o, eA, hbl, hcell⟩ := RW.out.get (k := k * 4) (by rw [dls_len, HN.out]; omega)
      have HC := Lib.hid hcell
      have zz := dls_get hz
      have c0 := hcell _ _ zz.1
      have c1 := hcell _ _ zz.2.1
      rw [← Nat.add_assoc] at c1
      have c2 := hcell _ _ zz.2.2.1
      rw [← Nat.add_assoc] at c2
      have c3 := hcell _ _ zz.2.2.2
      rw [← Nat.add_assoc] at c3
      clear hcell zz hz
      subst eA
      cases bd
      · have HH := Lib.hid (show score zs = false from score_no fun H => by have := H.2 k _ HZ.out; rw [HBD.out] at this; cases this.1)
        go_wp2_with fail
        refine (CD.out _).mono ?_
        rintro e w1 ⟨rfl, rfl⟩
        go_wp2_with fail
        go_ret
        exact ⟨by rw [HH.out]; rfl, BK.out.trans (Below.mono (by go_grown) BK.out.size)⟩
      by_cases k0 : k = 0
      · have HO := Lib.hid (show ordA zs k = true by rw [k0]; rfl)
        have g1 : decide (0 < (k : Int)) = false := decide_eq_false (by omega)
        have g2 : ¬ 0 < (k : Int) := by omega
        have g0 : ¬ 0 < k := by omega
        have HK0 := Lib.hid k0
        clear k0
        go_wp2_with fail
        refine (CD.out _).mono ?_
        rintro e w1 ⟨rfl, rfl⟩
        go_wp2_with fail
        refine wp_region_noPanic ?_
        refine wp_region_held_drew (S := (fun w' => w'.cell? ⟨wr.heap.size, 0, none⟩ = some (.int .i64 t) ∧ w'.cell? ⟨wr.heap.size, 1, none⟩ = some (.string n) ∧ w'.cell? ⟨wr.heap.size, 2, none⟩ = some (.int .i64 l) ∧ w'.cell? ⟨wr.heap.size, 3, none⟩ = some (.int .i64 r) ∧ Below wr.heap.size wr w')) (by kernel_rfl) ?_ (fun hH => ?_)
        · exact ⟨by simp [go_sem], by simp [go_sem], by simp [go_sem], by simp [go_sem], by go_grown⟩
        refine wpAnyH_take (i := 0) (oi := { dst := some 18, op := _, type := _, pos := _, after := _, guard := _ }) (v := ?_) rfl (by kernel_rfl) (by kernel_rfl) (by kernel_rfl) (fun _ _ _ h => h) (Or.inl ⟨by rfl, ?_⟩) hH ?_
        rotate_left 1
        · intro W hSw
          (try dsimp only at hSw)
          go_simp
          (try with_reducible rfl)
        try simp only [Act.put, List.setIfInBounds_toArray, List.set_cons_zero, List.set_cons_succ]
        refine wpAnyH_take (i := 1) (oi := { dst := some 19, op := _, type := _, pos := _, after := _, guard := _ }) (v := ?_) rfl (by kernel_rfl) (by kernel_rfl) (by kernel_rfl) (fun _ _ _ h => h) (Or.inl ⟨by rfl, ?_⟩) hH ?_
        rotate_left 1
        · intro W hSw
          (try dsimp only at hSw)
          go_simp
          (try with_reducible rfl)
        try simp only [Act.put, List.setIfInBounds_toArray, List.set_cons_zero, List.set_cons_succ]
        refine wpAnyH_take (i := 2) (oi := { dst := some 20, op := _, type := _, pos := _, after := _, guard := _ }) (v := ?_) rfl (by kernel_rfl) (by kernel_rfl) (by kernel_rfl) (fun _ _ _ h => h) (Or.inl ⟨by rfl, ?_⟩) hH ?_
        rotate_left 1
        · intro W hSw
          (try dsimp only at hSw)
          go_simp
          (try with_reducible rfl)
        try simp only [Act.put, List.setIfInBounds_toArray, List.set_cons_zero, List.set_cons_succ]
        refine wpAnyH_take (i := 3) (oi := { dst := some 21, op := _, type := _, pos := _, after := _, guard := _ }) (v := undef) rfl (by kernel_rfl) (by kernel_rfl) (by kernel_rfl) (fun _ _ _ h => h) (Or.inr ⟨by simp [Region.wanted, yielded, hu, HK0.out], rfl⟩) hH ?_
        try simp only [Act.put, List.setIfInBounds_toArray, List.set_cons_zero, List.set_cons_succ]
        refine wpAnyH_take (i := 4) (oi := { dst := some 22, op := _, type := _, pos := _, after := _, guard := _ }) (v := undef) rfl (by kernel_rfl) (by kernel_rfl) (by kernel_rfl) (fun _ _ _ h => h) (Or.inr ⟨by simp [Region.wanted, yielded, hu, HK0.out], rfl⟩) hH ?_
        try simp only [Act.put, List.setIfInBounds_toArray, List.set_cons_zero, List.set_cons_succ]
        refine wpAnyH_take (i := 5) (oi := { dst := some 23, op := _, type := _, pos := _, after := _, guard := _ }) (v := undef) rfl (by kernel_rfl) (by kernel_rfl) (by kernel_rfl) (fun _ _ _ h => h) (Or.inr ⟨by simp [Region.wanted, yielded, hu, HK0.out], rfl⟩) hH ?_
        try simp only [Act.put, List.setIfInBounds_toArray, List.set_cons_zero, List.set_cons_succ]
        refine wpAnyH_take (i := 6) (oi := { dst := some 24, op := _, type := _, pos := _, after := _, guard := _ }) (v := undef) rfl (by kernel_rfl) (by kernel_rfl) (by kernel_rfl) (fun _ _ _ h => h) (Or.inr ⟨by simp [Region.wanted, yielded, hu, HK0.out], rfl⟩) hH ?_
        try simp only [Act.put, List.setIfInBounds_toArray, List.set_cons_zero, List.set_cons_succ]
        refine wpAnyH_take (i := 7) (oi := { dst := some 25, op := _, type := _, pos := _, after := _, guard := _ }) (v := undef) rfl (by kernel_rfl) (by kernel_rfl) (by kernel_rfl) (fun _ _ _ h => h) (Or.inr ⟨by simp [Region.wanted, yielded, hu, HK0.out], rfl⟩) hH ?_
        try simp only [Act.put, List.setIfInBounds_toArray, List.set_cons_zero, List.set_cons_succ]
        refine wpAnyH_take (i := 8) (oi := { dst := some 26, op := _, type := _, pos := _, after := _, guard := _ }) (v := undef) rfl (by kernel_rfl) (by kernel_rfl) (by kernel_rfl) (fun _ _ _ h => h) (Or.inr ⟨by simp [Region.wanted, yielded, hu, HK0.out], rfl⟩) hH ?_
        try simp only [Act.put, List.setIfInBounds_toArray, List.set_cons_zero, List.set_cons_succ]
        refine wpAnyH_take (i := 9) (oi := { dst := some 27, op := _, type := _, pos := _, after := _, guard := _ }) (v := undef) rfl (by kernel_rfl) (by kernel_rfl) (by kernel_rfl) (fun _ _ _ h => h) (Or.inr ⟨by simp [Region.wanted, yielded, hu, HK0.out], rfl⟩) hH ?_
        try simp only [Act.put, List.setIfInBounds_toArray, List.set_cons_zero, List.set_cons_succ]
        refine wpAnyH_take (i := 10) (oi := { dst := some 28, op := _, type := _, pos := _, after := _, guard := _ }) (v := undef) rfl (by kernel_rfl) (by kernel_rfl) (by kernel_rfl) (fun _ _ _ h => h) (Or.inr ⟨by simp [Region.wanted, yielded, hu, HK0.out], rfl⟩) hH ?_
        try simp only [Act.put, List.setIfInBounds_toArray, List.set_cons_zero, List.set_cons_succ]
        refine wpAnyH_take (i := 11) (oi := { dst := some 29, op := _, type := _, pos := _, after := _, guard := _ }) (v := ?_) rfl (by kernel_rfl) (by kernel_rfl) (by kernel_rfl) (fun _ _ _ h => h) (Or.inl ⟨by rfl, ?_⟩) hH ?_
        rotate_left 1
        · intro W hSw
          (try dsimp only at hSw)
          go_simp
          (try with_reducible rfl)
        try simp only [Act.put, List.setIfInBounds_toArray, List.set_cons_zero, List.set_cons_succ]
        refine wpAnyH_done (by kernel_rfl) ?_ _
        refine NoPanic.normal ?_
        have B4 := Lib.hid (BK.out.trans (hH.2.2.2.2.mono BK.out.size))
        clear hH
        go_wp2_with fail
        have REL := Lib.hid (show ∀ (j : Nat) (d : C), j < k + 1 → zs[j]? = some d → cB d = true ∧ ordA zs j = true from fun j d hj hd => by
          by_cases e : j = k
          · subst e; rw [HZ.out] at hd; cases hd; exact ⟨HBD.out, HO.out⟩
          · exact AK.out j d (by omega) hd)
        go_roundw
        case rel => first | exact ⟨k + 1, by omega, by go_num, REL, B4⟩ | ((repeat apply Exists.intro); exact ⟨⟨k + 1, by omega, by go_num, REL, B4⟩, rfl⟩)
        case measure => simp [intOf]; omega
      obtain ⟨p, hp⟩ : ∃ p, k = p + 1 := ⟨k - 1, by omega⟩
      obtain ⟨d2, hd2⟩ : ∃ d, zs[p]? = some d := ⟨_, List.getElem?_eq_getElem (by rw [HN.out]; omega)⟩
      have HO := ordA_succ hd2 (by rw [← hp]; exact HZ.out)
      rw [← hp] at HO
      obtain ⟨t2, n2, l2, r2⟩ := d2
      have zz := dls_get hd2
      simp only [cmp2] at HO
      have e0 := HC.out _ _ zz.1
      have e1 := HC.out _ _ zz.2.1
      rw [← Nat.add_assoc] at e1
      have e2 := HC.out _ _ zz.2.2.1
      rw [← Nat.add_assoc] at e2
      have e3 := HC.out _ _ zz.2.2.2
      rw [← Nat.add_assoc] at e3
      have gk : 0 < k := by omega
      have g0 : decide (0 < k) = true := decide_eq_true gk
      have g1 : decide (0 < (k : Int)) = true := decide_eq_true (by omega)
      have g2 : 0 < (k : Int) := by omega
      have g3 : IntKind.i64.wrap ((k : Int) - 1) = (p : Int) := by rw [hp, IntWalk.i64_in _ (by omega)]; omega
      have g4 : wrap64 ((k : Int) - 1) = (p : Int) := by rw [hp, IntWalk.wrap64_in _ (by omega)]; omega
      have g5 : p < n0 := by omega
      have CC := compareI t2 n2 l2 r2 t n l r
      obtain ⟨v, hv⟩ : ∃ v, cc t2 n2 t n = v := ⟨_, rfl⟩
      rw [hv] at CC HO
      have CC := Lib.hid CC
      obtain ⟨bo, hbo⟩ : ∃ r, neg v = r := ⟨_, rfl⟩
      rw [hbo] at HO
      have HO := Lib.hid HO
      have hvb : decide (0 ≤ v) = !bo := by
        rw [← hbo]; unfold neg
        by_cases h : v < 0
        · rw [decide_eq_true h, decide_eq_false (by omega)]; rfl
        · rw [decide_eq_false h, decide_eq_true (by omega)]; rfl
      clear hd2 hp hbo hv k0 zz
      cases bo
      all_goals
        simp only [Bool.not_true, Bool.not_false] at hvb
        go_wp2_with fail
        refine (CD.out _).mono ?_
        rintro e w1 ⟨rfl, rfl⟩
        go_wp2_with fail
        refine wp_region_noPanic ?_
        refine wp_region_held_drew (S := (fun w' => w'.cell? ⟨wr.heap.size, 0, none⟩ = some (.int .i64 t) ∧ w'.cell? ⟨wr.heap.size, 1, none⟩ = some (.string n) ∧ w'.cell? ⟨wr.heap.size, 2, none⟩ = some (.int .i64 l) ∧ w'.cell? ⟨wr.heap.size, 3, none⟩ = some (.int .i64 r) ∧ w'.cell? ⟨b, o + p * 4, none⟩ = some (.int .i64 t2) ∧ w'.cell? ⟨b, o + p * 4 + 1, none⟩ = some (.string n2) ∧ w'.cell? ⟨b, o + p * 4 + 2, none⟩ = some (.int .i64 l2) ∧ w'.cell? ⟨b, o + p * 4 + 3, none⟩ = some (.int .i64 r2) ∧ Below wr.heap.size wr w')) (by kernel_rfl) ?_ (fun hH => ?_)
        · exact ⟨by simp [go_sem], by simp [go_sem], by simp [go_sem], by simp [go_sem], by simp only [World.cell?_drew]; exact cell_alloc (cell_alloc e0), by simp only [World.cell?_drew]; exact cell_alloc (cell_alloc e1), by simp only [World.cell?_drew]; exact cell_alloc (cell_alloc e2), by simp only [World.cell?_drew]; exact cell_alloc (cell_alloc e3), by go_grown⟩
        refine wpAnyH_take (i := 0) (oi := { dst := some 18, op := _, type := _, pos := _, after := _, guard := _ }) (v := ?_) rfl (by kernel_rfl) (by kernel_rfl) (by kernel_rfl) (fun _ _ _ h => h) (Or.inl ⟨by rfl, ?_⟩) hH ?_
        rotate_left 1
        · intro W hSw
          (try dsimp only at hSw)
          go_simp
          (try with_reducible rfl)
        try simp only [Act.put, List.setIfInBounds_toArray, List.set_cons_zero, List.set_cons_succ]
        refine wpAnyH_take (i := 1) (oi := { dst := some 19, op := _, type := _, pos := _, after := _, guard := _ }) (v := ?_) rfl (by kernel_rfl) (by kernel_rfl) (by kernel_rfl) (fun _ _ _ h => h) (Or.inl ⟨by rfl, ?_⟩) hH ?_
        rotate_left 1
        · intro W hSw
          (try dsimp only at hSw)
          go_simp
          (try with_reducible rfl)
        try simp only [Act.put, List.setIfInBounds_toArray, List.set_cons_zero, List.set_cons_succ]
        refine wpAnyH_take (i := 2) (oi := { dst := some 20, op := _, type := _, pos := _, after := _, guard := _ }) (v := ?_) rfl (by kernel_rfl) (by kernel_rfl) (by kernel_rfl) (fun _ _ _ h => h) (Or.inl ⟨by rfl, ?_⟩) hH ?_
        rotate_left 1
        · intro W hSw
          (try dsimp only at hSw)
          go_simp
          (try with_reducible rfl)
        try simp only [Act.put, List.setIfInBounds_toArray, List.set_cons_zero, List.set_cons_succ]
        refine wpAnyH_take (i := 3) (oi := { dst := some 21, op := _, type := _, pos := _, after := _, guard := _ }) (v := ?_) rfl (by kernel_rfl) (by kernel_rfl) (by kernel_rfl) (fun _ _ _ h => h) (Or.inl ⟨by rfl, ?_⟩) hH ?_
        rotate_left 1
        · intro W hSw
          (try dsimp only at hSw)
          go_simp
          (try with_reducible rfl)
        try simp only [Act.put, List.setIfInBounds_toArray, List.set_cons_zero, List.set_cons_succ]
        refine wpAnyH_take (i := 4) (oi := { dst := some 22, op := _, type := _, pos := _, after := _, guard := _ }) (v := ?_) rfl (by kernel_rfl) (by kernel_rfl) (by kernel_rfl) (fun _ _ _ h => h) (Or.inl ⟨by rfl, ?_⟩) hH ?_
        rotate_left 1
        · intro W hSw
          (try dsimp only at hSw)
          go_simp
          (try with_reducible rfl)
        try simp only [Act.put, List.setIfInBounds_toArray, List.set_cons_zero, List.set_cons_succ]
        refine wpAnyH_take (i := 5) (oi := { dst := some 23, op := _, type := _, pos := _, after := _, guard := _ }) (v := ?_) rfl (by kernel_rfl) (by kernel_rfl) (by kernel_rfl) (fun _ _ _ h => h) (Or.inl ⟨by rfl, ?_⟩) hH ?_
        rotate_left 1
        · intro W hSw
          (try dsimp only at hSw)
          go_simp
          (try with_reducible rfl)
        try simp only [Act.put, List.setIfInBounds_toArray, List.set_cons_zero, List.set_cons_succ]
        refine wpAnyH_take (i := 6) (oi := { dst := some 24, op := _, type := _, pos := _, after := _, guard := _ }) (v := ?_) rfl (by kernel_rfl) (by kernel_rfl) (by kernel_rfl) (fun _ _ _ h => h) (Or.inl ⟨by rfl, ?_⟩) hH ?_
        rotate_left 1
        · intro W hSw
          (try dsimp only at hSw)
          go_simp
          (try with_reducible rfl)
        try simp only [Act.put, List.setIfInBounds_toArray, List.set_cons_zero, List.set_cons_succ]
        refine wpAnyH_take (i := 7) (oi := { dst := some 25, op := _, type := _, pos := _, after := _, guard := _ }) (v := ?_) rfl (by kernel_rfl) (by kernel_rfl) (by kernel_rfl) (fun _ _ _ h => h) (Or.inl ⟨by rfl, ?_⟩) hH ?_
        rotate_left 1
        · intro W hSw
          (try dsimp only at hSw)
          go_simp
          (try with_reducible rfl)
        try simp only [Act.put, List.setIfInBounds_toArray, List.set_cons_zero, List.set_cons_succ]
        refine wpAnyH_take (i := 8) (oi := { dst := some 26, op := _, type := _, pos := _, after := _, guard := _ }) (v := ?_) rfl (by kernel_rfl) (by kernel_rfl) (by kernel_rfl) (fun _ _ _ h => h) (Or.inl ⟨by rfl, ?_⟩) hH ?_
        rotate_left 1
        · intro W hSw
          (try dsimp only at hSw)
          go_simp
          (try with_reducible rfl)
        try simp only [Act.put, List.setIfInBounds_toArray, List.set_cons_zero, List.set_cons_succ]
        refine wpAnyH_ready (rs := [9]) (by kernel_rfl) (by simp) (AllReadyH.cons rfl (fun K hK => ?_) AllReadyH.nil)
        go_simp
        go_at_call 105; ((with_reducible refine (CC.out _).mono ?_); rintro e r2 ⟨rfl, hb9⟩); go_wp2_with fail
        refine hK.out _ _ ?_ (fun hG => ?_)
        · exact ⟨cell_below hb9 hH.1, cell_below hb9 hH.2.1, cell_below hb9 hH.2.2.1, cell_below hb9 hH.2.2.2.1, cell_below hb9 hH.2.2.2.2.1, cell_below hb9 hH.2.2.2.2.2.1, cell_below hb9 hH.2.2.2.2.2.2.1, cell_below hb9 hH.2.2.2.2.2.2.2.1, Below.trans hH.2.2.2.2.2.2.2.2 (hb9.mono hH.2.2.2.2.2.2.2.2.size)⟩
        replace hH := hG
        clear hK K hG
        try simp only [Act.put, List.setIfInBounds_toArray, List.set_cons_zero, List.set_cons_succ]
        refine wpAnyH_take (i := 10) (oi := { dst := some 28, op := _, type := _, pos := _, after := _, guard := _ }) (v := ?_) rfl (by kernel_rfl) (by kernel_rfl) (by kernel_rfl) (fun _ _ _ h => h) (Or.inl ⟨by rfl, ?_⟩) hH ?_
        rotate_left 1
        · intro W hSw
          (try dsimp only at hSw)
          go_simp
          (try with_reducible rfl)
        try simp only [Act.put, List.setIfInBounds_toArray, List.set_cons_zero, List.set_cons_succ]
        refine wpAnyH_take (i := 11) (oi := { dst := some 29, op := _, type := _, pos := _, after := _, guard := _ }) (v := ?_) rfl (by kernel_rfl) (by kernel_rfl) (by kernel_rfl) (fun _ _ _ h => h) (Or.inl ⟨by rfl, ?_⟩) hH ?_
        rotate_left 1
        · intro W hSw
          (try dsimp only at hSw)
          go_simp
          (try with_reducible rfl)
        try simp only [Act.put, List.setIfInBounds_toArray, List.set_cons_zero, List.set_cons_succ]
        refine wpAnyH_done (by kernel_rfl) ?_ _
        refine NoPanic.normal ?_
        have B4 := Lib.hid (BK.out.trans (hH.2.2.2.2.2.2.2.2.mono BK.out.size))
        clear hH
      · have HH := Lib.hid (show score zs = false from score_no fun H => by have := H.2 k _ HZ.out; rw [HO.out] at this; cases this.2)
        go_wp2_with fail
        go_ret
        exact ⟨by rw [HH.out]; rfl, B4.out⟩
      · go_wp2_with fail
        have REL := Lib.hid (show ∀ (j : Nat) (d : C), j < k + 1 → zs[j]? = some d → cB d = true ∧ ordA zs j = true from fun j d hj hd => by
          by_cases e : j = k
          · subst e; rw [HZ.out] at hd; cases hd; exact ⟨HBD.out, HO.out⟩
          · exact AK.out j d (by omega) hd)
        go_roundw
        case rel => first | exact ⟨k + 1, by omega, by go_num, REL, B4⟩ | ((repeat apply Exists.intro); exact ⟨⟨k + 1, by omega, by go_num, REL, B4⟩, rfl⟩)
        case measure => simp [intOf]; omega
    · obtain rfl : k = n0 := by omega
      have HH := Lib.hid (show true = score zs by
        have hall : ∀ (j : Nat) (d : C), zs[j]? = some d → cB d = true ∧ ordA zs j = true := fun j d hd => AK.out j d (by have := (List.getElem?_eq_some_iff.1 hd).1; rw [HN.out] at this; exact this) hd
        rw [score_yes ⟨by rw [HN.out]; omega, hall⟩])
      go_wp2_with fail
      all_goals go_ret
      all_goals exact ⟨by rw [← HH.out]; rfl, BK.out⟩
end Go.Proofs.YtokncfhpmjohdabGreat.Si7
