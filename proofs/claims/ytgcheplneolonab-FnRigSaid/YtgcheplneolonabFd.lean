/- FindDevice of the program and of the model. -/
import Derived.Test.YtgcheplneolonabDl
import Derived.Test.YtgcheplneolonabDs
namespace Go.Proofs.Ytgcheplneolonab.Fd
open Go.RowKit Go.ChangeShapes Go.WideShapes Go.WideElems Go.Deep Go.Proofs.Ytgcheplneolonab.Mem Go.Proofs.Ytgcheplneolonab.Rw Go.Proofs.Ytgcheplneolonab.Pw Go.Proofs.Ytgcheplneolonab.P2 Go.Proofs.Ytgcheplneolonab.Dd Go.Proofs.Ytgcheplneolonab.Dv Go.Proofs.Ytgcheplneolonab.Dl Go.Proofs.Ytgcheplneolonab.Ds
set_option linter.unusedVariables false
set_option linter.unusedSimpArgs false

/-- Where the first device of a name is, from place i on. -/
def fdN : List D → ByteArray → Nat → Int
  | [], _, _ => -1
  | d :: r, s, i => if sb d.nm s then (i : Int) else fdN r s (i + 1)
/-- Where the first device of a name is. -/
def fd (zs : List D) (s : ByteArray) : Int := fdN zs s 0
theorem fdN_at {zs : List D} {s : ByteArray} {k : Nat} {d : D} (h : zs[k]? = some d) : fdN (zs.drop k) s k = if sb d.nm s then (k : Int) else fdN (zs.drop (k + 1)) s (k + 1) := by
  obtain ⟨hk, rfl⟩ := List.getElem?_eq_some_iff.1 h
  rw [List.drop_eq_getElem_cons hk, fdN]
theorem fdN_end {zs : List D} {s : ByteArray} {k : Nat} (h : zs.length ≤ k) : fdN (zs.drop k) s k = -1 := by rw [List.drop_of_length_le h]; rfl
theorem fdN_le : ∀ (zs : List D) (s : ByteArray) (i : Nat), fdN zs s i = -1 ∨ ∃ j : Nat, fdN zs s i = ((i + j : Nat) : Int) ∧ j < zs.length ∧ ∃ d, zs[j]? = some d ∧ sb d.nm s = true
  | [], _, _ => Or.inl rfl
  | d :: r, s, i => by
    unfold fdN
    by_cases h : sb d.nm s = true
    · rw [if_pos h]; exact Or.inr ⟨0, by simp, by simp, d, rfl, h⟩
    · rw [if_neg h]
      rcases fdN_le r s (i + 1) with e | ⟨j, e, hj, d', hd, hs⟩
      · exact Or.inl e
      · exact Or.inr ⟨j + 1, by rw [e]; congr 1; omega, by simp; omega, d', by simpa using hd, hs⟩
theorem fd_cases (zs : List D) (s : ByteArray) : fd zs s = -1 ∨ ∃ j : Nat, fd zs s = (j : Int) ∧ j < zs.length ∧ ∃ d, zs[j]? = some d ∧ sb d.nm s = true := by
  rcases fdN_le zs s 0 with h | ⟨j, e, h⟩
  · exact Or.inl h
  · exact Or.inr ⟨j, by unfold fd; rw [e]; congr 1; omega, h⟩

set_option maxHeartbeats 2000000 in
theorem findS (A : Option Addr) (n0 c0 : Nat) (zs : List D) (s : ByteArray) (w : World) (hn : zs.length = n0) (hb : n0 ≤ 1048576) (hr : Rd w w.heap.size A (dls zs)) :
    Calls Try.prog 35 #[.slice A n0 c0, .string s] w fun e w' => e = .returned (.int .i64 (fd zs s)) ∧ Below w.heap.size w w' := by
  have HR := Lib.hid hr
  have HN := Lib.hid hn
  have H0 := Lib.hid (show fd zs s = fdN (zs.drop 0) s 0 by simp [fd])
  clear hr hn
  go_enter Try.func35, Try.ntmps35
  go_wp2
  go_loopw [9] (fun i wr => ∃ k : Nat, k ≤ n0 ∧ i = .int .i64 k ∧ Hid (fd zs s = fdN (zs.drop k) s k) ∧ Hid (Below w.heap.size w wr)) (fun i _ => n0 - (intOf i).toNat)
  case atStart => exact ⟨0, Nat.zero_le _, rfl, H0, Lib.hid (Below.refl _ _)⟩
  case round =>
    obtain ⟨k, hk, rfl, FK, BK⟩ := hrel
    by_cases hlt : k < n0
    · obtain ⟨z, hz⟩ : ∃ z, zs[k]? = some z := ⟨_, List.getElem?_eq_getElem (by rw [HN.out]; exact hlt)⟩
      have ha := FK.out.trans (fdN_at hz)
      obtain ⟨n, q, l, x, y, h, t, m⟩ := z
      obtain ⟨b, o, eA, hbl, hcell⟩ := (HR.out.below BK.out).get (k := k * 8) (by rw [dls_len, HN.out]; omega)
      obtain ⟨z0, z1, z2, z3, z4, z5, z6, z7⟩ := dls_get hz
      have c0 := hcell (k * 8) _ z0
      have c1 := hcell (k * 8 + 1) _ z1
      rw [← Nat.add_assoc] at c1
      have c2 := hcell (k * 8 + 2) _ z2
      rw [← Nat.add_assoc] at c2
      have c3 := hcell (k * 8 + 3) _ z3
      rw [← Nat.add_assoc] at c3
      have c4 := hcell (k * 8 + 4) _ z4
      rw [← Nat.add_assoc] at c4
      have c5 := hcell (k * 8 + 5) _ z5
      rw [← Nat.add_assoc] at c5
      have c6 := hcell (k * 8 + 6) _ z6
      rw [← Nat.add_assoc] at c6
      have c7 := hcell (k * 8 + 7) _ z7
      rw [← Nat.add_assoc] at c7
      clear hcell z0 z1 z2 z3 z4 z5 z6 z7 hz
      subst eA
      have B2 := Lib.hid (BK.out.alloc BK.out.size (.cells (ca n q l x y h t m) 28))
      clear BK FK H0 hbl
      simp only [] at ha
      cases hs : sb n s
      · rw [hs, if_neg (by decide)] at ha
        have HA := Lib.hid ha
        have s1 : (n.toList == s.toList) = false := hs
        clear ha hs
        go_wp2
        go_roundw
        case rel => exact ⟨k + 1, by omega, by go_num, HA, B2⟩
        case measure => simp [intOf]; omega
      · rw [hs, if_pos rfl] at ha
        have HA := Lib.hid ha
        have s1 : (n.toList == s.toList) = true := hs
        clear ha hs
        go_wp2
        go_ret
        exact ⟨by rw [HA.out]; rfl, B2.out⟩
    · obtain rfl : k = n0 := by omega
      have HA := Lib.hid (FK.out.trans (fdN_end (by rw [HN.out]; exact Nat.le_refl _)))
      go_wp2
      go_ret
      exact ⟨by rw [HA.out]; rfl, BK.out⟩

/-- The test that FindDevice hands to the library. -/
theorem isNamed (n : ByteArray) (q : Int) (l : ByteArray) (x y h t m : Int) (g : Nat) (s : ByteArray) (w : World) (hg : w.cell? ⟨g, 0, none⟩ = some (.string s)) :
    Calls Try.prog 28 #[va n q l x y h t m, .pointer (some ⟨g, 0, none⟩)] w fun e w' => e = .returned (.bool (sb n s)) ∧ Below w.heap.size w w' := by
  have hl := World.block_lt_of_cell? w _ hg
  simp only [] at hl
  go_enter Try.func28, Try.ntmps28
  go_wp2_with fail
  go_returns
  exact ⟨by first | rfl | (unfold sb; simp), by go_grown⟩

set_option maxHeartbeats 2000000 in
theorem indexOf (A : Option Addr) (n0 c0 g : Nat) (zs : List D) (s : ByteArray) (H : Nat) (w : World) (hH : H ≤ w.heap.size) (hn : zs.length = n0) (hb : n0 ≤ 1048576) (hr : Rd w H A (dls zs)) (hg : w.cell? ⟨g, 0, none⟩ = some (.string s)) :
    Calls Try.prog 27 #[.slice A n0 c0, .func (.func 28) #[] #[.pointer (some ⟨g, 0, none⟩)]] w fun e w' => e = .returned (.int .i64 (fd zs s)) ∧ Below w.heap.size w w' := by
  have HR := Lib.hid (hr.more hH)
  have HN := Lib.hid hn
  have HG := Lib.hid hg
  have H0 := Lib.hid (show fd zs s = fdN (zs.drop 0) s 0 by simp [fd])
  clear hr hn hg hH
  go_enter Try.func27, Try.ntmps27
  go_wp2
  go_loopw [8] (fun i wr => ∃ k : Nat, k ≤ n0 ∧ i = .int .i64 k ∧ Hid (fd zs s = fdN (zs.drop k) s k) ∧ Hid (Below w.heap.size w wr)) (fun i _ => n0 - (intOf i).toNat)
  case atStart => exact ⟨0, Nat.zero_le _, rfl, H0, Lib.hid (Below.refl _ _)⟩
  case round =>
    obtain ⟨k, hk, rfl, FK, BK⟩ := hrel
    by_cases hlt : k < n0
    · obtain ⟨z, hz⟩ : ∃ z, zs[k]? = some z := ⟨_, List.getElem?_eq_getElem (by rw [HN.out]; exact hlt)⟩
      have ha := FK.out.trans (fdN_at hz)
      have CN := Lib.hid (isNamed z.nm z.kd z.ln z.x z.y z.hd z.tl z.ms g s wr ((BK.out.cell (World.block_lt_of_cell? w _ HG.out)).trans HG.out))
      obtain ⟨n, q, l, x, y, h, t, m⟩ := z
      obtain ⟨b, o, eA, hbl, hcell⟩ := (HR.out.below BK.out).get (k := k * 8) (by rw [dls_len, HN.out]; omega)
      obtain ⟨z0, z1, z2, z3, z4, z5, z6, z7⟩ := dls_get hz
      have c0 := hcell (k * 8) _ z0
      have c1 := hcell (k * 8 + 1) _ z1
      rw [← Nat.add_assoc] at c1
      have c2 := hcell (k * 8 + 2) _ z2
      rw [← Nat.add_assoc] at c2
      have c3 := hcell (k * 8 + 3) _ z3
      rw [← Nat.add_assoc] at c3
      have c4 := hcell (k * 8 + 4) _ z4
      rw [← Nat.add_assoc] at c4
      have c5 := hcell (k * 8 + 5) _ z5
      rw [← Nat.add_assoc] at c5
      have c6 := hcell (k * 8 + 6) _ z6
      rw [← Nat.add_assoc] at c6
      have c7 := hcell (k * 8 + 7) _ z7
      rw [← Nat.add_assoc] at c7
      clear hcell z0 z1 z2 z3 z4 z5 z6 z7 hz
      subst eA
      clear FK H0 hbl
      simp only [] at ha
      cases hs : sb n s
      · rw [hs, if_neg (by decide)] at ha
        simp only [hs] at CN
        have HA := Lib.hid ha
        clear ha hs
        go_wp2_with fail
        refine CN.out.mono ?_
        rintro e w1 ⟨rfl, hb⟩
        have B2 := Lib.hid (BK.out.trans (hb.mono BK.out.size))
        clear hb BK c0 c1 c2 c3 c4 c5 c6 c7 CN
        go_wp2_with fail
        go_roundw
        case rel => exact ⟨k + 1, by omega, by go_num, HA, B2⟩
        case measure => simp [intOf]; omega
      · rw [hs, if_pos rfl] at ha
        simp only [hs] at CN
        have HA := Lib.hid ha
        clear ha hs
        go_wp2_with fail
        refine CN.out.mono ?_
        rintro e w1 ⟨rfl, hb⟩
        have B2 := Lib.hid (BK.out.trans (hb.mono BK.out.size))
        clear hb BK c0 c1 c2 c3 c4 c5 c6 c7 CN
        go_wp2_with fail
        go_ret
        exact ⟨by rw [HA.out]; rfl, B2.out⟩
    · obtain rfl : k = n0 := by omega
      have HA := Lib.hid (FK.out.trans (fdN_end (by rw [HN.out]; exact Nat.le_refl _)))
      go_wp2
      go_ret
      exact ⟨by rw [HA.out]; rfl, BK.out⟩

theorem findI (A : Option Addr) (n0 c0 : Nat) (zs : List D) (s : ByteArray) (w : World) (hn : zs.length = n0) (hb : n0 ≤ 1048576) (hr : Rd w w.heap.size A (dls zs)) :
    Calls Try.prog 9 #[.slice A n0 c0, .string s] w fun e w' => e = .returned (.int .i64 (fd zs s)) ∧ Below w.heap.size w w' := by
  have CI := Lib.hid (indexOf A n0 c0 w.heap.size zs s w.heap.size (w.alloc (.cells #[.string s] 9)) (by simp) hn hb (hr.below (by go_grown)) (by simp [go_sem]))
  clear hr hn hb
  go_enter Try.func9, Try.ntmps9
  go_wp2_with fail
  refine CI.out.mono ?_
  rintro e w1 ⟨rfl, hb⟩
  have H1 := Lib.hid (show Below w.heap.size w w1 from Below.trans (by go_grown) (hb.mono (by simp)))
  clear hb CI
  go_wp2_with fail
  go_returns
  exact ⟨rfl, H1.out⟩

end Go.Proofs.Ytgcheplneolonab.Fd
