/- Whether a device is valid, of the model. -/
import Derived.Test.YtokncfhpmjohdabGreatM6
import Derived.Test.YtokncfhpmjohdabGreatM3
import Derived.Maps.OwnOps
import Derived.Conc.SmallLaws
import Derived.BigRegion
import Derived.Deep.DeepCutAuto
set_option linter.unusedVariables false
set_option linter.unusedSimpArgs false
namespace Go.Proofs.YtokncfhpmjohdabGreat.Ds
open Go.RowKit Go.Proofs.YtokncfhpmjohdabGreat.Cm Go.Proofs.YtokncfhpmjohdabGreat.Pl Go.Proofs.YtokncfhpmjohdabGreat.Str Go.Proofs.YtokncfhpmjohdabGreat.Pw Go.Proofs.YtokncfhpmjohdabGreat.P2 Go.Proofs.YtokncfhpmjohdabGreat.Hd Go.Proofs.YtokncfhpmjohdabGreat.Jt Go.Proofs.YtokncfhpmjohdabGreat.Dd Go.Proofs.YtokncfhpmjohdabGreat.IsName
set_option linter.unusedVariables false
set_option linter.unusedSimpArgs false

/-- Whether two texts are one. -/
def sb (a b : ByteArray) : Bool := a.toList == b.toList
/-- Whether a line may be that of a device of this name. -/
noncomputable def lineB (n l : ByteArray) : Bool := nameB l && !sb l n
/-- Whether these are all zero. -/
def zb : List Int → Bool
  | [] => true
  | a :: r => (a == 0) && zb r
noncomputable def pumpB (l : ByteArray) (x y h t m : Int) : Bool := iw m 0 512 && (sb l ⟨#[]⟩ && zb [x, y, h, t])
noncomputable def nozB (n l : ByteArray) (x y h t m : Int) : Bool := lineB n l && (jt x y h t 1 && iw m 0 32)
noncomputable def lampB (n l : ByteArray) (x y h t m : Int) : Bool := lineB n l && ((ms x && ms y) && zb [h, t, m])
/-- Whether a device is valid. -/
noncomputable def devB (n : ByteArray) (k : Int) (l : ByteArray) (x y h t m : Int) : Bool :=
  nameB n && (if k = 1 then pumpB l x y h t m else if k = 2 then nozB n l x y h t m else if k = 3 then lampB n l x y h t m else false)

theorem l5Supply_of {m : Int} {b : Bool} (e : iw m 0 512 = b) (w : World) : Calls Tryz.prog 143 #[.int .i64 m] w fun e w' => e = .returned (.bool b) ∧ w = w' := by
  go_enter Tryz.func143, Tryz.ntmps143
  go_wp2_with fail
  refine (l1In_of e _).mono ?_
  rintro e w' ⟨rfl, rfl⟩
  go_wp2_with fail
  go_returns
  exact ⟨rfl, rfl⟩

theorem l6Jet_of {n : ByteArray} {k : Int} {l : ByteArray} {x y h t m : Int} {b : Bool} (e : jt x y h t 1 = b) (w : World) : Calls Tryz.prog 144 #[va n k l x y h t m] w fun e w' => e = .returned (.bool b) ∧ Below w.heap.size w w' := by
  have C := Lib.hid (isJetS_of e)
  clear e
  go_enter Tryz.func144, Tryz.ntmps144
  go_wp2_with fail
  refine (C.out _).mono ?_
  rintro e w' ⟨rfl, rfl⟩
  go_wp2_with fail
  go_returns
  exact ⟨rfl, by go_grown⟩

theorem ite_ok (c : Prop) [Decidable c] (b : Bool) (w : World) : (if c then (Result.ok b w : Result Bool) else Result.ok false w) = Result.ok (decide c && b) w := by
  by_cases h : c <;> simp [h]
theorem be_int (a b : Int) : (a == b) = decide (a = b) := by by_cases h : a = b <;> simp [h]
theorem be_list (a b : List UInt8) : (a == b) = decide (a = b) := by by_cases h : a = b <;> simp [h]
theorem sb_self (a : ByteArray) : sb a a = true := by simp [sb]

theorem eqv (n : ByteArray) (k : Int) (l : ByteArray) (x y h t m : Int) (n' : ByteArray) (k' : Int) (l' : ByteArray) (x' y' h' t' m' : Int) (w : World) :
    (binOp .eql 36 (va n k l x y h t m) (va n' k' l' x' y' h' t' m')).run Tryz.prog w = .ok (.bool (sb n n' && ((k == k') && (sb l l' && ((x == x') && ((y == y') && ((h == h') && ((t == t') && (m == m'))))))))) w := by
  rw [run_eql_struct]
  have e : (Op.equalIn 10000 36 (va n k l x y h t m) (va n' k' l' x' y' h' t' m')).run Tryz.prog w = .ok (sb n n' && ((k == k') && (sb l l' && ((x == x') && ((y == y') && ((h == h') && ((t == t') && (m == m')))))))) w := by
    unfold sb
    go_simp
    simp only [ite_ok, be_int, be_list, Bool.and_true]
  rw [e]; rfl

theorem eq_pump {n l : ByteArray} {x y h t m : Int} {q : Bool} (hq : (sb l ⟨#[]⟩ && zb [x, y, h, t]) = q) (w : World) : (binOp .eql 36 (va n 1 l x y h t m) (va n 1 ⟨#[]⟩ 0 0 0 0 m)).run Tryz.prog w = .ok (.bool q) w := by
  rw [eqv, ← hq]; simp [zb, sb_self]
theorem eq_lamp {n l : ByteArray} {x y h t m : Int} {q : Bool} (hq : zb [h, t, m] = q) (w : World) : (binOp .eql 36 (va n 3 l x y h t m) (va n 3 l x y 0 0 0)).run Tryz.prog w = .ok (.bool q) w := by
  rw [eqv, ← hq]; simp [zb, sb_self]

set_option maxHeartbeats 2000000 in
theorem isDeviceS (n : ByteArray) (k : Int) (l : ByteArray) (x y h t m : Int) (hn : n.size ≤ 1048576) (hl : l.size ≤ 1048576) (w : World) :
    Calls Tryz.prog 114 #[va n k l x y h t m] w fun e w' => e = .returned (.bool (devB n k l x y h t m)) ∧ Below w.heap.size w w' := by
  have cn := IsName.spec n hn
  have cl := IsName.spec l hl
  unfold devB nozB lampB pumpB lineB
  generalize nameB n = bn at *
  generalize nameB l = bl at *
  have HN := Lib.hid cn
  have HL := Lib.hid cl
  clear cn cl hn hl
  obtain ⟨c, hs⟩ : ∃ c, sb l n = c := ⟨_, rfl⟩
  rw [hs]
  have s1 : (l.toList == n.toList) = c := hs
  have s2 : (l.toList != n.toList) = !c := by rw [← hs]; rfl
  clear hs
  obtain ⟨b5, h5⟩ : ∃ b, iw m 0 512 = b := ⟨_, rfl⟩
  obtain ⟨q1, hq1⟩ : ∃ b, (sb l ⟨#[]⟩ && zb [x, y, h, t]) = b := ⟨_, rfl⟩
  obtain ⟨bj, hj⟩ : ∃ b, jt x y h t 1 = b := ⟨_, rfl⟩
  obtain ⟨b6, h6⟩ : ∃ b, iw m 0 32 = b := ⟨_, rfl⟩
  obtain ⟨bp, hp⟩ : ∃ b, (ms x && ms y) = b := ⟨_, rfl⟩
  obtain ⟨q3, hq3⟩ : ∃ b, zb [h, t, m] = b := ⟨_, rfl⟩
  rw [h5, hq1, hj, h6, hp, hq3]
  have C5 := Lib.hid (l5Supply_of h5)
  have CJ := Lib.hid (fun n k l w => l6Jet_of (n := n) (k := k) (l := l) (m := m) hj w)
  have C6 := Lib.hid (l1In_of h6)
  have CP := Lib.hid (isPlaceS_of hp)
  have E1 := eq_pump (n := n) (m := m) hq1
  have E3 := eq_lamp (n := n) (l := l) (x := x) (y := y) hq3
  clear h5 hq1 hj h6 hp hq3
  cases bn
  · clear E1 E3 C5 CJ C6 CP
    cases bl <;> cases c
    all_goals
      simp only [Bool.true_and, Bool.false_and, Bool.not_true, Bool.not_false] at s2 ⊢
      go_enter Tryz.func114, Tryz.ntmps114
      go_wp2_with fail
      refine (HL.out _).mono ?_
      rintro e w' ⟨rfl, rfl⟩
      go_wp2_with fail
      refine (HN.out _).mono ?_
      rintro e w' ⟨rfl, rfl⟩
      go_wp2_with fail
      go_returns
      exact ⟨rfl, by go_grown⟩
  rw [Bool.true_and]
  by_cases k1 : k = 1
  · subst k1
    rw [if_pos rfl]
    clear E3 CJ C6 CP
    cases bl <;> cases c <;> cases b5
    all_goals
      simp only [Bool.true_and, Bool.false_and, Bool.not_true, Bool.not_false] at s2 ⊢
      go_enter Tryz.func114, Tryz.ntmps114
      go_wp2_with fail
      refine (HL.out _).mono ?_
      rintro e w' ⟨rfl, rfl⟩
      go_wp2_with fail
      refine (HN.out _).mono ?_
      rintro e w' ⟨rfl, rfl⟩
      go_wp2_with fail
      refine (C5.out _).mono ?_
      rintro e w' ⟨rfl, rfl⟩
      go_wp2_with fail
      go_returns
      exact ⟨rfl, by go_grown⟩
  rw [if_neg k1]
  by_cases k2 : k = 2
  · subst k2
    rw [if_pos rfl]
    clear E1 E3 CP C5 k1
    cases bl <;> cases c <;> cases bj
    all_goals
      simp only [Bool.true_and, Bool.false_and, Bool.not_true, Bool.not_false] at s2 ⊢
      go_enter Tryz.func114, Tryz.ntmps114
      go_wp2_with fail
      refine (HL.out _).mono ?_
      rintro e w' ⟨rfl, rfl⟩
      go_wp2_with fail
      refine (HN.out _).mono ?_
      rintro e w' ⟨rfl, rfl⟩
      go_wp2_with fail
      try (refine (CJ.out _ _ _ _).mono ?_; rintro e w1 ⟨rfl, hb⟩; obtain ⟨hc, hf⟩ := open_below hb; have H := Lib.hid hb; clear hb; go_wp2_with fail)
      try (refine (C6.out _).mono ?_; rintro e w' ⟨rfl, rfl⟩; go_wp2_with fail)
      go_returns
      first | exact ⟨rfl, Below.trans (by go_grown) (H.out.mono (by simp))⟩ | exact ⟨rfl, by go_grown⟩
  rw [if_neg k2]
  by_cases k3 : k = 3
  · subst k3
    rw [if_pos rfl]
    clear E1 C5 C6 CJ k1 k2
    cases bl <;> cases c <;> cases bp
    all_goals
      simp only [Bool.true_and, Bool.false_and, Bool.not_true, Bool.not_false] at s2 ⊢
      go_enter Tryz.func114, Tryz.ntmps114
      go_wp2_with fail
      refine (HL.out _).mono ?_
      rintro e w' ⟨rfl, rfl⟩
      go_wp2_with fail
      refine (HN.out _).mono ?_
      rintro e w' ⟨rfl, rfl⟩
      go_wp2_with fail
      try (refine (CP.out _).mono ?_; rintro e w' ⟨rfl, rfl⟩; go_wp2_with fail)
      go_returns
      exact ⟨rfl, by go_grown⟩
  rw [if_neg k3]
  clear E1 E3 C5 C6 CJ CP
  cases bl <;> cases c
  all_goals
    simp only [Bool.true_and, Bool.false_and, Bool.not_true, Bool.not_false] at s2 ⊢
    go_enter Tryz.func114, Tryz.ntmps114
    go_wp2_with fail
    refine (HL.out _).mono ?_
    rintro e w' ⟨rfl, rfl⟩
    go_wp2_with fail
    refine (HN.out _).mono ?_
    rintro e w' ⟨rfl, rfl⟩
    go_wp2_with fail
    go_returns
    exact ⟨rfl, by go_grown⟩
end Go.Proofs.YtokncfhpmjohdabGreat.Ds
namespace Go.Proofs.YtokncfhpmjohdabGreat.Fd
open Go.RowKit Go.ChangeShapes Go.WideShapes Go.WideElems Go.Deep Go.Proofs.YtokncfhpmjohdabGreat.Mem Go.Proofs.YtokncfhpmjohdabGreat.Rw Go.Proofs.YtokncfhpmjohdabGreat.Pw Go.Proofs.YtokncfhpmjohdabGreat.P2 Go.Proofs.YtokncfhpmjohdabGreat.Dd Go.Proofs.YtokncfhpmjohdabGreat.Dv Go.Proofs.YtokncfhpmjohdabGreat.Dl Go.Proofs.YtokncfhpmjohdabGreat.Ds
set_option linter.unusedVariables false
set_option linter.unusedSimpArgs false

/-- Where the first device of a name is, from place i on. -/
def fdN : List D → ByteArray → Nat → Int
  | [], _, _ => -1
  | d :: r, s, i => if sb d.nm s then (i : Int) else fdN r s (i + 1)
/-- Where the first device of a name is. -/
def fd (zs : List D) (s : ByteArray) : Int := fdN zs s 0
theorem fdN_at {zs : List D} {s : ByteArray} {k : Nat} {d : D} (h : zs[k]? = some d) : fdN (zs.drop k) s k = if sb d.nm s then (k : Int) else fdN (zs.drop (k + 1)) s (k + 1) := by
  obtain ⟨hk, rfl⟩ := List.getElem?_eq_some_iff.1 h
  rw [List.drop_eq_getElem_cons hk, fdN]
theorem fdN_end {zs : List D} {s : ByteArray} {k : Nat} (h : zs.length ≤ k) : fdN (zs.drop k) s k = -1 := by rw [List.drop_of_length_le h]; rfl
theorem fdN_le : ∀ (zs : List D) (s : ByteArray) (i : Nat), fdN zs s i = -1 ∨ ∃ j : Nat, fdN zs s i = ((i + j : Nat) : Int) ∧ j < zs.length ∧ ∃ d, zs[j]? = some d ∧ sb d.nm s = true
  | [], _, _ => Or.inl rfl
  | d :: r, s, i => by
    unfold fdN
    by_cases h : sb d.nm s = true
    · rw [if_pos h]; exact Or.inr ⟨0, by simp, by simp, d, rfl, h⟩
    · rw [if_neg h]
      rcases fdN_le r s (i + 1) with e | ⟨j, e, hj, d', hd, hs⟩
      · exact Or.inl e
      · exact Or.inr ⟨j + 1, by rw [e]; congr 1; omega, by simp; omega, d', by simpa using hd, hs⟩
theorem fd_cases (zs : List D) (s : ByteArray) : fd zs s = -1 ∨ ∃ j : Nat, fd zs s = (j : Int) ∧ j < zs.length ∧ ∃ d, zs[j]? = some d ∧ sb d.nm s = true := by
  rcases fdN_le zs s 0 with h | ⟨j, e, h⟩
  · exact Or.inl h
  · exact Or.inr ⟨j, by unfold fd; rw [e]; congr 1; omega, h⟩

set_option maxHeartbeats 2000000 in
theorem findS (A : Option Addr) (n0 c0 : Nat) (zs : List D) (s : ByteArray) (w : World) (hn : zs.length = n0) (hb : n0 ≤ 1048576) (hr : Rd w w.heap.size A (dls zs)) :
    Calls Tryz.prog 128 #[.slice A n0 c0, .string s] w fun e w' => e = .returned (.int .i64 (fd zs s)) ∧ Below w.heap.size w w' := by
  have HR := Lib.hid hr
  have HN := Lib.hid hn
  have H0 := Lib.hid (show fd zs s = fdN (zs.drop 0) s 0 by simp [fd])
  clear hr hn
  go_enter Tryz.func128, Tryz.ntmps128
  go_wp2
  go_loopw [9] (fun i wr => ∃ k : Nat, k ≤ n0 ∧ i = .int .i64 k ∧ Hid (fd zs s = fdN (zs.drop k) s k) ∧ Hid (Below w.heap.size w wr)) (fun i _ => n0 - (intOf i).toNat)
  case atStart => exact ⟨0, Nat.zero_le _, rfl, H0, Lib.hid (Below.refl _ _)⟩
  case round =>
    obtain ⟨k, hk, rfl, FK, BK⟩ := hrel
    by_cases hlt : k < n0
    · obtain ⟨z, hz⟩ : ∃ z, zs[k]? = some z := ⟨_, List.getElem?_eq_getElem (by rw [HN.out]; exact hlt)⟩
      have ha := FK.out.trans (fdN_at hz)
      obtain ⟨n, q, l, x, y, h, t, m⟩ := z
      obtain ⟨b, o, eA, hbl, hcell⟩ := (HR.out.below BK.out).get (k := k * 8) (by rw [dls_len, HN.out]; omega)
      obtain ⟨z0, z1, z2, z3, z4, z5, z6, z7⟩ := dls_get hz
      have c0 := hcell (k * 8) _ z0
      have c1 := hcell (k * 8 + 1) _ z1
      rw [← Nat.add_assoc] at c1
      have c2 := hcell (k * 8 + 2) _ z2
      rw [← Nat.add_assoc] at c2
      have c3 := hcell (k * 8 + 3) _ z3
      rw [← Nat.add_assoc] at c3
      have c4 := hcell (k * 8 + 4) _ z4
      rw [← Nat.add_assoc] at c4
      have c5 := hcell (k * 8 + 5) _ z5
      rw [← Nat.add_assoc] at c5
      have c6 := hcell (k * 8 + 6) _ z6
      rw [← Nat.add_assoc] at c6
      have c7 := hcell (k * 8 + 7) _ z7
      rw [← Nat.add_assoc] at c7
      clear hcell z0 z1 z2 z3 z4 z5 z6 z7 hz
      subst eA
      have B2 := Lib.hid (BK.out.alloc BK.out.size (.cells (ca n q l x y h t m) 36))
      clear BK FK H0 hbl
      simp only [] at ha
      cases hs : sb n s
      · rw [hs, if_neg (by decide)] at ha
        have HA := Lib.hid ha
        have s1 : (n.toList == s.toList) = false := hs
        clear ha hs
        go_wp2
        go_roundw
        case rel => exact ⟨k + 1, by omega, by go_num, HA, B2⟩
        case measure => simp [intOf]; omega
      · rw [hs, if_pos rfl] at ha
        have HA := Lib.hid ha
        have s1 : (n.toList == s.toList) = true := hs
        clear ha hs
        go_wp2
        go_ret
        exact ⟨by rw [HA.out]; rfl, B2.out⟩
    · obtain rfl : k = n0 := by omega
      have HA := Lib.hid (FK.out.trans (fdN_end (by rw [HN.out]; exact Nat.le_refl _)))
      go_wp2
      go_ret
      exact ⟨by rw [HA.out]; rfl, BK.out⟩

/-- The test that FindDevice hands to the library. -/
theorem isNamed (n : ByteArray) (q : Int) (l : ByteArray) (x y h t m : Int) (g : Nat) (s : ByteArray) (w : World) (hg : w.cell? ⟨g, 0, none⟩ = some (.string s)) :
    Calls Tryz.prog 159 #[va n q l x y h t m, .pointer (some ⟨g, 0, none⟩)] w fun e w' => e = .returned (.bool (sb n s)) ∧ Below w.heap.size w w' := by
  have hl := World.block_lt_of_cell? w _ hg
  simp only [] at hl
  go_enter Tryz.func159, Tryz.ntmps159
  go_wp2_with fail
  go_returns
  exact ⟨by first | rfl | (unfold sb; simp), by go_grown⟩

set_option maxHeartbeats 2000000 in
theorem indexOf (A : Option Addr) (n0 c0 g : Nat) (zs : List D) (s : ByteArray) (H : Nat) (w : World) (hH : H ≤ w.heap.size) (hn : zs.length = n0) (hb : n0 ≤ 1048576) (hr : Rd w H A (dls zs)) (hg : w.cell? ⟨g, 0, none⟩ = some (.string s)) :
    Calls Tryz.prog 158 #[.slice A n0 c0, .func (.func 159) #[] #[.pointer (some ⟨g, 0, none⟩)]] w fun e w' => e = .returned (.int .i64 (fd zs s)) ∧ Below w.heap.size w w' := by
  have HR := Lib.hid (hr.more hH)
  have HN := Lib.hid hn
  have HG := Lib.hid hg
  have H0 := Lib.hid (show fd zs s = fdN (zs.drop 0) s 0 by simp [fd])
  clear hr hn hg hH
  go_enter Tryz.func158, Tryz.ntmps158
  go_wp2
  go_loopw [8] (fun i wr => ∃ k : Nat, k ≤ n0 ∧ i = .int .i64 k ∧ Hid (fd zs s = fdN (zs.drop k) s k) ∧ Hid (Below w.heap.size w wr)) (fun i _ => n0 - (intOf i).toNat)
  case atStart => exact ⟨0, Nat.zero_le _, rfl, H0, Lib.hid (Below.refl _ _)⟩
  case round =>
    obtain ⟨k, hk, rfl, FK, BK⟩ := hrel
    by_cases hlt : k < n0
    · obtain ⟨z, hz⟩ : ∃ z, zs[k]? = some z := ⟨_, List.getElem?_eq_getElem (by rw [HN.out]; exact hlt)⟩
      have ha := FK.out.trans (fdN_at hz)
      have CN := Lib.hid (isNamed z.nm z.kd z.ln z.x z.y z.hd z.tl z.ms g s wr ((BK.out.cell (World.block_lt_of_cell? w _ HG.out)).trans HG.out))
      obtain ⟨n, q, l, x, y, h, t, m⟩ := z
      obtain ⟨b, o, eA, hbl, hcell⟩ := (HR.out.below BK.out).get (k := k * 8) (by rw [dls_len, HN.out]; omega)
      obtain ⟨z0, z1, z2, z3, z4, z5, z6, z7⟩ := dls_get hz
      have c0 := hcell (k * 8) _ z0
      have c1 := hcell (k * 8 + 1) _ z1
      rw [← Nat.add_assoc] at c1
      have c2 := hcell (k * 8 + 2) _ z2
      rw [← Nat.add_assoc] at c2
      have c3 := hcell (k * 8 + 3) _ z3
      rw [← Nat.add_assoc] at c3
      have c4 := hcell (k * 8 + 4) _ z4
      rw [← Nat.add_assoc] at c4
      have c5 := hcell (k * 8 + 5) _ z5
      rw [← Nat.add_assoc] at c5
      have c6 := hcell (k * 8 + 6) _ z6
      rw [← Nat.add_assoc] at c6
      have c7 := hcell (k * 8 + 7) _ z7
      rw [← Nat.add_assoc] at c7
      clear hcell z0 z1 z2 z3 z4 z5 z6 z7 hz
      subst eA
      clear FK H0 hbl
      simp only [] at ha
      cases hs : sb n s
      · rw [hs, if_neg (by decide)] at ha
        simp only [hs] at CN
        have HA := Lib.hid ha
        clear ha hs
        go_wp2_with fail
        refine CN.out.mono ?_
        rintro e w1 ⟨rfl, hb⟩
        have B2 := Lib.hid (BK.out.trans (hb.mono BK.out.size))
        clear hb BK c0 c1 c2 c3 c4 c5 c6 c7 CN
        go_wp2_with fail
        go_roundw
        case rel => exact ⟨k + 1, by omega, by go_num, HA, B2⟩
        case measure => simp [intOf]; omega
      · rw [hs, if_pos rfl] at ha
        simp only [hs] at CN
        have HA := Lib.hid ha
        clear ha hs
        go_wp2_with fail
        refine CN.out.mono ?_
        rintro e w1 ⟨rfl, hb⟩
        have B2 := Lib.hid (BK.out.trans (hb.mono BK.out.size))
        clear hb BK c0 c1 c2 c3 c4 c5 c6 c7 CN
        go_wp2_with fail
        go_ret
        exact ⟨by rw [HA.out]; rfl, B2.out⟩
    · obtain rfl : k = n0 := by omega
      have HA := Lib.hid (FK.out.trans (fdN_end (by rw [HN.out]; exact Nat.le_refl _)))
      go_wp2
      go_ret
      exact ⟨by rw [HA.out]; rfl, BK.out⟩

theorem findI (A : Option Addr) (n0 c0 : Nat) (zs : List D) (s : ByteArray) (w : World) (hn : zs.length = n0) (hb : n0 ≤ 1048576) (hr : Rd w w.heap.size A (dls zs)) :
    Calls Tryz.prog 137 #[.slice A n0 c0, .string s] w fun e w' => e = .returned (.int .i64 (fd zs s)) ∧ Below w.heap.size w w' := by
  have CI := Lib.hid (indexOf A n0 c0 w.heap.size zs s w.heap.size (w.alloc (.cells #[.string s] 9)) (by simp) hn hb (hr.below (by go_grown)) (by simp [go_sem]))
  clear hr hn hb
  go_enter Tryz.func137, Tryz.ntmps137
  go_wp2_with fail
  refine CI.out.mono ?_
  rintro e w1 ⟨rfl, hb⟩
  have H1 := Lib.hid (show Below w.heap.size w w1 from Below.trans (by go_grown) (hb.mono (by simp)))
  clear hb CI
  go_wp2_with fail
  go_returns
  exact ⟨rfl, H1.out⟩

end Go.Proofs.YtokncfhpmjohdabGreat.Fd
namespace Go.Proofs.YtokncfhpmjohdabGreat.Ch
open Go.RowKit
set_option linter.unusedVariables false
set_option linter.unusedSimpArgs false

/-- Which channel a line has. -/
def lk : List (ByteArray × Nat) → ByteArray → Option Nat
  | [], _ => none
  | (k, c) :: r, s => if k = s then some c else lk r s
/-- The entries of a map of lines. -/
def enF : List (ByteArray × Nat) → Nat → List MapEntry
  | [], _ => []
  | (k, c) :: r, i => { key := .string k, val := .chan (some c), born := i } :: enF r (i + 1)
theorem enF_snoc (k : ByteArray) (c : Nat) : ∀ (M : List (ByteArray × Nat)) (i : Nat), enF (M ++ [(k, c)]) i = enF M i ++ [{ key := .string k, val := .chan (some c), born := i + M.length }]
  | [], i => rfl
  | (k', c') :: r, i => by
    have := enF_snoc k c r (i + 1)
    simp only [List.cons_append, enF, this, List.length_cons]
    rw [show i + 1 + r.length = i + (r.length + 1) by omega]
theorem beq_no {a b : ByteArray} (h : ¬ a = b) : (a == b) = false := by
  obtain ⟨⟨x⟩⟩ := a
  obtain ⟨⟨y⟩⟩ := b
  show ((⟨x⟩ : Array UInt8) == ⟨y⟩) = false
  simp
  intro e
  exact h (by rw [e])
theorem beq_yes (a : ByteArray) : (a == a) = true := by
  obtain ⟨⟨x⟩⟩ := a
  show ((⟨x⟩ : Array UInt8) == ⟨x⟩) = true
  simp
theorem find_none {s : ByteArray} : ∀ {M : List (ByteArray × Nat)} {i j : Nat}, lk M s = none → Instr.findNow .string (.string s) (enF M i) j = some none
  | [], _, _, _ => rfl
  | (k, c) :: r, i, j, h => by
    unfold lk at h
    by_cases e : k = s
    · rw [if_pos e] at h; cases h
    · rw [if_neg e] at h
      have := find_none (i := i + 1) (j := j + 1) h
      have e' : ¬ s = k := fun c => e c.symm
      simp [enF, Instr.findNow, Instr.sameNow, beq_no e', this]
theorem find_some {s : ByteArray} {c : Nat} : ∀ {M : List (ByteArray × Nat)} {i j : Nat}, lk M s = some c → ∃ q, Instr.findNow .string (.string s) (enF M i) j = some (some (q, .chan (some c)))
  | [], _, _, h => by cases h
  | (k, c') :: r, i, j, h => by
    unfold lk at h
    by_cases e : k = s
    · rw [if_pos e] at h; cases h
      subst e
      exact ⟨j, by simp [enF, Instr.findNow, Instr.sameNow, beq_yes]⟩
    · rw [if_neg e] at h
      obtain ⟨q, hq⟩ := find_some (i := i + 1) (j := j + 1) h
      have e' : ¬ s = k := fun c => e c.symm
      exact ⟨q, by simp [enF, Instr.findNow, Instr.sameNow, beq_no e', hq]⟩
theorem lk_snoc {k : ByteArray} {c : Nat} {s : ByteArray} : ∀ {M : List (ByteArray × Nat)}, lk (M ++ [(k, c)]) s = match lk M s with | some v => some v | none => if k = s then some c else none
  | [] => by simp [lk]
  | (k', c') :: r => by
    simp only [List.cons_append, lk]
    by_cases e : k' = s
    · simp [e]
    · simp only [if_neg e]; exact lk_snoc

/-- Block b is the map of these lines. -/
def Ls (w : World) (b : Nat) (M : List (ByteArray × Nat)) : Prop := w.heap[b]? = some (.map ⟨enF M 0⟩ M.length)
theorem Ls.lt {w : World} {b : Nat} {M : List (ByteArray × Nat)} (h : Ls w b M) : b < w.heap.size := (Array.getElem?_eq_some_iff.1 h).1
theorem Ls.made (w : World) : Ls (w.alloc (.map #[] 0)) w.heap.size [] := (MapKept.heap_alloc w _).1
theorem Ls.alloc {w : World} {b : Nat} {M : List (ByteArray × Nat)} (h : Ls w b M) (o : Obj) : Ls (w.alloc o) b M := ((MapKept.heap_alloc w o).2 b h.lt).trans h
theorem Ls.drew {w : World} {b : Nat} {M : List (ByteArray × Nat)} (h : Ls w b M) : Ls w.drew b M := h
theorem Ls.below {w w' : World} {b B : Nat} {M : List (ByteArray × Nat)} (h : Ls w b M) (hb : Below B w w') (hB : b < B) : Ls w' b M := (hb.block b hB).trans h
theorem Ls.set {w : World} {b : Nat} {M : List (ByteArray × Nat)} (h : Ls w b M) {a : Addr} (ha : a.block ≠ b) (v : Value) : Ls (w.setCell a v) b M := (RowKit.Below.heap_setCell w a v b (fun e => ha e.symm)).trans h
theorem Ls.grown {w w' : World} {b : Nat} {M : List (ByteArray × Nat)} {r : Option Nat} (h : Ls w b M) (hg : w.grownBy w' r) (hr : some b ≠ r) : Ls w' b M := (hg.block b h.lt hr).trans h

theorem run_look {w : World} {b : Nat} {M : List (ByteArray × Nat)} (h : Ls w b M) (s : ByteArray) : (Instr.lookup 162 (.map (some b)) (.string s) false).run Tryz.prog w = .ok (.chan (lk M s)) w := by
  have hz : ∀ w, (zeroValue 179).run Tryz.prog w = .ok (.chan none) w := fun w => by kernel_rfl
  cases hl : lk M s with
  | none =>
    have hf := find_none (i := 0) (j := 0) hl
    simp [Instr.lookup, run_underlying Tryz.underlying162, MapKept.run_getObj_map h, MapKept.run_checkKey Tryz.underlying9 (k := .string s) trivial, MapKept.run_findKey Tryz.underlying9 hf, hz, Result.andThen]
  | some c =>
    obtain ⟨q, hf⟩ := find_some (i := 0) (j := 0) hl
    simp [Instr.lookup, run_underlying Tryz.underlying162, MapKept.run_getObj_map h, MapKept.run_checkKey Tryz.underlying9 (k := .string s) trivial, MapKept.run_findKey Tryz.underlying9 hf, Result.andThen]

theorem run_put {w : World} {b : Nat} {M : List (ByteArray × Nat)} (h : Ls w b M) {s : ByteArray} (hn : lk M s = none) (c : Nat) :
    ∃ w', (Instr.mapUpdate 162 (.map (some b)) (.string s) (.chan (some c))).run Tryz.prog w = .ok () w' ∧ Ls w' b (M ++ [(s, c)]) ∧ w.grownBy w' (some b) := by
  have hf := find_none (i := 0) (j := 0) hn
  have hs := MapKept.heap_set (o' := .map ⟨enF (M ++ [(s, c)]) 0⟩ (M ++ [(s, c)]).length) h
  refine ⟨{ w with heap := w.heap.setIfInBounds b (.map ⟨enF (M ++ [(s, c)]) 0⟩ (M ++ [(s, c)]).length) }, ?_, hs.1, ⟨rfl, rfl, rfl, by simp, fun j hj hr => hs.2 j (fun e => hr (by rw [e]))⟩⟩
  have ep : (⟨enF M 0⟩ : Array MapEntry).push { key := .string s, val := .chan (some c), born := M.length } = ⟨enF (M ++ [(s, c)]) 0⟩ := by
    rw [enF_snoc]; simp
  simp [Instr.mapUpdate, run_underlying Tryz.underlying162, MapKept.run_getObj_map h, MapKept.run_checkKey Tryz.underlying9 (k := .string s) trivial, MapKept.run_findKey Tryz.underlying9 hf, MapKept.run_setObj_map _ h, Result.andThen, ep]

theorem run_mkChan (w : World) : (Instr.makeChan 179 (.int .i64 0)).run Tryz.prog w = .ok (.chan (some w.heap.size)) (w.alloc (.chan 0 #[] false 0 0 false)) := by
  kernel_rfl
theorem run_chanNil (w : World) : (binOp .eql 179 (.chan none) (.chan none)).run Tryz.prog w = .ok (.bool true) w := by kernel_rfl
theorem run_chanSome (c : Nat) (w : World) : (binOp .eql 179 (.chan (some c)) (.chan none)).run Tryz.prog w = .ok (.bool false) w := by kernel_rfl

/-- 'made[name]' at the operation. -/
theorem wpList_look (w : World) {ops : Array Oper} {rest : List Oper} {o : Oper} {a : Act} {Q : Exit → Act → World → Prop}
    (hg : o.guard = none) (m x : Operand) (hop : o.op = Op.lookup 162 m x false) (b : Nat) (M : List (ByteArray × Nat)) (hm : a.eval m = .map (some b)) (hL : Ls w b M) (s : ByteArray) (hx : a.eval x = .string s)
    (hK : wpList Tryz.prog ops Q rest (a.put o.dst (.chan (lk M s))) w) : wpList Tryz.prog ops Q (o :: rest) a w := by
  refine wpList_plain hg fun K' hK' => ?_
  unfold Oper.wp
  simp [execOp, hop, hm, hx, run_look hL, Result.andThen]
  exact hK' _ _ hK
/-- 'made[name] = channel' at the operation. -/
theorem wpList_put (w : World) {ops : Array Oper} {rest : List Oper} {o : Oper} {a : Act} {Q : Exit → Act → World → Prop}
    (hg : o.guard = none) (m x v : Operand) (hop : o.op = Op.mapUpdate 162 m x v) (b : Nat) (M : List (ByteArray × Nat)) (hm : a.eval m = .map (some b)) (hL : Ls w b M) (s : ByteArray) (hx : a.eval x = .string s) (hn : lk M s = none) (c : Nat) (hv : a.eval v = .chan (some c))
    (hK : ∀ w', Ls w' b (M ++ [(s, c)]) → w.grownBy w' (some b) → wpList Tryz.prog ops Q rest (a.put o.dst undef) w') : wpList Tryz.prog ops Q (o :: rest) a w := by
  refine wpList_plain hg fun K' hK' => ?_
  obtain ⟨w', hrun, r1, r2⟩ := run_put hL hn c
  unfold Oper.wp
  simp [execOp, hop, hm, hx, hv, hrun, Result.andThen]
  exact hK' _ _ (hK w' r1 r2)

end Go.Proofs.YtokncfhpmjohdabGreat.Ch
namespace Go.Proofs.YtokncfhpmjohdabGreat.Hn
open Go.RowKit Go.Proofs.YtokncfhpmjohdabGreat.Dd Go.Proofs.YtokncfhpmjohdabGreat.Ch Go.Proofs.YtokncfhpmjohdabGreat.P2
set_option linter.unusedVariables false
set_option linter.unusedSimpArgs false

/-- The value of what hangs. -/
abbrev hv (n : ByteArray) (k : Int) (l : ByteArray) (x y h t m : Int) (c : Nat) : Value := .agg #[.string n, .int .i64 k, .string l, .int .i64 x, .int .i64 y, .int .i64 h, .int .i64 t, .int .i64 m, .chan (some c)]

theorem gset {w w' : World} {r : Option Nat} (h : w.grownBy w' r) {a : Addr} (ha : w.heap.size ≤ a.block) (v : Value) : w.grownBy (w'.setCell a v) r :=
  ⟨h.os, h.tape, h.output, by simpa [World.setCell] using h.size, fun k hk hr => (RowKit.Below.heap_setCell _ _ _ _ (by omega)).trans (h.block k hk hr)⟩
theorem gdrew {w w' : World} {r : Option Nat} (h : w.grownBy w' r) : w.grownBy w'.drew r := ⟨h.os, h.tape, h.output, h.size, h.block⟩
/-- No two lines have one channel, and each channel is there. -/
def Gd (w : World) (M : List (ByteArray × Nat)) : Prop := (∀ s c, lk M s = some c → c < w.heap.size) ∧ ∀ s s' c, lk M s = some c → lk M s' = some c → s = s'
theorem Gd.nil (w : World) : Gd w [] := ⟨fun _ _ h => (by cases h), fun _ _ _ h => (by cases h)⟩
theorem Gd.more {w w' : World} {M : List (ByteArray × Nat)} (h : Gd w M) (hs : w.heap.size ≤ w'.heap.size) : Gd w' M := ⟨fun s c e => Nat.lt_of_lt_of_le (h.1 s c e) hs, h.2⟩
theorem Gd.snoc {w w' : World} {M : List (ByteArray × Nat)} {s : ByteArray} {c : Nat} (h : Gd w M) (hn : lk M s = none) (h1 : w.heap.size ≤ c) (h2 : c < w'.heap.size) : Gd w' (M ++ [(s, c)]) := by
  have e : ∀ q v, lk (M ++ [(s, c)]) q = some v → lk M q = some v ∨ (s = q ∧ c = v) := by
    intro q v hq
    rw [lk_snoc] at hq
    cases hm : lk M q with
    | some u => rw [hm] at hq; exact Or.inl hq
    | none =>
      rw [hm] at hq
      by_cases g : s = q
      · simp [g] at hq; exact Or.inr ⟨g, hq⟩
      · simp [g] at hq
  refine ⟨fun q v hq => ?_, fun q q' v hq hq' => ?_⟩
  · rcases e q v hq with a | ⟨_, rfl⟩
    · have := h.1 q v a; omega
    · exact h2
  · rcases e q v hq with a | ⟨a, a'⟩ <;> rcases e q' v hq' with b | ⟨b, b'⟩
    · exact h.2 _ _ _ a b
    · have := h.1 q v a; omega
    · have := h.1 q' v b; omega
    · exact a.symm.trans b

/-- What is known behind hang: the map's lines, the channel of this line. -/
structure Hung (w : World) (b : Nat) (M : List (ByteArray × Nat)) (s : ByteArray) (M' : List (ByteArray × Nat)) (c : Nat) (w' : World) : Prop where
  ls : Ls w' b M'
  gd : Gd w' M'
  here : lk M' s = some c
  old : ∀ q v, lk M q = some v → lk M' q = some v
  new : ∀ q, q ≠ s → lk M' q = lk M q
  grown : w.grownBy w' (some b)

set_option maxHeartbeats 2000000 in
theorem hang (n : ByteArray) (k : Int) (l : ByteArray) (x y h t m : Int) (b : Nat) (M : List (ByteArray × Nat)) (w : World) (hL : Ls w b M) (hG : Gd w M) :
    Calls Tryz.prog 154 #[.map (some b), va n k l x y h t m] w fun e w' => ∃ M' c, e = .returned (hv n k l x y h t m c) ∧ Hung w b M l M' c w' := by
  have hb := hL.lt
  have mk := run_mkChan
  have e1 := run_chanNil
  have e2 := run_chanSome
  cases hl : lk M l with
  | some c =>
    have HK := Lib.hid hl
    clear hl
    go_enter Tryz.func154, Tryz.ntmps154
    go_wp2_with (at_lookup; refine wpList_look _ rfl _ _ rfl b M rfl ((hL.alloc _).alloc _) l rfl ?_; rw [HK.out])
    go_returns
    exact ⟨M, c, rfl, (hL.alloc _).alloc _ , (hG.more (by simp; omega)), HK.out, fun _ _ h => h, fun _ _ => rfl, Rw.grown_trans (World.grownBy_alloc _ _ _) (World.grownBy_alloc _ _ _)⟩
  | none =>
    have HK := Lib.hid hl
    clear hl
    have L2 : Ls (((w.alloc (.cells (ca n k l x y h t m) 36)).alloc (.cells #[.string ⟨#[]⟩, .int .i64 0, .string ⟨#[]⟩, .int .i64 0, .int .i64 0, .int .i64 0, .int .i64 0, .int .i64 0, .chan none] 181)).alloc (.chan 0 #[] false 0 0 false)).drew b M := ((hL.alloc _).alloc _).alloc _
    obtain ⟨w3, hput, hL3, hg3⟩ := run_put L2 HK.out (w.heap.size + 1 + 1)
    have z3 : w.heap.size + 1 + 1 < w3.heap.size := by have := hg3.size; simp at this; omega
    have nb1 : w.heap.size ≠ b := by omega
    have nb2 : w.heap.size + 1 ≠ b := by omega
    have hcell : ∀ p v, p.block ≠ b → (((w.alloc (.cells (ca n k l x y h t m) 36)).alloc (.cells #[.string ⟨#[]⟩, .int .i64 0, .string ⟨#[]⟩, .int .i64 0, .int .i64 0, .int .i64 0, .int .i64 0, .int .i64 0, .chan none] 181)).alloc (.chan 0 #[] false 0 0 false)).drew.cell? p = some v → w3.cell? p = some v :=
      fun p v hp hv => hg3.cell hv (fun e => hp (by injection e))
    have hfroz : ∀ p : Addr, p.block < w.heap.size + 3 → p.block ≠ b → w3.frozen? p = (((w.alloc (.cells (ca n k l x y h t m) 36)).alloc (.cells #[.string ⟨#[]⟩, .int .i64 0, .string ⟨#[]⟩, .int .i64 0, .int .i64 0, .int .i64 0, .int .i64 0, .int .i64 0, .chan none] 181)).alloc (.chan 0 #[] false 0 0 false)).drew.frozen? p :=
      fun p hlt hp => World.frozen?_of_block (hg3.block p.block (by simp; omega) (fun e => hp (by injection e)))
    have c0 : w3.cell? ⟨w.heap.size, 0, none⟩ = some (.string n) := hcell _ _ nb1 (by simp [go_sem])
    have c1 : w3.cell? ⟨w.heap.size, 1, none⟩ = some (.int .i64 k) := hcell _ _ nb1 (by simp [go_sem])
    have c2 : w3.cell? ⟨w.heap.size, 2, none⟩ = some (.string l) := hcell _ _ nb1 (by simp [go_sem])
    have c3 : w3.cell? ⟨w.heap.size, 3, none⟩ = some (.int .i64 x) := hcell _ _ nb1 (by simp [go_sem])
    have c4 : w3.cell? ⟨w.heap.size, 4, none⟩ = some (.int .i64 y) := hcell _ _ nb1 (by simp [go_sem])
    have c5 : w3.cell? ⟨w.heap.size, 5, none⟩ = some (.int .i64 h) := hcell _ _ nb1 (by simp [go_sem])
    have c6 : w3.cell? ⟨w.heap.size, 6, none⟩ = some (.int .i64 t) := hcell _ _ nb1 (by simp [go_sem])
    have c7 : w3.cell? ⟨w.heap.size, 7, none⟩ = some (.int .i64 m) := hcell _ _ nb1 (by simp [go_sem])
    have d0 : w3.cell? ⟨w.heap.size + 1, 0, none⟩ = some (.string ⟨#[]⟩) := hcell _ _ nb2 (by simp [go_sem])
    have f0 : w3.frozen? ⟨w.heap.size + 1, 0, none⟩ = false := (hfroz _ (by show w.heap.size + 1 < _; omega) nb2).trans (by simp [go_sem])
    have d1 : w3.cell? ⟨w.heap.size + 1, 1, none⟩ = some (.int .i64 0) := hcell _ _ nb2 (by simp [go_sem])
    have f1 : w3.frozen? ⟨w.heap.size + 1, 1, none⟩ = false := (hfroz _ (by show w.heap.size + 1 < _; omega) nb2).trans (by simp [go_sem])
    have d2 : w3.cell? ⟨w.heap.size + 1, 2, none⟩ = some (.string ⟨#[]⟩) := hcell _ _ nb2 (by simp [go_sem])
    have f2 : w3.frozen? ⟨w.heap.size + 1, 2, none⟩ = false := (hfroz _ (by show w.heap.size + 1 < _; omega) nb2).trans (by simp [go_sem])
    have d3 : w3.cell? ⟨w.heap.size + 1, 3, none⟩ = some (.int .i64 0) := hcell _ _ nb2 (by simp [go_sem])
    have f3 : w3.frozen? ⟨w.heap.size + 1, 3, none⟩ = false := (hfroz _ (by show w.heap.size + 1 < _; omega) nb2).trans (by simp [go_sem])
    have d4 : w3.cell? ⟨w.heap.size + 1, 4, none⟩ = some (.int .i64 0) := hcell _ _ nb2 (by simp [go_sem])
    have f4 : w3.frozen? ⟨w.heap.size + 1, 4, none⟩ = false := (hfroz _ (by show w.heap.size + 1 < _; omega) nb2).trans (by simp [go_sem])
    have d5 : w3.cell? ⟨w.heap.size + 1, 5, none⟩ = some (.int .i64 0) := hcell _ _ nb2 (by simp [go_sem])
    have f5 : w3.frozen? ⟨w.heap.size + 1, 5, none⟩ = false := (hfroz _ (by show w.heap.size + 1 < _; omega) nb2).trans (by simp [go_sem])
    have d6 : w3.cell? ⟨w.heap.size + 1, 6, none⟩ = some (.int .i64 0) := hcell _ _ nb2 (by simp [go_sem])
    have f6 : w3.frozen? ⟨w.heap.size + 1, 6, none⟩ = false := (hfroz _ (by show w.heap.size + 1 < _; omega) nb2).trans (by simp [go_sem])
    have d7 : w3.cell? ⟨w.heap.size + 1, 7, none⟩ = some (.int .i64 0) := hcell _ _ nb2 (by simp [go_sem])
    have f7 : w3.frozen? ⟨w.heap.size + 1, 7, none⟩ = false := (hfroz _ (by show w.heap.size + 1 < _; omega) nb2).trans (by simp [go_sem])
    have d8 : w3.cell? ⟨w.heap.size + 1, 8, none⟩ = some (.chan none) := hcell _ _ nb2 (by simp [go_sem])
    have f8 : w3.frozen? ⟨w.heap.size + 1, 8, none⟩ = false := (hfroz _ (by show w.heap.size + 1 < _; omega) nb2).trans (by simp [go_sem])
    have HQ := Lib.hid (show lk (M ++ [(l, w.heap.size + 1 + 1)]) l = some (w.heap.size + 1 + 1) by rw [lk_snoc, HK.out]; simp)
    clear hcell hfroz
    have G3 := Lib.hid (show w.grownBy w3 (some b) from Rw.grown_trans (gdrew (Rw.grown_trans (Rw.grown_trans (World.grownBy_alloc _ _ _) (World.grownBy_alloc _ _ _)) (World.grownBy_alloc _ _ _))) hg3)
    have HG := Lib.hid (show Gd w3 (M ++ [(l, w.heap.size + 1 + 1)]) from Gd.snoc hG HK.out (by omega) z3)
    have Z3 := Lib.hid z3
    have HL3 := Lib.hid hL3
    have HNB := Lib.hid nb2
    clear hg3 z3 hL3 L2 nb1 hG
    go_enter Tryz.func154, Tryz.ntmps154
    go_wp2_with (at_lookup; refine wpList_look _ rfl _ _ rfl b M rfl ((hL.alloc _).alloc _) l rfl ?_; rw [HK.out])
    go_region
    have HL9 := Lib.hid hL
    clear mk e1 e2 hput hL HK
    go_wp2_with (at_lookup; refine wpList_look _ rfl _ _ rfl b (M ++ [(l, w.heap.size + 1 + 1)]) rfl HL3.out l rfl ?_; rw [HQ.out])
    refine bodyPost_ret (v := hv n k l x y h t m (w.heap.size + 1 + 1)) (by simp [results, Tryz.results154, go_sem, d0, d1, d2, d3, d4, d5, d6, d7, d8]) rfl ⟨M ++ [(l, w.heap.size + 1 + 1)], w.heap.size + 1 + 1, rfl, ?_, HG.out.more (by simp), HQ.out, ?_, ?_, ?_⟩
    · repeat refine Ls.set ?_ (by exact HNB.out) _
      exact HL3.out
    · intro q v hq
      rw [lk_snoc, hq]
    · intro q hq
      rw [lk_snoc]
      cases lk M q with
      | some v => rfl
      | none => simp [Ne.symm hq]
    · repeat refine gset ?_ (by show w.heap.size ≤ w.heap.size + 1; omega) _
      exact G3.out
end Go.Proofs.YtokncfhpmjohdabGreat.Hn
namespace Go.Proofs.YtokncfhpmjohdabGreat.Po
open Go.RowKit Go.Proofs.YtokncfhpmjohdabGreat.Cm Go.Proofs.YtokncfhpmjohdabGreat.Pl Go.Proofs.YtokncfhpmjohdabGreat.Str Go.Proofs.YtokncfhpmjohdabGreat.Pw Go.Proofs.YtokncfhpmjohdabGreat.P2 Go.Proofs.YtokncfhpmjohdabGreat.Hd Go.Proofs.YtokncfhpmjohdabGreat.Jt Go.Proofs.YtokncfhpmjohdabGreat.Dd Go.Proofs.YtokncfhpmjohdabGreat.IsName Go.Proofs.YtokncfhpmjohdabGreat.Ds Go.Proofs.YtokncfhpmjohdabGreat.Ch Go.Proofs.YtokncfhpmjohdabGreat.Hn
set_option linter.unusedVariables false
set_option linter.unusedSimpArgs false

/-- The part that is made of a device. -/
def pt (n : ByteArray) (k : Int) (l : ByteArray) (x y h t m : Int) (c : Nat) : Value :=
  if k = 1 then .iface 178 (va n 1 l x y h t m) else if k = 2 then .iface 184 (hv n 2 l x y h t m c) else if k = 3 then .iface 185 (hv n 3 l x y h t m c) else .nilIface

/-- What is known behind partOf. -/
structure Parted (w : World) (b : Nat) (M : List (ByteArray × Nat)) (k : Int) (s : ByteArray) (M' : List (ByteArray × Nat)) (c : Nat) (w' : World) : Prop where
  ls : Ls w' b M'
  gd : Gd w' M'
  here : k = 2 ∨ k = 3 → lk M' s = some c
  old : ∀ q v, lk M q = some v → lk M' q = some v
  new : ∀ q, (k = 2 ∨ k = 3 → q ≠ s) → lk M' q = lk M q
  grown : w.grownBy w' (some b)

set_option maxHeartbeats 2000000 in
theorem partOf (n : ByteArray) (k : Int) (l : ByteArray) (x y h t m : Int) (b : Nat) (M : List (ByteArray × Nat)) (w : World) (hL : Ls w b M) (hG : Gd w M) :
    Calls Tryz.prog 133 #[.map (some b), va n k l x y h t m] w fun e w' => ∃ M' c, e = .returned (pt n k l x y h t m c) ∧ Parted w b M k l M' c w' := by
  have CH := Lib.hid (fun k => hang n k l x y h t m b M (w.alloc (.cells (ca n k l x y h t m) 36)) (hL.alloc _) (hG.more (by simp)))
  by_cases k1 : k = 1
  · subst k1
    go_enter Tryz.func133, Tryz.ntmps133
    go_wp2_with fail
    go_returns
    exact ⟨M, 0, rfl, hL.alloc _, hG.more (by simp), (by omega), fun _ _ h => h, fun _ _ => rfl, World.grownBy_alloc _ _ _⟩
  by_cases k2 : k = 2
  · subst k2
    clear k1
    go_enter Tryz.func133, Tryz.ntmps133
    go_wp2_with fail
    refine (CH.out _).mono ?_
    rintro e w1 ⟨M', c, rfl, HU⟩
    have HU := Lib.hid HU
    go_wp2_with fail
    go_returns
    exact ⟨M', c, rfl, HU.out.ls, HU.out.gd, fun _ => HU.out.here, HU.out.old, fun q hq => HU.out.new q (hq (Or.inl rfl)), Rw.grown_trans (World.grownBy_alloc _ _ _) HU.out.grown⟩
  by_cases k3 : k = 3
  · subst k3
    clear k1 k2
    go_enter Tryz.func133, Tryz.ntmps133
    go_wp2_with fail
    refine (CH.out _).mono ?_
    rintro e w1 ⟨M', c, rfl, HU⟩
    have HU := Lib.hid HU
    go_wp2_with fail
    go_returns
    exact ⟨M', c, rfl, HU.out.ls, HU.out.gd, fun _ => HU.out.here, HU.out.old, fun q hq => HU.out.new q (hq (Or.inr rfl)), Rw.grown_trans (World.grownBy_alloc _ _ _) HU.out.grown⟩
  · go_enter Tryz.func133, Tryz.ntmps133
    go_wp2_with fail
    go_returns
    exact ⟨M, 0, by simp [pt, k1, k2, k3], hL.alloc _, hG.more (by simp), (by omega), fun _ _ h => h, fun _ _ => rfl, World.grownBy_alloc _ _ _⟩

theorem isSupply_of {m : Int} {b : Bool} (e : iw m 0 512 = b) (w : World) : Calls Tryz.prog 32 #[.int .i64 m] w fun e w' => e = .returned (.bool b) ∧ w = w' := by
  go_enter Tryz.func32, Tryz.ntmps32
  go_wp2_with fail
  refine (isWithin_of e _).mono ?_
  rintro e w' ⟨rfl, rfl⟩
  go_wp2_with fail
  go_returns
  exact ⟨rfl, rfl⟩

set_option maxHeartbeats 1000000 in
theorem pumpSound (n l : ByteArray) (x y h t m : Int) (w : World) :
    Calls Tryz.prog 192 #[va n 1 l x y h t m] w fun e w' => e = .returned (.bool (pumpB l x y h t m)) ∧ Below w.heap.size w w' := by
  unfold pumpB
  obtain ⟨b5, h5⟩ : ∃ b, iw m 0 512 = b := ⟨_, rfl⟩
  obtain ⟨q1, hq1⟩ : ∃ b, (sb l ⟨#[]⟩ && zb [x, y, h, t]) = b := ⟨_, rfl⟩
  rw [h5, hq1]
  have C5 := Lib.hid (isSupply_of h5)
  have E1 := eq_pump (n := n) (m := m) hq1
  clear h5 hq1
  cases b5 <;> cases q1
  all_goals
    simp only [Bool.true_and, Bool.false_and, Bool.and_true, Bool.and_false]
    go_enter Tryz.func192, Tryz.ntmps192
    go_wp2_with fail
    try (refine (C5.out _).mono ?_; rintro e w' ⟨rfl, rfl⟩; go_wp2_with fail)
    go_returns
    exact ⟨rfl, by go_grown⟩

set_option maxHeartbeats 1000000 in
theorem hasLine (n : ByteArray) (k : Int) (l : ByteArray) (x y h t m : Int) (c : Nat) (w : World) :
    Calls Tryz.prog 195 #[hv n k l x y h t m c] w fun e w' => e = .returned (.bool (lineB n l)) ∧ Below w.heap.size w w' := by
  have cl := IsName.impl l
  unfold lineB
  generalize nameB l = bl at *
  have HL := Lib.hid cl
  clear cl
  obtain ⟨d, hs⟩ : ∃ d, sb l n = d := ⟨_, rfl⟩
  rw [hs]
  have s1 : (l.toList == n.toList) = d := hs
  have s2 : (l.toList != n.toList) = !d := by rw [← hs]; rfl
  clear hs
  cases bl <;> cases d
  all_goals
    simp only [Bool.true_and, Bool.false_and, Bool.not_true, Bool.not_false] at s2 ⊢
    go_enter Tryz.func195, Tryz.ntmps195
    go_wp2_with fail
    refine (HL.out _).mono ?_
    rintro e w' ⟨rfl, rfl⟩
    go_wp2_with fail
    go_returns
    exact ⟨rfl, by go_grown⟩

theorem jetOf (n : ByteArray) (k : Int) (l : ByteArray) (x y h t m : Int) (c : Nat) (w : World) :
    Calls Tryz.prog 202 #[hv n k l x y h t m c] w fun e w' => e = .returned (jv x y h t 1) ∧ Below w.heap.size w w' := by
  go_enter Tryz.func202, Tryz.ntmps202
  go_wp2_with fail
  go_returns
  exact ⟨rfl, by go_grown⟩

set_option maxHeartbeats 2000000 in
theorem nozSound (n l : ByteArray) (x y h t m : Int) (c : Nat) (w : World) :
    Calls Tryz.prog 199 #[hv n 2 l x y h t m c] w fun e w' => e = .returned (.bool (nozB n l x y h t m)) ∧ Below w.heap.size w w' := by
  have hl := hasLine n 2 l x y h t m c
  unfold nozB
  generalize lineB n l = d at *
  obtain ⟨bj, hj⟩ : ∃ b, jt x y h t 1 = b := ⟨_, rfl⟩
  obtain ⟨b6, h6⟩ : ∃ b, iw m 0 32 = b := ⟨_, rfl⟩
  rw [hj, h6]
  have CJ := Lib.hid (isJetI_of hj)
  have C6 := Lib.hid (isWithin_of h6)
  have HL := Lib.hid hl
  clear hj h6 hl
  cases d <;> cases bj
  all_goals
    simp only [Bool.true_and, Bool.false_and]
    go_enter Tryz.func199, Tryz.ntmps199
    go_wp2_with fail
    refine (HL.out _).mono ?_
    rintro e w1 ⟨rfl, hb⟩
    obtain ⟨hc, hf⟩ := open_below hb
    have H1 := Lib.hid (show Below w.heap.size w w1 from Below.trans (by go_grown) (hb.mono (by first | (simp; done) | (simp; omega))))
    have p1 : w.heap.size < w1.heap.size := by have := hb.size; simp at this; omega
    have q7 : w1.cell? ⟨w.heap.size, 7, none⟩ = some (.int .i64 m) := (hb.cell (by simp)).trans (by simp [go_sem])
    clear hb
    go_wp2_with fail
    first | (go_returns; exact ⟨rfl, by first | exact H1.out | exact H1.out.alloc H1.out.size _⟩) | skip
    all_goals (refine (jetOf _ _ _ _ _ _ _ _ _ _).mono ?_; rintro e w2 ⟨rfl, hb⟩; obtain ⟨hc2, hf2⟩ := open_below hb; have H2 := Lib.hid (H1.out.trans (hb.mono H1.out.size)); have p2 : w.heap.size < w2.heap.size := Nat.lt_of_lt_of_le p1 hb.size; have r7 := (hb.cell (p := ⟨w.heap.size, 7, none⟩) p1).trans q7; clear hb H1; have H1 := H2; clear H2; go_wp2_with fail)
    all_goals (refine (CJ.out _).mono ?_; rintro e w' ⟨rfl, rfl⟩; go_wp2_with fail)
    all_goals try (refine (C6.out _).mono ?_; rintro e w' ⟨rfl, rfl⟩; go_wp2_with fail)
    all_goals go_returns
    all_goals exact ⟨rfl, by first | exact H1.out | exact H1.out.alloc H1.out.size _⟩

set_option maxHeartbeats 2000000 in
theorem lampSound (n l : ByteArray) (x y h t m : Int) (c : Nat) (w : World) :
    Calls Tryz.prog 204 #[hv n 3 l x y h t m c] w fun e w' => e = .returned (.bool (lampB n l x y h t m)) ∧ Below w.heap.size w w' := by
  have hl := hasLine n 3 l x y h t m c
  unfold lampB
  generalize lineB n l = d at *
  obtain ⟨bp, hp⟩ : ∃ b, (ms x && ms y) = b := ⟨_, rfl⟩
  obtain ⟨q3, hq3⟩ : ∃ b, zb [h, t, m] = b := ⟨_, rfl⟩
  rw [hp, hq3]
  have CP := Lib.hid (isPlaceI_of hp)
  have E3 := eq_lamp (n := n) (l := l) (x := x) (y := y) hq3
  have HL := Lib.hid hl
  clear hp hq3 hl
  cases q3 <;> cases d
  all_goals
    simp only [Bool.true_and, Bool.false_and, Bool.and_true, Bool.and_false]
    go_enter Tryz.func204, Tryz.ntmps204
    go_wp2_with fail
    first
      | (refine (HL.out _).mono ?_
         rintro e w1 ⟨rfl, hb⟩
         obtain ⟨hc, hf⟩ := open_below hb
         have H1 := Lib.hid (show Below w.heap.size w w1 from Below.trans (by go_grown) (hb.mono (by first | (simp; done) | (simp; omega))))
         clear hb
         go_wp2_with fail
         try (refine (CP.out _).mono ?_; rintro e w' ⟨rfl, rfl⟩; go_wp2_with fail)
         go_returns
         exact ⟨rfl, by first | exact H1.out | exact H1.out.alloc H1.out.size _⟩)
      | (go_returns; exact ⟨rfl, by go_grown⟩)

end Go.Proofs.YtokncfhpmjohdabGreat.Po
namespace Go.Proofs.YtokncfhpmjohdabGreat.Ho
open Go.RowKit Go.ChangeShapes Go.WideShapes Go.WideElems Go.Deep Go.Proofs.YtokncfhpmjohdabGreat.Mem Go.Proofs.YtokncfhpmjohdabGreat.Rw Go.Proofs.YtokncfhpmjohdabGreat.Pw Go.Proofs.YtokncfhpmjohdabGreat.P2 Go.Proofs.YtokncfhpmjohdabGreat.Dd Go.Proofs.YtokncfhpmjohdabGreat.Dv Go.Proofs.YtokncfhpmjohdabGreat.Dl Go.Proofs.YtokncfhpmjohdabGreat.Ds Go.Proofs.YtokncfhpmjohdabGreat.Fd Go.Proofs.YtokncfhpmjohdabGreat.Ch Go.Proofs.YtokncfhpmjohdabGreat.Hn Go.Proofs.YtokncfhpmjohdabGreat.Po
set_option linter.unusedVariables false
set_option linter.unusedSimpArgs false

/-- Whether the device at place i is of kind q. -/
def kAt (zs : List D) (i q : Int) : Bool := if i < 0 then false else match zs[i.toNat]? with | some d => d.kd == q | none => false
theorem kAt_no (zs : List D) (q : Int) : kAt zs (-1) q = false := rfl
theorem kAt_yes {zs : List D} {j : Nat} {d : D} (h : zs[j]? = some d) (q : Int) : kAt zs (j : Int) q = (d.kd == q) := by
  unfold kAt; rw [if_neg (by omega), Int.toNat_natCast, h]
/-- Whether what a device hangs on is there, and of its kind. -/
def hgV (zs : List D) (k : Int) (s : ByteArray) : Bool := if k = 2 then kAt zs (fd zs s) 1 else if k = 3 then kAt zs (fd zs s) 2 else true
theorem hgV_2 (zs : List D) (s : ByteArray) : hgV zs 2 s = kAt zs (fd zs s) 1 := rfl
theorem hgV_3 (zs : List D) (s : ByteArray) : hgV zs 3 s = kAt zs (fd zs s) 2 := rfl
theorem hgV_o {k : Int} (h2 : k ≠ 2) (h3 : k ≠ 3) (zs : List D) (s : ByteArray) : hgV zs k s = true := by unfold hgV; rw [if_neg h2, if_neg h3]

set_option maxHeartbeats 4000000 in
theorem hangsS (A : Option Addr) (n0 c0 : Nat) (zs : List D) (n : ByteArray) (k : Int) (s : ByteArray) (x y h t m : Int) (w : World) (hn : zs.length = n0) (hb : n0 ≤ 1048576) (hr : Rd w w.heap.size A (dls zs)) :
    Calls Tryz.prog 115 #[.slice A n0 c0, va n k s x y h t m] w fun e w' => e = .returned (.bool (hgV zs k s)) ∧ Below w.heap.size w w' := by
  have HN := Lib.hid hn
  have CF := Lib.hid (findS A n0 c0 zs s (w.alloc (.cells (ca n k s x y h t m) 36)) hn hb ((hr.below (by go_grown)).more (by simp)))
  have HR := Lib.hid hr
  clear hr hn
  by_cases k2 : k = 2
  · subst k2
    rw [hgV_2]
    rcases fd_cases zs s with hf | ⟨j, hf, hj, d, hd, _⟩
    · rw [hf, kAt_no]
      rw [hf] at CF
      clear hf
      go_enter Tryz.func115, Tryz.ntmps115
      go_wp2_with fail
      refine CF.out.mono ?_
      rintro e w1 ⟨rfl, hb⟩
      obtain ⟨hc, hf9⟩ := open_below hb
      have H1 := Lib.hid (show Below w.heap.size w w1 from Below.trans (by go_grown) (hb.mono (by simp)))
      have KD : w1.cell? ⟨w.heap.size, 1, none⟩ = some (.int .i64 2) := (hb.cell (by simp)).trans (by simp [go_sem])
      clear hb CF
      go_wp2_with fail
      go_returns
      exact ⟨rfl, H1.out⟩
    · rw [hf, kAt_yes hd]
      rw [hf] at CF
      have hj0 : j < n0 := by rw [← HN.out]; exact hj
      obtain ⟨b, o, eA, hbl, hcell⟩ := HR.out.get (k := j * 8) (by rw [dls_len, HN.out]; omega)
      have hd2 := (dls_get hd).2.1
      have cK : w.cell? ⟨b, o + j * 8 + 1, none⟩ = some (.int .i64 d.kd) := by rw [Nat.add_assoc]; exact hcell _ _ hd2
      generalize d.kd = q at *
      subst eA
      clear hcell hd2 hd hj hf
      obtain ⟨r, hr⟩ : ∃ r, (q == 1) = r := ⟨_, rfl⟩
      rw [hr]
      have hq : decide (q = 1) = r := by rw [← hr]; by_cases e : q = 1 <;> simp [e]
      cases r
      all_goals
        go_enter Tryz.func115, Tryz.ntmps115
        go_wp2_with fail
        refine CF.out.mono ?_
        rintro e w1 ⟨rfl, hb⟩
        obtain ⟨hc, hf9⟩ := open_below hb
        have H1 := Lib.hid (show Below w.heap.size w w1 from Below.trans (by go_grown) (hb.mono (by simp)))
        have KD : w1.cell? ⟨w.heap.size, 1, none⟩ = some (.int .i64 2) := (hb.cell (by simp)).trans (by simp [go_sem])
        clear hb CF
        have hB1 : b < w1.heap.size := Nat.lt_of_lt_of_le hbl H1.out.size
        have cK1 := (H1.out.cell (p := ⟨b, o + j * 8 + 1, none⟩) hbl).trans cK
        go_wp2_with fail
        go_returns
        exact ⟨rfl, H1.out⟩
  by_cases k3 : k = 3
  · subst k3
    rw [hgV_3]
    rcases fd_cases zs s with hf | ⟨j, hf, hj, d, hd, _⟩
    · rw [hf, kAt_no]
      rw [hf] at CF
      clear hf k2
      go_enter Tryz.func115, Tryz.ntmps115
      go_wp2_with fail
      refine CF.out.mono ?_
      rintro e w1 ⟨rfl, hb⟩
      obtain ⟨hc, hf9⟩ := open_below hb
      have H1 := Lib.hid (show Below w.heap.size w w1 from Below.trans (by go_grown) (hb.mono (by simp)))
      have KD : w1.cell? ⟨w.heap.size, 1, none⟩ = some (.int .i64 3) := (hb.cell (by simp)).trans (by simp [go_sem])
      clear hb CF
      go_wp2_with fail
      go_returns
      exact ⟨rfl, H1.out⟩
    · rw [hf, kAt_yes hd]
      rw [hf] at CF
      have hj0 : j < n0 := by rw [← HN.out]; exact hj
      obtain ⟨b, o, eA, hbl, hcell⟩ := HR.out.get (k := j * 8) (by rw [dls_len, HN.out]; omega)
      have hd2 := (dls_get hd).2.1
      have cK : w.cell? ⟨b, o + j * 8 + 1, none⟩ = some (.int .i64 d.kd) := by rw [Nat.add_assoc]; exact hcell _ _ hd2
      generalize d.kd = q at *
      subst eA
      clear hcell hd2 hd hj hf k2
      obtain ⟨r, hr⟩ : ∃ r, (q == 2) = r := ⟨_, rfl⟩
      rw [hr]
      have hq : decide (q = 2) = r := by rw [← hr]; by_cases e : q = 2 <;> simp [e]
      cases r
      all_goals
        go_enter Tryz.func115, Tryz.ntmps115
        go_wp2_with fail
        refine CF.out.mono ?_
        rintro e w1 ⟨rfl, hb⟩
        obtain ⟨hc, hf9⟩ := open_below hb
        have H1 := Lib.hid (show Below w.heap.size w w1 from Below.trans (by go_grown) (hb.mono (by simp)))
        have KD : w1.cell? ⟨w.heap.size, 1, none⟩ = some (.int .i64 3) := (hb.cell (by simp)).trans (by simp [go_sem])
        clear hb CF
        have hB1 : b < w1.heap.size := Nat.lt_of_lt_of_le hbl H1.out.size
        have cK1 := (H1.out.cell (p := ⟨b, o + j * 8 + 1, none⟩) hbl).trans cK
        go_wp2_with fail
        go_returns
        exact ⟨rfl, H1.out⟩
  rw [hgV_o k2 k3]
  generalize fd zs s = i at *
  go_enter Tryz.func115, Tryz.ntmps115
  go_wp2_with fail
  refine CF.out.mono ?_
  rintro e w1 ⟨rfl, hb⟩
  obtain ⟨hc, hf9⟩ := open_below hb
  have H1 := Lib.hid (show Below w.heap.size w w1 from Below.trans (by go_grown) (hb.mono (by simp)))
  have KD : w1.cell? ⟨w.heap.size, 1, none⟩ = some (.int .i64 k) := (hb.cell (by simp)).trans (by simp [go_sem])
  clear hb CF
  go_wp2_with fail
  go_returns
  exact ⟨rfl, H1.out⟩
end Go.Proofs.YtokncfhpmjohdabGreat.Ho
