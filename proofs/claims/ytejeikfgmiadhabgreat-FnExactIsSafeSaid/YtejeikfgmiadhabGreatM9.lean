/- What is said of headings: whether one is one, and what it is behind a number of turns. -/
import Derived.Test.YtejeikfgmiadhabGreatM4
import Derived.Test.YtejeikfgmiadhabGreatM8
import Derived.Test.YtejeikfgmiadhabGreatM2
namespace Go.Proofs.YtejeikfgmiadhabGreat.Hd
open Go.RowKit Go.Proofs.YtejeikfgmiadhabGreat.Cm Go.Proofs.YtejeikfgmiadhabGreat.Pl
set_option linter.unusedVariables false

def hd (h : Int) : Bool := decide (0 ≤ h) && decide (h ≤ 3)
theorem hd_yes {h : Int} (e : hd h = true) : 0 ≤ h ∧ h ≤ 3 := by
  unfold hd at e; rw [Bool.and_eq_true, decide_eq_true_eq, decide_eq_true_eq] at e; exact e
theorem hd_mk {h : Int} (e : 0 ≤ h ∧ h ≤ 3) : hd h = true := by unfold hd; rw [decide_eq_true e.1, decide_eq_true e.2]; rfl

theorem isHeadingI (h : Int) (w : World) : Calls Tryz.prog 107 #[.int .i64 h] w fun e w' => e = .returned (.bool (hd h)) ∧ w = w' := by
  go_enter Tryz.func107, Tryz.ntmps107
  go_wp2
  all_goals go_returns
  · rename_i h1
    refine ⟨?_, rfl⟩
    show Ending.returned (.bool (decide (h < 4))) = _
    unfold hd
    rw [decide_eq_true h1, Bool.true_and]
    congr 2
    rw [decide_eq_decide]; omega
  · rename_i h1
    refine ⟨?_, rfl⟩
    show Ending.returned (.bool false) = _
    unfold hd
    rw [decide_eq_false (by omega)]; rfl
theorem isHeadingS (h : Int) (w : World) : Calls Tryz.prog 102 #[.int .i64 h] w fun e w' => e = .returned (.bool (hd h)) ∧ w = w' := by
  go_enter Tryz.func102, Tryz.ntmps102
  go_wp2
  all_goals go_returns
  · rename_i h1
    refine ⟨?_, rfl⟩
    show Ending.returned (.bool (decide (h ≤ 3))) = _
    unfold hd
    rw [decide_eq_true h1, Bool.true_and]
  · rename_i h1
    refine ⟨?_, rfl⟩
    show Ending.returned (.bool false) = _
    unfold hd
    rw [decide_eq_false (by omega)]; rfl

theorem isHeadingI_of {h : Int} {b : Bool} (e : hd h = b) (w : World) : Calls Tryz.prog 107 #[.int .i64 h] w fun e w' => e = .returned (.bool b) ∧ w = w' := e ▸ isHeadingI h w
theorem isHeadingS_of {h : Int} {b : Bool} (e : hd h = b) (w : World) : Calls Tryz.prog 102 #[.int .i64 h] w fun e w' => e = .returned (.bool b) ∧ w = w' := e ▸ isHeadingS h w

/-- The heading behind n quarter turns. -/
def th (h n : Int) : Int := if hd h then (h + n) % 4 else 0

theorem turnHeadingI (h n : Int) (w : World) : Calls Tryz.prog 242 #[.int .i64 h, .int .i64 n] w fun e w' => e = .returned (.int .i64 (th h n)) ∧ w = w' := by
  cases c : hd h
  · have C := Lib.hid (isHeadingI_of c)
    go_enter Tryz.func242, Tryz.ntmps242
    go_wp2_with fail
    refine (C.out _).mono ?_
    rintro e w' ⟨rfl, rfl⟩
    go_wp2_with fail
    go_returns
    refine ⟨?_, rfl⟩
    unfold th; rw [c]; rfl
  · have C := Lib.hid (isHeadingI_of c)
    have ⟨h1, h2⟩ := hd_yes c
    have s : wrap64 (h + n % 4) = h + n % 4 := IntWalk.wrap64_in _ (by omega)
    have f : (h + n % 4) % 4 = th h n := by unfold th; rw [c]; simp
    generalize th h n = r at *
    have Q := Lib.hid (fun w => f ▸ quartersOf (h + n % 4) w)
    clear f c h1 h2
    go_enter Tryz.func242, Tryz.ntmps242
    go_wp2_with fail
    refine (C.out _).mono ?_
    rintro e w' ⟨rfl, rfl⟩
    go_wp2_with fail
    refine (quartersOf n _).mono ?_
    rintro e w' ⟨rfl, rfl⟩
    go_wp2_with fail
    refine (Q.out _).mono ?_
    rintro e w' ⟨rfl, rfl⟩
    go_wp2_with fail
    go_returns
    exact ⟨rfl, rfl⟩
end Go.Proofs.YtejeikfgmiadhabGreat.Hd
namespace Go.Proofs.YtejeikfgmiadhabGreat.Jt
open Go.RowKit Go.Proofs.YtejeikfgmiadhabGreat.Cm Go.Proofs.YtejeikfgmiadhabGreat.Pl Go.Proofs.YtejeikfgmiadhabGreat.Str Go.Proofs.YtejeikfgmiadhabGreat.Pw Go.Proofs.YtejeikfgmiadhabGreat.P2 Go.Proofs.YtejeikfgmiadhabGreat.Hd
set_option linter.unusedVariables false
set_option linter.unusedSimpArgs false

/-- A jet's value. -/
abbrev jv (x y h t l : Int) : Value := .agg #[.int .i64 x, .int .i64 y, .int .i64 h, .int .i64 t, .int .i64 l]
/-- The memory of a jet. -/
abbrev jc (x y h t l : Int) : Array Value := #[.int .i64 x, .int .i64 y, .int .i64 h, .int .i64 t, .int .i64 l]

/-- Whether a jet is valid. -/
def jt (x y h t l : Int) : Bool := iw x (-1024) 1024 && iw y (-1024) 1024 && hd h && iw t 0 16 && iw l 1 32
theorem jt_iff {x y h t l : Int} : jt x y h t l = true ↔ (-1024 ≤ x ∧ x ≤ 1024) ∧ (-1024 ≤ y ∧ y ≤ 1024) ∧ (0 ≤ h ∧ h ≤ 3) ∧ (0 ≤ t ∧ t ≤ 16) ∧ (1 ≤ l ∧ l ≤ 32) := by
  unfold jt hd
  simp only [Bool.and_eq_true, iw_iff, decide_eq_true_eq]
  omega

set_option maxHeartbeats 1000000 in
theorem isJetI (x y h t l : Int) (w : World) : Calls Tryz.prog 92 #[jv x y h t l] w fun e w' => e = .returned (.bool (jt x y h t l)) ∧ w' = w.alloc (.cells (jc x y h t l) 70) := by
  unfold jt
  have H := isHeadingI h
  generalize hd h = b3 at *
  generalize e1 : iw x (-1024) 1024 = b1
  generalize e2 : iw y (-1024) 1024 = b2
  generalize e4 : iw t 0 16 = b4
  generalize e5 : iw l 1 32 = b5
  have C1 := Lib.hid (fun w => e1 ▸ isWithin x (-1024) 1024 w)
  have C2 := Lib.hid (fun w => e2 ▸ isWithin y (-1024) 1024 w)
  have C3 := Lib.hid H
  have C4 := Lib.hid (fun w => e4 ▸ isWithin t 0 16 w)
  have C5 := Lib.hid (fun w => e5 ▸ isWithin l 1 32 w)
  clear e1 e2 e4 e5 H
  cases b1 <;> cases b2 <;> cases b3 <;> cases b4
  all_goals
    go_enter Tryz.func92, Tryz.ntmps92
    go_wp2_with fail
    refine (C1.out _).mono ?_
    rintro e w' ⟨rfl, rfl⟩
    go_wp2_with fail
    try (refine (C2.out _).mono ?_; rintro e w' ⟨rfl, rfl⟩; go_wp2_with fail)
    try (refine (C3.out _).mono ?_; rintro e w' ⟨rfl, rfl⟩; go_wp2_with fail)
    try (refine (C4.out _).mono ?_; rintro e w' ⟨rfl, rfl⟩; go_wp2_with fail)
    try (refine (C5.out _).mono ?_; rintro e w' ⟨rfl, rfl⟩; go_wp2_with fail)
    go_returns
    exact ⟨rfl, rfl⟩

set_option maxHeartbeats 1000000 in
theorem isJetS (x y h t l : Int) (w : World) : Calls Tryz.prog 124 #[jv x y h t l] w fun e w' => e = .returned (.bool (jt x y h t l)) ∧ w' = w.alloc (.cells (jc x y h t l) 70) := by
  unfold jt
  have H := isHeadingS h
  generalize hd h = b3 at *
  generalize e1 : iw x (-1024) 1024 = b1
  generalize e2 : iw y (-1024) 1024 = b2
  generalize e4 : iw t 0 16 = b4
  generalize e5 : iw l 1 32 = b5
  have C1 := Lib.hid (fun w => e1 ▸ l1In x (-1024) 1024 w)
  have C2 := Lib.hid (fun w => e2 ▸ l1In y (-1024) 1024 w)
  have C3 := Lib.hid H
  have C4 := Lib.hid (fun w => e4 ▸ l1In t 0 16 w)
  have C5 := Lib.hid (fun w => e5 ▸ l1In l 1 32 w)
  clear e1 e2 e4 e5 H
  cases b1 <;> cases b2 <;> cases b3 <;> cases b4
  all_goals
    go_enter Tryz.func124, Tryz.ntmps124
    go_wp2_with fail
    refine (C1.out _).mono ?_
    rintro e w' ⟨rfl, rfl⟩
    go_wp2_with fail
    try (refine (C2.out _).mono ?_; rintro e w' ⟨rfl, rfl⟩; go_wp2_with fail)
    try (refine (C3.out _).mono ?_; rintro e w' ⟨rfl, rfl⟩; go_wp2_with fail)
    try (refine (C4.out _).mono ?_; rintro e w' ⟨rfl, rfl⟩; go_wp2_with fail)
    try (refine (C5.out _).mono ?_; rintro e w' ⟨rfl, rfl⟩; go_wp2_with fail)
    go_returns
    exact ⟨rfl, rfl⟩

theorem isJetI_of {x y h t l : Int} {b : Bool} (e : jt x y h t l = b) (w : World) : Calls Tryz.prog 92 #[jv x y h t l] w fun e w' => e = .returned (.bool b) ∧ w' = w.alloc (.cells (jc x y h t l) 70) := e ▸ isJetI x y h t l w
theorem isJetS_of {x y h t l : Int} {b : Bool} (e : jt x y h t l = b) (w : World) : Calls Tryz.prog 124 #[jv x y h t l] w fun e w' => e = .returned (.bool b) ∧ w' = w.alloc (.cells (jc x y h t l) 70) := e ▸ isJetS x y h t l w

end Go.Proofs.YtejeikfgmiadhabGreat.Jt
namespace Go.Proofs.YtejeikfgmiadhabGreat.Ds
open Go.RowKit Go.Proofs.YtejeikfgmiadhabGreat.Cm Go.Proofs.YtejeikfgmiadhabGreat.Pl Go.Proofs.YtejeikfgmiadhabGreat.Str Go.Proofs.YtejeikfgmiadhabGreat.Pw Go.Proofs.YtejeikfgmiadhabGreat.P2 Go.Proofs.YtejeikfgmiadhabGreat.Hd Go.Proofs.YtejeikfgmiadhabGreat.Jt Go.Proofs.YtejeikfgmiadhabGreat.Dd Go.Proofs.YtejeikfgmiadhabGreat.IsName
set_option linter.unusedVariables false
set_option linter.unusedSimpArgs false

/-- Whether two texts are one. -/
def sb (a b : ByteArray) : Bool := a.toList == b.toList
/-- Whether a line may be that of a device of this name. -/
noncomputable def lineB (n l : ByteArray) : Bool := nameB l && !sb l n
/-- Whether these are all zero. -/
def zb : List Int → Bool
  | [] => true
  | a :: r => (a == 0) && zb r
noncomputable def pumpB (l : ByteArray) (x y h t m : Int) : Bool := iw m 0 512 && (sb l ⟨#[]⟩ && zb [x, y, h, t])
noncomputable def nozB (n l : ByteArray) (x y h t m : Int) : Bool := lineB n l && (jt x y h t 1 && iw m 0 32)
noncomputable def lampB (n l : ByteArray) (x y h t m : Int) : Bool := lineB n l && ((ms x && ms y) && zb [h, t, m])
/-- Whether a device is valid. -/
noncomputable def devB (n : ByteArray) (k : Int) (l : ByteArray) (x y h t m : Int) : Bool :=
  nameB n && (if k = 1 then pumpB l x y h t m else if k = 2 then nozB n l x y h t m else if k = 3 then lampB n l x y h t m else false)

theorem l5Supply_of {m : Int} {b : Bool} (e : iw m 0 512 = b) (w : World) : Calls Tryz.prog 145 #[.int .i64 m] w fun e w' => e = .returned (.bool b) ∧ w = w' := by
  go_enter Tryz.func145, Tryz.ntmps145
  go_wp2_with fail
  refine (l1In_of e _).mono ?_
  rintro e w' ⟨rfl, rfl⟩
  go_wp2_with fail
  go_returns
  exact ⟨rfl, rfl⟩

theorem l6Jet_of {n : ByteArray} {k : Int} {l : ByteArray} {x y h t m : Int} {b : Bool} (e : jt x y h t 1 = b) (w : World) : Calls Tryz.prog 146 #[va n k l x y h t m] w fun e w' => e = .returned (.bool b) ∧ Below w.heap.size w w' := by
  have C := Lib.hid (isJetS_of e)
  clear e
  go_enter Tryz.func146, Tryz.ntmps146
  go_wp2_with fail
  refine (C.out _).mono ?_
  rintro e w' ⟨rfl, rfl⟩
  go_wp2_with fail
  go_returns
  exact ⟨rfl, by go_grown⟩

theorem ite_ok (c : Prop) [Decidable c] (b : Bool) (w : World) : (if c then (Result.ok b w : Result Bool) else Result.ok false w) = Result.ok (decide c && b) w := by
  by_cases h : c <;> simp [h]
theorem be_int (a b : Int) : (a == b) = decide (a = b) := by by_cases h : a = b <;> simp [h]
theorem be_list (a b : List UInt8) : (a == b) = decide (a = b) := by by_cases h : a = b <;> simp [h]
theorem sb_self (a : ByteArray) : sb a a = true := by simp [sb]

theorem eqv (n : ByteArray) (k : Int) (l : ByteArray) (x y h t m : Int) (n' : ByteArray) (k' : Int) (l' : ByteArray) (x' y' h' t' m' : Int) (w : World) :
    (binOp .eql 102 (va n k l x y h t m) (va n' k' l' x' y' h' t' m')).run Tryz.prog w = .ok (.bool (sb n n' && ((k == k') && (sb l l' && ((x == x') && ((y == y') && ((h == h') && ((t == t') && (m == m'))))))))) w := by
  rw [run_eql_struct]
  have e : (Op.equalIn 10000 102 (va n k l x y h t m) (va n' k' l' x' y' h' t' m')).run Tryz.prog w = .ok (sb n n' && ((k == k') && (sb l l' && ((x == x') && ((y == y') && ((h == h') && ((t == t') && (m == m')))))))) w := by
    unfold sb
    go_simp
    simp only [ite_ok, be_int, be_list, Bool.and_true]
  rw [e]; rfl

theorem eq_pump {n l : ByteArray} {x y h t m : Int} {q : Bool} (hq : (sb l ⟨#[]⟩ && zb [x, y, h, t]) = q) (w : World) : (binOp .eql 102 (va n 1 l x y h t m) (va n 1 ⟨#[]⟩ 0 0 0 0 m)).run Tryz.prog w = .ok (.bool q) w := by
  rw [eqv, ← hq]; simp [zb, sb_self]
theorem eq_lamp {n l : ByteArray} {x y h t m : Int} {q : Bool} (hq : zb [h, t, m] = q) (w : World) : (binOp .eql 102 (va n 3 l x y h t m) (va n 3 l x y 0 0 0)).run Tryz.prog w = .ok (.bool q) w := by
  rw [eqv, ← hq]; simp [zb, sb_self]

set_option maxHeartbeats 2000000 in
theorem isDeviceS (n : ByteArray) (k : Int) (l : ByteArray) (x y h t m : Int) (hn : n.size ≤ 1048576) (hl : l.size ≤ 1048576) (w : World) :
    Calls Tryz.prog 112 #[va n k l x y h t m] w fun e w' => e = .returned (.bool (devB n k l x y h t m)) ∧ Below w.heap.size w w' := by
  have cn := IsName.spec n hn
  have cl := IsName.spec l hl
  unfold devB nozB lampB pumpB lineB
  generalize nameB n = bn at *
  generalize nameB l = bl at *
  have HN := Lib.hid cn
  have HL := Lib.hid cl
  clear cn cl hn hl
  obtain ⟨c, hs⟩ : ∃ c, sb l n = c := ⟨_, rfl⟩
  rw [hs]
  have s1 : (l.toList == n.toList) = c := hs
  have s2 : (l.toList != n.toList) = !c := by rw [← hs]; rfl
  clear hs
  obtain ⟨b5, h5⟩ : ∃ b, iw m 0 512 = b := ⟨_, rfl⟩
  obtain ⟨q1, hq1⟩ : ∃ b, (sb l ⟨#[]⟩ && zb [x, y, h, t]) = b := ⟨_, rfl⟩
  obtain ⟨bj, hj⟩ : ∃ b, jt x y h t 1 = b := ⟨_, rfl⟩
  obtain ⟨b6, h6⟩ : ∃ b, iw m 0 32 = b := ⟨_, rfl⟩
  obtain ⟨bp, hp⟩ : ∃ b, (ms x && ms y) = b := ⟨_, rfl⟩
  obtain ⟨q3, hq3⟩ : ∃ b, zb [h, t, m] = b := ⟨_, rfl⟩
  rw [h5, hq1, hj, h6, hp, hq3]
  have C5 := Lib.hid (l5Supply_of h5)
  have CJ := Lib.hid (fun n k l w => l6Jet_of (n := n) (k := k) (l := l) (m := m) hj w)
  have C6 := Lib.hid (l1In_of h6)
  have CP := Lib.hid (isPlaceS_of hp)
  have E1 := eq_pump (n := n) (m := m) hq1
  have E3 := eq_lamp (n := n) (l := l) (x := x) (y := y) hq3
  clear h5 hq1 hj h6 hp hq3
  cases bn
  · clear E1 E3 C5 CJ C6 CP
    cases bl <;> cases c
    all_goals
      simp only [Bool.true_and, Bool.false_and, Bool.not_true, Bool.not_false] at s2 ⊢
      go_enter Tryz.func112, Tryz.ntmps112
      go_wp2_with fail
      refine (HL.out _).mono ?_
      rintro e w' ⟨rfl, rfl⟩
      go_wp2_with fail
      refine (HN.out _).mono ?_
      rintro e w' ⟨rfl, rfl⟩
      go_wp2_with fail
      go_returns
      exact ⟨rfl, by go_grown⟩
  rw [Bool.true_and]
  by_cases k1 : k = 1
  · subst k1
    rw [if_pos rfl]
    clear E3 CJ C6 CP
    cases bl <;> cases c <;> cases b5
    all_goals
      simp only [Bool.true_and, Bool.false_and, Bool.not_true, Bool.not_false] at s2 ⊢
      go_enter Tryz.func112, Tryz.ntmps112
      go_wp2_with fail
      refine (HL.out _).mono ?_
      rintro e w' ⟨rfl, rfl⟩
      go_wp2_with fail
      refine (HN.out _).mono ?_
      rintro e w' ⟨rfl, rfl⟩
      go_wp2_with fail
      refine (C5.out _).mono ?_
      rintro e w' ⟨rfl, rfl⟩
      go_wp2_with fail
      go_returns
      exact ⟨rfl, by go_grown⟩
  rw [if_neg k1]
  by_cases k2 : k = 2
  · subst k2
    rw [if_pos rfl]
    clear E1 E3 CP C5 k1
    cases bl <;> cases c <;> cases bj
    all_goals
      simp only [Bool.true_and, Bool.false_and, Bool.not_true, Bool.not_false] at s2 ⊢
      go_enter Tryz.func112, Tryz.ntmps112
      go_wp2_with fail
      refine (HL.out _).mono ?_
      rintro e w' ⟨rfl, rfl⟩
      go_wp2_with fail
      refine (HN.out _).mono ?_
      rintro e w' ⟨rfl, rfl⟩
      go_wp2_with fail
      try (refine (CJ.out _ _ _ _).mono ?_; rintro e w1 ⟨rfl, hb⟩; obtain ⟨hc, hf⟩ := open_below hb; have H := Lib.hid hb; clear hb; go_wp2_with fail)
      try (refine (C6.out _).mono ?_; rintro e w' ⟨rfl, rfl⟩; go_wp2_with fail)
      go_returns
      first | exact ⟨rfl, Below.trans (by go_grown) (H.out.mono (by simp))⟩ | exact ⟨rfl, by go_grown⟩
  rw [if_neg k2]
  by_cases k3 : k = 3
  · subst k3
    rw [if_pos rfl]
    clear E1 C5 C6 CJ k1 k2
    cases bl <;> cases c <;> cases bp
    all_goals
      simp only [Bool.true_and, Bool.false_and, Bool.not_true, Bool.not_false] at s2 ⊢
      go_enter Tryz.func112, Tryz.ntmps112
      go_wp2_with fail
      refine (HL.out _).mono ?_
      rintro e w' ⟨rfl, rfl⟩
      go_wp2_with fail
      refine (HN.out _).mono ?_
      rintro e w' ⟨rfl, rfl⟩
      go_wp2_with fail
      try (refine (CP.out _).mono ?_; rintro e w' ⟨rfl, rfl⟩; go_wp2_with fail)
      go_returns
      exact ⟨rfl, by go_grown⟩
  rw [if_neg k3]
  clear E1 E3 C5 C6 CJ CP
  cases bl <;> cases c
  all_goals
    simp only [Bool.true_and, Bool.false_and, Bool.not_true, Bool.not_false] at s2 ⊢
    go_enter Tryz.func112, Tryz.ntmps112
    go_wp2_with fail
    refine (HL.out _).mono ?_
    rintro e w' ⟨rfl, rfl⟩
    go_wp2_with fail
    refine (HN.out _).mono ?_
    rintro e w' ⟨rfl, rfl⟩
    go_wp2_with fail
    go_returns
    exact ⟨rfl, by go_grown⟩
end Go.Proofs.YtejeikfgmiadhabGreat.Ds
