/- The program's parts of a device: what partOf makes of it, and whether each kind is sound. -/
import Derived.Test.YtgcheplneolonabHn
import Derived.Test.YtgcheplneolonabDs
namespace Go.Proofs.Ytgcheplneolonab.Po
open Go.RowKit Go.Proofs.Ytgcheplneolonab.Cm Go.Proofs.Ytgcheplneolonab.Pl Go.Proofs.Ytgcheplneolonab.Str Go.Proofs.Ytgcheplneolonab.Pw Go.Proofs.Ytgcheplneolonab.P2 Go.Proofs.Ytgcheplneolonab.Hd Go.Proofs.Ytgcheplneolonab.Jt Go.Proofs.Ytgcheplneolonab.Dd Go.Proofs.Ytgcheplneolonab.IsName Go.Proofs.Ytgcheplneolonab.Ds Go.Proofs.Ytgcheplneolonab.Ch Go.Proofs.Ytgcheplneolonab.Hn
set_option linter.unusedVariables false
set_option linter.unusedSimpArgs false

/-- The part that is made of a device. -/
def pt (n : ByteArray) (k : Int) (l : ByteArray) (x y h t m : Int) (c : Nat) : Value :=
  if k = 1 then .iface 114 (va n 1 l x y h t m) else if k = 2 then .iface 119 (hv n 2 l x y h t m c) else if k = 3 then .iface 120 (hv n 3 l x y h t m c) else .nilIface

/-- What is known behind partOf. -/
structure Parted (w : World) (b : Nat) (M : List (ByteArray × Nat)) (k : Int) (s : ByteArray) (M' : List (ByteArray × Nat)) (c : Nat) (w' : World) : Prop where
  ls : Ls w' b M'
  gd : Gd w' M'
  here : k = 2 ∨ k = 3 → lk M' s = some c
  old : ∀ q v, lk M q = some v → lk M' q = some v
  new : ∀ q, (k = 2 ∨ k = 3 → q ≠ s) → lk M' q = lk M q
  grown : w.grownBy w' (some b)

set_option maxHeartbeats 2000000 in
theorem partOf (n : ByteArray) (k : Int) (l : ByteArray) (x y h t m : Int) (b : Nat) (M : List (ByteArray × Nat)) (w : World) (hL : Ls w b M) (hG : Gd w M) :
    Calls Try.prog 52 #[.map (some b), va n k l x y h t m] w fun e w' => ∃ M' c, e = .returned (pt n k l x y h t m c) ∧ Parted w b M k l M' c w' := by
  have CH := Lib.hid (fun k => hang n k l x y h t m b M (w.alloc (.cells (ca n k l x y h t m) 28)) (hL.alloc _) (hG.more (by simp)))
  by_cases k1 : k = 1
  · subst k1
    go_enter Try.func52, Try.ntmps52
    go_wp2_with fail
    go_returns
    exact ⟨M, 0, rfl, hL.alloc _, hG.more (by simp), (by omega), fun _ _ h => h, fun _ _ => rfl, World.grownBy_alloc _ _ _⟩
  by_cases k2 : k = 2
  · subst k2
    clear k1
    go_enter Try.func52, Try.ntmps52
    go_wp2_with fail
    refine (CH.out _).mono ?_
    rintro e w1 ⟨M', c, rfl, HU⟩
    have HU := Lib.hid HU
    go_wp2_with fail
    go_returns
    exact ⟨M', c, rfl, HU.out.ls, HU.out.gd, fun _ => HU.out.here, HU.out.old, fun q hq => HU.out.new q (hq (Or.inl rfl)), Rw.grown_trans (World.grownBy_alloc _ _ _) HU.out.grown⟩
  by_cases k3 : k = 3
  · subst k3
    clear k1 k2
    go_enter Try.func52, Try.ntmps52
    go_wp2_with fail
    refine (CH.out _).mono ?_
    rintro e w1 ⟨M', c, rfl, HU⟩
    have HU := Lib.hid HU
    go_wp2_with fail
    go_returns
    exact ⟨M', c, rfl, HU.out.ls, HU.out.gd, fun _ => HU.out.here, HU.out.old, fun q hq => HU.out.new q (hq (Or.inr rfl)), Rw.grown_trans (World.grownBy_alloc _ _ _) HU.out.grown⟩
  · go_enter Try.func52, Try.ntmps52
    go_wp2_with fail
    go_returns
    exact ⟨M, 0, by simp [pt, k1, k2, k3], hL.alloc _, hG.more (by simp), (by omega), fun _ _ h => h, fun _ _ => rfl, World.grownBy_alloc _ _ _⟩

theorem isSupply_of {m : Int} {b : Bool} (e : iw m 0 512 = b) (w : World) : Calls Try.prog 108 #[.int .i64 m] w fun e w' => e = .returned (.bool b) ∧ w = w' := by
  go_enter Try.func108, Try.ntmps108
  go_wp2_with fail
  refine (isWithin_of e _).mono ?_
  rintro e w' ⟨rfl, rfl⟩
  go_wp2_with fail
  go_returns
  exact ⟨rfl, rfl⟩

set_option maxHeartbeats 1000000 in
theorem pumpSound (n l : ByteArray) (x y h t m : Int) (w : World) :
    Calls Try.prog 105 #[va n 1 l x y h t m] w fun e w' => e = .returned (.bool (pumpB l x y h t m)) ∧ Below w.heap.size w w' := by
  unfold pumpB
  obtain ⟨b5, h5⟩ : ∃ b, iw m 0 512 = b := ⟨_, rfl⟩
  obtain ⟨q1, hq1⟩ : ∃ b, (sb l ⟨#[]⟩ && zb [x, y, h, t]) = b := ⟨_, rfl⟩
  rw [h5, hq1]
  have C5 := Lib.hid (isSupply_of h5)
  have E1 := eq_pump (n := n) (m := m) hq1
  clear h5 hq1
  cases b5 <;> cases q1
  all_goals
    simp only [Bool.true_and, Bool.false_and, Bool.and_true, Bool.and_false]
    go_enter Try.func105, Try.ntmps105
    go_wp2_with fail
    try (refine (C5.out _).mono ?_; rintro e w' ⟨rfl, rfl⟩; go_wp2_with fail)
    go_returns
    exact ⟨rfl, by go_grown⟩

set_option maxHeartbeats 1000000 in
theorem hasLine (n : ByteArray) (k : Int) (l : ByteArray) (x y h t m : Int) (c : Nat) (w : World) :
    Calls Try.prog 110 #[hv n k l x y h t m c] w fun e w' => e = .returned (.bool (lineB n l)) ∧ Below w.heap.size w w' := by
  have cl := IsName.impl l
  unfold lineB
  generalize nameB l = bl at *
  have HL := Lib.hid cl
  clear cl
  obtain ⟨d, hs⟩ : ∃ d, sb l n = d := ⟨_, rfl⟩
  rw [hs]
  have s1 : (l.toList == n.toList) = d := hs
  have s2 : (l.toList != n.toList) = !d := by rw [← hs]; rfl
  clear hs
  cases bl <;> cases d
  all_goals
    simp only [Bool.true_and, Bool.false_and, Bool.not_true, Bool.not_false] at s2 ⊢
    go_enter Try.func110, Try.ntmps110
    go_wp2_with fail
    refine (HL.out _).mono ?_
    rintro e w' ⟨rfl, rfl⟩
    go_wp2_with fail
    go_returns
    exact ⟨rfl, by go_grown⟩

theorem jetOf (n : ByteArray) (k : Int) (l : ByteArray) (x y h t m : Int) (c : Nat) (w : World) :
    Calls Try.prog 118 #[hv n k l x y h t m c] w fun e w' => e = .returned (jv x y h t 1) ∧ Below w.heap.size w w' := by
  go_enter Try.func118, Try.ntmps118
  go_wp2_with fail
  go_returns
  exact ⟨rfl, by go_grown⟩

set_option maxHeartbeats 2000000 in
theorem nozSound (n l : ByteArray) (x y h t m : Int) (c : Nat) (w : World) :
    Calls Try.prog 114 #[hv n 2 l x y h t m c] w fun e w' => e = .returned (.bool (nozB n l x y h t m)) ∧ Below w.heap.size w w' := by
  have hl := hasLine n 2 l x y h t m c
  unfold nozB
  generalize lineB n l = d at *
  obtain ⟨bj, hj⟩ : ∃ b, jt x y h t 1 = b := ⟨_, rfl⟩
  obtain ⟨b6, h6⟩ : ∃ b, iw m 0 32 = b := ⟨_, rfl⟩
  rw [hj, h6]
  have CJ := Lib.hid (isJetI_of hj)
  have C6 := Lib.hid (isWithin_of h6)
  have HL := Lib.hid hl
  clear hj h6 hl
  cases d <;> cases bj
  all_goals
    simp only [Bool.true_and, Bool.false_and]
    go_enter Try.func114, Try.ntmps114
    go_wp2_with fail
    refine (HL.out _).mono ?_
    rintro e w1 ⟨rfl, hb⟩
    obtain ⟨hc, hf⟩ := open_below hb
    have H1 := Lib.hid (show Below w.heap.size w w1 from Below.trans (by go_grown) (hb.mono (by first | (simp; done) | (simp; omega))))
    have p1 : w.heap.size < w1.heap.size := by have := hb.size; simp at this; omega
    have q7 : w1.cell? ⟨w.heap.size, 7, none⟩ = some (.int .i64 m) := (hb.cell (by simp)).trans (by simp [go_sem])
    clear hb
    go_wp2_with fail
    first | (go_returns; exact ⟨rfl, by first | exact H1.out | exact H1.out.alloc H1.out.size _⟩) | skip
    all_goals (refine (jetOf _ _ _ _ _ _ _ _ _ _).mono ?_; rintro e w2 ⟨rfl, hb⟩; obtain ⟨hc2, hf2⟩ := open_below hb; have H2 := Lib.hid (H1.out.trans (hb.mono H1.out.size)); have p2 : w.heap.size < w2.heap.size := Nat.lt_of_lt_of_le p1 hb.size; have r7 := (hb.cell (p := ⟨w.heap.size, 7, none⟩) p1).trans q7; clear hb H1; have H1 := H2; clear H2; go_wp2_with fail)
    all_goals (refine (CJ.out _).mono ?_; rintro e w' ⟨rfl, rfl⟩; go_wp2_with fail)
    all_goals try (refine (C6.out _).mono ?_; rintro e w' ⟨rfl, rfl⟩; go_wp2_with fail)
    all_goals go_returns
    all_goals exact ⟨rfl, by first | exact H1.out | exact H1.out.alloc H1.out.size _⟩

set_option maxHeartbeats 2000000 in
theorem lampSound (n l : ByteArray) (x y h t m : Int) (c : Nat) (w : World) :
    Calls Try.prog 121 #[hv n 3 l x y h t m c] w fun e w' => e = .returned (.bool (lampB n l x y h t m)) ∧ Below w.heap.size w w' := by
  have hl := hasLine n 3 l x y h t m c
  unfold lampB
  generalize lineB n l = d at *
  obtain ⟨bp, hp⟩ : ∃ b, (ms x && ms y) = b := ⟨_, rfl⟩
  obtain ⟨q3, hq3⟩ : ∃ b, zb [h, t, m] = b := ⟨_, rfl⟩
  rw [hp, hq3]
  have CP := Lib.hid (isPlaceI_of hp)
  have E3 := eq_lamp (n := n) (l := l) (x := x) (y := y) hq3
  have HL := Lib.hid hl
  clear hp hq3 hl
  cases q3 <;> cases d
  all_goals
    simp only [Bool.true_and, Bool.false_and, Bool.and_true, Bool.and_false]
    go_enter Try.func121, Try.ntmps121
    go_wp2_with fail
    first
      | (refine (HL.out _).mono ?_
         rintro e w1 ⟨rfl, hb⟩
         obtain ⟨hc, hf⟩ := open_below hb
         have H1 := Lib.hid (show Below w.heap.size w w1 from Below.trans (by go_grown) (hb.mono (by first | (simp; done) | (simp; omega))))
         clear hb
         go_wp2_with fail
         try (refine (CP.out _).mono ?_; rintro e w' ⟨rfl, rfl⟩; go_wp2_with fail)
         go_returns
         exact ⟨rfl, by first | exact H1.out | exact H1.out.alloc H1.out.size _⟩)
      | (go_returns; exact ⟨rfl, by go_grown⟩)

end Go.Proofs.Ytgcheplneolonab.Po
