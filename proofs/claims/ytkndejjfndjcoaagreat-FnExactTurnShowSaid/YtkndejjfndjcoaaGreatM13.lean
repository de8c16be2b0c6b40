/- The program's devices on lines: what hang lays into the map of lines. -/
import Derived.Test.YtkndejjfndjcoaaGreatM12
import Derived.Test.YtkndejjfndjcoaaGreatM4
import Derived.BigRegion
import Derived.Deep.DeepCutAuto
import Derived.Test.YtkndejjfndjcoaaGreatM11
namespace Go.Proofs.YtkndejjfndjcoaaGreat.Hn
open Go.RowKit Go.Proofs.YtkndejjfndjcoaaGreat.Dd Go.Proofs.YtkndejjfndjcoaaGreat.Ch Go.Proofs.YtkndejjfndjcoaaGreat.P2
set_option linter.unusedVariables false
set_option linter.unusedSimpArgs false

/-- The value of what hangs. -/
abbrev hv (n : ByteArray) (k : Int) (l : ByteArray) (x y h t m : Int) (c : Nat) : Value := .agg #[.string n, .int .i64 k, .string l, .int .i64 x, .int .i64 y, .int .i64 h, .int .i64 t, .int .i64 m, .chan (some c)]

theorem gset {w w' : World} {r : Option Nat} (h : w.grownBy w' r) {a : Addr} (ha : w.heap.size ≤ a.block) (v : Value) : w.grownBy (w'.setCell a v) r :=
  ⟨h.os, h.tape, h.output, by simpa [World.setCell] using h.size, fun k hk hr => (RowKit.Below.heap_setCell _ _ _ _ (by omega)).trans (h.block k hk hr)⟩
theorem gdrew {w w' : World} {r : Option Nat} (h : w.grownBy w' r) : w.grownBy w'.drew r := ⟨h.os, h.tape, h.output, h.size, h.block⟩
/-- No two lines have one channel, and each channel is there. -/
def Gd (w : World) (M : List (ByteArray × Nat)) : Prop := (∀ s c, lk M s = some c → c < w.heap.size) ∧ ∀ s s' c, lk M s = some c → lk M s' = some c → s = s'
theorem Gd.nil (w : World) : Gd w [] := ⟨fun _ _ h => (by cases h), fun _ _ _ h => (by cases h)⟩
theorem Gd.more {w w' : World} {M : List (ByteArray × Nat)} (h : Gd w M) (hs : w.heap.size ≤ w'.heap.size) : Gd w' M := ⟨fun s c e => Nat.lt_of_lt_of_le (h.1 s c e) hs, h.2⟩
theorem Gd.snoc {w w' : World} {M : List (ByteArray × Nat)} {s : ByteArray} {c : Nat} (h : Gd w M) (hn : lk M s = none) (h1 : w.heap.size ≤ c) (h2 : c < w'.heap.size) : Gd w' (M ++ [(s, c)]) := by
  have e : ∀ q v, lk (M ++ [(s, c)]) q = some v → lk M q = some v ∨ (s = q ∧ c = v) := by
    intro q v hq
    rw [lk_snoc] at hq
    cases hm : lk M q with
    | some u => rw [hm] at hq; exact Or.inl hq
    | none =>
      rw [hm] at hq
      by_cases g : s = q
      · simp [g] at hq; exact Or.inr ⟨g, hq⟩
      · simp [g] at hq
  refine ⟨fun q v hq => ?_, fun q q' v hq hq' => ?_⟩
  · rcases e q v hq with a | ⟨_, rfl⟩
    · have := h.1 q v a; omega
    · exact h2
  · rcases e q v hq with a | ⟨a, a'⟩ <;> rcases e q' v hq' with b | ⟨b, b'⟩
    · exact h.2 _ _ _ a b
    · have := h.1 q v a; omega
    · have := h.1 q' v b; omega
    · exact a.symm.trans b

/-- What is known behind hang: the map's lines, the channel of this line. -/
structure Hung (w : World) (b : Nat) (M : List (ByteArray × Nat)) (s : ByteArray) (M' : List (ByteArray × Nat)) (c : Nat) (w' : World) : Prop where
  ls : Ls w' b M'
  gd : Gd w' M'
  here : lk M' s = some c
  old : ∀ q v, lk M q = some v → lk M' q = some v
  new : ∀ q, q ≠ s → lk M' q = lk M q
  grown : w.grownBy w' (some b)

set_option maxHeartbeats 2000000 in
theorem hang (n : ByteArray) (k : Int) (l : ByteArray) (x y h t m : Int) (b : Nat) (M : List (ByteArray × Nat)) (w : World) (hL : Ls w b M) (hG : Gd w M) :
    Calls Tryz.prog 141 #[.map (some b), va n k l x y h t m] w fun e w' => ∃ M' c, e = .returned (hv n k l x y h t m c) ∧ Hung w b M l M' c w' := by
  have hb := hL.lt
  have mk := run_mkChan
  have e1 := run_chanNil
  have e2 := run_chanSome
  cases hl : lk M l with
  | some c =>
    have HK := Lib.hid hl
    clear hl
    go_enter Tryz.func141, Tryz.ntmps141
    go_wp2_with (at_lookup; refine wpList_look _ rfl _ _ rfl b M rfl ((hL.alloc _).alloc _) l rfl ?_; rw [HK.out])
    go_returns
    exact ⟨M, c, rfl, (hL.alloc _).alloc _ , (hG.more (by simp; omega)), HK.out, fun _ _ h => h, fun _ _ => rfl, Rw.grown_trans (World.grownBy_alloc _ _ _) (World.grownBy_alloc _ _ _)⟩
  | none =>
    have HK := Lib.hid hl
    clear hl
    have L2 : Ls (((w.alloc (.cells (ca n k l x y h t m) 86)).alloc (.cells #[.string ⟨#[]⟩, .int .i64 0, .string ⟨#[]⟩, .int .i64 0, .int .i64 0, .int .i64 0, .int .i64 0, .int .i64 0, .chan none] 162)).alloc (.chan 0 #[] false 0 0 false)).drew b M := ((hL.alloc _).alloc _).alloc _
    obtain ⟨w3, hput, hL3, hg3⟩ := run_put L2 HK.out (w.heap.size + 1 + 1)
    have z3 : w.heap.size + 1 + 1 < w3.heap.size := by have := hg3.size; simp at this; omega
    have nb1 : w.heap.size ≠ b := by omega
    have nb2 : w.heap.size + 1 ≠ b := by omega
    have hcell : ∀ p v, p.block ≠ b → (((w.alloc (.cells (ca n k l x y h t m) 86)).alloc (.cells #[.string ⟨#[]⟩, .int .i64 0, .string ⟨#[]⟩, .int .i64 0, .int .i64 0, .int .i64 0, .int .i64 0, .int .i64 0, .chan none] 162)).alloc (.chan 0 #[] false 0 0 false)).drew.cell? p = some v → w3.cell? p = some v :=
      fun p v hp hv => hg3.cell hv (fun e => hp (by injection e))
    have hfroz : ∀ p : Addr, p.block < w.heap.size + 3 → p.block ≠ b → w3.frozen? p = (((w.alloc (.cells (ca n k l x y h t m) 86)).alloc (.cells #[.string ⟨#[]⟩, .int .i64 0, .string ⟨#[]⟩, .int .i64 0, .int .i64 0, .int .i64 0, .int .i64 0, .int .i64 0, .chan none] 162)).alloc (.chan 0 #[] false 0 0 false)).drew.frozen? p :=
      fun p hlt hp => World.frozen?_of_block (hg3.block p.block (by simp; omega) (fun e => hp (by injection e)))
    have c0 : w3.cell? ⟨w.heap.size, 0, none⟩ = some (.string n) := hcell _ _ nb1 (by simp [go_sem])
    have c1 : w3.cell? ⟨w.heap.size, 1, none⟩ = some (.int .i64 k) := hcell _ _ nb1 (by simp [go_sem])
    have c2 : w3.cell? ⟨w.heap.size, 2, none⟩ = some (.string l) := hcell _ _ nb1 (by simp [go_sem])
    have c3 : w3.cell? ⟨w.heap.size, 3, none⟩ = some (.int .i64 x) := hcell _ _ nb1 (by simp [go_sem])
    have c4 : w3.cell? ⟨w.heap.size, 4, none⟩ = some (.int .i64 y) := hcell _ _ nb1 (by simp [go_sem])
    have c5 : w3.cell? ⟨w.heap.size, 5, none⟩ = some (.int .i64 h) := hcell _ _ nb1 (by simp [go_sem])
    have c6 : w3.cell? ⟨w.heap.size, 6, none⟩ = some (.int .i64 t) := hcell _ _ nb1 (by simp [go_sem])
    have c7 : w3.cell? ⟨w.heap.size, 7, none⟩ = some (.int .i64 m) := hcell _ _ nb1 (by simp [go_sem])
    have d0 : w3.cell? ⟨w.heap.size + 1, 0, none⟩ = some (.string ⟨#[]⟩) := hcell _ _ nb2 (by simp [go_sem])
    have f0 : w3.frozen? ⟨w.heap.size + 1, 0, none⟩ = false := (hfroz _ (by show w.heap.size + 1 < _; omega) nb2).trans (by simp [go_sem])
    have d1 : w3.cell? ⟨w.heap.size + 1, 1, none⟩ = some (.int .i64 0) := hcell _ _ nb2 (by simp [go_sem])
    have f1 : w3.frozen? ⟨w.heap.size + 1, 1, none⟩ = false := (hfroz _ (by show w.heap.size + 1 < _; omega) nb2).trans (by simp [go_sem])
    have d2 : w3.cell? ⟨w.heap.size + 1, 2, none⟩ = some (.string ⟨#[]⟩) := hcell _ _ nb2 (by simp [go_sem])
    have f2 : w3.frozen? ⟨w.heap.size + 1, 2, none⟩ = false := (hfroz _ (by show w.heap.size + 1 < _; omega) nb2).trans (by simp [go_sem])
    have d3 : w3.cell? ⟨w.heap.size + 1, 3, none⟩ = some (.int .i64 0) := hcell _ _ nb2 (by simp [go_sem])
    have f3 : w3.frozen? ⟨w.heap.size + 1, 3, none⟩ = false := (hfroz _ (by show w.heap.size + 1 < _; omega) nb2).trans (by simp [go_sem])
    have d4 : w3.cell? ⟨w.heap.size + 1, 4, none⟩ = some (.int .i64 0) := hcell _ _ nb2 (by simp [go_sem])
    have f4 : w3.frozen? ⟨w.heap.size + 1, 4, none⟩ = false := (hfroz _ (by show w.heap.size + 1 < _; omega) nb2).trans (by simp [go_sem])
    have d5 : w3.cell? ⟨w.heap.size + 1, 5, none⟩ = some (.int .i64 0) := hcell _ _ nb2 (by simp [go_sem])
    have f5 : w3.frozen? ⟨w.heap.size + 1, 5, none⟩ = false := (hfroz _ (by show w.heap.size + 1 < _; omega) nb2).trans (by simp [go_sem])
    have d6 : w3.cell? ⟨w.heap.size + 1, 6, none⟩ = some (.int .i64 0) := hcell _ _ nb2 (by simp [go_sem])
    have f6 : w3.frozen? ⟨w.heap.size + 1, 6, none⟩ = false := (hfroz _ (by show w.heap.size + 1 < _; omega) nb2).trans (by simp [go_sem])
    have d7 : w3.cell? ⟨w.heap.size + 1, 7, none⟩ = some (.int .i64 0) := hcell _ _ nb2 (by simp [go_sem])
    have f7 : w3.frozen? ⟨w.heap.size + 1, 7, none⟩ = false := (hfroz _ (by show w.heap.size + 1 < _; omega) nb2).trans (by simp [go_sem])
    have d8 : w3.cell? ⟨w.heap.size + 1, 8, none⟩ = some (.chan none) := hcell _ _ nb2 (by simp [go_sem])
    have f8 : w3.frozen? ⟨w.heap.size + 1, 8, none⟩ = false := (hfroz _ (by show w.heap.size + 1 < _; omega) nb2).trans (by simp [go_sem])
    have HQ := Lib.hid (show lk (M ++ [(l, w.heap.size + 1 + 1)]) l = some (w.heap.size + 1 + 1) by rw [lk_snoc, HK.out]; simp)
    clear hcell hfroz
    have G3 := Lib.hid (show w.grownBy w3 (some b) from Rw.grown_trans (gdrew (Rw.grown_trans (Rw.grown_trans (World.grownBy_alloc _ _ _) (World.grownBy_alloc _ _ _)) (World.grownBy_alloc _ _ _))) hg3)
    have HG := Lib.hid (show Gd w3 (M ++ [(l, w.heap.size + 1 + 1)]) from Gd.snoc hG HK.out (by omega) z3)
    have Z3 := Lib.hid z3
    have HL3 := Lib.hid hL3
    have HNB := Lib.hid nb2
    clear hg3 z3 hL3 L2 nb1 hG
    go_enter Tryz.func141, Tryz.ntmps141
    go_wp2_with (at_lookup; refine wpList_look _ rfl _ _ rfl b M rfl ((hL.alloc _).alloc _) l rfl ?_; rw [HK.out])
    go_region
    have HL9 := Lib.hid hL
    clear mk e1 e2 hput hL HK
    go_wp2_with (at_lookup; refine wpList_look _ rfl _ _ rfl b (M ++ [(l, w.heap.size + 1 + 1)]) rfl HL3.out l rfl ?_; rw [HQ.out])
    refine bodyPost_ret (v := hv n k l x y h t m (w.heap.size + 1 + 1)) (by simp [results, Tryz.results141, go_sem, d0, d1, d2, d3, d4, d5, d6, d7, d8]) rfl ⟨M ++ [(l, w.heap.size + 1 + 1)], w.heap.size + 1 + 1, rfl, ?_, HG.out.more (by simp), HQ.out, ?_, ?_, ?_⟩
    · repeat refine Ls.set ?_ (by exact HNB.out) _
      exact HL3.out
    · intro q v hq
      rw [lk_snoc, hq]
    · intro q hq
      rw [lk_snoc]
      cases lk M q with
      | some v => rfl
      | none => simp [Ne.symm hq]
    · repeat refine gset ?_ (by show w.heap.size ≤ w.heap.size + 1; omega) _
      exact G3.out
end Go.Proofs.YtkndejjfndjcoaaGreat.Hn
namespace Go.Proofs.YtkndejjfndjcoaaGreat.Po
open Go.RowKit Go.Proofs.YtkndejjfndjcoaaGreat.Cm Go.Proofs.YtkndejjfndjcoaaGreat.Pl Go.Proofs.YtkndejjfndjcoaaGreat.Str Go.Proofs.YtkndejjfndjcoaaGreat.Pw Go.Proofs.YtkndejjfndjcoaaGreat.P2 Go.Proofs.YtkndejjfndjcoaaGreat.Hd Go.Proofs.YtkndejjfndjcoaaGreat.Jt Go.Proofs.YtkndejjfndjcoaaGreat.Dd Go.Proofs.YtkndejjfndjcoaaGreat.IsName Go.Proofs.YtkndejjfndjcoaaGreat.Ds Go.Proofs.YtkndejjfndjcoaaGreat.Ch Go.Proofs.YtkndejjfndjcoaaGreat.Hn
set_option linter.unusedVariables false
set_option linter.unusedSimpArgs false

/-- The part that is made of a device. -/
def pt (n : ByteArray) (k : Int) (l : ByteArray) (x y h t m : Int) (c : Nat) : Value :=
  if k = 1 then .iface 159 (va n 1 l x y h t m) else if k = 2 then .iface 165 (hv n 2 l x y h t m c) else if k = 3 then .iface 166 (hv n 3 l x y h t m c) else .nilIface

/-- What is known behind partOf. -/
structure Parted (w : World) (b : Nat) (M : List (ByteArray × Nat)) (k : Int) (s : ByteArray) (M' : List (ByteArray × Nat)) (c : Nat) (w' : World) : Prop where
  ls : Ls w' b M'
  gd : Gd w' M'
  here : k = 2 ∨ k = 3 → lk M' s = some c
  old : ∀ q v, lk M q = some v → lk M' q = some v
  new : ∀ q, (k = 2 ∨ k = 3 → q ≠ s) → lk M' q = lk M q
  grown : w.grownBy w' (some b)

set_option maxHeartbeats 2000000 in
theorem partOf (n : ByteArray) (k : Int) (l : ByteArray) (x y h t m : Int) (b : Nat) (M : List (ByteArray × Nat)) (w : World) (hL : Ls w b M) (hG : Gd w M) :
    Calls Tryz.prog 121 #[.map (some b), va n k l x y h t m] w fun e w' => ∃ M' c, e = .returned (pt n k l x y h t m c) ∧ Parted w b M k l M' c w' := by
  have CH := Lib.hid (fun k => hang n k l x y h t m b M (w.alloc (.cells (ca n k l x y h t m) 86)) (hL.alloc _) (hG.more (by simp)))
  by_cases k1 : k = 1
  · subst k1
    go_enter Tryz.func121, Tryz.ntmps121
    go_wp2_with fail
    go_returns
    exact ⟨M, 0, rfl, hL.alloc _, hG.more (by simp), (by omega), fun _ _ h => h, fun _ _ => rfl, World.grownBy_alloc _ _ _⟩
  by_cases k2 : k = 2
  · subst k2
    clear k1
    go_enter Tryz.func121, Tryz.ntmps121
    go_wp2_with fail
    refine (CH.out _).mono ?_
    rintro e w1 ⟨M', c, rfl, HU⟩
    have HU := Lib.hid HU
    go_wp2_with fail
    go_returns
    exact ⟨M', c, rfl, HU.out.ls, HU.out.gd, fun _ => HU.out.here, HU.out.old, fun q hq => HU.out.new q (hq (Or.inl rfl)), Rw.grown_trans (World.grownBy_alloc _ _ _) HU.out.grown⟩
  by_cases k3 : k = 3
  · subst k3
    clear k1 k2
    go_enter Tryz.func121, Tryz.ntmps121
    go_wp2_with fail
    refine (CH.out _).mono ?_
    rintro e w1 ⟨M', c, rfl, HU⟩
    have HU := Lib.hid HU
    go_wp2_with fail
    go_returns
    exact ⟨M', c, rfl, HU.out.ls, HU.out.gd, fun _ => HU.out.here, HU.out.old, fun q hq => HU.out.new q (hq (Or.inr rfl)), Rw.grown_trans (World.grownBy_alloc _ _ _) HU.out.grown⟩
  · go_enter Tryz.func121, Tryz.ntmps121
    go_wp2_with fail
    go_returns
    exact ⟨M, 0, by simp [pt, k1, k2, k3], hL.alloc _, hG.more (by simp), (by omega), fun _ _ h => h, fun _ _ => rfl, World.grownBy_alloc _ _ _⟩

theorem isSupply_of {m : Int} {b : Bool} (e : iw m 0 512 = b) (w : World) : Calls Tryz.prog 113 #[.int .i64 m] w fun e w' => e = .returned (.bool b) ∧ w = w' := by
  go_enter Tryz.func113, Tryz.ntmps113
  go_wp2_with fail
  refine (isWithin_of e _).mono ?_
  rintro e w' ⟨rfl, rfl⟩
  go_wp2_with fail
  go_returns
  exact ⟨rfl, rfl⟩

set_option maxHeartbeats 1000000 in
theorem pumpSound (n l : ByteArray) (x y h t m : Int) (w : World) :
    Calls Tryz.prog 187 #[va n 1 l x y h t m] w fun e w' => e = .returned (.bool (pumpB l x y h t m)) ∧ Below w.heap.size w w' := by
  unfold pumpB
  obtain ⟨b5, h5⟩ : ∃ b, iw m 0 512 = b := ⟨_, rfl⟩
  obtain ⟨q1, hq1⟩ : ∃ b, (sb l ⟨#[]⟩ && zb [x, y, h, t]) = b := ⟨_, rfl⟩
  rw [h5, hq1]
  have C5 := Lib.hid (isSupply_of h5)
  have E1 := eq_pump (n := n) (m := m) hq1
  clear h5 hq1
  cases b5 <;> cases q1
  all_goals
    simp only [Bool.true_and, Bool.false_and, Bool.and_true, Bool.and_false]
    go_enter Tryz.func187, Tryz.ntmps187
    go_wp2_with fail
    try (refine (C5.out _).mono ?_; rintro e w' ⟨rfl, rfl⟩; go_wp2_with fail)
    go_returns
    exact ⟨rfl, by go_grown⟩

set_option maxHeartbeats 1000000 in
theorem hasLine (n : ByteArray) (k : Int) (l : ByteArray) (x y h t m : Int) (c : Nat) (w : World) :
    Calls Tryz.prog 190 #[hv n k l x y h t m c] w fun e w' => e = .returned (.bool (lineB n l)) ∧ Below w.heap.size w w' := by
  have cl := IsName.impl l
  unfold lineB
  generalize nameB l = bl at *
  have HL := Lib.hid cl
  clear cl
  obtain ⟨d, hs⟩ : ∃ d, sb l n = d := ⟨_, rfl⟩
  rw [hs]
  have s1 : (l.toList == n.toList) = d := hs
  have s2 : (l.toList != n.toList) = !d := by rw [← hs]; rfl
  clear hs
  cases bl <;> cases d
  all_goals
    simp only [Bool.true_and, Bool.false_and, Bool.not_true, Bool.not_false] at s2 ⊢
    go_enter Tryz.func190, Tryz.ntmps190
    go_wp2_with fail
    refine (HL.out _).mono ?_
    rintro e w' ⟨rfl, rfl⟩
    go_wp2_with fail
    go_returns
    exact ⟨rfl, by go_grown⟩

theorem jetOf (n : ByteArray) (k : Int) (l : ByteArray) (x y h t m : Int) (c : Nat) (w : World) :
    Calls Tryz.prog 199 #[hv n k l x y h t m c] w fun e w' => e = .returned (jv x y h t 1) ∧ Below w.heap.size w w' := by
  go_enter Tryz.func199, Tryz.ntmps199
  go_wp2_with fail
  go_returns
  exact ⟨rfl, by go_grown⟩

set_option maxHeartbeats 2000000 in
theorem nozSound (n l : ByteArray) (x y h t m : Int) (c : Nat) (w : World) :
    Calls Tryz.prog 195 #[hv n 2 l x y h t m c] w fun e w' => e = .returned (.bool (nozB n l x y h t m)) ∧ Below w.heap.size w w' := by
  have hl := hasLine n 2 l x y h t m c
  unfold nozB
  generalize lineB n l = d at *
  obtain ⟨bj, hj⟩ : ∃ b, jt x y h t 1 = b := ⟨_, rfl⟩
  obtain ⟨b6, h6⟩ : ∃ b, iw m 0 32 = b := ⟨_, rfl⟩
  rw [hj, h6]
  have CJ := Lib.hid (isJetI_of hj)
  have C6 := Lib.hid (isWithin_of h6)
  have HL := Lib.hid hl
  clear hj h6 hl
  cases d <;> cases bj
  all_goals
    simp only [Bool.true_and, Bool.false_and]
    go_enter Tryz.func195, Tryz.ntmps195
    go_wp2_with fail
    refine (HL.out _).mono ?_
    rintro e w1 ⟨rfl, hb⟩
    obtain ⟨hc, hf⟩ := open_below hb
    have H1 := Lib.hid (show Below w.heap.size w w1 from Below.trans (by go_grown) (hb.mono (by first | (simp; done) | (simp; omega))))
    have p1 : w.heap.size < w1.heap.size := by have := hb.size; simp at this; omega
    have q7 : w1.cell? ⟨w.heap.size, 7, none⟩ = some (.int .i64 m) := (hb.cell (by simp)).trans (by simp [go_sem])
    clear hb
    go_wp2_with fail
    first | (go_returns; exact ⟨rfl, by first | exact H1.out | exact H1.out.alloc H1.out.size _⟩) | skip
    all_goals (refine (jetOf _ _ _ _ _ _ _ _ _ _).mono ?_; rintro e w2 ⟨rfl, hb⟩; obtain ⟨hc2, hf2⟩ := open_below hb; have H2 := Lib.hid (H1.out.trans (hb.mono H1.out.size)); have p2 : w.heap.size < w2.heap.size := Nat.lt_of_lt_of_le p1 hb.size; have r7 := (hb.cell (p := ⟨w.heap.size, 7, none⟩) p1).trans q7; clear hb H1; have H1 := H2; clear H2; go_wp2_with fail)
    all_goals (refine (CJ.out _).mono ?_; rintro e w' ⟨rfl, rfl⟩; go_wp2_with fail)
    all_goals try (refine (C6.out _).mono ?_; rintro e w' ⟨rfl, rfl⟩; go_wp2_with fail)
    all_goals go_returns
    all_goals exact ⟨rfl, by first | exact H1.out | exact H1.out.alloc H1.out.size _⟩

set_option maxHeartbeats 2000000 in
theorem lampSound (n l : ByteArray) (x y h t m : Int) (c : Nat) (w : World) :
    Calls Tryz.prog 204 #[hv n 3 l x y h t m c] w fun e w' => e = .returned (.bool (lampB n l x y h t m)) ∧ Below w.heap.size w w' := by
  have hl := hasLine n 3 l x y h t m c
  unfold lampB
  generalize lineB n l = d at *
  obtain ⟨bp, hp⟩ : ∃ b, (ms x && ms y) = b := ⟨_, rfl⟩
  obtain ⟨q3, hq3⟩ : ∃ b, zb [h, t, m] = b := ⟨_, rfl⟩
  rw [hp, hq3]
  have CP := Lib.hid (isPlaceI_of hp)
  have E3 := eq_lamp (n := n) (l := l) (x := x) (y := y) hq3
  have HL := Lib.hid hl
  clear hp hq3 hl
  cases q3 <;> cases d
  all_goals
    simp only [Bool.true_and, Bool.false_and, Bool.and_true, Bool.and_false]
    go_enter Tryz.func204, Tryz.ntmps204
    go_wp2_with fail
    first
      | (refine (HL.out _).mono ?_
         rintro e w1 ⟨rfl, hb⟩
         obtain ⟨hc, hf⟩ := open_below hb
         have H1 := Lib.hid (show Below w.heap.size w w1 from Below.trans (by go_grown) (hb.mono (by first | (simp; done) | (simp; omega))))
         clear hb
         go_wp2_with fail
         try (refine (CP.out _).mono ?_; rintro e w' ⟨rfl, rfl⟩; go_wp2_with fail)
         go_returns
         exact ⟨rfl, by first | exact H1.out | exact H1.out.alloc H1.out.size _⟩)
      | (go_returns; exact ⟨rfl, by go_grown⟩)

end Go.Proofs.YtkndejjfndjcoaaGreat.Po
