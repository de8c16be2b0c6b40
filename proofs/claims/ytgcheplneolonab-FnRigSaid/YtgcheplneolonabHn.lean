/- The program's devices on lines: what hang lays into the map of lines. -/
import Derived.Test.YtgcheplneolonabCh
import Derived.Test.YtgcheplneolonabPb
import Derived.BigRegion
import Derived.Deep.DeepCutAuto
namespace Go.Proofs.Ytgcheplneolonab.Hn
open Go.RowKit Go.Proofs.Ytgcheplneolonab.Dd Go.Proofs.Ytgcheplneolonab.Ch Go.Proofs.Ytgcheplneolonab.P2
set_option linter.unusedVariables false
set_option linter.unusedSimpArgs false

/-- The value of what hangs. -/
abbrev hv (n : ByteArray) (k : Int) (l : ByteArray) (x y h t m : Int) (c : Nat) : Value := .agg #[.string n, .int .i64 k, .string l, .int .i64 x, .int .i64 y, .int .i64 h, .int .i64 t, .int .i64 m, .chan (some c)]

theorem gset {w w' : World} {r : Option Nat} (h : w.grownBy w' r) {a : Addr} (ha : w.heap.size ≤ a.block) (v : Value) : w.grownBy (w'.setCell a v) r :=
  ⟨h.os, h.tape, h.output, by simpa [World.setCell] using h.size, fun k hk hr => (RowKit.Below.heap_setCell _ _ _ _ (by omega)).trans (h.block k hk hr)⟩
theorem gdrew {w w' : World} {r : Option Nat} (h : w.grownBy w' r) : w.grownBy w'.drew r := ⟨h.os, h.tape, h.output, h.size, h.block⟩
/-- No two lines have one channel, and each channel is there. -/
def Gd (w : World) (M : List (ByteArray × Nat)) : Prop := (∀ s c, lk M s = some c → c < w.heap.size) ∧ ∀ s s' c, lk M s = some c → lk M s' = some c → s = s'
theorem Gd.nil (w : World) : Gd w [] := ⟨fun _ _ h => (by cases h), fun _ _ _ h => (by cases h)⟩
theorem Gd.more {w w' : World} {M : List (ByteArray × Nat)} (h : Gd w M) (hs : w.heap.size ≤ w'.heap.size) : Gd w' M := ⟨fun s c e => Nat.lt_of_lt_of_le (h.1 s c e) hs, h.2⟩
theorem Gd.snoc {w w' : World} {M : List (ByteArray × Nat)} {s : ByteArray} {c : Nat} (h : Gd w M) (hn : lk M s = none) (h1 : w.heap.size ≤ c) (h2 : c < w'.heap.size) : Gd w' (M ++ [(s, c)]) := by
  have e : ∀ q v, lk (M ++ [(s, c)]) q = some v → lk M q = some v ∨ (s = q ∧ c = v) := by
    intro q v hq
    rw [lk_snoc] at hq
    cases hm : lk M q with
    | some u => rw [hm] at hq; exact Or.inl hq
    | none =>
      rw [hm] at hq
      by_cases g : s = q
      · simp [g] at hq; exact Or.inr ⟨g, hq⟩
      · simp [g] at hq
  refine ⟨fun q v hq => ?_, fun q q' v hq hq' => ?_⟩
  · rcases e q v hq with a | ⟨_, rfl⟩
    · have := h.1 q v a; omega
    · exact h2
  · rcases e q v hq with a | ⟨a, a'⟩ <;> rcases e q' v hq' with b | ⟨b, b'⟩
    · exact h.2 _ _ _ a b
    · have := h.1 q v a; omega
    · have := h.1 q' v b; omega
    · exact a.symm.trans b

/-- What is known behind hang: the map's lines, the channel of this line. -/
structure Hung (w : World) (b : Nat) (M : List (ByteArray × Nat)) (s : ByteArray) (M' : List (ByteArray × Nat)) (c : Nat) (w' : World) : Prop where
  ls : Ls w' b M'
  gd : Gd w' M'
  here : lk M' s = some c
  old : ∀ q v, lk M q = some v → lk M' q = some v
  new : ∀ q, q ≠ s → lk M' q = lk M q
  grown : w.grownBy w' (some b)

set_option maxHeartbeats 2000000 in
theorem hang (n : ByteArray) (k : Int) (l : ByteArray) (x y h t m : Int) (b : Nat) (M : List (ByteArray × Nat)) (w : World) (hL : Ls w b M) (hG : Gd w M) :
    Calls Try.prog 78 #[.map (some b), va n k l x y h t m] w fun e w' => ∃ M' c, e = .returned (hv n k l x y h t m c) ∧ Hung w b M l M' c w' := by
  have hb := hL.lt
  have mk := run_mkChan
  have e1 := run_chanNil
  have e2 := run_chanSome
  cases hl : lk M l with
  | some c =>
    have HK := Lib.hid hl
    clear hl
    go_enter Try.func78, Try.ntmps78
    go_wp2_with (at_lookup; refine wpList_look _ rfl _ _ rfl b M rfl ((hL.alloc _).alloc _) l rfl ?_; rw [HK.out])
    go_returns
    exact ⟨M, c, rfl, (hL.alloc _).alloc _ , (hG.more (by simp; omega)), HK.out, fun _ _ h => h, fun _ _ => rfl, Rw.grown_trans (World.grownBy_alloc _ _ _) (World.grownBy_alloc _ _ _)⟩
  | none =>
    have HK := Lib.hid hl
    clear hl
    have L2 : Ls (((w.alloc (.cells (ca n k l x y h t m) 28)).alloc (.cells #[.string ⟨#[]⟩, .int .i64 0, .string ⟨#[]⟩, .int .i64 0, .int .i64 0, .int .i64 0, .int .i64 0, .int .i64 0, .chan none] 116)).alloc (.chan 0 #[] false 0 0 false)).drew b M := ((hL.alloc _).alloc _).alloc _
    obtain ⟨w3, hput, hL3, hg3⟩ := run_put L2 HK.out (w.heap.size + 1 + 1)
    have z3 : w.heap.size + 1 + 1 < w3.heap.size := by have := hg3.size; simp at this; omega
    have nb1 : w.heap.size ≠ b := by omega
    have nb2 : w.heap.size + 1 ≠ b := by omega
    have hcell : ∀ p v, p.block ≠ b → (((w.alloc (.cells (ca n k l x y h t m) 28)).alloc (.cells #[.string ⟨#[]⟩, .int .i64 0, .string ⟨#[]⟩, .int .i64 0, .int .i64 0, .int .i64 0, .int .i64 0, .int .i64 0, .chan none] 116)).alloc (.chan 0 #[] false 0 0 false)).drew.cell? p = some v → w3.cell? p = some v :=
      fun p v hp hv => hg3.cell hv (fun e => hp (by injection e))
    have hfroz : ∀ p : Addr, p.block < w.heap.size + 3 → p.block ≠ b → w3.frozen? p = (((w.alloc (.cells (ca n k l x y h t m) 28)).alloc (.cells #[.string ⟨#[]⟩, .int .i64 0, .string ⟨#[]⟩, .int .i64 0, .int .i64 0, .int .i64 0, .int .i64 0, .int .i64 0, .chan none] 116)).alloc (.chan 0 #[] false 0 0 false)).drew.frozen? p :=
      fun p hlt hp => World.frozen?_of_block (hg3.block p.block (by simp; omega) (fun e => hp (by injection e)))
    have c0 : w3.cell? ⟨w.heap.size, 0, none⟩ = some (.string n) := hcell _ _ nb1 (by simp [go_sem])
    have c1 : w3.cell? ⟨w.heap.size, 1, none⟩ = some (.int .i64 k) := hcell _ _ nb1 (by simp [go_sem])
    have c2 : w3.cell? ⟨w.heap.size, 2, none⟩ = some (.string l) := hcell _ _ nb1 (by simp [go_sem])
    have c3 : w3.cell? ⟨w.heap.size, 3, none⟩ = some (.int .i64 x) := hcell _ _ nb1 (by simp [go_sem])
    have c4 : w3.cell? ⟨w.heap.size, 4, none⟩ = some (.int .i64 y) := hcell _ _ nb1 (by simp [go_sem])
    have c5 : w3.cell? ⟨w.heap.size, 5, none⟩ = some (.int .i64 h) := hcell _ _ nb1 (by simp [go_sem])
    have c6 : w3.cell? ⟨w.heap.size, 6, none⟩ = some (.int .i64 t) := hcell _ _ nb1 (by simp [go_sem])
    have c7 : w3.cell? ⟨w.heap.size, 7, none⟩ = some (.int .i64 m) := hcell _ _ nb1 (by simp [go_sem])
    have d0 : w3.cell? ⟨w.heap.size + 1, 0, none⟩ = some (.string ⟨#[]⟩) := hcell _ _ nb2 (by simp [go_sem])
    have f0 : w3.frozen? ⟨w.heap.size + 1, 0, none⟩ = false := (hfroz _ (by show w.heap.size + 1 < _; omega) nb2).trans (by simp [go_sem])
    have d1 : w3.cell? ⟨w.heap.size + 1, 1, none⟩ = some (.int .i64 0) := hcell _ _ nb2 (by simp [go_sem])
    have f1 : w3.frozen? ⟨w.heap.size + 1, 1, none⟩ = false := (hfroz _ (by show w.heap.size + 1 < _; omega) nb2).trans (by simp [go_sem])
    have d2 : w3.cell? ⟨w.heap.size + 1, 2, none⟩ = some (.string ⟨#[]⟩) := hcell _ _ nb2 (by simp [go_sem])
    have f2 : w3.frozen? ⟨w.heap.size + 1, 2, none⟩ = false := (hfroz _ (by show w.heap.size + 1 < _; omega) nb2).trans (by simp [go_sem])
    have d3 : w3.cell? ⟨w.heap.size + 1, 3, none⟩ = some (.int .i64 0) := hcell _ _ nb2 (by simp [go_sem])
    have f3 : w3.frozen? ⟨w.heap.size + 1, 3, none⟩ = false := (hfroz _ (by show w.heap.size + 1 < _; omega) nb2).trans (by simp [go_sem])
    have d4 : w3.cell? ⟨w.heap.size + 1, 4, none⟩ = some (.int .i64 0) := hcell _ _ nb2 (by simp [go_sem])
    have f4 : w3.frozen? ⟨w.heap.size + 1, 4, none⟩ = false := (hfroz _ (by show w.heap.size + 1 < _; omega) nb2).trans (by simp [go_sem])
    have d5 : w3.cell? ⟨w.heap.size + 1, 5, none⟩ = some (.int .i64 0) := hcell _ _ nb2 (by simp [go_sem])
    have f5 : w3.frozen? ⟨w.heap.size + 1, 5, none⟩ = false := (hfroz _ (by show w.heap.size + 1 < _; omega) nb2).trans (by simp [go_sem])
    have d6 : w3.cell? ⟨w.heap.size + 1, 6, none⟩ = some (.int .i64 0) := hcell _ _ nb2 (by simp [go_sem])
    have f6 : w3.frozen? ⟨w.heap.size + 1, 6, none⟩ = false := (hfroz _ (by show w.heap.size + 1 < _; omega) nb2).trans (by simp [go_sem])
    have d7 : w3.cell? ⟨w.heap.size + 1, 7, none⟩ = some (.int .i64 0) := hcell _ _ nb2 (by simp [go_sem])
    have f7 : w3.frozen? ⟨w.heap.size + 1, 7, none⟩ = false := (hfroz _ (by show w.heap.size + 1 < _; omega) nb2).trans (by simp [go_sem])
    have d8 : w3.cell? ⟨w.heap.size + 1, 8, none⟩ = some (.chan none) := hcell _ _ nb2 (by simp [go_sem])
    have f8 : w3.frozen? ⟨w.heap.size + 1, 8, none⟩ = false := (hfroz _ (by show w.heap.size + 1 < _; omega) nb2).trans (by simp [go_sem])
    have HQ := Lib.hid (show lk (M ++ [(l, w.heap.size + 1 + 1)]) l = some (w.heap.size + 1 + 1) by rw [lk_snoc, HK.out]; simp)
    clear hcell hfroz
    have G3 := Lib.hid (show w.grownBy w3 (some b) from Rw.grown_trans (gdrew (Rw.grown_trans (Rw.grown_trans (World.grownBy_alloc _ _ _) (World.grownBy_alloc _ _ _)) (World.grownBy_alloc _ _ _))) hg3)
    have HG := Lib.hid (show Gd w3 (M ++ [(l, w.heap.size + 1 + 1)]) from Gd.snoc hG HK.out (by omega) z3)
    have Z3 := Lib.hid z3
    have HL3 := Lib.hid hL3
    have HNB := Lib.hid nb2
    clear hg3 z3 hL3 L2 nb1 hG
    go_enter Try.func78, Try.ntmps78
    go_wp2_with (at_lookup; refine wpList_look _ rfl _ _ rfl b M rfl ((hL.alloc _).alloc _) l rfl ?_; rw [HK.out])
    go_region
    have HL9 := Lib.hid hL
    clear mk e1 e2 hput hL HK
    go_wp2_with (at_lookup; refine wpList_look _ rfl _ _ rfl b (M ++ [(l, w.heap.size + 1 + 1)]) rfl HL3.out l rfl ?_; rw [HQ.out])
    refine bodyPost_ret (v := hv n k l x y h t m (w.heap.size + 1 + 1)) (by simp [results, Try.results78, go_sem, d0, d1, d2, d3, d4, d5, d6, d7, d8]) rfl ⟨M ++ [(l, w.heap.size + 1 + 1)], w.heap.size + 1 + 1, rfl, ?_, HG.out.more (by simp), HQ.out, ?_, ?_, ?_⟩
    · repeat refine Ls.set ?_ (by exact HNB.out) _
      exact HL3.out
    · intro q v hq
      rw [lk_snoc, hq]
    · intro q hq
      rw [lk_snoc]
      cases lk M q with
      | some v => rfl
      | none => simp [Ne.symm hq]
    · repeat refine gset ?_ (by show w.heap.size ≤ w.heap.size + 1; omega) _
      exact G3.out
end Go.Proofs.Ytgcheplneolonab.Hn
