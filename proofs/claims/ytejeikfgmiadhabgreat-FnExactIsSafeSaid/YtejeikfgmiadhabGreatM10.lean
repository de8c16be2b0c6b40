/- FindDevice of the program and of the model. -/
import Derived.Test.YtejeikfgmiadhabGreatM6
import Derived.Test.YtejeikfgmiadhabGreatM9
import Derived.Test.YtejeikfgmiadhabGreatM2
import Derived.Maps.OwnOps
import Derived.Conc.SmallLaws
import Derived.Test.YtejeikfgmiadhabGreatM4
import Derived.BigRegion
import Derived.Deep.DeepCutAuto
namespace Go.Proofs.YtejeikfgmiadhabGreat.Fd
open Go.RowKit Go.ChangeShapes Go.WideShapes Go.WideElems Go.Deep Go.Proofs.YtejeikfgmiadhabGreat.Mem Go.Proofs.YtejeikfgmiadhabGreat.Rw Go.Proofs.YtejeikfgmiadhabGreat.Pw Go.Proofs.YtejeikfgmiadhabGreat.P2 Go.Proofs.YtejeikfgmiadhabGreat.Dd Go.Proofs.YtejeikfgmiadhabGreat.Dv Go.Proofs.YtejeikfgmiadhabGreat.Dl Go.Proofs.YtejeikfgmiadhabGreat.Ds
set_option linter.unusedVariables false
set_option linter.unusedSimpArgs false

/-- Where the first device of a name is, from place i on. -/
def fdN : List D → ByteArray → Nat → Int
  | [], _, _ => -1
  | d :: r, s, i => if sb d.nm s then (i : Int) else fdN r s (i + 1)
/-- Where the first device of a name is. -/
def fd (zs : List D) (s : ByteArray) : Int := fdN zs s 0
theorem fdN_at {zs : List D} {s : ByteArray} {k : Nat} {d : D} (h : zs[k]? = some d) : fdN (zs.drop k) s k = if sb d.nm s then (k : Int) else fdN (zs.drop (k + 1)) s (k + 1) := by
  obtain ⟨hk, rfl⟩ := List.getElem?_eq_some_iff.1 h
  rw [List.drop_eq_getElem_cons hk, fdN]
theorem fdN_end {zs : List D} {s : ByteArray} {k : Nat} (h : zs.length ≤ k) : fdN (zs.drop k) s k = -1 := by rw [List.drop_of_length_le h]; rfl
theorem fdN_le : ∀ (zs : List D) (s : ByteArray) (i : Nat), fdN zs s i = -1 ∨ ∃ j : Nat, fdN zs s i = ((i + j : Nat) : Int) ∧ j < zs.length ∧ ∃ d, zs[j]? = some d ∧ sb d.nm s = true
  | [], _, _ => Or.inl rfl
  | d :: r, s, i => by
    unfold fdN
    by_cases h : sb d.nm s = true
    · rw [if_pos h]; exact Or.inr ⟨0, by simp, by simp, d, rfl, h⟩
    · rw [if_neg h]
      rcases fdN_le r s (i + 1) with e | ⟨j, e, hj, d', hd, hs⟩
      · exact Or.inl e
      · exact Or.inr ⟨j + 1, by rw [e]; congr 1; omega, by simp; omega, d', by simpa using hd, hs⟩
theorem fd_cases (zs : List D) (s : ByteArray) : fd zs s = -1 ∨ ∃ j : Nat, fd zs s = (j : Int) ∧ j < zs.length ∧ ∃ d, zs[j]? = some d ∧ sb d.nm s = true := by
  rcases fdN_le zs s 0 with h | ⟨j, e, h⟩
  · exact Or.inl h
  · exact Or.inr ⟨j, by unfold fd; rw [e]; congr 1; omega, h⟩

set_option maxHeartbeats 2000000 in
theorem findS (A : Option Addr) (n0 c0 : Nat) (zs : List D) (s : ByteArray) (w : World) (hn : zs.length = n0) (hb : n0 ≤ 1048576) (hr : Rd w w.heap.size A (dls zs)) :
    Calls Tryz.prog 152 #[.slice A n0 c0, .string s] w fun e w' => e = .returned (.int .i64 (fd zs s)) ∧ Below w.heap.size w w' := by
  have HR := Lib.hid hr
  have HN := Lib.hid hn
  have H0 := Lib.hid (show fd zs s = fdN (zs.drop 0) s 0 by simp [fd])
  clear hr hn
  go_enter Tryz.func152, Tryz.ntmps152
  go_wp2
  go_loopw [9] (fun i wr => ∃ k : Nat, k ≤ n0 ∧ i = .int .i64 k ∧ Hid (fd zs s = fdN (zs.drop k) s k) ∧ Hid (Below w.heap.size w wr)) (fun i _ => n0 - (intOf i).toNat)
  case atStart => exact ⟨0, Nat.zero_le _, rfl, H0, Lib.hid (Below.refl _ _)⟩
  case round =>
    obtain ⟨k, hk, rfl, FK, BK⟩ := hrel
    by_cases hlt : k < n0
    · obtain ⟨z, hz⟩ : ∃ z, zs[k]? = some z := ⟨_, List.getElem?_eq_getElem (by rw [HN.out]; exact hlt)⟩
      have ha := FK.out.trans (fdN_at hz)
      obtain ⟨n, q, l, x, y, h, t, m⟩ := z
      obtain ⟨b, o, eA, hbl, hcell⟩ := (HR.out.below BK.out).get (k := k * 8) (by rw [dls_len, HN.out]; omega)
      obtain ⟨z0, z1, z2, z3, z4, z5, z6, z7⟩ := dls_get hz
      have c0 := hcell (k * 8) _ z0
      have c1 := hcell (k * 8 + 1) _ z1
      rw [← Nat.add_assoc] at c1
      have c2 := hcell (k * 8 + 2) _ z2
      rw [← Nat.add_assoc] at c2
      have c3 := hcell (k * 8 + 3) _ z3
      rw [← Nat.add_assoc] at c3
      have c4 := hcell (k * 8 + 4) _ z4
      rw [← Nat.add_assoc] at c4
      have c5 := hcell (k * 8 + 5) _ z5
      rw [← Nat.add_assoc] at c5
      have c6 := hcell (k * 8 + 6) _ z6
      rw [← Nat.add_assoc] at c6
      have c7 := hcell (k * 8 + 7) _ z7
      rw [← Nat.add_assoc] at c7
      clear hcell z0 z1 z2 z3 z4 z5 z6 z7 hz
      subst eA
      have B2 := Lib.hid (BK.out.alloc BK.out.size (.cells (ca n q l x y h t m) 102))
      clear BK FK H0 hbl
      simp only [] at ha
      cases hs : sb n s
      · rw [hs, if_neg (by decide)] at ha
        have HA := Lib.hid ha
        have s1 : (n.toList == s.toList) = false := hs
        clear ha hs
        go_wp2
        go_roundw
        case rel => exact ⟨k + 1, by omega, by go_num, HA, B2⟩
        case measure => simp [intOf]; omega
      · rw [hs, if_pos rfl] at ha
        have HA := Lib.hid ha
        have s1 : (n.toList == s.toList) = true := hs
        clear ha hs
        go_wp2
        go_ret
        exact ⟨by rw [HA.out]; rfl, B2.out⟩
    · obtain rfl : k = n0 := by omega
      have HA := Lib.hid (FK.out.trans (fdN_end (by rw [HN.out]; exact Nat.le_refl _)))
      go_wp2
      go_ret
      exact ⟨by rw [HA.out]; rfl, BK.out⟩

/-- The test that FindDevice hands to the library. -/
theorem isNamed (n : ByteArray) (q : Int) (l : ByteArray) (x y h t m : Int) (g : Nat) (s : ByteArray) (w : World) (hg : w.cell? ⟨g, 0, none⟩ = some (.string s)) :
    Calls Tryz.prog 194 #[va n q l x y h t m, .pointer (some ⟨g, 0, none⟩)] w fun e w' => e = .returned (.bool (sb n s)) ∧ Below w.heap.size w w' := by
  have hl := World.block_lt_of_cell? w _ hg
  simp only [] at hl
  go_enter Tryz.func194, Tryz.ntmps194
  go_wp2_with fail
  go_returns
  exact ⟨by first | rfl | (unfold sb; simp), by go_grown⟩

set_option maxHeartbeats 2000000 in
theorem indexOf (A : Option Addr) (n0 c0 g : Nat) (zs : List D) (s : ByteArray) (H : Nat) (w : World) (hH : H ≤ w.heap.size) (hn : zs.length = n0) (hb : n0 ≤ 1048576) (hr : Rd w H A (dls zs)) (hg : w.cell? ⟨g, 0, none⟩ = some (.string s)) :
    Calls Tryz.prog 193 #[.slice A n0 c0, .func (.func 194) #[] #[.pointer (some ⟨g, 0, none⟩)]] w fun e w' => e = .returned (.int .i64 (fd zs s)) ∧ Below w.heap.size w w' := by
  have HR := Lib.hid (hr.more hH)
  have HN := Lib.hid hn
  have HG := Lib.hid hg
  have H0 := Lib.hid (show fd zs s = fdN (zs.drop 0) s 0 by simp [fd])
  clear hr hn hg hH
  go_enter Tryz.func193, Tryz.ntmps193
  go_wp2
  go_loopw [8] (fun i wr => ∃ k : Nat, k ≤ n0 ∧ i = .int .i64 k ∧ Hid (fd zs s = fdN (zs.drop k) s k) ∧ Hid (Below w.heap.size w wr)) (fun i _ => n0 - (intOf i).toNat)
  case atStart => exact ⟨0, Nat.zero_le _, rfl, H0, Lib.hid (Below.refl _ _)⟩
  case round =>
    obtain ⟨k, hk, rfl, FK, BK⟩ := hrel
    by_cases hlt : k < n0
    · obtain ⟨z, hz⟩ : ∃ z, zs[k]? = some z := ⟨_, List.getElem?_eq_getElem (by rw [HN.out]; exact hlt)⟩
      have ha := FK.out.trans (fdN_at hz)
      have CN := Lib.hid (isNamed z.nm z.kd z.ln z.x z.y z.hd z.tl z.ms g s wr ((BK.out.cell (World.block_lt_of_cell? w _ HG.out)).trans HG.out))
      obtain ⟨n, q, l, x, y, h, t, m⟩ := z
      obtain ⟨b, o, eA, hbl, hcell⟩ := (HR.out.below BK.out).get (k := k * 8) (by rw [dls_len, HN.out]; omega)
      obtain ⟨z0, z1, z2, z3, z4, z5, z6, z7⟩ := dls_get hz
      have c0 := hcell (k * 8) _ z0
      have c1 := hcell (k * 8 + 1) _ z1
      rw [← Nat.add_assoc] at c1
      have c2 := hcell (k * 8 + 2) _ z2
      rw [← Nat.add_assoc] at c2
      have c3 := hcell (k * 8 + 3) _ z3
      rw [← Nat.add_assoc] at c3
      have c4 := hcell (k * 8 + 4) _ z4
      rw [← Nat.add_assoc] at c4
      have c5 := hcell (k * 8 + 5) _ z5
      rw [← Nat.add_assoc] at c5
      have c6 := hcell (k * 8 + 6) _ z6
      rw [← Nat.add_assoc] at c6
      have c7 := hcell (k * 8 + 7) _ z7
      rw [← Nat.add_assoc] at c7
      clear hcell z0 z1 z2 z3 z4 z5 z6 z7 hz
      subst eA
      clear FK H0 hbl
      simp only [] at ha
      cases hs : sb n s
      · rw [hs, if_neg (by decide)] at ha
        simp only [hs] at CN
        have HA := Lib.hid ha
        clear ha hs
        go_wp2_with fail
        refine CN.out.mono ?_
        rintro e w1 ⟨rfl, hb⟩
        have B2 := Lib.hid (BK.out.trans (hb.mono BK.out.size))
        clear hb BK c0 c1 c2 c3 c4 c5 c6 c7 CN
        go_wp2_with fail
        go_roundw
        case rel => exact ⟨k + 1, by omega, by go_num, HA, B2⟩
        case measure => simp [intOf]; omega
      · rw [hs, if_pos rfl] at ha
        simp only [hs] at CN
        have HA := Lib.hid ha
        clear ha hs
        go_wp2_with fail
        refine CN.out.mono ?_
        rintro e w1 ⟨rfl, hb⟩
        have B2 := Lib.hid (BK.out.trans (hb.mono BK.out.size))
        clear hb BK c0 c1 c2 c3 c4 c5 c6 c7 CN
        go_wp2_with fail
        go_ret
        exact ⟨by rw [HA.out]; rfl, B2.out⟩
    · obtain rfl : k = n0 := by omega
      have HA := Lib.hid (FK.out.trans (fdN_end (by rw [HN.out]; exact Nat.le_refl _)))
      go_wp2
      go_ret
      exact ⟨by rw [HA.out]; rfl, BK.out⟩

theorem findI (A : Option Addr) (n0 c0 : Nat) (zs : List D) (s : ByteArray) (w : World) (hn : zs.length = n0) (hb : n0 ≤ 1048576) (hr : Rd w w.heap.size A (dls zs)) :
    Calls Tryz.prog 183 #[.slice A n0 c0, .string s] w fun e w' => e = .returned (.int .i64 (fd zs s)) ∧ Below w.heap.size w w' := by
  have CI := Lib.hid (indexOf A n0 c0 w.heap.size zs s w.heap.size (w.alloc (.cells #[.string s] 9)) (by simp) hn hb (hr.below (by go_grown)) (by simp [go_sem]))
  clear hr hn hb
  go_enter Tryz.func183, Tryz.ntmps183
  go_wp2_with fail
  refine CI.out.mono ?_
  rintro e w1 ⟨rfl, hb⟩
  have H1 := Lib.hid (show Below w.heap.size w w1 from Below.trans (by go_grown) (hb.mono (by simp)))
  clear hb CI
  go_wp2_with fail
  go_returns
  exact ⟨rfl, H1.out⟩

end Go.Proofs.YtejeikfgmiadhabGreat.Fd
namespace Go.Proofs.YtejeikfgmiadhabGreat.Ch
open Go.RowKit
set_option linter.unusedVariables false
set_option linter.unusedSimpArgs false

/-- Which channel a line has. -/
def lk : List (ByteArray × Nat) → ByteArray → Option Nat
  | [], _ => none
  | (k, c) :: r, s => if k = s then some c else lk r s
/-- The entries of a map of lines. -/
def enF : List (ByteArray × Nat) → Nat → List MapEntry
  | [], _ => []
  | (k, c) :: r, i => { key := .string k, val := .chan (some c), born := i } :: enF r (i + 1)
theorem enF_snoc (k : ByteArray) (c : Nat) : ∀ (M : List (ByteArray × Nat)) (i : Nat), enF (M ++ [(k, c)]) i = enF M i ++ [{ key := .string k, val := .chan (some c), born := i + M.length }]
  | [], i => rfl
  | (k', c') :: r, i => by
    have := enF_snoc k c r (i + 1)
    simp only [List.cons_append, enF, this, List.length_cons]
    rw [show i + 1 + r.length = i + (r.length + 1) by omega]
theorem beq_no {a b : ByteArray} (h : ¬ a = b) : (a == b) = false := by
  obtain ⟨⟨x⟩⟩ := a
  obtain ⟨⟨y⟩⟩ := b
  show ((⟨x⟩ : Array UInt8) == ⟨y⟩) = false
  simp
  intro e
  exact h (by rw [e])
theorem beq_yes (a : ByteArray) : (a == a) = true := by
  obtain ⟨⟨x⟩⟩ := a
  show ((⟨x⟩ : Array UInt8) == ⟨x⟩) = true
  simp
theorem find_none {s : ByteArray} : ∀ {M : List (ByteArray × Nat)} {i j : Nat}, lk M s = none → Instr.findNow .string (.string s) (enF M i) j = some none
  | [], _, _, _ => rfl
  | (k, c) :: r, i, j, h => by
    unfold lk at h
    by_cases e : k = s
    · rw [if_pos e] at h; cases h
    · rw [if_neg e] at h
      have := find_none (i := i + 1) (j := j + 1) h
      have e' : ¬ s = k := fun c => e c.symm
      simp [enF, Instr.findNow, Instr.sameNow, beq_no e', this]
theorem find_some {s : ByteArray} {c : Nat} : ∀ {M : List (ByteArray × Nat)} {i j : Nat}, lk M s = some c → ∃ q, Instr.findNow .string (.string s) (enF M i) j = some (some (q, .chan (some c)))
  | [], _, _, h => by cases h
  | (k, c') :: r, i, j, h => by
    unfold lk at h
    by_cases e : k = s
    · rw [if_pos e] at h; cases h
      subst e
      exact ⟨j, by simp [enF, Instr.findNow, Instr.sameNow, beq_yes]⟩
    · rw [if_neg e] at h
      obtain ⟨q, hq⟩ := find_some (i := i + 1) (j := j + 1) h
      have e' : ¬ s = k := fun c => e c.symm
      exact ⟨q, by simp [enF, Instr.findNow, Instr.sameNow, beq_no e', hq]⟩
theorem lk_snoc {k : ByteArray} {c : Nat} {s : ByteArray} : ∀ {M : List (ByteArray × Nat)}, lk (M ++ [(k, c)]) s = match lk M s with | some v => some v | none => if k = s then some c else none
  | [] => by simp [lk]
  | (k', c') :: r => by
    simp only [List.cons_append, lk]
    by_cases e : k' = s
    · simp [e]
    · simp only [if_neg e]; exact lk_snoc

/-- Block b is the map of these lines. -/
def Ls (w : World) (b : Nat) (M : List (ByteArray × Nat)) : Prop := w.heap[b]? = some (.map ⟨enF M 0⟩ M.length)
theorem Ls.lt {w : World} {b : Nat} {M : List (ByteArray × Nat)} (h : Ls w b M) : b < w.heap.size := (Array.getElem?_eq_some_iff.1 h).1
theorem Ls.made (w : World) : Ls (w.alloc (.map #[] 0)) w.heap.size [] := (MapKept.heap_alloc w _).1
theorem Ls.alloc {w : World} {b : Nat} {M : List (ByteArray × Nat)} (h : Ls w b M) (o : Obj) : Ls (w.alloc o) b M := ((MapKept.heap_alloc w o).2 b h.lt).trans h
theorem Ls.drew {w : World} {b : Nat} {M : List (ByteArray × Nat)} (h : Ls w b M) : Ls w.drew b M := h
theorem Ls.below {w w' : World} {b B : Nat} {M : List (ByteArray × Nat)} (h : Ls w b M) (hb : Below B w w') (hB : b < B) : Ls w' b M := (hb.block b hB).trans h
theorem Ls.set {w : World} {b : Nat} {M : List (ByteArray × Nat)} (h : Ls w b M) {a : Addr} (ha : a.block ≠ b) (v : Value) : Ls (w.setCell a v) b M := (RowKit.Below.heap_setCell w a v b (fun e => ha e.symm)).trans h
theorem Ls.grown {w w' : World} {b : Nat} {M : List (ByteArray × Nat)} {r : Option Nat} (h : Ls w b M) (hg : w.grownBy w' r) (hr : some b ≠ r) : Ls w' b M := (hg.block b h.lt hr).trans h

theorem run_look {w : World} {b : Nat} {M : List (ByteArray × Nat)} (h : Ls w b M) (s : ByteArray) : (Instr.lookup 180 (.map (some b)) (.string s) false).run Tryz.prog w = .ok (.chan (lk M s)) w := by
  have hz : ∀ w, (zeroValue 201).run Tryz.prog w = .ok (.chan none) w := fun w => by kernel_rfl
  cases hl : lk M s with
  | none =>
    have hf := find_none (i := 0) (j := 0) hl
    simp [Instr.lookup, run_underlying Tryz.underlying180, MapKept.run_getObj_map h, MapKept.run_checkKey Tryz.underlying9 (k := .string s) trivial, MapKept.run_findKey Tryz.underlying9 hf, hz, Result.andThen]
  | some c =>
    obtain ⟨q, hf⟩ := find_some (i := 0) (j := 0) hl
    simp [Instr.lookup, run_underlying Tryz.underlying180, MapKept.run_getObj_map h, MapKept.run_checkKey Tryz.underlying9 (k := .string s) trivial, MapKept.run_findKey Tryz.underlying9 hf, Result.andThen]

theorem run_put {w : World} {b : Nat} {M : List (ByteArray × Nat)} (h : Ls w b M) {s : ByteArray} (hn : lk M s = none) (c : Nat) :
    ∃ w', (Instr.mapUpdate 180 (.map (some b)) (.string s) (.chan (some c))).run Tryz.prog w = .ok () w' ∧ Ls w' b (M ++ [(s, c)]) ∧ w.grownBy w' (some b) := by
  have hf := find_none (i := 0) (j := 0) hn
  have hs := MapKept.heap_set (o' := .map ⟨enF (M ++ [(s, c)]) 0⟩ (M ++ [(s, c)]).length) h
  refine ⟨{ w with heap := w.heap.setIfInBounds b (.map ⟨enF (M ++ [(s, c)]) 0⟩ (M ++ [(s, c)]).length) }, ?_, hs.1, ⟨rfl, rfl, rfl, by simp, fun j hj hr => hs.2 j (fun e => hr (by rw [e]))⟩⟩
  have ep : (⟨enF M 0⟩ : Array MapEntry).push { key := .string s, val := .chan (some c), born := M.length } = ⟨enF (M ++ [(s, c)]) 0⟩ := by
    rw [enF_snoc]; simp
  simp [Instr.mapUpdate, run_underlying Tryz.underlying180, MapKept.run_getObj_map h, MapKept.run_checkKey Tryz.underlying9 (k := .string s) trivial, MapKept.run_findKey Tryz.underlying9 hf, MapKept.run_setObj_map _ h, Result.andThen, ep]

theorem run_mkChan (w : World) : (Instr.makeChan 201 (.int .i64 0)).run Tryz.prog w = .ok (.chan (some w.heap.size)) (w.alloc (.chan 0 #[] false 0 0 false)) := by
  kernel_rfl
theorem run_chanNil (w : World) : (binOp .eql 201 (.chan none) (.chan none)).run Tryz.prog w = .ok (.bool true) w := by kernel_rfl
theorem run_chanSome (c : Nat) (w : World) : (binOp .eql 201 (.chan (some c)) (.chan none)).run Tryz.prog w = .ok (.bool false) w := by kernel_rfl

/-- 'made[name]' at the operation. -/
theorem wpList_look (w : World) {ops : Array Oper} {rest : List Oper} {o : Oper} {a : Act} {Q : Exit → Act → World → Prop}
    (hg : o.guard = none) (m x : Operand) (hop : o.op = Op.lookup 180 m x false) (b : Nat) (M : List (ByteArray × Nat)) (hm : a.eval m = .map (some b)) (hL : Ls w b M) (s : ByteArray) (hx : a.eval x = .string s)
    (hK : wpList Tryz.prog ops Q rest (a.put o.dst (.chan (lk M s))) w) : wpList Tryz.prog ops Q (o :: rest) a w := by
  refine wpList_plain hg fun K' hK' => ?_
  unfold Oper.wp
  simp [execOp, hop, hm, hx, run_look hL, Result.andThen]
  exact hK' _ _ hK
/-- 'made[name] = channel' at the operation. -/
theorem wpList_put (w : World) {ops : Array Oper} {rest : List Oper} {o : Oper} {a : Act} {Q : Exit → Act → World → Prop}
    (hg : o.guard = none) (m x v : Operand) (hop : o.op = Op.mapUpdate 180 m x v) (b : Nat) (M : List (ByteArray × Nat)) (hm : a.eval m = .map (some b)) (hL : Ls w b M) (s : ByteArray) (hx : a.eval x = .string s) (hn : lk M s = none) (c : Nat) (hv : a.eval v = .chan (some c))
    (hK : ∀ w', Ls w' b (M ++ [(s, c)]) → w.grownBy w' (some b) → wpList Tryz.prog ops Q rest (a.put o.dst undef) w') : wpList Tryz.prog ops Q (o :: rest) a w := by
  refine wpList_plain hg fun K' hK' => ?_
  obtain ⟨w', hrun, r1, r2⟩ := run_put hL hn c
  unfold Oper.wp
  simp [execOp, hop, hm, hx, hv, hrun, Result.andThen]
  exact hK' _ _ (hK w' r1 r2)

end Go.Proofs.YtejeikfgmiadhabGreat.Ch
namespace Go.Proofs.YtejeikfgmiadhabGreat.Hn
open Go.RowKit Go.Proofs.YtejeikfgmiadhabGreat.Dd Go.Proofs.YtejeikfgmiadhabGreat.Ch Go.Proofs.YtejeikfgmiadhabGreat.P2
set_option linter.unusedVariables false
set_option linter.unusedSimpArgs false

/-- The value of what hangs. -/
abbrev hv (n : ByteArray) (k : Int) (l : ByteArray) (x y h t m : Int) (c : Nat) : Value := .agg #[.string n, .int .i64 k, .string l, .int .i64 x, .int .i64 y, .int .i64 h, .int .i64 t, .int .i64 m, .chan (some c)]

theorem gset {w w' : World} {r : Option Nat} (h : w.grownBy w' r) {a : Addr} (ha : w.heap.size ≤ a.block) (v : Value) : w.grownBy (w'.setCell a v) r :=
  ⟨h.os, h.tape, h.output, by simpa [World.setCell] using h.size, fun k hk hr => (RowKit.Below.heap_setCell _ _ _ _ (by omega)).trans (h.block k hk hr)⟩
theorem gdrew {w w' : World} {r : Option Nat} (h : w.grownBy w' r) : w.grownBy w'.drew r := ⟨h.os, h.tape, h.output, h.size, h.block⟩
/-- No two lines have one channel, and each channel is there. -/
def Gd (w : World) (M : List (ByteArray × Nat)) : Prop := (∀ s c, lk M s = some c → c < w.heap.size) ∧ ∀ s s' c, lk M s = some c → lk M s' = some c → s = s'
theorem Gd.nil (w : World) : Gd w [] := ⟨fun _ _ h => (by cases h), fun _ _ _ h => (by cases h)⟩
theorem Gd.more {w w' : World} {M : List (ByteArray × Nat)} (h : Gd w M) (hs : w.heap.size ≤ w'.heap.size) : Gd w' M := ⟨fun s c e => Nat.lt_of_lt_of_le (h.1 s c e) hs, h.2⟩
theorem Gd.snoc {w w' : World} {M : List (ByteArray × Nat)} {s : ByteArray} {c : Nat} (h : Gd w M) (hn : lk M s = none) (h1 : w.heap.size ≤ c) (h2 : c < w'.heap.size) : Gd w' (M ++ [(s, c)]) := by
  have e : ∀ q v, lk (M ++ [(s, c)]) q = some v → lk M q = some v ∨ (s = q ∧ c = v) := by
    intro q v hq
    rw [lk_snoc] at hq
    cases hm : lk M q with
    | some u => rw [hm] at hq; exact Or.inl hq
    | none =>
      rw [hm] at hq
      by_cases g : s = q
      · simp [g] at hq; exact Or.inr ⟨g, hq⟩
      · simp [g] at hq
  refine ⟨fun q v hq => ?_, fun q q' v hq hq' => ?_⟩
  · rcases e q v hq with a | ⟨_, rfl⟩
    · have := h.1 q v a; omega
    · exact h2
  · rcases e q v hq with a | ⟨a, a'⟩ <;> rcases e q' v hq' with b | ⟨b, b'⟩
    · exact h.2 _ _ _ a b
    · have := h.1 q v a; omega
    · have := h.1 q' v b; omega
    · exact a.symm.trans b

/-- What is known behind hang: the map's lines, the channel of this line. -/
structure Hung (w : World) (b : Nat) (M : List (ByteArray × Nat)) (s : ByteArray) (M' : List (ByteArray × Nat)) (c : Nat) (w' : World) : Prop where
  ls : Ls w' b M'
  gd : Gd w' M'
  here : lk M' s = some c
  old : ∀ q v, lk M q = some v → lk M' q = some v
  new : ∀ q, q ≠ s → lk M' q = lk M q
  grown : w.grownBy w' (some b)

set_option maxHeartbeats 2000000 in
theorem hang (n : ByteArray) (k : Int) (l : ByteArray) (x y h t m : Int) (b : Nat) (M : List (ByteArray × Nat)) (w : World) (hL : Ls w b M) (hG : Gd w M) :
    Calls Tryz.prog 178 #[.map (some b), va n k l x y h t m] w fun e w' => ∃ M' c, e = .returned (hv n k l x y h t m c) ∧ Hung w b M l M' c w' := by
  have hb := hL.lt
  have mk := run_mkChan
  have e1 := run_chanNil
  have e2 := run_chanSome
  cases hl : lk M l with
  | some c =>
    have HK := Lib.hid hl
    clear hl
    go_enter Tryz.func178, Tryz.ntmps178
    go_wp2_with (at_lookup; refine wpList_look _ rfl _ _ rfl b M rfl ((hL.alloc _).alloc _) l rfl ?_; rw [HK.out])
    go_returns
    exact ⟨M, c, rfl, (hL.alloc _).alloc _ , (hG.more (by simp; omega)), HK.out, fun _ _ h => h, fun _ _ => rfl, Rw.grown_trans (World.grownBy_alloc _ _ _) (World.grownBy_alloc _ _ _)⟩
  | none =>
    have HK := Lib.hid hl
    clear hl
    have L2 : Ls (((w.alloc (.cells (ca n k l x y h t m) 102)).alloc (.cells #[.string ⟨#[]⟩, .int .i64 0, .string ⟨#[]⟩, .int .i64 0, .int .i64 0, .int .i64 0, .int .i64 0, .int .i64 0, .chan none] 203)).alloc (.chan 0 #[] false 0 0 false)).drew b M := ((hL.alloc _).alloc _).alloc _
    obtain ⟨w3, hput, hL3, hg3⟩ := run_put L2 HK.out (w.heap.size + 1 + 1)
    have z3 : w.heap.size + 1 + 1 < w3.heap.size := by have := hg3.size; simp at this; omega
    have nb1 : w.heap.size ≠ b := by omega
    have nb2 : w.heap.size + 1 ≠ b := by omega
    have hcell : ∀ p v, p.block ≠ b → (((w.alloc (.cells (ca n k l x y h t m) 102)).alloc (.cells #[.string ⟨#[]⟩, .int .i64 0, .string ⟨#[]⟩, .int .i64 0, .int .i64 0, .int .i64 0, .int .i64 0, .int .i64 0, .chan none] 203)).alloc (.chan 0 #[] false 0 0 false)).drew.cell? p = some v → w3.cell? p = some v :=
      fun p v hp hv => hg3.cell hv (fun e => hp (by injection e))
    have hfroz : ∀ p : Addr, p.block < w.heap.size + 3 → p.block ≠ b → w3.frozen? p = (((w.alloc (.cells (ca n k l x y h t m) 102)).alloc (.cells #[.string ⟨#[]⟩, .int .i64 0, .string ⟨#[]⟩, .int .i64 0, .int .i64 0, .int .i64 0, .int .i64 0, .int .i64 0, .chan none] 203)).alloc (.chan 0 #[] false 0 0 false)).drew.frozen? p :=
      fun p hlt hp => World.frozen?_of_block (hg3.block p.block (by simp; omega) (fun e => hp (by injection e)))
    have c0 : w3.cell? ⟨w.heap.size, 0, none⟩ = some (.string n) := hcell _ _ nb1 (by simp [go_sem])
    have c1 : w3.cell? ⟨w.heap.size, 1, none⟩ = some (.int .i64 k) := hcell _ _ nb1 (by simp [go_sem])
    have c2 : w3.cell? ⟨w.heap.size, 2, none⟩ = some (.string l) := hcell _ _ nb1 (by simp [go_sem])
    have c3 : w3.cell? ⟨w.heap.size, 3, none⟩ = some (.int .i64 x) := hcell _ _ nb1 (by simp [go_sem])
    have c4 : w3.cell? ⟨w.heap.size, 4, none⟩ = some (.int .i64 y) := hcell _ _ nb1 (by simp [go_sem])
    have c5 : w3.cell? ⟨w.heap.size, 5, none⟩ = some (.int .i64 h) := hcell _ _ nb1 (by simp [go_sem])
    have c6 : w3.cell? ⟨w.heap.size, 6, none⟩ = some (.int .i64 t) := hcell _ _ nb1 (by simp [go_sem])
    have c7 : w3.cell? ⟨w.heap.size, 7, none⟩ = some (.int .i64 m) := hcell _ _ nb1 (by simp [go_sem])
    have d0 : w3.cell? ⟨w.heap.size + 1, 0, none⟩ = some (.string ⟨#[]⟩) := hcell _ _ nb2 (by simp [go_sem])
    have f0 : w3.frozen? ⟨w.heap.size + 1, 0, none⟩ = false := (hfroz _ (by show w.heap.size + 1 < _; omega) nb2).trans (by simp [go_sem])
    have d1 : w3.cell? ⟨w.heap.size + 1, 1, none⟩ = some (.int .i64 0) := hcell _ _ nb2 (by simp [go_sem])
    have f1 : w3.frozen? ⟨w.heap.size + 1, 1, none⟩ = false := (hfroz _ (by show w.heap.size + 1 < _; omega) nb2).trans (by simp [go_sem])
    have d2 : w3.cell? ⟨w.heap.size + 1, 2, none⟩ = some (.string ⟨#[]⟩) := hcell _ _ nb2 (by simp [go_sem])
    have f2 : w3.frozen? ⟨w.heap.size + 1, 2, none⟩ = false := (hfroz _ (by show w.heap.size + 1 < _; omega) nb2).trans (by simp [go_sem])
    have d3 : w3.cell? ⟨w.heap.size + 1, 3, none⟩ = some (.int .i64 0) := hcell _ _ nb2 (by simp [go_sem])
    have f3 : w3.frozen? ⟨w.heap.size + 1, 3, none⟩ = false := (hfroz _ (by show w.heap.size + 1 < _; omega) nb2).trans (by simp [go_sem])
    have d4 : w3.cell? ⟨w.heap.size + 1, 4, none⟩ = some (.int .i64 0) := hcell _ _ nb2 (by simp [go_sem])
    have f4 : w3.frozen? ⟨w.heap.size + 1, 4, none⟩ = false := (hfroz _ (by show w.heap.size + 1 < _; omega) nb2).trans (by simp [go_sem])
    have d5 : w3.cell? ⟨w.heap.size + 1, 5, none⟩ = some (.int .i64 0) := hcell _ _ nb2 (by simp [go_sem])
    have f5 : w3.frozen? ⟨w.heap.size + 1, 5, none⟩ = false := (hfroz _ (by show w.heap.size + 1 < _; omega) nb2).trans (by simp [go_sem])
    have d6 : w3.cell? ⟨w.heap.size + 1, 6, none⟩ = some (.int .i64 0) := hcell _ _ nb2 (by simp [go_sem])
    have f6 : w3.frozen? ⟨w.heap.size + 1, 6, none⟩ = false := (hfroz _ (by show w.heap.size + 1 < _; omega) nb2).trans (by simp [go_sem])
    have d7 : w3.cell? ⟨w.heap.size + 1, 7, none⟩ = some (.int .i64 0) := hcell _ _ nb2 (by simp [go_sem])
    have f7 : w3.frozen? ⟨w.heap.size + 1, 7, none⟩ = false := (hfroz _ (by show w.heap.size + 1 < _; omega) nb2).trans (by simp [go_sem])
    have d8 : w3.cell? ⟨w.heap.size + 1, 8, none⟩ = some (.chan none) := hcell _ _ nb2 (by simp [go_sem])
    have f8 : w3.frozen? ⟨w.heap.size + 1, 8, none⟩ = false := (hfroz _ (by show w.heap.size + 1 < _; omega) nb2).trans (by simp [go_sem])
    have HQ := Lib.hid (show lk (M ++ [(l, w.heap.size + 1 + 1)]) l = some (w.heap.size + 1 + 1) by rw [lk_snoc, HK.out]; simp)
    clear hcell hfroz
    have G3 := Lib.hid (show w.grownBy w3 (some b) from Rw.grown_trans (gdrew (Rw.grown_trans (Rw.grown_trans (World.grownBy_alloc _ _ _) (World.grownBy_alloc _ _ _)) (World.grownBy_alloc _ _ _))) hg3)
    have HG := Lib.hid (show Gd w3 (M ++ [(l, w.heap.size + 1 + 1)]) from Gd.snoc hG HK.out (by omega) z3)
    have Z3 := Lib.hid z3
    have HL3 := Lib.hid hL3
    have HNB := Lib.hid nb2
    clear hg3 z3 hL3 L2 nb1 hG
    go_enter Tryz.func178, Tryz.ntmps178
    go_wp2_with (at_lookup; refine wpList_look _ rfl _ _ rfl b M rfl ((hL.alloc _).alloc _) l rfl ?_; rw [HK.out])
    go_region
    have HL9 := Lib.hid hL
    clear mk e1 e2 hput hL HK
    go_wp2_with (at_lookup; refine wpList_look _ rfl _ _ rfl b (M ++ [(l, w.heap.size + 1 + 1)]) rfl HL3.out l rfl ?_; rw [HQ.out])
    refine bodyPost_ret (v := hv n k l x y h t m (w.heap.size + 1 + 1)) (by simp [results, Tryz.results178, go_sem, d0, d1, d2, d3, d4, d5, d6, d7, d8]) rfl ⟨M ++ [(l, w.heap.size + 1 + 1)], w.heap.size + 1 + 1, rfl, ?_, HG.out.more (by simp), HQ.out, ?_, ?_, ?_⟩
    · repeat refine Ls.set ?_ (by exact HNB.out) _
      exact HL3.out
    · intro q v hq
      rw [lk_snoc, hq]
    · intro q hq
      rw [lk_snoc]
      cases lk M q with
      | some v => rfl
      | none => simp [Ne.symm hq]
    · repeat refine gset ?_ (by show w.heap.size ≤ w.heap.size + 1; omega) _
      exact G3.out
end Go.Proofs.YtejeikfgmiadhabGreat.Hn
