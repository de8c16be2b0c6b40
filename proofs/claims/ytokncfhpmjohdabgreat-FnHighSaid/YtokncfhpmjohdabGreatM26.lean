/- The drops in the air: a map from names to slices of places, in memory, that a call itself has made. -/
import Derived.Test.YtokncfhpmjohdabGreatWc
import Derived.Test.YtokncfhpmjohdabGreatM23
import Derived.Maps.OwnOps
import Derived.Test.YtokncfhpmjohdabGreatSv
import Derived.Test.YtokncfhpmjohdabGreatFf
import Derived.Test.YtokncfhpmjohdabGreatM1
import Derived.Test.YtokncfhpmjohdabGreatM3
import Derived.Deep.RegionHeld3
set_option linter.unusedVariables false
set_option linter.unusedSimpArgs false
namespace Go.Proofs.YtokncfhpmjohdabGreat.Ar9
open Go.RowKit Go.ChangeShapes Go.WideShapes Go.WideElems Go.Deep Go.Proofs.YtokncfhpmjohdabGreat.Mem Go.Proofs.YtokncfhpmjohdabGreat.Rw Go.Proofs.YtokncfhpmjohdabGreat.Bk Go.Proofs.YtokncfhpmjohdabGreat.Cm Go.Proofs.YtokncfhpmjohdabGreat.Cx
set_option linter.unusedVariables false
set_option linter.unusedSimpArgs false

/-- A name, its block, and the words of the places there. -/
structure E where
  nm : ByteArray
  g : Nat
  ws : List (Nat × Nat)
instance : Inhabited E := ⟨⟨default, 0, []⟩⟩
def cv (p : Nat × Nat) : Value := .complex .f32 p.1 p.2
def cxs (l : List (Nat × Nat)) : List Value := l.map cv
def sl (g : Nat) : Value := .slice (some ⟨g, 0, none⟩) 64 64
/-- The entries of the map. -/
def enA : List E → Nat → List MapEntry
  | [], _ => []
  | e :: r, i => { key := .string e.nm, val := sl e.g, born := i } :: enA r (i + 1)
theorem enA_snoc (e : E) : ∀ (M : List E) (i : Nat), enA (M ++ [e]) i = enA M i ++ [{ key := .string e.nm, val := sl e.g, born := i + M.length }]
  | [], i => rfl
  | x :: r, i => by
    have := enA_snoc e r (i + 1)
    simp only [List.cons_append, enA, this, List.length_cons]
    rw [show i + 1 + r.length = i + (r.length + 1) by omega]
/-- Which entry a name has. -/
def lkA : List E → ByteArray → Option E
  | [], _ => none
  | e :: r, s => if e.nm = s then some e else lkA r s
theorem lkA_mem : ∀ {M : List E} {s : ByteArray} {e : E}, lkA M s = some e → e ∈ M ∧ e.nm = s
  | [], _, _, h => by cases h
  | x :: r, s, e, h => by
    unfold lkA at h
    split at h
    · rename_i c; cases h; exact ⟨List.mem_cons_self .., c⟩
    · have := lkA_mem h; exact ⟨List.mem_cons_of_mem _ this.1, this.2⟩
theorem lkA_snoc {M : List E} {e : E} {s : ByteArray} : lkA (M ++ [e]) s = match lkA M s with | some x => some x | none => if e.nm = s then some e else none := by
  induction M with
  | nil => rfl
  | cons x r ih =>
    simp only [List.cons_append, lkA]
    by_cases c : x.nm = s
    · simp [c]
    · simp only [if_neg c]; exact ih
theorem lkA_none : ∀ {M : List E} {s : ByteArray}, lkA M s = none → ∀ e ∈ M, e.nm ≠ s
  | [], _, _, e, he => by cases he
  | x :: r, s, h, e, he => by
    unfold lkA at h
    split at h
    · cases h
    · rename_i c
      rcases List.mem_cons.1 he with rfl | he
      · exact c
      · exact lkA_none h e he
theorem beq_no {a b : ByteArray} (h : ¬ a = b) : (a == b) = false := by
  obtain ⟨⟨x⟩⟩ := a
  obtain ⟨⟨y⟩⟩ := b
  show ((⟨x⟩ : Array UInt8) == ⟨y⟩) = false
  simp
  intro e
  exact h (by rw [e])
theorem beq_yes (a : ByteArray) : (a == a) = true := by
  obtain ⟨⟨x⟩⟩ := a
  show ((⟨x⟩ : Array UInt8) == ⟨x⟩) = true
  simp
theorem find_none {s : ByteArray} : ∀ {M : List E} {i j : Nat}, lkA M s = none → Instr.findNow .string (.string s) (enA M i) j = some none
  | [], _, _, _ => rfl
  | e :: r, i, j, h => by
    unfold lkA at h
    split at h
    · cases h
    · rename_i c
      have := find_none (i := i + 1) (j := j + 1) h
      have e' : ¬ s = e.nm := fun c' => c c'.symm
      simp [enA, Instr.findNow, Instr.sameNow, beq_no e', this]
theorem find_some {s : ByteArray} {e : E} : ∀ {M : List E} {i j : Nat}, lkA M s = some e → ∃ q, Instr.findNow .string (.string s) (enA M i) j = some (some (q, sl e.g))
  | [], _, _, h => by cases h
  | x :: r, i, j, h => by
    unfold lkA at h
    split at h
    · rename_i c; cases h
      subst c
      exact ⟨j, by simp [enA, Instr.findNow, Instr.sameNow, beq_yes]⟩
    · rename_i c
      obtain ⟨q, hq⟩ := find_some (i := i + 1) (j := j + 1) h
      have e' : ¬ s = x.nm := fun c' => c c'.symm
      exact ⟨q, by simp [enA, Instr.findNow, Instr.sameNow, beq_no e', hq]⟩

/-- A place written at a name and a birth. -/
def up (s : ByteArray) (i : Nat) (p : Nat × Nat) (e : E) : E := if e.nm = s then { e with ws := e.ws.set i p } else e
def upd (M : List E) (s : ByteArray) (i : Nat) (p : Nat × Nat) : List E := M.map (up s i p)
theorem up_nm (s : ByteArray) (i : Nat) (p : Nat × Nat) (e : E) : (up s i p e).nm = e.nm := by unfold up; split <;> rfl
theorem up_g (s : ByteArray) (i : Nat) (p : Nat × Nat) (e : E) : (up s i p e).g = e.g := by unfold up; split <;> rfl
theorem enA_upd (s : ByteArray) (i : Nat) (p : Nat × Nat) : ∀ (M : List E) (j : Nat), enA (upd M s i p) j = enA M j
  | [], _ => rfl
  | e :: r, j => by
    have := enA_upd s i p r (j + 1)
    unfold upd at this ⊢
    simp only [List.map_cons, enA, this, up_nm, up_g]
theorem lkA_upd (s : ByteArray) (i : Nat) (p : Nat × Nat) (s' : ByteArray) : ∀ (M : List E), lkA (upd M s i p) s' = (lkA M s').map (up s i p)
  | [] => rfl
  | e :: r => by
    have := lkA_upd s i p s' r
    unfold upd at this ⊢
    simp only [List.map_cons, lkA, this, up_nm]
    split <;> rfl

/-- At a name and a birth the map has this place. -/
def Has (M : List E) (s : ByteArray) (i : Nat) (q : Int × Int) : Prop := ∃ e p, lkA M s = some e ∧ e.ws[i]? = some p ∧ I32 q.1 p.1 ∧ I32 q.2 p.2
theorem Has.snoc {M : List E} {s : ByteArray} {i : Nat} {q : Int × Int} (h : Has M s i q) (x : E) : Has (M ++ [x]) s i q := by
  obtain ⟨e, p, h1, h2⟩ := h
  exact ⟨e, p, by rw [lkA_snoc, h1], h2⟩
theorem Has.here {M : List E} {s : ByteArray} {i : Nat} {e : E} {p : Nat × Nat} {q : Int × Int} (h : lkA M s = some e) (hi : i < e.ws.length) (h1 : I32 q.1 p.1) (h2 : I32 q.2 p.2) : Has (upd M s i p) s i q := by
  refine ⟨up s i p e, p, by rw [lkA_upd, h]; rfl, ?_, h1, h2⟩
  unfold up
  rw [if_pos (lkA_mem h).2]
  show (e.ws.set i p)[i]? = _
  rw [List.getElem?_set_self hi]
theorem Has.there {M : List E} {s s' : ByteArray} {i i' : Nat} {p : Nat × Nat} {q : Int × Int} (h : Has M s' i' q) (hne : ¬ (s' = s ∧ i' = i)) : Has (upd M s i p) s' i' q := by
  obtain ⟨e, p', h1, h2, h3⟩ := h
  refine ⟨up s i p e, p', by rw [lkA_upd, h1]; rfl, ?_, h3⟩
  unfold up
  split
  · rename_i c
    have : i' ≠ i := fun c' => hne ⟨(lkA_mem h1).2.symm.trans c, c'⟩
    show (e.ws.set i p)[i']? = _
    rw [List.getElem?_set_ne (fun c' => this c'.symm)]; exact h2
  · exact h2

/-- Block b is the map of these entries, each of which has a row of its own. -/
structure Air (w : World) (base b : Nat) (M : List E) : Prop where
  mp : w.heap[b]? = some (.map ⟨enA M 0⟩ M.length)
  bs : base ≤ b
  row : ∀ e ∈ M, e.ws.length = 64 ∧ w.ownsRow base 71 1 (sl e.g) 64 (cxs e.ws)
  one : ∀ e ∈ M, ∀ f ∈ M, e.g = f.g ∨ e.nm = f.nm → e = f
  nb : ∀ e ∈ M, e.g ≠ b
theorem Air.lt {w : World} {base b : Nat} {M : List E} (h : Air w base b M) : b < w.heap.size := (Array.getElem?_eq_some_iff.1 h.mp).1
theorem Air.glt {w : World} {base b : Nat} {M : List E} (h : Air w base b M) {e : E} (he : e ∈ M) : base ≤ e.g ∧ e.g < w.heap.size := (h.row e he).2.lt e.g rfl
theorem Air.made (w : World) {base : Nat} (h : base ≤ w.heap.size) : Air (w.alloc (.map #[] 0)) base w.heap.size [] :=
  ⟨(MapKept.heap_alloc w _).1, h, fun e he => absurd he List.not_mem_nil, fun e he => absurd he List.not_mem_nil, fun e he => absurd he List.not_mem_nil⟩
theorem Air.alloc {w : World} {base b : Nat} {M : List E} (h : Air w base b M) (o : Obj) : Air (w.alloc o) base b M :=
  ⟨((MapKept.heap_alloc w o).2 b h.lt).trans h.mp, h.bs, fun e he => ⟨(h.row e he).1, (h.row e he).2.alloc o⟩, h.one, h.nb⟩
theorem Air.drew {w : World} {base b : Nat} {M : List E} (h : Air w base b M) : Air w.drew base b M := ⟨h.mp, h.bs, h.row, h.one, h.nb⟩
theorem Air.below {w w' : World} {base b : Nat} {M : List E} (h : Air w base b M) (hb : Below w.heap.size w w') : Air w' base b M :=
  ⟨(hb.block b h.lt).trans h.mp, h.bs, fun e he => ⟨(h.row e he).1, owns_below (h.row e he).2 hb⟩, h.one, h.nb⟩
theorem Air.cell {w : World} {base b : Nat} {M : List E} (h : Air w base b M) {s : ByteArray} {e : E} (he : lkA M s = some e) {i : Nat} {p : Nat × Nat} (hp : e.ws[i]? = some p) : w.cell? ⟨e.g, i, none⟩ = some (.complex .f32 p.1 p.2) := by
  have hi := (List.getElem?_eq_some_iff.1 hp).1
  have hr := h.row e (lkA_mem he).1
  exact (hr.2.cellAt i (by omega)).trans (by unfold cxs; rw [List.getElem?_map, hp]; rfl)
theorem Air.other {w w' : World} {base b : Nat} {M : List E} {r : Option Nat} (h : Air w base b M) (hg : w.grownBy w' r) (hr : ∀ k, r = some k → k ≠ b ∧ ∀ e ∈ M, e.g ≠ k) : Air w' base b M :=
  ⟨(hg.block b h.lt (fun e => (hr b e.symm).1 rfl)).trans h.mp, h.bs, fun e he => ⟨(h.row e he).1, owns_grown (h.row e he).2 hg (fun k hk e2 => by
    have hk : e.g = k := Option.some.inj hk
    exact (hr k e2).2 e he hk)⟩, h.one, h.nb⟩
theorem Air.store {w : World} {base b : Nat} {M : List E} (h : Air w base b M) {s : ByteArray} {e : E} (he : lkA M s = some e) {i : Nat} (hi : i < 64) (u v : Nat) :
    Air (w.setCell ⟨e.g, i, none⟩ (.complex .f32 u v)) base b (upd M s i (u, v)) ∧ w.grownBy (w.setCell ⟨e.g, i, none⟩ (.complex .f32 u v)) (some e.g) := by
  obtain ⟨hm, hs⟩ := lkA_mem he
  obtain ⟨r1, g1⟩ := (h.row e hm).2.stored i (.complex .f32 u v)
  refine ⟨⟨?_, h.bs, ?_, ?_, ?_⟩, g1⟩
  · rw [enA_upd, show (upd M s i (u, v)).length = M.length by simp [upd]]
    exact (g1.block b h.lt (fun c => h.nb e hm (Option.some.inj c).symm)).trans h.mp
  · intro f hf
    obtain ⟨f0, hf0, rfl⟩ := List.mem_map.1 hf
    unfold up
    by_cases c : f0.nm = s
    · rw [if_pos c]
      have : f0 = e := h.one f0 hf0 e hm (Or.inr (c.trans hs.symm))
      subst this
      refine ⟨by simp only [List.length_set]; exact (h.row f0 hm).1, ?_⟩
      show World.ownsRow _ _ _ _ (sl f0.g) 64 (cxs (f0.ws.set i (u, v)))
      rw [show cxs (f0.ws.set i (u, v)) = (cxs f0.ws).set i (.complex .f32 u v) by unfold cxs; rw [List.map_set]; rfl]
      exact r1
    · rw [if_neg c]
      refine ⟨(h.row f0 hf0).1, owns_grown (h.row f0 hf0).2 g1 (fun k hk e2 => ?_)⟩
      have hk : f0.g = k := Option.some.inj hk
      have e2 : e.g = k := Option.some.inj e2
      exact c ((congrArg E.nm (h.one f0 hf0 e hm (Or.inl (hk.trans e2.symm)))).trans hs)
  · intro a ha f hf c
    obtain ⟨a0, ha0, rfl⟩ := List.mem_map.1 ha
    obtain ⟨f0, hf0, rfl⟩ := List.mem_map.1 hf
    rw [up_nm, up_nm, up_g, up_g] at c
    rw [h.one a0 ha0 f0 hf0 c]
  · intro a ha
    obtain ⟨a0, ha0, rfl⟩ := List.mem_map.1 ha
    rw [up_g]; exact h.nb a0 ha0

/-- What a name finds. -/
def found : Option E → Value
  | some e => sl e.g
  | none => .slice none 0 0
theorem run_look {w : World} {base b : Nat} {M : List E} (h : Air w base b M) (s : ByteArray) : (Instr.lookup 113 (.map (some b)) (.string s) false).run Tryz.prog w = .ok (found (lkA M s)) w := by
  have hz : ∀ w, (zeroValue 117).run Tryz.prog w = .ok (.slice none 0 0) w := fun w => by kernel_rfl
  cases hl : lkA M s with
  | none =>
    have hf := find_none (i := 0) (j := 0) hl
    simp [Instr.lookup, run_underlying Tryz.underlying113, MapKept.run_getObj_map h.mp, MapKept.run_checkKey Tryz.underlying9 (k := .string s) trivial, MapKept.run_findKey Tryz.underlying9 hf, hz, Result.andThen, found]
  | some e =>
    obtain ⟨q, hf⟩ := find_some (i := 0) (j := 0) hl
    simp [Instr.lookup, run_underlying Tryz.underlying113, MapKept.run_getObj_map h.mp, MapKept.run_checkKey Tryz.underlying9 (k := .string s) trivial, MapKept.run_findKey Tryz.underlying9 hf, Result.andThen, found]
theorem run_put {w : World} {base b : Nat} {M : List E} (h : Air w base b M) {s : ByteArray} (hn : lkA M s = none) (x : E) (hx : x.nm = s) (hl : x.ws.length = 64) (hr : w.ownsRow base 71 1 (sl x.g) 64 (cxs x.ws)) (hb : x.g ≠ b) (hd : ∀ e ∈ M, e.g ≠ x.g) :
    ∃ w', (Instr.mapUpdate 113 (.map (some b)) (.string s) (sl x.g)).run Tryz.prog w = .ok () w' ∧ Air w' base b (M ++ [x]) ∧ w.grownBy w' (some b) := by
  have hf := find_none (i := 0) (j := 0) hn
  have hs := MapKept.heap_set (o' := .map ⟨enA (M ++ [x]) 0⟩ (M ++ [x]).length) h.mp
  have hg : w.grownBy { w with heap := w.heap.setIfInBounds b (.map ⟨enA (M ++ [x]) 0⟩ (M ++ [x]).length) } (some b) := ⟨rfl, rfl, rfl, by simp, fun j hj hr => hs.2 j (fun e => hr (by rw [e]))⟩
  refine ⟨{ w with heap := w.heap.setIfInBounds b (.map ⟨enA (M ++ [x]) 0⟩ (M ++ [x]).length) }, ?_, ⟨hs.1, h.bs, ?_, ?_, ?_⟩, hg⟩
  · have ep : (⟨enA M 0⟩ : Array MapEntry).push { key := .string s, val := sl x.g, born := M.length } = ⟨enA (M ++ [x]) 0⟩ := by
      rw [enA_snoc, hx]; simp
    simp [Instr.mapUpdate, run_underlying Tryz.underlying113, MapKept.run_getObj_map h.mp, MapKept.run_checkKey Tryz.underlying9 (k := .string s) trivial, MapKept.run_findKey Tryz.underlying9 hf, MapKept.run_setObj_map _ h.mp, Result.andThen, ep]
  · intro e he
    rcases List.mem_append.1 he with he | he
    · exact ⟨(h.row e he).1, owns_grown (h.row e he).2 hg (fun k hk e2 => h.nb e he ((Option.some.inj hk).trans (Option.some.inj e2).symm))⟩
    · rw [List.mem_singleton] at he; subst he
      exact ⟨hl, owns_grown hr hg (fun k hk e2 => hb ((Option.some.inj hk).trans (Option.some.inj e2).symm))⟩
  · intro e he f hf' c
    rcases List.mem_append.1 he with h1 | h1 <;> rcases List.mem_append.1 hf' with h2 | h2
    · exact h.one e h1 f h2 c
    · rw [List.mem_singleton] at h2
      rcases c with c | c
      · exact absurd (by rw [← h2]; exact c) (hd e h1)
      · exact absurd (by rw [← hx, ← h2]; exact c) (lkA_none hn e h1)
    · rw [List.mem_singleton] at h1
      rcases c with c | c
      · exact absurd (by rw [← h1]; exact c.symm) (hd f h2)
      · exact absurd (by rw [← hx, ← h1]; exact c.symm) (lkA_none hn f h2)
    · rw [List.mem_singleton] at h1 h2; rw [h1, h2]
  · intro e he
    rcases List.mem_append.1 he with he | he
    · exact h.nb e he
    · rw [List.mem_singleton] at he; subst he; exact hb
theorem wpList_look (w : World) {ops : Array Oper} {rest : List Oper} {o : Oper} {a : Act} {Q : Exit → Act → World → Prop}
    (hg : o.guard = none) (m x : Operand) (hop : o.op = Op.lookup 113 m x false) (base b : Nat) (M : List E) (hm : a.eval m = .map (some b)) (hL : Air w base b M) (s : ByteArray) (hx : a.eval x = .string s)
    (hK : wpList Tryz.prog ops Q rest (a.put o.dst (found (lkA M s))) w) : wpList Tryz.prog ops Q (o :: rest) a w := by
  refine wpList_plain hg fun K' hK' => ?_
  unfold Oper.wp
  simp [execOp, hop, hm, hx, run_look hL, Result.andThen]
  exact hK' _ _ hK
end Go.Proofs.YtokncfhpmjohdabGreat.Ar9
namespace Go.Proofs.YtokncfhpmjohdabGreat.Pd9
open Go.RowKit Go.Proofs.YtokncfhpmjohdabGreat.Mem Go.Proofs.YtokncfhpmjohdabGreat.Jt Go.Proofs.YtokncfhpmjohdabGreat.Pl
open Go.Proofs.YtokncfhpmjohdabGreat.Wm hiding G
open Go.Proofs.YtokncfhpmjohdabGreat.Dp (wy wy_zero wy_succ hg hg_end ha inF inF_iff)
open Go.Proofs.YtokncfhpmjohdabGreat.Sv
open Go.Proofs.YtokncfhpmjohdabGreat.Ig (rig)
set_option linter.unusedVariables false
set_option linter.unusedSimpArgs false

/-- How far a drop goes in a tick. -/
def way (z : B) : Int × Int := (tx z.d.hd.toNat z.d.tl 0, ty z.d.hd.toNat z.d.tl 0)
/-- Whether a drop is in the air at a tick. -/
def inA (z : B) (t : Int) : Bool := decide ((z.b : Int) ≤ t) && decide (t < z.b + (z.l + 1))
theorem inA_iff {z : B} {t : Int} : inA z t = true ↔ (z.b : Int) ≤ t ∧ t < z.b + (z.l + 1) := by unfold inA; simp
/-- Where a drop is behind so many ticks. -/
def pAt (gs : List G) (z : B) : Nat → Int × Int
  | 0 => (z.d.x, z.d.y)
  | t + 1 => if inA z (t : Int) then plus (pAt gs z t) (plus (way z) (dr gs (t : Int))) else pAt gs z t
theorem pAt_zero (gs : List G) (z : B) : pAt gs z 0 = (z.d.x, z.d.y) := rfl
theorem pAt_yes {gs : List G} {z : B} {t : Nat} (h : inA z (t : Int) = true) : pAt gs z (t + 1) = plus (pAt gs z t) (plus (way z) (dr gs (t : Int))) := by
  rw [pAt, h]; rfl
theorem pAt_no {gs : List G} {z : B} {t : Nat} (h : inA z (t : Int) = false) : pAt gs z (t + 1) = pAt gs z t := by
  rw [pAt, h]; rfl
theorem way_le {z : B} (hj : BOk z) : (-16 ≤ (way z).1 ∧ (way z).1 ≤ 16) ∧ (-16 ≤ (way z).2 ∧ (way z).2 ≤ 16) := by
  obtain ⟨_, _, hh, ht, _⟩ := jt_iff.1 hj
  have : z.d.hd.toNat = 0 ∨ z.d.hd.toNat = 1 ∨ z.d.hd.toNat = 2 ∨ z.d.hd.toNat = 3 := by omega
  unfold way
  rcases this with e | e | e | e
  all_goals
    rw [e]
    simp only [tx, ty]
    omega
theorem pAt_le {gs : List G} {z : B} (hw : wd gs = true) (hj : BOk z) : ∀ t : Nat, (-(1024 + 24 * (t : Int)) ≤ (pAt gs z t).1 ∧ (pAt gs z t).1 ≤ 1024 + 24 * (t : Int)) ∧ (-(1024 + 24 * (t : Int)) ≤ (pAt gs z t).2 ∧ (pAt gs z t).2 ≤ 1024 + 24 * (t : Int))
  | 0 => by
    obtain ⟨hx, hy, _⟩ := jt_iff.1 hj
    rw [pAt_zero]; simp only; omega
  | t + 1 => by
    have ih := pAt_le hw hj t
    cases h : inA z (t : Int)
    · rw [pAt_no h]; omega
    · rw [pAt_yes h]
      have hd := dr_bound hw (t : Int)
      have hv := way_le hj
      unfold plus
      simp only
      omega

/-- No two of these drops are of one nozzle and one birth. -/
def Apart (zs : List B) : Prop := zs.Pairwise fun a c => ¬ (a.b = c.b ∧ a.d.nm = c.d.nm)
theorem row_names {ds : List D} {L : List Int} {t : Nat} : ∀ i, ∀ z ∈ rowK ds L t i, ∃ k : Nat, k < i ∧ ds[k]? = some z.d
  | 0, z, hz => by cases hz
  | i + 1, z, hz => by
    rw [rowK] at hz
    split at hz
    · rename_i d x hd hx
      split at hz
      · obtain ⟨k, a, b⟩ := row_names i z hz; exact ⟨k, by omega, b⟩
      · rcases List.mem_append.1 hz with hz | hz
        · obtain ⟨k, a, b⟩ := row_names i z hz; exact ⟨k, by omega, b⟩
        · rw [List.mem_singleton] at hz; subst hz; exact ⟨i, by omega, hd⟩
    · obtain ⟨k, a, b⟩ := row_names i z hz; exact ⟨k, by omega, b⟩
theorem ord_ne {ds : List D} (ho : Rz.Ord ds) {i j : Nat} {a c : D} (ha : ds[i]? = some a) (hc : ds[j]? = some c) (hij : i < j) : a.nm ≠ c.nm := by
  intro e
  obtain ⟨h1, rfl⟩ := List.getElem?_eq_some_iff.1 ha
  obtain ⟨h2, rfl⟩ := List.getElem?_eq_some_iff.1 hc
  have := List.pairwise_iff_getElem.1 ho i j h1 h2 hij
  exact Rz.lt_ne this (congrArg ByteArray.toList e)
theorem row_apart {ds : List D} (ho : Rz.Ord ds) {L : List Int} {t : Nat} : ∀ i, Apart (rowK ds L t i)
  | 0 => List.Pairwise.nil
  | i + 1 => by
    rw [rowK]
    split
    · rename_i d x hd hx
      split
      · exact row_apart ho i
      · refine List.pairwise_append.2 ⟨row_apart ho i, List.pairwise_singleton _ _, ?_⟩
        intro a ha c hc
        rw [List.mem_singleton] at hc; subst hc
        obtain ⟨k, hk, e⟩ := row_names i a ha
        exact fun h => ord_ne ho e hd hk h.2
    · exact row_apart ho i
theorem all_apart {ds : List D} {cs : List C} {T : Int} (hr : rig ds = true) : ∀ t, Apart (allK ds cs T t)
  | 0 => List.Pairwise.nil
  | t + 1 => by
    rw [allK]
    refine List.pairwise_append.2 ⟨all_apart hr t, row_apart (Rz.rig_set.1 (Ig.rig_of hr)).2.1 _, ?_⟩
    intro a ha c hc h
    have h1 := (all_ok hr t a ha).2
    have h2 := (row_ok (ok_lifts cs T (t : Int) hr) t _ c hc).2
    omega
theorem all9_apart (ds : List D) (cs : List C) (gs : List G) (T : Int) : Apart (all9 ds cs gs T) := by
  cases h : show9 ds cs gs T
  · rw [all9_no h]; exact List.Pairwise.nil
  · rw [all9_yes h]; exact all_apart (show_iff.1 h).1 _
theorem apart_at {zs : List B} (h : Apart zs) {i j : Nat} {a c : B} (ha : zs[i]? = some a) (hc : zs[j]? = some c) (hij : i ≠ j) : ¬ (a.d.nm = c.d.nm ∧ a.b = c.b) := by
  obtain ⟨h1, rfl⟩ := List.getElem?_eq_some_iff.1 ha
  obtain ⟨h2, rfl⟩ := List.getElem?_eq_some_iff.1 hc
  rcases Nat.lt_or_gt_of_ne hij with c | c
  · exact fun e => List.pairwise_iff_getElem.1 h i j h1 h2 c ⟨e.2, e.1⟩
  · exact fun e => List.pairwise_iff_getElem.1 h j i h2 h1 c ⟨e.2.symm, e.1.symm⟩

/-- A drop as it is told: its nozzle, its birth, its place and its height. -/
structure P where
  nm : ByteArray
  b : Int
  x : Int
  y : Int
  h : Int
instance : Inhabited P := ⟨⟨default, 0, 0, 0, 0⟩⟩
/-- How a drop is told behind so many ticks. -/
def tell (gs : List G) (t : Nat) (z : B) : P := ⟨z.d.nm, z.b, (pAt gs z t).1, (pAt gs z t).2, ha z.d.x z.d.y z.d.hd z.d.tl z.l ((t : Int) - z.b)⟩
end Go.Proofs.YtokncfhpmjohdabGreat.Pd9
namespace Go.Proofs.YtokncfhpmjohdabGreat.Pl9
open Go.RowKit Go.ChangeShapes Go.WideShapes Go.WideElems Go.Deep Go.Proofs.YtokncfhpmjohdabGreat.Mem Go.Proofs.YtokncfhpmjohdabGreat.Rw Go.Proofs.YtokncfhpmjohdabGreat.P2 Go.Proofs.YtokncfhpmjohdabGreat.Pw
open Go.Proofs.YtokncfhpmjohdabGreat.Pd9 (P)
set_option linter.unusedVariables false
set_option linter.unusedSimpArgs false

def dc (d : P) : List Value := [.string d.nm, .int .i64 d.b, .int .i64 d.x, .int .i64 d.y, .int .i64 d.h]
theorem dc_len (d : P) : (dc d).length = 5 := rfl
def pls (zs : List P) : List Value := zs.flatMap dc
theorem pls_len (zs : List P) : (pls zs).length = zs.length * 5 := flat_len dc_len zs
theorem pls_get {zs : List P} {k : Nat} {n : ByteArray} {b x y h : Int} (hz : zs[k]? = some ⟨n, b, x, y, h⟩) :
    (pls zs)[k * 5]? = some (.string n) ∧ (pls zs)[k * 5 + 1]? = some (.int .i64 b) ∧ (pls zs)[k * 5 + 2]? = some (.int .i64 x) ∧ (pls zs)[k * 5 + 3]? = some (.int .i64 y) ∧ (pls zs)[k * 5 + 4]? = some (.int .i64 h) :=
  ⟨(flat_get dc_len hz 0 (by omega)).trans rfl, (flat_get dc_len hz 1 (by omega)).trans rfl, (flat_get dc_len hz 2 (by omega)).trans rfl, (flat_get dc_len hz 3 (by omega)).trans rfl, (flat_get dc_len hz 4 (by omega)).trans rfl⟩
theorem infoP : (Tryz.prog.info? 44).map (fun i => (i.zero, i.size, i.bytes)) = some (some (.agg #[.string ⟨#[]⟩, .int .i64 0, .int .i64 0, .int .i64 0, .int .i64 0]), 5, 48) := by kernel_rfl
/-- A list of its own of these drops. -/
def RowP (w : World) (zs : List P) (e : Ending) (w' : World) : Prop :=
  ∃ g c, e = .returned (.slice (some ⟨g, 0, none⟩) zs.length c) ∧ w'.ownsRow w.heap.size 44 5 (.slice (some ⟨g, 0, none⟩) zs.length c) zs.length (pls zs) ∧ Below w.heap.size w w'

/-- The first k of one list, then the other one's. -/
def mixed (xs ys : List Value) (k : Nat) : List Value := xs.take k ++ ys.drop k
theorem mixed_zero (xs ys : List Value) : mixed xs ys 0 = ys := by simp [mixed]
theorem mixed_all {xs ys : List Value} (h : ys.length = xs.length) : mixed xs ys xs.length = xs := by
  unfold mixed; rw [List.take_of_length_le (Nat.le_refl _), List.drop_of_length_le (by omega), List.append_nil]
theorem mixed_put {xs ys : List Value} {k : Nat} {v : Value} (h : ys.length = xs.length) (hv : xs[k]? = some v) : (mixed xs ys k).set k v = mixed xs ys (k + 1) := by
  obtain ⟨hk, rfl⟩ := List.getElem?_eq_some_iff.1 hv
  unfold mixed
  rw [List.set_append_right _ _ (by rw [List.length_take]; omega), List.length_take, Nat.min_eq_left (by omega), Nat.sub_self, List.drop_eq_getElem_cons (by omega), List.set_cons_zero, List.take_succ_eq_append_getElem hk, List.append_assoc]
  rfl
/-- A drop of nothing. -/
def d0 : P := ⟨⟨#[]⟩, 0, 0, 0, 0⟩
theorem pls_made (n : Nat) : (madeCells #[.string ⟨#[]⟩, .int .i64 0, .int .i64 0, .int .i64 0, .int .i64 0] (n * 5)).toList = pls (List.replicate n d0) := by
  apply List.ext_getElem?
  intro j
  by_cases h : j < n * 5
  · have hm : j % 5 < 5 := Nat.mod_lt _ (by omega)
    have hd : j / 5 < n := by omega
    have hg := flat_get dc_len (zs := List.replicate n d0) (k := j / 5) (z := d0) (by rw [List.getElem?_replicate, if_pos hd]) (j % 5) hm
    rw [show j / 5 * 5 + j % 5 = j by omega] at hg
    unfold pls
    rw [hg, Array.getElem?_toList]
    simp only [madeCells]
    simp [h]
    generalize j % 5 = r at hm
    match r, hm with
    | 0, _ => rfl
    | 1, _ => rfl
    | 2, _ => rfl
    | 3, _ => rfl
    | 4, _ => rfl
  · rw [List.getElem?_eq_none (l := pls _) (by rw [pls_len, List.length_replicate]; omega), Array.getElem?_toList]
    simp [madeCells, h]

end Go.Proofs.YtokncfhpmjohdabGreat.Pl9
