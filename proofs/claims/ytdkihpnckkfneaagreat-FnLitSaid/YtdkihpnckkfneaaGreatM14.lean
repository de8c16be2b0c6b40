/- The draw of a score: some score, its names from a few; nothing but the cursor is written. -/
import Derived.Test.YtdkihpnckkfneaaGreatM13
import Derived.Test.YtdkihpnckkfneaaGreatM7
import Derived.IntWalk
import Derived.Test.YtdkihpnckkfneaaGreatM1
import Derived.Test.YtdkihpnckkfneaaGreatM3
import Derived.Deep.RegionHeld3
namespace Go.Proofs.YtdkihpnckkfneaaGreat.Dr7
open Go.RowKit Go.ChangeShapes Go.WideShapes Go.WideElems Go.Deep Go.Proofs.YtdkihpnckkfneaaGreat.Mem Go.Proofs.YtdkihpnckkfneaaGreat.Rw Go.Proofs.YtdkihpnckkfneaaGreat.P2 Go.Proofs.YtdkihpnckkfneaaGreat.Cd Go.Proofs.YtdkihpnckkfneaaGreat.Cv Go.Proofs.YtdkihpnckkfneaaGreat.Cl Go.Proofs.YtdkihpnckkfneaaGreat.Cs
set_option linter.unusedVariables false
set_option linter.unusedSimpArgs false
open Go.Proofs.YtdkihpnckkfneaaGreat.Sd Go.Proofs.YtdkihpnckkfneaaGreat.Oc Go.Proofs.YtdkihpnckkfneaaGreat.Cr Go.Proofs.YtdkihpnckkfneaaGreat.Ld Go.Proofs.YtdkihpnckkfneaaGreat.Hc Go.Proofs.YtdkihpnckkfneaaGreat.Cq Go.Proofs.YtdkihpnckkfneaaGreat.Ac Go.Proofs.YtdkihpnckkfneaaGreat.Am8 Go.Proofs.YtdkihpnckkfneaaGreat.Strs
open Go.Proofs.YtdkihpnckkfneaaGreat.Draw (Cur Ready Got GotB u8s below pick cells_at new Fresh)
open Go.Proofs.YtdkihpnckkfneaaGreat.Rw (owns_below owns_grown owns_base)

theorem ready_below {w w' : World} {g n c : Nat} {A : Option Addr} {bs : List UInt8} (h : Ready w g A n c bs) (k : Below w.heap.size w w') : Ready w' g A n c bs := by
  refine ⟨h.len, h.max, ?_, h.cur.kept (k.block g h.cur.lt)⟩
  rcases h.rd with h1 | ⟨b, o, e, hb, hx⟩
  · exact Or.inl h1
  · exact Or.inr ⟨b, o, e, hb, fun j v hv => (k.cell (p := ⟨b, o + j, none⟩) (Nat.lt_trans hb h.cur.lt)).trans (hx j v hv)⟩
theorem gr_below {w w' : World} {r : Option Nat} (h : Below w.heap.size w w') : w.grownBy w' r := ⟨h.os, h.tape, h.output, h.size, fun j hj _ => h.block j hj⟩
/-- A row is as it was where the cursor alone is written. -/
theorem row_next {a b : World} {base g gr q c : Nat} {e : TypeId} {s : Nat} {xs : List Value} (h : a.ownsRow base e s (.slice (some ⟨gr, 0, none⟩) q c) q xs) (k : a.grownBy b (some g)) (hg : g < base) : b.ownsRow base e s (.slice (some ⟨gr, 0, none⟩) q c) q xs :=
  owns_grown h k (fun i hi => by cases hi; intro e; have e : g = gr := Option.some.inj e; have h7 : base ≤ gr := (h.lt gr rfl).1; omega)
theorem cells_str (w : World) (zs : List ByteArray) (t : TypeId) : ∀ j z, zs[j]? = some z → (w.alloc (.cells (Strs.strs zs).toArray t)).cell? ⟨w.heap.size, 0 + j, none⟩ = some (.string z) := by
  intro j z h
  rw [Nat.zero_add, cell_of_row (w.alloc (.cells (Strs.strs zs).toArray t)) w.heap.size j _ _ _ (heap_alloc_new w _)]
  unfold Strs.strs
  rw [List.getElem?_toArray, List.getElem?_map, h]
  rfl

/-- What the draw of a text leaves: one of these. -/
def GotN (zs : List ByteArray) (w : World) (g : Nat) (A : Option Addr) (n c : Nat) (e : Ending) (w' : World) : Prop :=
  ∃ x : ByteArray, x ∈ zs ∧ e = .returned (.string x) ∧ Cur w' g A n c ∧ w.grownBy w' (some g)

/-- A text of a list that lies apart from the cursor. -/
theorem pickS {w : World} {g n c : Nat} {A : Option Addr} {bs : List UInt8} (h : Ready w g A n c bs) (lb lo lc : Nat) (zs : List ByteArray) (hb : lb ≠ g) (h1 : 1 ≤ zs.length) (h2 : zs.length ≤ 1000) (hl : ∀ j z, zs[j]? = some z → w.cell? ⟨lb, lo + j, none⟩ = some (.string z)) :
    Calls Tryz.prog 57 #[.pointer (some ⟨g, 0, none⟩), .slice (some ⟨lb, lo, none⟩) zs.length lc] w (GotN zs w g A n c) := by
  have H := Lib.hid h
  have HL := Lib.hid hl
  obtain ⟨m, hm⟩ : ∃ m, zs.length = m := ⟨_, rfl⟩
  rw [hm] at h1 h2 ⊢
  have HM := Lib.hid hm
  clear h hl hm
  go_enter Tryz.func57, Tryz.ntmps57
  go_wp2_with fail
  refine (below H.out m (by omega) (by omega)).mono ?_
  rintro e w1 ⟨x, ⟨x1, x2⟩, rfl, k1, k2⟩
  obtain ⟨k, rfl⟩ : ∃ k : Nat, x = k := ⟨x.toNat, by omega⟩
  have hk : k < zs.length := by rw [HM.out]; omega
  obtain ⟨z, hz⟩ : ∃ z, zs[k]? = some z := ⟨_, List.getElem?_eq_getElem hk⟩
  have c1 : w1.cell? ⟨lb, lo + k, none⟩ = some (.string z) := k2.cell (HL.out k z hz) (fun e => hb (Option.some.inj e))
  have K := Lib.hid (And.intro k1 k2)
  have Z := Lib.hid (List.mem_of_getElem? hz)
  clear k1 k2 hk hz hb
  go_wp2_with fail
  go_ret
  exact ⟨z, Z.out, rfl, K.out.1, K.out.2⟩

def names : List ByteArray := [⟨#[97]⟩, ⟨#[97]⟩, ⟨#[98]⟩, ⟨#[99]⟩, ⟨#[114]⟩, ⟨#[110, 111]⟩]
def ramps : List Int := [0, 0, 1, 2, 3, 5, 8, 16]
theorem name_size {x : ByteArray} (h : x ∈ names) : x.size ≤ 8 := by
  unfold names at h
  simp only [List.mem_cons, List.not_mem_nil, or_false] at h
  rcases h with h | h | h | h | h | h <;> subst h <;> decide

set_option maxRecDepth 100000 in
set_option maxHeartbeats 1000000 in
theorem l7Name {w : World} {g n c : Nat} {A : Option Addr} {bs : List UInt8} (h : Ready w g A n c bs) :
    Calls Tryz.prog 62 #[.pointer (some ⟨g, 0, none⟩)] w (GotN names w g A n c) := by
  have hlt := h.cur.lt
  have P := Lib.hid (pickS (h.alloc (.cells (Strs.strs names).toArray 9)) w.heap.size 0 6 names (by omega) (by decide) (by decide) (cells_str w names 9))
  have G0 := Lib.hid (World.grownBy_alloc w (.cells (Strs.strs names).toArray 9) (some g))
  clear h hlt
  go_enter Tryz.func62, Tryz.ntmps62
  go_wp2_with fail
  refine P.out.mono ?_
  rintro e w1 ⟨x, hx, rfl, k1, k2⟩
  have K := Lib.hid k1
  have G1 := Lib.hid (Draw.grown_trans G0.out k2)
  have X := Lib.hid hx
  clear k1 k2 hx P
  go_wp2_with fail
  go_ret
  exact ⟨x, X.out, rfl, K.out, G1.out⟩

/-- What is known of a cue that was drawn. -/
def Dn (d : C) : Prop := 0 ≤ d.tk ∧ d.tk ≤ 13 ∧ d.nm ∈ names
/-- What the draw of a cue leaves. -/
def GotC (w : World) (g : Nat) (A : Option Addr) (n c : Nat) (e : Ending) (w' : World) : Prop :=
  ∃ (t : Int) (s : ByteArray) (l r : Int), Dn ⟨t, s, l, r⟩ ∧ e = .returned (va t s l r) ∧ Cur w' g A n c ∧ w.grownBy w' (some g)

set_option maxRecDepth 100000 in
set_option maxHeartbeats 2000000 in
theorem l7Cue {w : World} {g n c : Nat} {A : Option Addr} {bs : List UInt8} (h : Ready w g A n c bs) :
    Calls Tryz.prog 34 #[.pointer (some ⟨g, 0, none⟩)] w (GotC w g A n c) := by
  have hlt := h.cur.lt
  have H1 := Lib.hid (h.alloc (.cells (ca 0 ⟨#[]⟩ 0 0) 56))
  have G1 := Lib.hid (World.grownBy_alloc w (.cells (ca 0 ⟨#[]⟩ 0 0) 56) (some g))
  have X1 := Lib.hid (R4.new w (.int .i64 0) (.string ⟨#[]⟩) (.int .i64 0) (.int .i64 0) 56)
  have NE := Lib.hid (show w.heap.size ≠ g by omega)
  have N2 := Lib.hid (show (some g : Option Nat) ≠ some w.heap.size from fun e => by have e := Option.some.inj e; omega)
  clear h hlt
  go_enter Tryz.func34, Tryz.ntmps34
  go_wp2_with fail
  refine (below H1.out 14 (by decide) (by decide)).mono ?_
  rintro e w1 ⟨t, ht, rfl, k1, k2⟩
  have H2 := Lib.hid (H1.out.next k2 k1)
  have G2 := Lib.hid (Draw.grown_trans G1.out k2)
  have X2 := Lib.hid (X1.out.grown k2 N2.out)
  have HT := Lib.hid ht
  clear k1 k2 ht H1 G1 X1
  go_wp2_with fail
  refine (l7Name H2.out).mono ?_
  rintro e w2 ⟨s, hs, rfl, k1, k2⟩
  have H3 := Lib.hid (H2.out.next k2 k1)
  have G3 := Lib.hid (Draw.grown_trans G2.out k2)
  have X3 := Lib.hid (X2.out.grown k2 N2.out)
  have HS := Lib.hid hs
  clear k1 k2 hs H2 G2 X2
  go_wp2_with fail
  refine (below H3.out 33 (by decide) (by decide)).mono ?_
  rintro e w3 ⟨l, hl, rfl, k1, k2⟩
  have H4 := Lib.hid (H3.out.next k2 k1)
  have G4 := Lib.hid (Draw.grown_trans G3.out k2)
  have X4 := Lib.hid (X3.out.grown k2 N2.out)
  clear k1 k2 hl H3 G3 X3
  have hlt := H4.out.cur.lt
  have P := Lib.hid (pick (H4.out.alloc (.cells (ints ramps).toArray 3)) w3.heap.size 0 8 ramps (by omega) (by decide) (by decide) (cells_at w3 ramps 3))
  clear hlt
  go_wp2_with fail
  refine P.out.mono ?_
  rintro e w4 ⟨r, _, rfl, k1, k2⟩
  have C5 := Lib.hid k1
  have G5 := Lib.hid (Draw.grown_trans (Draw.grown_trans G4.out (World.grownBy_alloc _ (.cells (ints ramps).toArray 3) (some g))) k2)
  have x5 := (X4.out.alloc (.cells (ints ramps).toArray 3)).grown k2 N2.out
  have X5 := Lib.hid x5
  have d0 := x5.c0
  have d1 := x5.c1
  have d2 := x5.c2
  have d3 := x5.c3
  have e0 := x5.f0
  have e1 := x5.f1
  have e2 := x5.f2
  have e3 := x5.f3
  clear k1 k2 H4 G4 X4 P x5
  go_wp2_with fail
  have z := X5.out.put (.int .i64 t) (.string s) (.int .i64 l) (.int .i64 r)
  have s0 := z.c0
  have s1 := z.c1
  have s2 := z.c2
  have s3 := z.c3
  clear z
  (try simp only [Exit.inBlock, Exit.then])
  refine bodyPost_ret (by simp [results, Tryz.results34, go_sem, s0, s1, s2, s3]; try rfl) rfl ?_
  have h1 := HT.out
  refine ⟨t, s, l, r, ⟨by simpa using h1.1, by have := h1.2; simp; omega, HS.out⟩, rfl, ?_, ?_⟩
  · refine C5.out.kept ?_
    rw [Below.heap_setCell _ _ _ _ NE.out.symm, Below.heap_setCell _ _ _ _ NE.out.symm, Below.heap_setCell _ _ _ _ NE.out.symm, Below.heap_setCell _ _ _ _ NE.out.symm]
  · have hp := put_grown w4 w.heap.size (.int .i64 t) (.string s) (.int .i64 l) (.int .i64 r)
    exact ⟨hp.os.trans G5.out.os, hp.tape.trans G5.out.tape, hp.output.trans G5.out.output, Nat.le_trans G5.out.size hp.size, fun i hi hr => (hp.block i (Nat.lt_of_lt_of_le hi G5.out.size) (fun e => by have e := Option.some.inj e; omega)).trans (G5.out.block i hi hr)⟩

/-- What is known of a score that was drawn. -/
def Sn (zs : List C) (k : Nat) : Prop := score zs = true ∧ zs.length ≤ k ∧ ∀ d ∈ zs, Dn d
theorem Sn.zero : Sn [] 0 := ⟨score_yes (score_set.2 ⟨by simp, List.Pairwise.nil, fun d hd => by cases hd⟩), Nat.le_refl _, fun d hd => by cases hd⟩
theorem Sn.next {zs : List C} {k : Nat} {x : C} (h : Sn zs k) (hx : Dn x) : Sn (addL zs x) (k + 1) :=
  ⟨add_score h.1, Nat.le_trans (addL_len zs x) (Nat.succ_le_succ h.2.1), fun d hd => by rcases add_mem hd with rfl | hd; exact hx; exact h.2.2 d hd⟩
theorem Sn.sizes {zs : List C} {k : Nat} (h : Sn zs k) : ∀ z ∈ zs, z.nm.size ≤ 1048576 := fun z hz => Nat.le_trans (name_size (h.2.2 z hz).2.2) (by decide)

/-- What the draw of a score leaves. -/
def GotZ (m : Nat) (w : World) (g : Nat) (A : Option Addr) (n c : Nat) (e : Ending) (w' : World) : Prop :=
  ∃ (zs : List C) (q gr cc : Nat), zs.length = q ∧ Sn zs m ∧ e = .returned (.slice (some ⟨gr, 0, none⟩) q cc) ∧ w'.ownsRow w.heap.size 56 4 (.slice (some ⟨gr, 0, none⟩) q cc) q (dls zs) ∧ Cur w' g A n c ∧ w.grownBy w' (some g)

/-- What the draw of a score for a law leaves. -/
def DrawnZ (w : World) (e : Ending) (w' : World) : Prop :=
  ∃ (zs : List C) (q gr cc : Nat) (s : ByteArray), zs.length = q ∧ Sn zs 7 ∧ s ∈ names ∧ e = .returned (.tuple #[.slice (some ⟨gr, 0, none⟩) q cc, .string s]) ∧ w'.ownsRow w.heap.size 56 4 (.slice (some ⟨gr, 0, none⟩) q cc) q (dls zs) ∧ Below w.heap.size w w'

end Go.Proofs.YtdkihpnckkfneaaGreat.Dr7
namespace Go.Proofs.YtdkihpnckkfneaaGreat.Gs
open Go.RowKit Go.ChangeShapes Go.WideShapes Go.WideElems Go.Deep Go.Proofs.YtdkihpnckkfneaaGreat.Mem Go.Proofs.YtdkihpnckkfneaaGreat.Rw Go.Proofs.YtdkihpnckkfneaaGreat.Pw Go.Proofs.YtdkihpnckkfneaaGreat.P2
set_option linter.unusedVariables false
set_option linter.unusedSimpArgs false

/-- The cells of a gust: when it begins, and its drift. -/
def gc (g : Int × Int × Int) : List Value := [.int .i64 g.1, .int .i64 g.2.1, .int .i64 g.2.2]
theorem gc_len (g : Int × Int × Int) : (gc g).length = 3 := rfl
/-- The cells of a list of gusts. -/
def gls (zs : List (Int × Int × Int)) : List Value := zs.flatMap gc
theorem gls_len (zs : List (Int × Int × Int)) : (gls zs).length = zs.length * 3 := flat_len gc_len zs
theorem gls_get {zs : List (Int × Int × Int)} {k : Nat} {z : Int × Int × Int} (h : zs[k]? = some z) :
    (gls zs)[k * 3]? = some (.int .i64 z.1) ∧ (gls zs)[k * 3 + 1]? = some (.int .i64 z.2.1) ∧ (gls zs)[k * 3 + 2]? = some (.int .i64 z.2.2) :=
  ⟨(flat_get gc_len h 0 (by omega)).trans rfl, (flat_get gc_len h 1 (by omega)).trans rfl, (flat_get gc_len h 2 (by omega)).trans rfl⟩
theorem gls_snoc (zs : List (Int × Int × Int)) (z : Int × Int × Int) : gls zs ++ [.int .i64 z.1, .int .i64 z.2.1, .int .i64 z.2.2] = gls (zs ++ [z]) := (flat_snoc zs z).symm

abbrev gv (f x y : Int) : Value := .agg #[.int .i64 f, .int .i64 x, .int .i64 y]
abbrev Gok (z : Int × Int × Int) : Prop := (Lit.int .i64 z.1).wf = true ∧ (Lit.int .i64 z.2.1).wf = true ∧ (Lit.int .i64 z.2.2).wf = true

section
variable {H : Type} {enc : TypeId × Value → H} {P : Program}
theorem take_gusts {W : World} {r : Reach} {b0 : Nat} {t e p : TypeId} {f0 f1 g0 g1 : Field} {v : Value} {d : DataW H} {ps : List MemPlace} (ht : P.underlying t = some (.slice e)) (he : P.underlying e = some (.struct #[f0, f1])) (ce : P.cellsOf e = 3)
    (o0 : f0.offset = 0) (o1 : f1.offset = 1) (c0 : P.cellsOf f0.type = 1) (h0 : P.underlying f0.type = some (.int .i64)) (h1 : f1.type = p)
    (hp : P.underlying p = some (.struct #[g0, g1])) (cp : P.cellsOf p = 2) (q0 : g0.offset = 0) (q1 : g1.offset = 1) (d0 : P.cellsOf g0.type = 1) (d1 : P.cellsOf g1.type = 1)
    (i0 : P.underlying g0.type = some (.int .i64)) (i1 : P.underlying g1.type = some (.int .i64))
    (hval : Value.okWide P W r b0 t v) (h : DataW.Trod enc P W 0 (fun _ => true) true t v d ps) :
    ∃ (A : Option Addr) (n c : Nat) (zs : List (Int × Int × Int)), v = .slice A n c ∧ zs.length = n ∧ n ≤ maxLen ∧ Rd W W.heap.size A (gls zs) ∧ ∀ z ∈ zs, Gok z := by
  refine take_rows (K := 3) (cells := gc) Gok gc_len (by omega) ht ce ?_ hval h
  intro fuel cs x hx hl
  match cs, hl with
  | [a, b, c], _ =>
    obtain ⟨y0, y1, n, _, _, k0, k1⟩ := trod_struct2 he hx
    rw [o0, c0] at k0
    rw [o1, h1, cp] at k1
    simp at k0 k1
    obtain ⟨z0, z1, m, _, _, l0, l1⟩ := trod_struct2 hp k1
    rw [q0, d0] at l0
    rw [q1, d1] at l1
    simp at l0 l1
    obtain ⟨f, e0, _, w0⟩ := DataW.trod_int h0 k0
    obtain ⟨x, e1, _, w1⟩ := DataW.trod_int i0 l0
    obtain ⟨y, e2, _, w2⟩ := DataW.trod_int i1 l1
    injection e0 with e0
    injection e1 with e1
    injection e2 with e2
    subst e0 e1 e2
    exact ⟨(f, x, y), rfl, w0, w1, w2⟩
end

theorem infoGust : (Tryz.prog.info? 90).map (fun i => (i.zero, i.size, i.bytes)) = some (some (.agg #[.int .i64 0, .int .i64 0, .int .i64 0]), 3, 24) := by kernel_rfl

/-- What the copy leaves: a row of its own with these gusts; what was there is as it was. -/
def Copied (w : World) (n : Nat) (zs : List (Int × Int × Int)) (e : Ending) (w' : World) : Prop :=
  ∃ g, e = .returned (.slice (some ⟨g, 0, none⟩) n n) ∧ w.heap.size ≤ g ∧ w'.ownsRow w.heap.size 90 3 (.slice (some ⟨g, 0, none⟩) n n) n (gls zs) ∧ Below w.heap.size w w'

theorem filled_at {xs : List Value} {z : Value} {k j : Nat} (hk : k ≤ j) (hj : j < xs.length) : (filled xs z k)[j]? = some z := by
  unfold filled
  rw [List.getElem?_append_right (by rw [List.length_take]; omega), List.length_take, Nat.min_eq_left (by omega), List.getElem?_replicate, if_pos (by omega)]

/-- The marks are laid; what lies in other blocks is as it was. -/
def Laid (w : World) (base g n c k : Nat) (e : Ending) (w' : World) : Prop :=
  e = .returned (.int .i64 ((k : Int) + ((n * 3 : Nat) : Int))) ∧ w'.ownsRow base 90 3 (.slice (some ⟨g, 0, none⟩) n c) n (mk k (n * 3)) ∧ w.grownBy w' (some g)

end Go.Proofs.YtdkihpnckkfneaaGreat.Gs
namespace Go.Proofs.YtdkihpnckkfneaaGreat.Wm
open Go.RowKit Go.Proofs.YtdkihpnckkfneaaGreat.Jt Go.Proofs.YtdkihpnckkfneaaGreat.Gs
set_option linter.unusedVariables false

/-- Whether a place is a drift. -/
def dk (x y : Int) : Bool := iw x (-8) 8 && iw y (-8) 8
theorem dk_iff {x y : Int} : dk x y = true ↔ (-8 ≤ x ∧ x ≤ 8) ∧ (-8 ≤ y ∧ y ≤ 8) := by unfold dk; rw [Bool.and_eq_true, iw_iff, iw_iff]

abbrev G := Int × Int × Int
/-- Whether the gust at i may stand there. -/
def okAt (zs : List G) (i : Nat) : Bool := match zs[i]? with
  | none => true
  | some z => iw z.1 0 64 && dk z.2.1 z.2.2 && (decide (i = 0) || match zs[i - 1]? with | none => true | some p => decide (p.1 < z.1))
def okUp (zs : List G) (k : Nat) : Bool := (List.range k).all (okAt zs)
/-- Whether a list is a wind. -/
def wd (zs : List G) : Bool := okUp zs zs.length && decide (zs.length ≤ 8)

theorem okUp_zero (zs : List G) : okUp zs 0 = true := rfl
theorem okUp_succ {zs : List G} {k : Nat} : okUp zs (k + 1) = (okUp zs k && okAt zs k) := by
  unfold okUp; rw [List.range_succ, List.all_append]; simp
theorem okUp_no {zs : List G} {k m : Nat} (hk : k < m) (h : okAt zs k = false) : okUp zs m = false := by
  unfold okUp; rw [List.all_eq_false]; exact ⟨k, List.mem_range.2 hk, by rw [h]; decide⟩
theorem okUp_at {zs : List G} {k m : Nat} (hk : k < m) (h : okUp zs m = true) : okAt zs k = true := by
  unfold okUp at h; exact List.all_eq_true.1 h k (List.mem_range.2 hk)

theorem ok_from {zs : List G} {k : Nat} {z : G} (hz : zs[k]? = some z) (h : iw z.1 0 64 = false) : okAt zs k = false := by
  unfold okAt; rw [hz]; simp [h]
theorem ok_drift {zs : List G} {k : Nat} {z : G} (hz : zs[k]? = some z) (h : dk z.2.1 z.2.2 = false) : okAt zs k = false := by
  unfold okAt; rw [hz]; simp [h]
theorem ok_first {zs : List G} {z : G} (hz : zs[0]? = some z) (h : iw z.1 0 64 = true) (h2 : dk z.2.1 z.2.2 = true) : okAt zs 0 = true := by
  unfold okAt; rw [hz]; simp [h, h2]
theorem ok_next {zs : List G} {k : Nat} {z p : G} (hz : zs[k]? = some z) (h : iw z.1 0 64 = true) (h2 : dk z.2.1 z.2.2 = true) (hk : k ≠ 0) (hp : zs[k - 1]? = some p) : okAt zs k = decide (p.1 < z.1) := by
  unfold okAt; rw [hz]; simp [h, h2, hk, hp]
theorem wd_no {zs : List G} {k n : Nat} (hn : zs.length = n) (hk : k < n) (h : okAt zs k = false) : wd zs = false := by
  unfold wd; rw [hn, okUp_no hk h]; rfl
theorem wd_long {zs : List G} {n : Nat} (hn : zs.length = n) (h : 8 < n) : wd zs = false := by
  unfold wd; rw [hn, decide_eq_false (p := n ≤ 8) (by omega), Bool.and_false]
theorem wd_fin {zs : List G} {n : Nat} (hn : zs.length = n) (h : okUp zs n = true) : wd zs = decide (n ≤ 8) := by
  unfold wd; rw [hn, h]; rfl
theorem wd_len {zs : List G} (h : wd zs = true) : zs.length ≤ 8 := by unfold wd at h; rw [Bool.and_eq_true, decide_eq_true_eq] at h; exact h.2

/-- Each gust of a wind begins at a tick from 0 to 64, and has a drift. -/
theorem wd_each {zs : List G} (h : wd zs = true) {k : Nat} {z : G} (hz : zs[k]? = some z) : (0 ≤ z.1 ∧ z.1 ≤ 64) ∧ (-8 ≤ z.2.1 ∧ z.2.1 ≤ 8) ∧ (-8 ≤ z.2.2 ∧ z.2.2 ≤ 8) := by
  have hk : k < zs.length := (List.getElem?_eq_some_iff.1 hz).1
  unfold wd at h
  rw [Bool.and_eq_true] at h
  have := okUp_at hk h.1
  unfold okAt at this
  rw [hz] at this
  simp only [Bool.and_eq_true] at this
  exact ⟨iw_iff.1 this.1.1, dk_iff.1 this.1.2⟩

/-- The drift at a tick: that of the last gust that has begun. -/
def dr (zs : List G) (t : Int) : Int × Int := zs.foldl (fun p z => if z.1 ≤ t then z.2 else p) (0, 0)
theorem dr_nil (t : Int) : dr [] t = (0, 0) := rfl
theorem dr_take {zs : List G} {k : Nat} {z : G} (h : zs[k]? = some z) (t : Int) : dr (zs.take (k + 1)) t = if z.1 ≤ t then z.2 else dr (zs.take k) t := by
  obtain ⟨hk, rfl⟩ := List.getElem?_eq_some_iff.1 h
  rw [List.take_succ_eq_append_getElem hk]
  unfold dr
  rw [List.foldl_append]; rfl
theorem dr_ind {zs : List G} {t : Int} (Q : Int × Int → Prop) (h0 : Q (0, 0)) (h : ∀ (k : Nat) (z : G), zs[k]? = some z → Q z.2) : Q (dr zs t) := by
  have key : ∀ k, k ≤ zs.length → Q (dr (zs.take k) t) := by
    intro k
    induction k with
    | zero => intro _; exact h0
    | succ k ih =>
      intro hk
      obtain ⟨z, hz⟩ : ∃ z, zs[k]? = some z := ⟨_, List.getElem?_eq_getElem (by omega)⟩
      rw [dr_take hz]
      split
      · exact h k z hz
      · exact ih (by omega)
  have := key zs.length (Nat.le_refl _)
  rwa [List.take_length] at this
theorem dr_bound {zs : List G} (h : wd zs = true) (t : Int) : (-8 ≤ (dr zs t).1 ∧ (dr zs t).1 ≤ 8) ∧ (-8 ≤ (dr zs t).2 ∧ (dr zs t).2 ≤ 8) :=
  dr_ind (fun p => (-8 ≤ p.1 ∧ p.1 ≤ 8) ∧ (-8 ≤ p.2 ∧ p.2 ≤ 8)) (by decide) fun k z hz => (wd_each h hz).2
theorem dr_neg {zs : List G} (h : wd zs = true) {t : Int} (ht : t < 0) : dr zs t = (0, 0) := by
  have key : ∀ k, k ≤ zs.length → dr (zs.take k) t = (0, 0) := by
    intro k
    induction k with
    | zero => intro _; rfl
    | succ k ih =>
      intro hk
      obtain ⟨z, hz⟩ : ∃ z, zs[k]? = some z := ⟨_, List.getElem?_eq_getElem (by omega)⟩
      have := (wd_each h hz).1
      rw [dr_take hz, if_neg (by omega)]
      exact ih (by omega)
  have := key zs.length (Nat.le_refl _)
  rwa [List.take_length] at this
/-- From tick 64 on the drift stays. -/
theorem dr_late {zs : List G} (h : wd zs = true) {t : Int} (ht : 64 ≤ t) : dr zs t = dr zs 64 := by
  have key : ∀ k, k ≤ zs.length → dr (zs.take k) t = dr (zs.take k) 64 := by
    intro k
    induction k with
    | zero => intro _; rfl
    | succ k ih =>
      intro hk
      obtain ⟨z, hz⟩ : ∃ z, zs[k]? = some z := ⟨_, List.getElem?_eq_getElem (by omega)⟩
      have := (wd_each h hz).1
      rw [dr_take hz, dr_take hz, if_pos (by omega), if_pos (by omega)]
  have := key zs.length (Nat.le_refl _)
  rwa [List.take_length] at this

/-- The drifts of m ticks from a on. -/
def drs (zs : List G) (a m : Nat) : List (Int × Int) := (List.range m).map fun j => dr zs ((a + j : Nat) : Int)
theorem drs_len (zs : List G) (a m : Nat) : (drs zs a m).length = m := by simp [drs]
theorem drs_get {zs : List G} {a m j : Nat} (h : j < m) : (drs zs a m)[j]? = some (dr zs ((a + j : Nat) : Int)) := by
  unfold drs; rw [List.getElem?_map, List.getElem?_range h]; rfl
theorem drs_take {zs : List G} {a m k : Nat} (h : k ≤ m) : (drs zs a m).take k = drs zs a k := by
  unfold drs; rw [← List.map_take, List.take_range, Nat.min_eq_left h]
theorem drs_drop {zs : List G} {m k : Nat} : (drs zs 0 m).drop k = drs zs k (m - k) := by
  apply List.ext_getElem?
  intro j
  rw [List.getElem?_drop]
  by_cases h : k + j < m
  · rw [drs_get h, drs_get (by omega), Nat.zero_add]
  · rw [List.getElem?_eq_none (by rw [drs_len]; omega), List.getElem?_eq_none (by rw [drs_len]; omega)]
theorem drs_snoc (zs : List G) (a m : Nat) : drs zs a (m + 1) = drs zs a m ++ [dr zs ((a + m : Nat) : Int)] := by
  unfold drs; rw [List.range_succ, List.map_append]; rfl

def plus (p q : Int × Int) : Int × Int := (p.1 + q.1, p.2 + q.2)
/-- The sum of a list of places. -/
def sum2 (l : List (Int × Int)) : Int × Int := l.foldl plus (0, 0)
theorem sum2_snoc (l : List (Int × Int)) (p : Int × Int) : sum2 (l ++ [p]) = plus (sum2 l) p := by unfold sum2; rw [List.foldl_append]; rfl
theorem sum2_take {l : List (Int × Int)} {k : Nat} {p : Int × Int} (h : l[k]? = some p) : sum2 (l.take (k + 1)) = plus (sum2 (l.take k)) p := by
  obtain ⟨hk, rfl⟩ := List.getElem?_eq_some_iff.1 h
  rw [List.take_succ_eq_append_getElem hk, sum2_snoc]
theorem sum2_bound {l : List (Int × Int)} {D : Int} (h0 : 0 ≤ D) (h : ∀ p ∈ l, (-D ≤ p.1 ∧ p.1 ≤ D) ∧ (-D ≤ p.2 ∧ p.2 ≤ D)) (k : Nat) (hk : k ≤ l.length) :
    (-(D * k) ≤ (sum2 (l.take k)).1 ∧ (sum2 (l.take k)).1 ≤ D * k) ∧ (-(D * k) ≤ (sum2 (l.take k)).2 ∧ (sum2 (l.take k)).2 ≤ D * k) := by
  induction k with
  | zero => simp [sum2]
  | succ k ih =>
    obtain ⟨p, hp⟩ : ∃ p, l[k]? = some p := ⟨_, List.getElem?_eq_getElem (by omega)⟩
    rw [sum2_take hp]
    have h1 := ih (by omega)
    have h2 := h p (List.mem_of_getElem? hp)
    unfold plus
    rw [show D * ((k + 1 : Nat) : Int) = D * k + D by rw [Int.natCast_add, Int.mul_add]; simp]
    refine ⟨⟨?_, ?_⟩, ?_, ?_⟩ <;> simp only <;> omega

/-- The place before, at the k-th one of a list. -/
def was (l : List (Int × Int)) (k : Nat) : Int × Int := if k = 0 then (0, 0) else l.getD (k - 1) (0, 0)
/-- The changes of a list of places, the one before the first being 0, 0. -/
def chgs (l : List (Int × Int)) (k : Nat) : List G := ((List.range k).filter fun j : Nat => decide (l.getD j (0, 0) ≠ was l j)).map fun j : Nat => ((j : Int), l.getD j (0, 0))
def chg (l : List (Int × Int)) : List G := chgs l l.length
theorem chgs_zero (l : List (Int × Int)) : chgs l 0 = [] := rfl
theorem chgs_yes {l : List (Int × Int)} {k : Nat} {p : Int × Int} (h : l[k]? = some p) (hp : p ≠ was l k) : chgs l (k + 1) = chgs l k ++ [((k : Int), p)] := by
  unfold chgs
  have e : l.getD k (0, 0) = p := by rw [List.getD_eq_getElem?_getD, h]; rfl
  rw [List.range_succ, List.filter_append, List.map_append]
  simp only [List.filter_cons, e, List.filter_nil, decide_eq_true hp, if_true, List.map_cons, List.map_nil]
theorem chgs_no {l : List (Int × Int)} {k : Nat} {p : Int × Int} (h : l[k]? = some p) (hp : p = was l k) : chgs l (k + 1) = chgs l k := by
  unfold chgs
  have e : l.getD k (0, 0) = p := by rw [List.getD_eq_getElem?_getD, h]; rfl
  rw [List.range_succ, List.filter_append, List.map_append]
  have : decide (p ≠ was l k) = false := decide_eq_false (by simpa using hp)
  simp only [List.filter_cons, e, List.filter_nil, this]
  simp
theorem chgs_len (l : List (Int × Int)) (k : Nat) : (chgs l k).length ≤ k := by
  unfold chgs; rw [List.length_map]; have := List.length_filter_le (fun j => decide (l.getD j (0, 0) ≠ was l j)) (List.range k); simpa using this
theorem was_next {l : List (Int × Int)} {k : Nat} {p : Int × Int} (h : l[k]? = some p) : was l (k + 1) = p := by
  unfold was; rw [if_neg (by omega), Nat.add_sub_cancel, List.getD_eq_getElem?_getD, h]; rfl
theorem was_zero (l : List (Int × Int)) : was l 0 = (0, 0) := rfl

end Go.Proofs.YtdkihpnckkfneaaGreat.Wm
