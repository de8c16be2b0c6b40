/- The draw of a score: some score, its names from a few; nothing but the cursor is written. -/
import Derived.Test.YtokncfhpmjohdabGreatM14
import Derived.Test.YtokncfhpmjohdabGreatM6
import Derived.IntWalk
import Derived.Test.YtokncfhpmjohdabGreatM1
import Derived.Test.YtokncfhpmjohdabGreatM3
import Derived.Deep.RegionHeld3
import Derived.BigQuiet
import Derived.Deep.QuietTactic
set_option linter.unusedVariables false
set_option linter.unusedSimpArgs false
namespace Go.Proofs.YtokncfhpmjohdabGreat.Dr7
open Go.RowKit Go.ChangeShapes Go.WideShapes Go.WideElems Go.Deep Go.Proofs.YtokncfhpmjohdabGreat.Mem Go.Proofs.YtokncfhpmjohdabGreat.Rw Go.Proofs.YtokncfhpmjohdabGreat.P2 Go.Proofs.YtokncfhpmjohdabGreat.Cd Go.Proofs.YtokncfhpmjohdabGreat.Cv Go.Proofs.YtokncfhpmjohdabGreat.Cl Go.Proofs.YtokncfhpmjohdabGreat.Cs
set_option linter.unusedVariables false
set_option linter.unusedSimpArgs false
open Go.Proofs.YtokncfhpmjohdabGreat.Sd Go.Proofs.YtokncfhpmjohdabGreat.Oc Go.Proofs.YtokncfhpmjohdabGreat.Cr Go.Proofs.YtokncfhpmjohdabGreat.Ld Go.Proofs.YtokncfhpmjohdabGreat.Hc Go.Proofs.YtokncfhpmjohdabGreat.Cq Go.Proofs.YtokncfhpmjohdabGreat.Ac Go.Proofs.YtokncfhpmjohdabGreat.Am8 Go.Proofs.YtokncfhpmjohdabGreat.Strs
open Go.Proofs.YtokncfhpmjohdabGreat.Draw (Cur Ready Got GotB u8s below pick cells_at new Fresh)
open Go.Proofs.YtokncfhpmjohdabGreat.Rw (owns_below owns_grown owns_base)

theorem ready_below {w w' : World} {g n c : Nat} {A : Option Addr} {bs : List UInt8} (h : Ready w g A n c bs) (k : Below w.heap.size w w') : Ready w' g A n c bs := by
  refine ⟨h.len, h.max, ?_, h.cur.kept (k.block g h.cur.lt)⟩
  rcases h.rd with h1 | ⟨b, o, e, hb, hx⟩
  · exact Or.inl h1
  · exact Or.inr ⟨b, o, e, hb, fun j v hv => (k.cell (p := ⟨b, o + j, none⟩) (Nat.lt_trans hb h.cur.lt)).trans (hx j v hv)⟩
theorem gr_below {w w' : World} {r : Option Nat} (h : Below w.heap.size w w') : w.grownBy w' r := ⟨h.os, h.tape, h.output, h.size, fun j hj _ => h.block j hj⟩
/-- A row is as it was where the cursor alone is written. -/
theorem row_next {a b : World} {base g gr q c : Nat} {e : TypeId} {s : Nat} {xs : List Value} (h : a.ownsRow base e s (.slice (some ⟨gr, 0, none⟩) q c) q xs) (k : a.grownBy b (some g)) (hg : g < base) : b.ownsRow base e s (.slice (some ⟨gr, 0, none⟩) q c) q xs :=
  owns_grown h k (fun i hi => by cases hi; intro e; have e : g = gr := Option.some.inj e; have h7 : base ≤ gr := (h.lt gr rfl).1; omega)
theorem cells_str (w : World) (zs : List ByteArray) (t : TypeId) : ∀ j z, zs[j]? = some z → (w.alloc (.cells (Strs.strs zs).toArray t)).cell? ⟨w.heap.size, 0 + j, none⟩ = some (.string z) := by
  intro j z h
  rw [Nat.zero_add, cell_of_row (w.alloc (.cells (Strs.strs zs).toArray t)) w.heap.size j _ _ _ (heap_alloc_new w _)]
  unfold Strs.strs
  rw [List.getElem?_toArray, List.getElem?_map, h]
  rfl

/-- What the draw of a text leaves: one of these. -/
def GotN (zs : List ByteArray) (w : World) (g : Nat) (A : Option Addr) (n c : Nat) (e : Ending) (w' : World) : Prop :=
  ∃ x : ByteArray, x ∈ zs ∧ e = .returned (.string x) ∧ Cur w' g A n c ∧ w.grownBy w' (some g)

/-- A text of a list that lies apart from the cursor. -/
theorem pickS {w : World} {g n c : Nat} {A : Option Addr} {bs : List UInt8} (h : Ready w g A n c bs) (lb lo lc : Nat) (zs : List ByteArray) (hb : lb ≠ g) (h1 : 1 ≤ zs.length) (h2 : zs.length ≤ 1000) (hl : ∀ j z, zs[j]? = some z → w.cell? ⟨lb, lo + j, none⟩ = some (.string z)) :
    Calls Tryz.prog 92 #[.pointer (some ⟨g, 0, none⟩), .slice (some ⟨lb, lo, none⟩) zs.length lc] w (GotN zs w g A n c) := by
  have H := Lib.hid h
  have HL := Lib.hid hl
  obtain ⟨m, hm⟩ : ∃ m, zs.length = m := ⟨_, rfl⟩
  rw [hm] at h1 h2 ⊢
  have HM := Lib.hid hm
  clear h hl hm
  go_enter Tryz.func92, Tryz.ntmps92
  go_wp2_with fail
  refine (below H.out m (by omega) (by omega)).mono ?_
  rintro e w1 ⟨x, ⟨x1, x2⟩, rfl, k1, k2⟩
  obtain ⟨k, rfl⟩ : ∃ k : Nat, x = k := ⟨x.toNat, by omega⟩
  have hk : k < zs.length := by rw [HM.out]; omega
  obtain ⟨z, hz⟩ : ∃ z, zs[k]? = some z := ⟨_, List.getElem?_eq_getElem hk⟩
  have c1 : w1.cell? ⟨lb, lo + k, none⟩ = some (.string z) := k2.cell (HL.out k z hz) (fun e => hb (Option.some.inj e))
  have K := Lib.hid (And.intro k1 k2)
  have Z := Lib.hid (List.mem_of_getElem? hz)
  clear k1 k2 hk hz hb
  go_wp2_with fail
  go_ret
  exact ⟨z, Z.out, rfl, K.out.1, K.out.2⟩

def names : List ByteArray := [⟨#[97]⟩, ⟨#[97]⟩, ⟨#[98]⟩, ⟨#[99]⟩, ⟨#[114]⟩, ⟨#[110, 111]⟩]
def ramps : List Int := [0, 0, 1, 2, 3, 5, 8, 16]
theorem name_size {x : ByteArray} (h : x ∈ names) : x.size ≤ 8 := by
  unfold names at h
  simp only [List.mem_cons, List.not_mem_nil, or_false] at h
  rcases h with h | h | h | h | h | h <;> subst h <;> decide

set_option maxRecDepth 100000 in
set_option maxHeartbeats 1000000 in
theorem l7Name {w : World} {g n c : Nat} {A : Option Addr} {bs : List UInt8} (h : Ready w g A n c bs) :
    Calls Tryz.prog 97 #[.pointer (some ⟨g, 0, none⟩)] w (GotN names w g A n c) := by
  have hlt := h.cur.lt
  have P := Lib.hid (pickS (h.alloc (.cells (Strs.strs names).toArray 9)) w.heap.size 0 6 names (by omega) (by decide) (by decide) (cells_str w names 9))
  have G0 := Lib.hid (World.grownBy_alloc w (.cells (Strs.strs names).toArray 9) (some g))
  clear h hlt
  go_enter Tryz.func97, Tryz.ntmps97
  go_wp2_with fail
  refine P.out.mono ?_
  rintro e w1 ⟨x, hx, rfl, k1, k2⟩
  have K := Lib.hid k1
  have G1 := Lib.hid (Draw.grown_trans G0.out k2)
  have X := Lib.hid hx
  clear k1 k2 hx P
  go_wp2_with fail
  go_ret
  exact ⟨x, X.out, rfl, K.out, G1.out⟩

/-- What is known of a cue that was drawn. -/
def Dn (d : C) : Prop := 0 ≤ d.tk ∧ d.tk ≤ 13 ∧ d.nm ∈ names
/-- What the draw of a cue leaves. -/
def GotC (w : World) (g : Nat) (A : Option Addr) (n c : Nat) (e : Ending) (w' : World) : Prop :=
  ∃ (t : Int) (s : ByteArray) (l r : Int), Dn ⟨t, s, l, r⟩ ∧ e = .returned (va t s l r) ∧ Cur w' g A n c ∧ w.grownBy w' (some g)

set_option maxRecDepth 100000 in
set_option maxHeartbeats 2000000 in
theorem l7Cue {w : World} {g n c : Nat} {A : Option Addr} {bs : List UInt8} (h : Ready w g A n c bs) :
    Calls Tryz.prog 58 #[.pointer (some ⟨g, 0, none⟩)] w (GotC w g A n c) := by
  have hlt := h.cur.lt
  have H1 := Lib.hid (h.alloc (.cells (ca 0 ⟨#[]⟩ 0 0) 63))
  have G1 := Lib.hid (World.grownBy_alloc w (.cells (ca 0 ⟨#[]⟩ 0 0) 63) (some g))
  have X1 := Lib.hid (R4.new w (.int .i64 0) (.string ⟨#[]⟩) (.int .i64 0) (.int .i64 0) 63)
  have NE := Lib.hid (show w.heap.size ≠ g by omega)
  have N2 := Lib.hid (show (some g : Option Nat) ≠ some w.heap.size from fun e => by have e := Option.some.inj e; omega)
  clear h hlt
  go_enter Tryz.func58, Tryz.ntmps58
  go_wp2_with fail
  refine (below H1.out 14 (by decide) (by decide)).mono ?_
  rintro e w1 ⟨t, ht, rfl, k1, k2⟩
  have H2 := Lib.hid (H1.out.next k2 k1)
  have G2 := Lib.hid (Draw.grown_trans G1.out k2)
  have X2 := Lib.hid (X1.out.grown k2 N2.out)
  have HT := Lib.hid ht
  clear k1 k2 ht H1 G1 X1
  go_wp2_with fail
  refine (l7Name H2.out).mono ?_
  rintro e w2 ⟨s, hs, rfl, k1, k2⟩
  have H3 := Lib.hid (H2.out.next k2 k1)
  have G3 := Lib.hid (Draw.grown_trans G2.out k2)
  have X3 := Lib.hid (X2.out.grown k2 N2.out)
  have HS := Lib.hid hs
  clear k1 k2 hs H2 G2 X2
  go_wp2_with fail
  refine (below H3.out 33 (by decide) (by decide)).mono ?_
  rintro e w3 ⟨l, hl, rfl, k1, k2⟩
  have H4 := Lib.hid (H3.out.next k2 k1)
  have G4 := Lib.hid (Draw.grown_trans G3.out k2)
  have X4 := Lib.hid (X3.out.grown k2 N2.out)
  clear k1 k2 hl H3 G3 X3
  have hlt := H4.out.cur.lt
  have P := Lib.hid (pick (H4.out.alloc (.cells (ints ramps).toArray 3)) w3.heap.size 0 8 ramps (by omega) (by decide) (by decide) (cells_at w3 ramps 3))
  clear hlt
  go_wp2_with fail
  refine P.out.mono ?_
  rintro e w4 ⟨r, _, rfl, k1, k2⟩
  have C5 := Lib.hid k1
  have G5 := Lib.hid (Draw.grown_trans (Draw.grown_trans G4.out (World.grownBy_alloc _ (.cells (ints ramps).toArray 3) (some g))) k2)
  have x5 := (X4.out.alloc (.cells (ints ramps).toArray 3)).grown k2 N2.out
  have X5 := Lib.hid x5
  have d0 := x5.c0
  have d1 := x5.c1
  have d2 := x5.c2
  have d3 := x5.c3
  have e0 := x5.f0
  have e1 := x5.f1
  have e2 := x5.f2
  have e3 := x5.f3
  clear k1 k2 H4 G4 X4 P x5
  go_wp2_with fail
  have z := X5.out.put (.int .i64 t) (.string s) (.int .i64 l) (.int .i64 r)
  have s0 := z.c0
  have s1 := z.c1
  have s2 := z.c2
  have s3 := z.c3
  clear z
  (try simp only [Exit.inBlock, Exit.then])
  refine bodyPost_ret (by simp [results, Tryz.results58, go_sem, s0, s1, s2, s3]; try rfl) rfl ?_
  have h1 := HT.out
  refine ⟨t, s, l, r, ⟨by simpa using h1.1, by have := h1.2; simp; omega, HS.out⟩, rfl, ?_, ?_⟩
  · refine C5.out.kept ?_
    rw [Below.heap_setCell _ _ _ _ NE.out.symm, Below.heap_setCell _ _ _ _ NE.out.symm, Below.heap_setCell _ _ _ _ NE.out.symm, Below.heap_setCell _ _ _ _ NE.out.symm]
  · have hp := put_grown w4 w.heap.size (.int .i64 t) (.string s) (.int .i64 l) (.int .i64 r)
    exact ⟨hp.os.trans G5.out.os, hp.tape.trans G5.out.tape, hp.output.trans G5.out.output, Nat.le_trans G5.out.size hp.size, fun i hi hr => (hp.block i (Nat.lt_of_lt_of_le hi G5.out.size) (fun e => by have e := Option.some.inj e; omega)).trans (G5.out.block i hi hr)⟩

/-- What is known of a score that was drawn. -/
def Sn (zs : List C) (k : Nat) : Prop := score zs = true ∧ zs.length ≤ k ∧ ∀ d ∈ zs, Dn d
theorem Sn.zero : Sn [] 0 := ⟨score_yes (score_set.2 ⟨by simp, List.Pairwise.nil, fun d hd => by cases hd⟩), Nat.le_refl _, fun d hd => by cases hd⟩
theorem Sn.next {zs : List C} {k : Nat} {x : C} (h : Sn zs k) (hx : Dn x) : Sn (addL zs x) (k + 1) :=
  ⟨add_score h.1, Nat.le_trans (addL_len zs x) (Nat.succ_le_succ h.2.1), fun d hd => by rcases add_mem hd with rfl | hd; exact hx; exact h.2.2 d hd⟩
theorem Sn.sizes {zs : List C} {k : Nat} (h : Sn zs k) : ∀ z ∈ zs, z.nm.size ≤ 1048576 := fun z hz => Nat.le_trans (name_size (h.2.2 z hz).2.2) (by decide)

end Go.Proofs.YtokncfhpmjohdabGreat.Dr7
namespace Go.Proofs.YtokncfhpmjohdabGreat.Gs
open Go.RowKit Go.ChangeShapes Go.WideShapes Go.WideElems Go.Deep Go.Proofs.YtokncfhpmjohdabGreat.Mem Go.Proofs.YtokncfhpmjohdabGreat.Rw Go.Proofs.YtokncfhpmjohdabGreat.Pw Go.Proofs.YtokncfhpmjohdabGreat.P2
set_option linter.unusedVariables false
set_option linter.unusedSimpArgs false

/-- The cells of a gust: when it begins, and its drift. -/
def gc (g : Int × Int × Int) : List Value := [.int .i64 g.1, .int .i64 g.2.1, .int .i64 g.2.2]
theorem gc_len (g : Int × Int × Int) : (gc g).length = 3 := rfl
/-- The cells of a list of gusts. -/
def gls (zs : List (Int × Int × Int)) : List Value := zs.flatMap gc
theorem gls_len (zs : List (Int × Int × Int)) : (gls zs).length = zs.length * 3 := flat_len gc_len zs
theorem gls_get {zs : List (Int × Int × Int)} {k : Nat} {z : Int × Int × Int} (h : zs[k]? = some z) :
    (gls zs)[k * 3]? = some (.int .i64 z.1) ∧ (gls zs)[k * 3 + 1]? = some (.int .i64 z.2.1) ∧ (gls zs)[k * 3 + 2]? = some (.int .i64 z.2.2) :=
  ⟨(flat_get gc_len h 0 (by omega)).trans rfl, (flat_get gc_len h 1 (by omega)).trans rfl, (flat_get gc_len h 2 (by omega)).trans rfl⟩
theorem gls_snoc (zs : List (Int × Int × Int)) (z : Int × Int × Int) : gls zs ++ [.int .i64 z.1, .int .i64 z.2.1, .int .i64 z.2.2] = gls (zs ++ [z]) := (flat_snoc zs z).symm

section
variable {H : Type} {enc : TypeId × Value → H} {P : Program}
end

theorem infoGust : (Tryz.prog.info? 133).map (fun i => (i.zero, i.size, i.bytes)) = some (some (.agg #[.int .i64 0, .int .i64 0, .int .i64 0]), 3, 24) := by kernel_rfl

/-- What the copy leaves: a row of its own with these gusts; what was there is as it was. -/
def Copied (w : World) (n : Nat) (zs : List (Int × Int × Int)) (e : Ending) (w' : World) : Prop :=
  ∃ g, e = .returned (.slice (some ⟨g, 0, none⟩) n n) ∧ w.heap.size ≤ g ∧ w'.ownsRow w.heap.size 133 3 (.slice (some ⟨g, 0, none⟩) n n) n (gls zs) ∧ Below w.heap.size w w'

/-- The marks are laid; what lies in other blocks is as it was. -/
def Laid (w : World) (base g n c k : Nat) (e : Ending) (w' : World) : Prop :=
  e = .returned (.int .i64 ((k : Int) + ((n * 3 : Nat) : Int))) ∧ w'.ownsRow base 133 3 (.slice (some ⟨g, 0, none⟩) n c) n (mk k (n * 3)) ∧ w.grownBy w' (some g)

end Go.Proofs.YtokncfhpmjohdabGreat.Gs
namespace Go.Proofs.YtokncfhpmjohdabGreat.Wm
open Go.RowKit Go.Proofs.YtokncfhpmjohdabGreat.Jt Go.Proofs.YtokncfhpmjohdabGreat.Gs
set_option linter.unusedVariables false

/-- Whether a place is a drift. -/
def dk (x y : Int) : Bool := iw x (-8) 8 && iw y (-8) 8
theorem dk_iff {x y : Int} : dk x y = true ↔ (-8 ≤ x ∧ x ≤ 8) ∧ (-8 ≤ y ∧ y ≤ 8) := by unfold dk; rw [Bool.and_eq_true, iw_iff, iw_iff]

abbrev G := Int × Int × Int
/-- Whether the gust at i may stand there. -/
def okAt (zs : List G) (i : Nat) : Bool := match zs[i]? with
  | none => true
  | some z => iw z.1 0 64 && dk z.2.1 z.2.2 && (decide (i = 0) || match zs[i - 1]? with | none => true | some p => decide (p.1 < z.1))
def okUp (zs : List G) (k : Nat) : Bool := (List.range k).all (okAt zs)
/-- Whether a list is a wind. -/
def wd (zs : List G) : Bool := okUp zs zs.length && decide (zs.length ≤ 8)

theorem okUp_zero (zs : List G) : okUp zs 0 = true := rfl
theorem okUp_succ {zs : List G} {k : Nat} : okUp zs (k + 1) = (okUp zs k && okAt zs k) := by
  unfold okUp; rw [List.range_succ, List.all_append]; simp
theorem okUp_no {zs : List G} {k m : Nat} (hk : k < m) (h : okAt zs k = false) : okUp zs m = false := by
  unfold okUp; rw [List.all_eq_false]; exact ⟨k, List.mem_range.2 hk, by rw [h]; decide⟩
theorem okUp_at {zs : List G} {k m : Nat} (hk : k < m) (h : okUp zs m = true) : okAt zs k = true := by
  unfold okUp at h; exact List.all_eq_true.1 h k (List.mem_range.2 hk)

theorem ok_from {zs : List G} {k : Nat} {z : G} (hz : zs[k]? = some z) (h : iw z.1 0 64 = false) : okAt zs k = false := by
  unfold okAt; rw [hz]; simp [h]
theorem ok_drift {zs : List G} {k : Nat} {z : G} (hz : zs[k]? = some z) (h : dk z.2.1 z.2.2 = false) : okAt zs k = false := by
  unfold okAt; rw [hz]; simp [h]
theorem ok_first {zs : List G} {z : G} (hz : zs[0]? = some z) (h : iw z.1 0 64 = true) (h2 : dk z.2.1 z.2.2 = true) : okAt zs 0 = true := by
  unfold okAt; rw [hz]; simp [h, h2]
theorem ok_next {zs : List G} {k : Nat} {z p : G} (hz : zs[k]? = some z) (h : iw z.1 0 64 = true) (h2 : dk z.2.1 z.2.2 = true) (hk : k ≠ 0) (hp : zs[k - 1]? = some p) : okAt zs k = decide (p.1 < z.1) := by
  unfold okAt; rw [hz]; simp [h, h2, hk, hp]
theorem wd_no {zs : List G} {k n : Nat} (hn : zs.length = n) (hk : k < n) (h : okAt zs k = false) : wd zs = false := by
  unfold wd; rw [hn, okUp_no hk h]; rfl
theorem wd_long {zs : List G} {n : Nat} (hn : zs.length = n) (h : 8 < n) : wd zs = false := by
  unfold wd; rw [hn, decide_eq_false (p := n ≤ 8) (by omega), Bool.and_false]
theorem wd_fin {zs : List G} {n : Nat} (hn : zs.length = n) (h : okUp zs n = true) : wd zs = decide (n ≤ 8) := by
  unfold wd; rw [hn, h]; rfl
/-- Each gust of a wind begins at a tick from 0 to 64, and has a drift. -/
theorem wd_each {zs : List G} (h : wd zs = true) {k : Nat} {z : G} (hz : zs[k]? = some z) : (0 ≤ z.1 ∧ z.1 ≤ 64) ∧ (-8 ≤ z.2.1 ∧ z.2.1 ≤ 8) ∧ (-8 ≤ z.2.2 ∧ z.2.2 ≤ 8) := by
  have hk : k < zs.length := (List.getElem?_eq_some_iff.1 hz).1
  unfold wd at h
  rw [Bool.and_eq_true] at h
  have := okUp_at hk h.1
  unfold okAt at this
  rw [hz] at this
  simp only [Bool.and_eq_true] at this
  exact ⟨iw_iff.1 this.1.1, dk_iff.1 this.1.2⟩

/-- The drift at a tick: that of the last gust that has begun. -/
def dr (zs : List G) (t : Int) : Int × Int := zs.foldl (fun p z => if z.1 ≤ t then z.2 else p) (0, 0)
theorem dr_take {zs : List G} {k : Nat} {z : G} (h : zs[k]? = some z) (t : Int) : dr (zs.take (k + 1)) t = if z.1 ≤ t then z.2 else dr (zs.take k) t := by
  obtain ⟨hk, rfl⟩ := List.getElem?_eq_some_iff.1 h
  rw [List.take_succ_eq_append_getElem hk]
  unfold dr
  rw [List.foldl_append]; rfl
theorem dr_ind {zs : List G} {t : Int} (Q : Int × Int → Prop) (h0 : Q (0, 0)) (h : ∀ (k : Nat) (z : G), zs[k]? = some z → Q z.2) : Q (dr zs t) := by
  have key : ∀ k, k ≤ zs.length → Q (dr (zs.take k) t) := by
    intro k
    induction k with
    | zero => intro _; exact h0
    | succ k ih =>
      intro hk
      obtain ⟨z, hz⟩ : ∃ z, zs[k]? = some z := ⟨_, List.getElem?_eq_getElem (by omega)⟩
      rw [dr_take hz]
      split
      · exact h k z hz
      · exact ih (by omega)
  have := key zs.length (Nat.le_refl _)
  rwa [List.take_length] at this
theorem dr_bound {zs : List G} (h : wd zs = true) (t : Int) : (-8 ≤ (dr zs t).1 ∧ (dr zs t).1 ≤ 8) ∧ (-8 ≤ (dr zs t).2 ∧ (dr zs t).2 ≤ 8) :=
  dr_ind (fun p => (-8 ≤ p.1 ∧ p.1 ≤ 8) ∧ (-8 ≤ p.2 ∧ p.2 ≤ 8)) (by decide) fun k z hz => (wd_each h hz).2
/-- The drifts of m ticks from a on. -/
def drs (zs : List G) (a m : Nat) : List (Int × Int) := (List.range m).map fun j => dr zs ((a + j : Nat) : Int)
theorem drs_len (zs : List G) (a m : Nat) : (drs zs a m).length = m := by simp [drs]
theorem drs_get {zs : List G} {a m j : Nat} (h : j < m) : (drs zs a m)[j]? = some (dr zs ((a + j : Nat) : Int)) := by
  unfold drs; rw [List.getElem?_map, List.getElem?_range h]; rfl
def plus (p q : Int × Int) : Int × Int := (p.1 + q.1, p.2 + q.2)
/-- The place before, at the k-th one of a list. -/
def was (l : List (Int × Int)) (k : Nat) : Int × Int := if k = 0 then (0, 0) else l.getD (k - 1) (0, 0)
theorem was_next {l : List (Int × Int)} {k : Nat} {p : Int × Int} (h : l[k]? = some p) : was l (k + 1) = p := by
  unfold was; rw [if_neg (by omega), Nat.add_sub_cancel, List.getD_eq_getElem?_getD, h]; rfl
theorem was_zero (l : List (Int × Int)) : was l 0 = (0, 0) := rfl

end Go.Proofs.YtokncfhpmjohdabGreat.Wm
namespace Go.Proofs.YtokncfhpmjohdabGreat.Wi
open Go.RowKit Go.Proofs.YtokncfhpmjohdabGreat.Mem Go.Proofs.YtokncfhpmjohdabGreat.Rw Go.Proofs.YtokncfhpmjohdabGreat.Jt Go.Proofs.YtokncfhpmjohdabGreat.Pw Go.Proofs.YtokncfhpmjohdabGreat.P2 Go.Proofs.YtokncfhpmjohdabGreat.Gs Go.Proofs.YtokncfhpmjohdabGreat.Wm
set_option linter.unusedVariables false
set_option linter.unusedSimpArgs false

theorem isDriftI {x y : Int} {r : Bool} (h : dk x y = r) (w : World) : Calls Tryz.prog 106 #[.agg #[.int .i64 x, .int .i64 y]] w fun e w' => e = .returned (.bool r) ∧ w' = w.alloc (.cells #[.int .i64 x, .int .i64 y] 34) := by
  subst h
  unfold dk
  have C := isWithin x (-8) 8
  have D := isWithin y (-8) 8
  generalize iw x (-8) 8 = p at *
  generalize iw y (-8) 8 = q at *
  have C := Lib.hid C
  have D := Lib.hid D
  cases p
  all_goals
    go_enter Tryz.func106, Tryz.ntmps106
    go_wp2_with (first
      | (go_at_call 64; ((with_reducible refine (C.out _).mono ?_); rintro e w' ⟨rfl, rfl⟩))
      | (go_at_call 64; ((with_reducible refine (D.out _).mono ?_); rintro e w' ⟨rfl, rfl⟩)))
    go_returns
    exact ⟨rfl, rfl⟩

theorem driftS {x y : Int} {r : Bool} (h : dk x y = r) (w : World) : Calls Tryz.prog 117 #[.agg #[.int .i64 x, .int .i64 y]] w fun e w' => e = .returned (.bool r) ∧ w' = w.alloc (.cells #[.int .i64 x, .int .i64 y] 34) := by
  subst h
  unfold dk
  have C := l1In x (-8) 8
  have D := l1In y (-8) 8
  generalize iw x (-8) 8 = p at *
  generalize iw y (-8) 8 = q at *
  have C := Lib.hid C
  have D := Lib.hid D
  cases p
  all_goals
    go_enter Tryz.func117, Tryz.ntmps117
    go_wp2_with (first
      | (go_at_call 76; ((with_reducible refine (C.out _).mono ?_); rintro e w' ⟨rfl, rfl⟩))
      | (go_at_call 76; ((with_reducible refine (D.out _).mono ?_); rintro e w' ⟨rfl, rfl⟩)))
    go_returns
    exact ⟨rfl, rfl⟩

set_option maxHeartbeats 2000000 in
theorem isWindI (A : Option Addr) (n c : Nat) (zs : List G) (H : Nat) (w : World) (hn : zs.length = n) (hb : n ≤ 1048576) (hH : H ≤ w.heap.size) (hr : Rd w H A (gls zs)) :
    Calls Tryz.prog 63 #[.slice A n c] w fun e w' => e = .returned (.bool (wd zs)) ∧ Below w.heap.size w w' := by
  have HR := Lib.hid (hr.more hH)
  have HN := Lib.hid hn
  clear hr hn hH
  by_cases h8 : 8 < n
  · rw [wd_long HN.out h8]
    go_enter Tryz.func63, Tryz.ntmps63
    go_wp2_with fail
    go_ret
    exact ⟨rfl, Below.refl _ _⟩
  · go_enter Tryz.func63, Tryz.ntmps63
    go_wp2_with fail
    go_loopw [10] (fun i wr => ∃ k : Nat, k ≤ n ∧ i = .int .i64 k ∧ Hid (okUp zs k = true) ∧ Hid (Below w.heap.size w wr)) (fun i _ => n - (intOf i).toNat)
    case atStart => exact ⟨0, Nat.zero_le _, rfl, Lib.hid (okUp_zero zs), Lib.hid (Below.refl _ _)⟩
    case round =>
      obtain ⟨k, hk, rfl, UK, BK⟩ := hrel
      by_cases hlt : k < n
      · have hkz : k < zs.length := by rw [HN.out]; exact hlt
        have hl : k * 3 < (gls zs).length := by rw [gls_len]; omega
        obtain ⟨z, hz⟩ : ∃ z, zs[k]? = some z := ⟨_, List.getElem?_eq_getElem hkz⟩
        obtain ⟨b, o, eA, hbl, hcell⟩ := (HR.out.below BK.out).get hl
        obtain ⟨z0, z1, z2⟩ := gls_get hz
        have hprev : ∀ p : G, zs[k - 1]? = some p → wr.cell? ⟨b, o + (k - 1) * 3, none⟩ = some (.int .i64 p.1) := fun p hp => hcell _ _ (gls_get hp).1
        have HP := Lib.hid hprev
        have HZ := Lib.hid hz
        obtain ⟨f, x, y⟩ := z
        have c1 : wr.cell? ⟨b, o + k * 3, none⟩ = some (.int .i64 f) := hcell _ _ z0
        have c2 : wr.cell? ⟨b, o + k * 3 + 1, none⟩ = some (.int .i64 x) := hcell _ _ z1
        have c3 : wr.cell? ⟨b, o + k * 3 + 2, none⟩ = some (.int .i64 y) := hcell _ _ z2
        have p1 : b < wr.heap.size := World.block_lt_of_cell? wr _ c1
        have p2 : ∀ j, b < wr.heap.size + j := fun j => by omega
        clear hcell hz hl hkz z0 z1 z2 hprev hbl
        subst eA
        cases hw : iw f 0 64
        · have W := Lib.hid (isWithin_of hw)
          have F := Lib.hid (wd_no HN.out hlt (ok_from HZ.out hw))
          clear hw
          go_wp2_with fail
          refine (W.out _).mono ?_
          rintro e w' ⟨rfl, rfl⟩
          go_wp2_with fail
          go_ret
          exact ⟨by rw [F.out]; rfl, BK.out.trans (Below.mono (by go_grown) BK.out.size)⟩
        have W := Lib.hid (isWithin_of hw)
        cases hd : dk x y
        · have D := Lib.hid (isDriftI hd)
          have F := Lib.hid (wd_no HN.out hlt (ok_drift HZ.out hd))
          clear hw hd
          go_wp2_with fail
          refine (W.out _).mono ?_
          rintro e w' ⟨rfl, rfl⟩
          go_wp2_with fail
          refine (D.out _).mono ?_
          rintro e w' ⟨rfl, rfl⟩
          go_wp2_with fail
          go_ret
          exact ⟨by rw [F.out]; rfl, BK.out.trans (Below.mono (by go_grown) BK.out.size)⟩
        have D := Lib.hid (isDriftI hd)
        by_cases hk0 : k = 0
        · have U := Lib.hid (show okUp zs (k + 1) = true by
            have hz := HZ.out
            subst hk0
            rw [okUp_succ, UK.out, ok_first hz hw hd]; rfl)
          have t0 : decide ((0 : Int) < (k : Int)) = false := decide_eq_false (by omega)
          have t1 : decide (0 < k) = false := decide_eq_false (by omega)
          clear hw hd hk0 UK
          go_wp2_with fail
          refine (W.out _).mono ?_
          rintro e w' ⟨rfl, rfl⟩
          go_wp2_with fail
          refine (D.out _).mono ?_
          rintro e w' ⟨rfl, rfl⟩
          go_wp2_with fail
          go_quiet (fail)
          go_wp2_with fail
          go_roundw
          case rel => exact ⟨k + 1, by omega, by go_num, U, Lib.hid (BK.out.trans (Below.mono (below_drewN (by go_grown) _) BK.out.size))⟩
          case measure => simp [intOf]; omega
        · obtain ⟨p, hp⟩ : ∃ p, zs[k - 1]? = some p := ⟨_, List.getElem?_eq_getElem (by rw [HN.out]; omega)⟩
          have c4 := HP.out p hp
          have E := Lib.hid (ok_next HZ.out hw hd hk0 hp)
          obtain ⟨pf, px, py⟩ := p
          simp only at c4
          have t0 : decide ((0 : Int) < (k : Int)) = true := decide_eq_true (by omega)
          have t9 : decide (0 < k) = true := decide_eq_true (by omega)
          have t1 : IntKind.i64.wrap ((k : Int) - 1) = (k : Int) - 1 := IntWalk.i64_in _ (by omega)
          have t2 : (0 : Int) ≤ (k : Int) - 1 := by omega
          have t3 : ((k : Int) - 1).toNat = k - 1 := by omega
          have t4 : (k : Int) - 1 < (n : Int) := by omega
          by_cases hpf : pf < f
          · have U := Lib.hid (show okUp zs (k + 1) = true by rw [okUp_succ, UK.out, E.out, decide_eq_true hpf]; rfl)
            have t5 : decide (f ≤ pf) = false := decide_eq_false (by omega)
            have t6 : ¬ f ≤ pf := by omega
            clear hw hd UK E hp hpf
            go_wp2_with fail
            refine (W.out _).mono ?_
            rintro e w' ⟨rfl, rfl⟩
            go_wp2_with fail
            refine (D.out _).mono ?_
            rintro e w' ⟨rfl, rfl⟩
            go_wp2_with fail
            go_quiet (fail)
            go_wp2_with fail
            go_roundw
            case rel => exact ⟨k + 1, by omega, by go_num, U, Lib.hid (BK.out.trans (Below.mono (below_drewN (by go_grown) _) BK.out.size))⟩
            case measure => simp [intOf]; omega
          · have F := Lib.hid (wd_no HN.out hlt (E.out.trans (decide_eq_false hpf)))
            have t5 : decide (f ≤ pf) = true := decide_eq_true (by omega)
            have t6 : f ≤ pf := by omega
            clear hw hd UK E hp hpf
            go_wp2_with fail
            refine (W.out _).mono ?_
            rintro e w' ⟨rfl, rfl⟩
            go_wp2_with fail
            refine (D.out _).mono ?_
            rintro e w' ⟨rfl, rfl⟩
            go_wp2_with fail
            go_quiet (fail)
            go_wp2_with fail
            go_ret
            exact ⟨by rw [F.out]; rfl, BK.out.trans (Below.mono (below_drewN (by go_grown) _) BK.out.size)⟩
      · obtain rfl : k = n := by omega
        have F := Lib.hid ((wd_fin HN.out UK.out).trans (decide_eq_true (by omega)))
        go_wp2_with fail
        go_ret
        exact ⟨by rw [F.out]; rfl, BK.out⟩


set_option maxHeartbeats 4000000 in
theorem isWindS (A : Option Addr) (n c : Nat) (zs : List G) (H : Nat) (w : World) (hn : zs.length = n) (hb : n ≤ 1048576) (hH : H ≤ w.heap.size) (hr : Rd w H A (gls zs)) :
    Calls Tryz.prog 75 #[.slice A n c] w fun e w' => e = .returned (.bool (wd zs)) ∧ Below w.heap.size w w' := by
  have HR := Lib.hid (hr.more hH)
  have HN := Lib.hid hn
  clear hr hn hH
  have hu : undef = Value.tuple #[] := rfl
  go_enter Tryz.func75, Tryz.ntmps75
  go_wp2_with fail
  go_loopw [7] (fun i wr => ∃ k : Nat, k ≤ n ∧ i = .int .i64 k ∧ Hid (okUp zs k = true) ∧ Hid (Below w.heap.size w wr)) (fun i _ => n - (intOf i).toNat)
  case atStart => exact ⟨0, Nat.zero_le _, rfl, Lib.hid (okUp_zero zs), Lib.hid (Below.refl _ _)⟩
  case round =>
    obtain ⟨k, hk, rfl, UK, BK⟩ := hrel
    by_cases hlt : k < n
    · have hkz : k < zs.length := by rw [HN.out]; exact hlt
      have hl : k * 3 < (gls zs).length := by rw [gls_len]; omega
      obtain ⟨z, hz⟩ : ∃ z, zs[k]? = some z := ⟨_, List.getElem?_eq_getElem hkz⟩
      obtain ⟨b, o, eA, hbl, hcell⟩ := (HR.out.below BK.out).get hl
      obtain ⟨z0, z1, z2⟩ := gls_get hz
      have hprev : ∀ p : G, zs[k - 1]? = some p → wr.cell? ⟨b, o + (k - 1) * 3, none⟩ = some (.int .i64 p.1) := fun p hp => hcell _ _ (gls_get hp).1
      have HP := Lib.hid hprev
      have HZ := Lib.hid hz
      obtain ⟨f, x, y⟩ := z
      have c1 : wr.cell? ⟨b, o + k * 3, none⟩ = some (.int .i64 f) := hcell _ _ z0
      have c2 : wr.cell? ⟨b, o + k * 3 + 1, none⟩ = some (.int .i64 x) := hcell _ _ z1
      have c3 : wr.cell? ⟨b, o + k * 3 + 2, none⟩ = some (.int .i64 y) := hcell _ _ z2
      have p1 : b < wr.heap.size := World.block_lt_of_cell? wr _ c1
      have p2 : ∀ j, b < wr.heap.size + j := fun j => by omega
      clear hcell hz hl hkz z0 z1 z2 hprev hbl
      subst eA
      cases hw : iw f 0 64
      · have W := Lib.hid (l1In_of hw)
        have F := Lib.hid (wd_no HN.out hlt (ok_from HZ.out hw))
        clear hw
        go_wp2_with fail
        go_quiet ((go_at_call 76; exact Calls.quiet_of_same ((W.out _).mono fun _ _ k => ⟨k.1, k.2.symm⟩)))
        all_goals go_wp2_with fail
        all_goals go_ret
        all_goals exact ⟨congrArg (fun b => Ending.returned (.bool b)) F.out.symm, BK.out.trans (Below.mono (by first | exact below_drewN (by go_grown) _ | go_grown) BK.out.size)⟩
      have W := Lib.hid (l1In_of hw)
      cases hd : dk x y
      · have D := Lib.hid (driftS hd)
        have F := Lib.hid (wd_no HN.out hlt (ok_drift HZ.out hd))
        clear hw hd
        go_wp2_with fail
        refine wp_region_noPanic ?_
        refine wp_region_held_drew (S := (fun w' => w'.cell? ⟨wr.heap.size, 0, none⟩ = some (.int .i64 f) ∧ w'.cell? ⟨wr.heap.size, 1, none⟩ = some (.int .i64 x) ∧ w'.cell? ⟨wr.heap.size, 2, none⟩ = some (.int .i64 y))) (by kernel_rfl) ?_ (fun hH => ?_)
        · simp [go_sem]
        refine wpAnyH_take (i := 0) (oi := { dst := some 12, op := _, type := _, pos := _, after := _, guard := _ }) (v := ?_) rfl (by kernel_rfl) (by kernel_rfl) (by kernel_rfl) (fun _ _ _ h => h) (Or.inl ⟨by rfl, ?_⟩) hH ?_
        rotate_left 1
        · intro W hSw
          (try dsimp only at hSw)
          go_simp
          (try with_reducible rfl)
        try simp only [Act.put, List.setIfInBounds_toArray, List.set_cons_zero, List.set_cons_succ]
        refine wpAnyH_take (i := 1) (oi := { dst := some 13, op := _, type := _, pos := _, after := _, guard := _ }) (v := ?_) rfl (by kernel_rfl) (by kernel_rfl) (by kernel_rfl) (fun _ _ _ h => h) (Or.inl ⟨by rfl, ?_⟩) hH ?_
        rotate_left 1
        · intro W hSw
          (try dsimp only at hSw)
          go_simp
          (try with_reducible rfl)
        try simp only [Act.put, List.setIfInBounds_toArray, List.set_cons_zero, List.set_cons_succ]
        refine wpAnyH_ready (rs := [2]) (by kernel_rfl) (by simp) (AllReadyH.cons rfl (fun K hK => ?_) AllReadyH.nil)
        go_simp
        go_at_call 76; ((with_reducible refine (W.out _).mono ?_); rintro e w' ⟨rfl, rfl⟩); go_wp2_with fail
        refine hK.out _ _ ?_ (fun hG => ?_)
        · exact hH
        replace hH := hG
        clear hK K hG
        try simp only [Act.put, List.setIfInBounds_toArray, List.set_cons_zero, List.set_cons_succ]
        refine wpAnyH_take (i := 3) (oi := { dst := some 15, op := _, type := _, pos := _, after := _, guard := _ }) (v := ?_) rfl (by kernel_rfl) (by kernel_rfl) (by kernel_rfl) (fun _ _ _ h => h) (Or.inl ⟨by rfl, ?_⟩) hH ?_
        rotate_left 1
        · intro W hSw
          (try dsimp only at hSw)
          go_simp
          (try with_reducible rfl)
        try simp only [Act.put, List.setIfInBounds_toArray, List.set_cons_zero, List.set_cons_succ]
        refine wpAnyH_take (i := 4) (oi := { dst := some 16, op := _, type := _, pos := _, after := _, guard := _ }) (v := ?_) rfl (by kernel_rfl) (by kernel_rfl) (by kernel_rfl) (fun _ _ _ h => h) (Or.inl ⟨by rfl, ?_⟩) hH ?_
        rotate_left 1
        · intro W hSw
          (try dsimp only at hSw)
          go_simp
          (try with_reducible rfl)
        try simp only [Act.put, List.setIfInBounds_toArray, List.set_cons_zero, List.set_cons_succ]
        refine wpAnyH_take (i := 5) (oi := { dst := some 17, op := _, type := _, pos := _, after := _, guard := _ }) (v := ?_) rfl (by kernel_rfl) (by kernel_rfl) (by kernel_rfl) (fun _ _ _ h => h) (Or.inl ⟨by rfl, ?_⟩) hH ?_
        rotate_left 1
        · intro W hSw
          (try dsimp only at hSw)
          go_simp
          (try with_reducible rfl)
        try simp only [Act.put, List.setIfInBounds_toArray, List.set_cons_zero, List.set_cons_succ]
        refine wpAnyH_take (i := 6) (oi := { dst := some 18, op := _, type := _, pos := _, after := _, guard := _ }) (v := ?_) rfl (by kernel_rfl) (by kernel_rfl) (by kernel_rfl) (fun _ _ _ h => h) (Or.inl ⟨by rfl, ?_⟩) hH ?_
        rotate_left 1
        · intro W hSw
          (try dsimp only at hSw)
          go_simp
          (try with_reducible rfl)
        try simp only [Act.put, List.setIfInBounds_toArray, List.set_cons_zero, List.set_cons_succ]
        refine wpAnyH_ready (rs := [7]) (by kernel_rfl) (by simp) (AllReadyH.cons rfl (fun K hK => ?_) AllReadyH.nil)
        go_simp
        go_at_call 117; ((with_reducible refine (D.out _).mono ?_); rintro e w' ⟨rfl, rfl⟩); go_wp2_with fail
        refine hK.out _ _ ?_ (fun hG => ?_)
        · exact ⟨cell_alloc hH.1, cell_alloc hH.2.1, cell_alloc hH.2.2⟩
        replace hH := hG
        clear hK K hG
        try simp only [Act.put, List.setIfInBounds_toArray, List.set_cons_zero, List.set_cons_succ]
        refine wpAnyH_take (i := 8) (oi := { dst := some 20, op := _, type := _, pos := _, after := _, guard := _ }) (v := ?_) rfl (by kernel_rfl) (by kernel_rfl) (by kernel_rfl) (fun _ _ _ h => h) (Or.inl ⟨by rfl, ?_⟩) hH ?_
        rotate_left 1
        · intro W hSw
          (try dsimp only at hSw)
          go_simp
          (try with_reducible rfl)
        try simp only [Act.put, List.setIfInBounds_toArray, List.set_cons_zero, List.set_cons_succ]
        refine wpAnyH_take (i := 9) (oi := { dst := some 21, op := _, type := _, pos := _, after := _, guard := _ }) (v := ?_) rfl (by kernel_rfl) (by kernel_rfl) (by kernel_rfl) (fun _ _ _ h => h) (Or.inl ⟨by rfl, ?_⟩) hH ?_
        rotate_left 1
        · intro W hSw
          (try dsimp only at hSw)
          go_simp
          (try with_reducible rfl)
        try simp only [Act.put, List.setIfInBounds_toArray, List.set_cons_zero, List.set_cons_succ]
        refine wpAnyH_take (i := 10) (oi := { dst := some 22, op := _, type := _, pos := _, after := _, guard := _ }) (v := ?_) rfl (by kernel_rfl) (by kernel_rfl) (by kernel_rfl) (fun _ _ _ h => h) (Or.inl ⟨by rfl, ?_⟩) hH ?_
        rotate_left 1
        · intro W hSw
          (try dsimp only at hSw)
          go_simp
          (try with_reducible rfl)
        try simp only [Act.put, List.setIfInBounds_toArray, List.set_cons_zero, List.set_cons_succ]
        refine wpAnyH_take (i := 11) (oi := { dst := some 23, op := _, type := _, pos := _, after := _, guard := _ }) (v := undef) rfl (by kernel_rfl) (by kernel_rfl) (by kernel_rfl) (fun _ _ _ h => h) (Or.inr ⟨by simp [Region.wanted, yielded, hu], rfl⟩) hH ?_
        try simp only [Act.put, List.setIfInBounds_toArray, List.set_cons_zero, List.set_cons_succ]
        refine wpAnyH_take (i := 12) (oi := { dst := some 24, op := _, type := _, pos := _, after := _, guard := _ }) (v := undef) rfl (by kernel_rfl) (by kernel_rfl) (by kernel_rfl) (fun _ _ _ h => h) (Or.inr ⟨by simp [Region.wanted, yielded, hu], rfl⟩) hH ?_
        try simp only [Act.put, List.setIfInBounds_toArray, List.set_cons_zero, List.set_cons_succ]
        refine wpAnyH_take (i := 13) (oi := { dst := some 25, op := _, type := _, pos := _, after := _, guard := _ }) (v := undef) rfl (by kernel_rfl) (by kernel_rfl) (by kernel_rfl) (fun _ _ _ h => h) (Or.inr ⟨by simp [Region.wanted, yielded, hu], rfl⟩) hH ?_
        try simp only [Act.put, List.setIfInBounds_toArray, List.set_cons_zero, List.set_cons_succ]
        refine wpAnyH_take (i := 14) (oi := { dst := some 26, op := _, type := _, pos := _, after := _, guard := _ }) (v := undef) rfl (by kernel_rfl) (by kernel_rfl) (by kernel_rfl) (fun _ _ _ h => h) (Or.inr ⟨by simp [Region.wanted, yielded, hu], rfl⟩) hH ?_
        try simp only [Act.put, List.setIfInBounds_toArray, List.set_cons_zero, List.set_cons_succ]
        refine wpAnyH_take (i := 15) (oi := { dst := some 27, op := _, type := _, pos := _, after := _, guard := _ }) (v := undef) rfl (by kernel_rfl) (by kernel_rfl) (by kernel_rfl) (fun _ _ _ h => h) (Or.inr ⟨by simp [Region.wanted, yielded, hu], rfl⟩) hH ?_
        try simp only [Act.put, List.setIfInBounds_toArray, List.set_cons_zero, List.set_cons_succ]
        refine wpAnyH_take (i := 16) (oi := { dst := some 28, op := _, type := _, pos := _, after := _, guard := _ }) (v := undef) rfl (by kernel_rfl) (by kernel_rfl) (by kernel_rfl) (fun _ _ _ h => h) (Or.inr ⟨by simp [Region.wanted, yielded, hu], rfl⟩) hH ?_
        try simp only [Act.put, List.setIfInBounds_toArray, List.set_cons_zero, List.set_cons_succ]
        refine wpAnyH_take (i := 17) (oi := { dst := some 29, op := _, type := _, pos := _, after := _, guard := _ }) (v := undef) rfl (by kernel_rfl) (by kernel_rfl) (by kernel_rfl) (fun _ _ _ h => h) (Or.inr ⟨by simp [Region.wanted, yielded, hu], rfl⟩) hH ?_
        try simp only [Act.put, List.setIfInBounds_toArray, List.set_cons_zero, List.set_cons_succ]
        refine wpAnyH_take (i := 18) (oi := { dst := some 30, op := _, type := _, pos := _, after := _, guard := _ }) (v := undef) rfl (by kernel_rfl) (by kernel_rfl) (by kernel_rfl) (fun _ _ _ h => h) (Or.inr ⟨by simp [Region.wanted, yielded, hu], rfl⟩) hH ?_
        try simp only [Act.put, List.setIfInBounds_toArray, List.set_cons_zero, List.set_cons_succ]
        refine wpAnyH_take (i := 19) (oi := { dst := some 31, op := _, type := _, pos := _, after := _, guard := _ }) (v := undef) rfl (by kernel_rfl) (by kernel_rfl) (by kernel_rfl) (fun _ _ _ h => h) (Or.inr ⟨by simp [Region.wanted, yielded, hu], rfl⟩) hH ?_
        try simp only [Act.put, List.setIfInBounds_toArray, List.set_cons_zero, List.set_cons_succ]
        refine wpAnyH_take (i := 20) (oi := { dst := some 32, op := _, type := _, pos := _, after := _, guard := _ }) (v := undef) rfl (by kernel_rfl) (by kernel_rfl) (by kernel_rfl) (fun _ _ _ h => h) (Or.inr ⟨by simp [Region.wanted, yielded, hu], rfl⟩) hH ?_
        try simp only [Act.put, List.setIfInBounds_toArray, List.set_cons_zero, List.set_cons_succ]
        refine wpAnyH_take (i := 21) (oi := { dst := some 33, op := _, type := _, pos := _, after := _, guard := _ }) (v := undef) rfl (by kernel_rfl) (by kernel_rfl) (by kernel_rfl) (fun _ _ _ h => h) (Or.inr ⟨by simp [Region.wanted, yielded, hu], rfl⟩) hH ?_
        try simp only [Act.put, List.setIfInBounds_toArray, List.set_cons_zero, List.set_cons_succ]
        refine wpAnyH_take (i := 22) (oi := { dst := some 34, op := _, type := _, pos := _, after := _, guard := _ }) (v := undef) rfl (by kernel_rfl) (by kernel_rfl) (by kernel_rfl) (fun _ _ _ h => h) (Or.inr ⟨by simp [Region.wanted, yielded, hu], rfl⟩) hH ?_
        try simp only [Act.put, List.setIfInBounds_toArray, List.set_cons_zero, List.set_cons_succ]
        refine wpAnyH_take (i := 23) (oi := { dst := some 35, op := _, type := _, pos := _, after := _, guard := _ }) (v := undef) rfl (by kernel_rfl) (by kernel_rfl) (by kernel_rfl) (fun _ _ _ h => h) (Or.inr ⟨by simp [Region.wanted, yielded, hu], rfl⟩) hH ?_
        try simp only [Act.put, List.setIfInBounds_toArray, List.set_cons_zero, List.set_cons_succ]
        refine wpAnyH_take (i := 24) (oi := { dst := some 36, op := _, type := _, pos := _, after := _, guard := _ }) (v := ?_) rfl (by kernel_rfl) (by kernel_rfl) (by kernel_rfl) (fun _ _ _ h => h) (Or.inl ⟨by rfl, ?_⟩) hH ?_
        rotate_left 1
        · intro W hSw
          (try dsimp only at hSw)
          go_simp
          (try with_reducible rfl)
        try simp only [Act.put, List.setIfInBounds_toArray, List.set_cons_zero, List.set_cons_succ]
        refine wpAnyH_done (by kernel_rfl) ?_ _
        refine NoPanic.normal ?_
        all_goals go_wp2_with fail
        all_goals go_ret
        all_goals exact ⟨congrArg (fun b => Ending.returned (.bool b)) F.out.symm, BK.out.trans (Below.mono (by first | exact below_drewN (by go_grown) _ | go_grown) BK.out.size)⟩
      have D := Lib.hid (driftS hd)
      by_cases hk0 : k = 0
      · have U := Lib.hid (show okUp zs (k + 1) = true by
          have hz := HZ.out
          subst hk0
          rw [okUp_succ, UK.out, ok_first hz hw hd]; rfl)
        have t0 : decide ((0 : Int) < (k : Int)) = false := decide_eq_false (by omega)
        have t1 : decide (0 < k) = false := decide_eq_false (by omega)
        clear hw hd hk0 UK
        go_wp2_with fail
        refine wp_region_noPanic ?_
        refine wp_region_held_drew (S := (fun w' => w'.cell? ⟨wr.heap.size, 0, none⟩ = some (.int .i64 f) ∧ w'.cell? ⟨wr.heap.size, 1, none⟩ = some (.int .i64 x) ∧ w'.cell? ⟨wr.heap.size, 2, none⟩ = some (.int .i64 y))) (by kernel_rfl) ?_ (fun hH => ?_)
        · simp [go_sem]
        refine wpAnyH_take (i := 0) (oi := { dst := some 12, op := _, type := _, pos := _, after := _, guard := _ }) (v := ?_) rfl (by kernel_rfl) (by kernel_rfl) (by kernel_rfl) (fun _ _ _ h => h) (Or.inl ⟨by rfl, ?_⟩) hH ?_
        rotate_left 1
        · intro W hSw
          (try dsimp only at hSw)
          go_simp
          (try with_reducible rfl)
        try simp only [Act.put, List.setIfInBounds_toArray, List.set_cons_zero, List.set_cons_succ]
        refine wpAnyH_take (i := 1) (oi := { dst := some 13, op := _, type := _, pos := _, after := _, guard := _ }) (v := ?_) rfl (by kernel_rfl) (by kernel_rfl) (by kernel_rfl) (fun _ _ _ h => h) (Or.inl ⟨by rfl, ?_⟩) hH ?_
        rotate_left 1
        · intro W hSw
          (try dsimp only at hSw)
          go_simp
          (try with_reducible rfl)
        try simp only [Act.put, List.setIfInBounds_toArray, List.set_cons_zero, List.set_cons_succ]
        refine wpAnyH_ready (rs := [2]) (by kernel_rfl) (by simp) (AllReadyH.cons rfl (fun K hK => ?_) AllReadyH.nil)
        go_simp
        go_at_call 76; ((with_reducible refine (W.out _).mono ?_); rintro e w' ⟨rfl, rfl⟩); go_wp2_with fail
        refine hK.out _ _ ?_ (fun hG => ?_)
        · exact hH
        replace hH := hG
        clear hK K hG
        try simp only [Act.put, List.setIfInBounds_toArray, List.set_cons_zero, List.set_cons_succ]
        refine wpAnyH_take (i := 3) (oi := { dst := some 15, op := _, type := _, pos := _, after := _, guard := _ }) (v := ?_) rfl (by kernel_rfl) (by kernel_rfl) (by kernel_rfl) (fun _ _ _ h => h) (Or.inl ⟨by rfl, ?_⟩) hH ?_
        rotate_left 1
        · intro W hSw
          (try dsimp only at hSw)
          go_simp
          (try with_reducible rfl)
        try simp only [Act.put, List.setIfInBounds_toArray, List.set_cons_zero, List.set_cons_succ]
        refine wpAnyH_take (i := 4) (oi := { dst := some 16, op := _, type := _, pos := _, after := _, guard := _ }) (v := ?_) rfl (by kernel_rfl) (by kernel_rfl) (by kernel_rfl) (fun _ _ _ h => h) (Or.inl ⟨by rfl, ?_⟩) hH ?_
        rotate_left 1
        · intro W hSw
          (try dsimp only at hSw)
          go_simp
          (try with_reducible rfl)
        try simp only [Act.put, List.setIfInBounds_toArray, List.set_cons_zero, List.set_cons_succ]
        refine wpAnyH_take (i := 5) (oi := { dst := some 17, op := _, type := _, pos := _, after := _, guard := _ }) (v := ?_) rfl (by kernel_rfl) (by kernel_rfl) (by kernel_rfl) (fun _ _ _ h => h) (Or.inl ⟨by rfl, ?_⟩) hH ?_
        rotate_left 1
        · intro W hSw
          (try dsimp only at hSw)
          go_simp
          (try with_reducible rfl)
        try simp only [Act.put, List.setIfInBounds_toArray, List.set_cons_zero, List.set_cons_succ]
        refine wpAnyH_take (i := 6) (oi := { dst := some 18, op := _, type := _, pos := _, after := _, guard := _ }) (v := ?_) rfl (by kernel_rfl) (by kernel_rfl) (by kernel_rfl) (fun _ _ _ h => h) (Or.inl ⟨by rfl, ?_⟩) hH ?_
        rotate_left 1
        · intro W hSw
          (try dsimp only at hSw)
          go_simp
          (try with_reducible rfl)
        try simp only [Act.put, List.setIfInBounds_toArray, List.set_cons_zero, List.set_cons_succ]
        refine wpAnyH_ready (rs := [7]) (by kernel_rfl) (by simp) (AllReadyH.cons rfl (fun K hK => ?_) AllReadyH.nil)
        go_simp
        go_at_call 117; ((with_reducible refine (D.out _).mono ?_); rintro e w' ⟨rfl, rfl⟩); go_wp2_with fail
        refine hK.out _ _ ?_ (fun hG => ?_)
        · exact ⟨cell_alloc hH.1, cell_alloc hH.2.1, cell_alloc hH.2.2⟩
        replace hH := hG
        clear hK K hG
        try simp only [Act.put, List.setIfInBounds_toArray, List.set_cons_zero, List.set_cons_succ]
        refine wpAnyH_take (i := 8) (oi := { dst := some 20, op := _, type := _, pos := _, after := _, guard := _ }) (v := ?_) rfl (by kernel_rfl) (by kernel_rfl) (by kernel_rfl) (fun _ _ _ h => h) (Or.inl ⟨by rfl, ?_⟩) hH ?_
        rotate_left 1
        · intro W hSw
          (try dsimp only at hSw)
          go_simp
          (try with_reducible rfl)
        try simp only [Act.put, List.setIfInBounds_toArray, List.set_cons_zero, List.set_cons_succ]
        refine wpAnyH_take (i := 9) (oi := { dst := some 21, op := _, type := _, pos := _, after := _, guard := _ }) (v := ?_) rfl (by kernel_rfl) (by kernel_rfl) (by kernel_rfl) (fun _ _ _ h => h) (Or.inl ⟨by rfl, ?_⟩) hH ?_
        rotate_left 1
        · intro W hSw
          (try dsimp only at hSw)
          go_simp
          (try with_reducible rfl)
        try simp only [Act.put, List.setIfInBounds_toArray, List.set_cons_zero, List.set_cons_succ]
        refine wpAnyH_take (i := 10) (oi := { dst := some 22, op := _, type := _, pos := _, after := _, guard := _ }) (v := ?_) rfl (by kernel_rfl) (by kernel_rfl) (by kernel_rfl) (fun _ _ _ h => h) (Or.inl ⟨by rfl, ?_⟩) hH ?_
        rotate_left 1
        · intro W hSw
          (try dsimp only at hSw)
          go_simp
          (try with_reducible rfl)
        try simp only [Act.put, List.setIfInBounds_toArray, List.set_cons_zero, List.set_cons_succ]
        refine wpAnyH_take (i := 11) (oi := { dst := some 23, op := _, type := _, pos := _, after := _, guard := _ }) (v := ?_) rfl (by kernel_rfl) (by kernel_rfl) (by kernel_rfl) (fun _ _ _ h => h) (Or.inl ⟨by rfl, ?_⟩) hH ?_
        rotate_left 1
        · intro W hSw
          (try dsimp only at hSw)
          go_simp
          (try with_reducible rfl)
        try simp only [Act.put, List.setIfInBounds_toArray, List.set_cons_zero, List.set_cons_succ]
        refine wpAnyH_take (i := 12) (oi := { dst := some 24, op := _, type := _, pos := _, after := _, guard := _ }) (v := ?_) rfl (by kernel_rfl) (by kernel_rfl) (by kernel_rfl) (fun _ _ _ h => h) (Or.inl ⟨by rfl, ?_⟩) hH ?_
        rotate_left 1
        · intro W hSw
          (try dsimp only at hSw)
          go_simp
          (try with_reducible rfl)
        try simp only [Act.put, List.setIfInBounds_toArray, List.set_cons_zero, List.set_cons_succ]
        refine wpAnyH_take (i := 13) (oi := { dst := some 25, op := _, type := _, pos := _, after := _, guard := _ }) (v := ?_) rfl (by kernel_rfl) (by kernel_rfl) (by kernel_rfl) (fun _ _ _ h => h) (Or.inl ⟨by rfl, ?_⟩) hH ?_
        rotate_left 1
        · intro W hSw
          (try dsimp only at hSw)
          go_simp
          (try with_reducible rfl)
        try simp only [Act.put, List.setIfInBounds_toArray, List.set_cons_zero, List.set_cons_succ]
        refine wpAnyH_take (i := 14) (oi := { dst := some 26, op := _, type := _, pos := _, after := _, guard := _ }) (v := undef) rfl (by kernel_rfl) (by kernel_rfl) (by kernel_rfl) (fun _ _ _ h => h) (Or.inr ⟨by simp [Region.wanted, yielded, hu, t0, t1], rfl⟩) hH ?_
        try simp only [Act.put, List.setIfInBounds_toArray, List.set_cons_zero, List.set_cons_succ]
        refine wpAnyH_take (i := 15) (oi := { dst := some 27, op := _, type := _, pos := _, after := _, guard := _ }) (v := undef) rfl (by kernel_rfl) (by kernel_rfl) (by kernel_rfl) (fun _ _ _ h => h) (Or.inr ⟨by simp [Region.wanted, yielded, hu, t0, t1], rfl⟩) hH ?_
        try simp only [Act.put, List.setIfInBounds_toArray, List.set_cons_zero, List.set_cons_succ]
        refine wpAnyH_take (i := 16) (oi := { dst := some 28, op := _, type := _, pos := _, after := _, guard := _ }) (v := undef) rfl (by kernel_rfl) (by kernel_rfl) (by kernel_rfl) (fun _ _ _ h => h) (Or.inr ⟨by simp [Region.wanted, yielded, hu, t0, t1], rfl⟩) hH ?_
        try simp only [Act.put, List.setIfInBounds_toArray, List.set_cons_zero, List.set_cons_succ]
        refine wpAnyH_take (i := 17) (oi := { dst := some 29, op := _, type := _, pos := _, after := _, guard := _ }) (v := undef) rfl (by kernel_rfl) (by kernel_rfl) (by kernel_rfl) (fun _ _ _ h => h) (Or.inr ⟨by simp [Region.wanted, yielded, hu, t0, t1], rfl⟩) hH ?_
        try simp only [Act.put, List.setIfInBounds_toArray, List.set_cons_zero, List.set_cons_succ]
        refine wpAnyH_take (i := 18) (oi := { dst := some 30, op := _, type := _, pos := _, after := _, guard := _ }) (v := undef) rfl (by kernel_rfl) (by kernel_rfl) (by kernel_rfl) (fun _ _ _ h => h) (Or.inr ⟨by simp [Region.wanted, yielded, hu, t0, t1], rfl⟩) hH ?_
        try simp only [Act.put, List.setIfInBounds_toArray, List.set_cons_zero, List.set_cons_succ]
        refine wpAnyH_take (i := 19) (oi := { dst := some 31, op := _, type := _, pos := _, after := _, guard := _ }) (v := undef) rfl (by kernel_rfl) (by kernel_rfl) (by kernel_rfl) (fun _ _ _ h => h) (Or.inr ⟨by simp [Region.wanted, yielded, hu, t0, t1], rfl⟩) hH ?_
        try simp only [Act.put, List.setIfInBounds_toArray, List.set_cons_zero, List.set_cons_succ]
        refine wpAnyH_take (i := 20) (oi := { dst := some 32, op := _, type := _, pos := _, after := _, guard := _ }) (v := undef) rfl (by kernel_rfl) (by kernel_rfl) (by kernel_rfl) (fun _ _ _ h => h) (Or.inr ⟨by simp [Region.wanted, yielded, hu, t0, t1], rfl⟩) hH ?_
        try simp only [Act.put, List.setIfInBounds_toArray, List.set_cons_zero, List.set_cons_succ]
        refine wpAnyH_take (i := 21) (oi := { dst := some 33, op := _, type := _, pos := _, after := _, guard := _ }) (v := undef) rfl (by kernel_rfl) (by kernel_rfl) (by kernel_rfl) (fun _ _ _ h => h) (Or.inr ⟨by simp [Region.wanted, yielded, hu, t0, t1], rfl⟩) hH ?_
        try simp only [Act.put, List.setIfInBounds_toArray, List.set_cons_zero, List.set_cons_succ]
        refine wpAnyH_take (i := 22) (oi := { dst := some 34, op := _, type := _, pos := _, after := _, guard := _ }) (v := undef) rfl (by kernel_rfl) (by kernel_rfl) (by kernel_rfl) (fun _ _ _ h => h) (Or.inr ⟨by simp [Region.wanted, yielded, hu, t0, t1], rfl⟩) hH ?_
        try simp only [Act.put, List.setIfInBounds_toArray, List.set_cons_zero, List.set_cons_succ]
        refine wpAnyH_take (i := 23) (oi := { dst := some 35, op := _, type := _, pos := _, after := _, guard := _ }) (v := ?_) rfl (by kernel_rfl) (by kernel_rfl) (by kernel_rfl) (fun _ _ _ h => h) (Or.inl ⟨by rfl, ?_⟩) hH ?_
        rotate_left 1
        · intro W hSw
          (try dsimp only at hSw)
          go_simp
          (try with_reducible rfl)
        try simp only [Act.put, List.setIfInBounds_toArray, List.set_cons_zero, List.set_cons_succ]
        refine wpAnyH_take (i := 24) (oi := { dst := some 36, op := _, type := _, pos := _, after := _, guard := _ }) (v := ?_) rfl (by kernel_rfl) (by kernel_rfl) (by kernel_rfl) (fun _ _ _ h => h) (Or.inl ⟨by rfl, ?_⟩) hH ?_
        rotate_left 1
        · intro W hSw
          (try dsimp only at hSw)
          go_simp
          (try with_reducible rfl)
        try simp only [Act.put, List.setIfInBounds_toArray, List.set_cons_zero, List.set_cons_succ]
        refine wpAnyH_done (by kernel_rfl) ?_ _
        refine NoPanic.normal ?_
        all_goals go_wp2_with fail
        all_goals
          go_roundw
          case rel => first | exact ⟨k + 1, by omega, by go_num, U, Lib.hid (BK.out.trans (Below.mono (by go_grown) BK.out.size))⟩ | ((repeat apply Exists.intro); exact ⟨⟨k + 1, by omega, by go_num, U, Lib.hid (BK.out.trans (Below.mono (by go_grown) BK.out.size))⟩, rfl⟩)
          case measure => simp [intOf]; omega
      · obtain ⟨p, hp⟩ : ∃ p, zs[k - 1]? = some p := ⟨_, List.getElem?_eq_getElem (by rw [HN.out]; omega)⟩
        have c4 := HP.out p hp
        have E := Lib.hid (ok_next HZ.out hw hd hk0 hp)
        obtain ⟨pf, px, py⟩ := p
        simp only at c4
        have t0 : decide ((0 : Int) < (k : Int)) = true := decide_eq_true (by omega)
        have t9 : decide (0 < k) = true := decide_eq_true (by omega)
        have t1 : IntKind.i64.wrap ((k : Int) - 1) = (k : Int) - 1 := IntWalk.i64_in _ (by omega)
        have t2 : (0 : Int) ≤ (k : Int) - 1 := by omega
        have t10 : (1 : Int) ≤ (k : Int) := by omega
        have t11 : 1 ≤ k := by omega
        have t12 : 0 < k := by omega
        have t3 : ((k : Int) - 1).toNat = k - 1 := by omega
        have t4 : (k : Int) - 1 < (n : Int) := by omega
        by_cases hpf : pf < f
        · have U := Lib.hid (show okUp zs (k + 1) = true by rw [okUp_succ, UK.out, E.out, decide_eq_true hpf]; rfl)
          have t5 : decide (f ≤ pf) = false := decide_eq_false (by omega)
          have t6 : ¬ f ≤ pf := by omega
          clear hw hd UK E hp hpf
          go_wp2_with fail
          go_region_held3 (fun w' => w'.cell? ⟨wr.heap.size, 0, none⟩ = some (.int .i64 f) ∧ w'.cell? ⟨wr.heap.size, 1, none⟩ = some (.int .i64 x) ∧ w'.cell? ⟨wr.heap.size, 2, none⟩ = some (.int .i64 y) ∧ w'.cell? ⟨b, o + (k - 1) * 3, none⟩ = some (.int .i64 pf)) (simp [go_sem, *])
            (first
              | (go_at_call 76; ((with_reducible refine (W.out _).mono ?_); rintro e w' ⟨rfl, rfl⟩))
              | (go_at_call 117; ((with_reducible refine (D.out _).mono ?_); rintro e w' ⟨rfl, rfl⟩)))
          all_goals go_wp2_with fail
          all_goals
            go_roundw
            case rel => first | exact ⟨k + 1, by omega, by go_num, U, Lib.hid (BK.out.trans (Below.mono (by go_grown) BK.out.size))⟩ | ((repeat apply Exists.intro); exact ⟨⟨k + 1, by omega, by go_num, U, Lib.hid (BK.out.trans (Below.mono (by go_grown) BK.out.size))⟩, rfl⟩)
            case measure => simp [intOf]; omega
        · have F := Lib.hid (wd_no HN.out hlt (E.out.trans (decide_eq_false hpf)))
          have t5 : decide (f ≤ pf) = true := decide_eq_true (by omega)
          have t6 : f ≤ pf := by omega
          clear hw hd UK E hp hpf
          go_wp2_with fail
          go_region_held3 (fun w' => w'.cell? ⟨wr.heap.size, 0, none⟩ = some (.int .i64 f) ∧ w'.cell? ⟨wr.heap.size, 1, none⟩ = some (.int .i64 x) ∧ w'.cell? ⟨wr.heap.size, 2, none⟩ = some (.int .i64 y) ∧ w'.cell? ⟨b, o + (k - 1) * 3, none⟩ = some (.int .i64 pf)) (simp [go_sem, *])
            (first
              | (go_at_call 76; ((with_reducible refine (W.out _).mono ?_); rintro e w' ⟨rfl, rfl⟩))
              | (go_at_call 117; ((with_reducible refine (D.out _).mono ?_); rintro e w' ⟨rfl, rfl⟩)))
          all_goals go_wp2_with fail
          all_goals go_ret
          all_goals exact ⟨congrArg (fun b => Ending.returned (.bool b)) F.out.symm, BK.out.trans (Below.mono (by first | exact below_drewN (by go_grown) _ | go_grown) BK.out.size)⟩
    · obtain rfl : k = n := by omega
      have F := Lib.hid (wd_fin HN.out UK.out)
      go_wp2_with fail
      go_ret
      exact ⟨by rw [F.out, show decide ((k : Int) ≤ 8) = decide (k ≤ 8) from decide_eq_decide.2 (by omega)]; rfl, BK.out⟩

end Go.Proofs.YtokncfhpmjohdabGreat.Wi
