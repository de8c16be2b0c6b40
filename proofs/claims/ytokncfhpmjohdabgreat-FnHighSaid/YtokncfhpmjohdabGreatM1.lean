/- Words for memory that the proofs of this program share: a slice that reads as a list of cells, and what the laws' own helpers on lists of integers do. -/
import Derived.Test.YtokncfhpmjohdabGreatRows
import Derived.WalkKit
import Derived.WalkLawsBesides
import Derived.Lib.Hide
import Derived.Laws.OwnMore
import Derived.OwnWalk
import Derived.Deep.QuietTactic
import Derived.BigQuiet
import Derived.Deep.Draws
import Derived.ProofKit
import Derived.OpenShut
import Derived.SliceStrings
import Derived.Deep.Slices
import Derived.Deep.SlicePairs
import Derived.Lib.SmallJoins
import Derived.ChangeArms
set_option linter.unusedVariables false
set_option linter.unusedSimpArgs false
namespace Go.Proofs.YtokncfhpmjohdabGreat.Mem
open Go.RowKit Go.ChangeShapes Go.WideShapes Go.WideElems

/-- The address A reads, cell by cell, as xs, all below block B. -/
def Rd (w : World) (B : Nat) (A : Option Addr) (xs : List Value) : Prop :=
  xs = [] ∨ ∃ b o, A = some ⟨b, o, none⟩ ∧ b < B ∧ ∀ j v, xs[j]? = some v → w.cell? ⟨b, o + j, none⟩ = some v

theorem Rd.nil (w : World) (B : Nat) (A : Option Addr) : Rd w B A [] := Or.inl rfl

theorem Rd.get {w : World} {B : Nat} {A : Option Addr} {xs : List Value} (h : Rd w B A xs) {k : Nat} (hk : k < xs.length) :
    ∃ b o, A = some ⟨b, o, none⟩ ∧ b < B ∧ ∀ j v, xs[j]? = some v → w.cell? ⟨b, o + j, none⟩ = some v := by
  rcases h with rfl | h
  · exact absurd hk (Nat.not_lt_zero _)
  · exact h

theorem Rd.keep {w w' : World} {B : Nat} {A : Option Addr} {xs : List Value} (h : Rd w B A xs) (hc : ∀ p : Addr, p.block < B → w'.cell? p = w.cell? p) : Rd w' B A xs := by
  rcases h with h | ⟨b, o, e, hb, hx⟩
  · exact Or.inl h
  · exact Or.inr ⟨b, o, e, hb, fun j v hv => (hc _ hb).trans (hx j v hv)⟩

theorem Rd.below {w w' : World} {B : Nat} {A : Option Addr} {xs : List Value} (h : Rd w B A xs) (hb : Below B w w') : Rd w' B A xs := h.keep fun _ hp => hb.cell hp
theorem Rd.more {w : World} {B B' : Nat} {A : Option Addr} {xs : List Value} (h : Rd w B A xs) (hB : B ≤ B') : Rd w B' A xs := by
  rcases h with h | ⟨b, o, e, hb, hx⟩
  · exact Or.inl h
  · exact Or.inr ⟨b, o, e, Nat.lt_of_lt_of_le hb hB, hx⟩
theorem Rd.drewN {w : World} {B : Nat} {A : Option Addr} {xs : List Value} (h : Rd w B A xs) (n : Nat) : Rd (w.drewN n) B A xs := h.keep fun _ _ => rfl

theorem Rd.own {w : World} {base : Nat} {e : TypeId} {size g n c : Nat} {xs : List Value} (h : w.ownsRow base e size (.slice (some ⟨g, 0, none⟩) n c) n xs) : Rd w w.heap.size (some ⟨g, 0, none⟩) xs := by
  by_cases hx : xs = []
  · exact Or.inl hx
  · have hl : xs.length = n * size := h.1
    refine Or.inr ⟨g, 0, rfl, (h.lt g rfl).2, fun j v hv => ?_⟩
    have hj : j < xs.length := (List.getElem?_eq_some_iff.1 hv).1
    rw [Nat.zero_add, h.cellAt j (by omega), hv]

theorem below_drewN {B : Nat} {a w : World} (h : Below B a w) (n : Nat) : Below B a (w.drewN n) := by
  induction n with
  | zero => exact h
  | succ n ih => exact h.trans ⟨rfl, rfl, rfl, Nat.le_refl _, fun _ _ => rfl⟩

def ints (zs : List Int) : List Value := zs.map (Value.int .i64)
theorem ints_len (zs : List Int) : (ints zs).length = zs.length := List.length_map ..
/-- A list that is filled from the left: the first k values are there, the others are still z. -/
def filled (xs : List Value) (z : Value) (k : Nat) : List Value := xs.take k ++ List.replicate (xs.length - k) z
theorem filled_zero (xs : List Value) (z : Value) : filled xs z 0 = List.replicate xs.length z := by simp [filled]
theorem filled_all (xs : List Value) (z : Value) : filled xs z xs.length = xs := by simp [filled]
theorem filled_get {xs : List Value} {z : Value} {k : Nat} (hk : k < xs.length) : (filled xs z k)[k]? = some z := by
  unfold filled
  rw [List.getElem?_append_right (by rw [List.length_take]; omega), List.length_take, Nat.min_eq_left (by omega), Nat.sub_self, List.getElem?_replicate, if_pos (by omega)]
theorem filled_set {xs : List Value} {z : Value} {k : Nat} (hk : k < xs.length) : (filled xs z k).set k xs[k] = filled xs z (k + 1) := by
  apply List.ext_getElem?
  intro j
  unfold filled
  rw [List.getElem?_set]
  by_cases e : k = j
  · subst e
    rw [if_pos rfl, if_pos (by simp; omega), List.getElem?_append_left (by simp; omega), List.getElem?_take_of_lt (by omega), List.getElem?_eq_getElem hk]
  · rw [if_neg e]
    by_cases hj : j < k
    · rw [List.getElem?_append_left (by simp; omega), List.getElem?_append_left (by simp; omega), List.getElem?_take_of_lt hj, List.getElem?_take_of_lt (by omega)]
    · rw [List.getElem?_append_right (by simp; omega), List.getElem?_append_right (by simp; omega), List.getElem?_replicate, List.getElem?_replicate]
      simp only [List.length_take]
      congr 1
      rw [eq_iff_iff]
      omega

theorem filled_put {xs : List Value} {z v : Value} {k : Nat} (h : xs[k]? = some v) : (filled xs z k).set k v = filled xs z (k + 1) := by
  obtain ⟨hk, rfl⟩ := List.getElem?_eq_some_iff.1 h
  exact filled_set hk
section
variable {H : Type} {enc : TypeId × Value → H} {P : Program}

/-- Arguments that are not written read as they did. -/
theorem trodAll_stays {W W' : World} {sp : Nat → Bool} (hl : laidOutB P = true) (hb : Below W.heap.size W W') : ∀ {ts : List TypeId} {vs : List Value} {ds : List (DataW H)} {ps : List MemPlace},
    (∀ t ∈ ts, P.readableRec t = true ∧ t < P.types.size) → DataW.TrodAll enc P W 0 (fun _ => true) true ts vs ds ps → (∀ x ∈ ps, x.block < W.heap.size) → (∀ x ∈ ps, sp x.block = true) → DataW.TrodAll enc P W' 0 sp true ts vs ds ps
  | [], _, _, _, _, h, _, _ => by
    obtain ⟨rfl, rfl, rfl⟩ := trodAll_nil h
    exact trodAll_mk0
  | t :: ts, _, _, _, hr, h, hlt, hsp => by
    obtain ⟨v, vs', d, ds', p, q, rfl, rfl, rfl, h0, h1⟩ := trodAll_cons h
    obtain ⟨r1, r2⟩ := hr t (List.mem_cons_self ..)
    exact trodAll_cons_mk (Trod_stays hl r1 r2 h0 (fun x hx => hb.same (hlt x (List.mem_append_left _ hx))) (fun x hx => hsp x (List.mem_append_left _ hx)))
      (trodAll_stays hl hb (fun t' ht' => hr t' (List.mem_cons_of_mem _ ht')) h1 (fun x hx => hlt x (List.mem_append_right _ hx)) (fun x hx => hsp x (List.mem_append_right _ hx)))

/-- The row's last step for a law whose call leaves all old memory as it was. -/
theorem post_law {f : Func} {s : ChangeSpec} {fresh handsOn again : Bool} {W W' : World} {args : Array Value} {ds : List (DataW H)} {before : List MemPlace}
    (hv : s.vars = []) (hW : DataW.Whole enc P f.params.toList s.vars false W args.toList ds [] before)
    (hA : DataW.TrodAll enc P W 0 (fun _ => true) true f.params.toList args.toList ds before)
    (hl : laidOutB P = true) (hr : ∀ t ∈ f.params.toList, P.readableRec t = true ∧ t < P.types.size) (tb : TypeId) (hrt : f.resultTypes = #[tb]) (htb : P.underlying tb = some .bool)
    (hs : s.fn H (ds ++ []) = { results := [.lit (.bool true)], args := ds }) (hb : Below W.heap.size W W') :
    s.post enc P f false fresh handsOn again W args (.bool true) W' := by
  have hlt : ∀ p ∈ before, p.block < W.heap.size := fun p hp => hW.lt p hp
  have hargs : ∀ sp : Nat → Bool, (∀ p ∈ before, sp p.block = true) → DataW.TrodAll enc P W' 0 sp true f.params.toList args.toList ds before := fun sp hsp => trodAll_stays hl hb hr hA hlt hsp
  have hold : ∀ p ∈ before, (fun b => decide (b < W.heap.size)) p.block = true := fun p hp => by simpa using hlt p hp
  have hres : ∀ (b : Nat) (sp : Nat → Bool) (hd : Bool), DataW.TrodAll enc P W' b sp hd f.resultTypes.toList ((Value.bool true).resultList f.resultTypes.size) [.lit (.bool true)] [] := fun b sp hd => by
    rw [hrt]
    exact trodAll_cons_mk (shut_bool htb true) trodAll_mk0
  have hvars : ∀ sp : Nat → Bool, DataW.TrodVars enc P W' sp s.vars [] [] := fun sp => by rw [hv]; rfl
  refine ⟨ds, [], before, [], before, [], hW, by rw [hs]; exact hres _ _ _, by rw [hs]; exact hargs _ hold, by rw [hs]; exact hvars _, World.keptBut_mono (fun p hp => ⟨hp, ?_⟩) (hb.frame (· ∈ before)), fun _ => ?_⟩
  · simpa using hp
  · obtain ⟨_, _, _, _, _, hz, _⟩ := hW
    refine ⟨?_, _, _, ([] ++ before) ++ [], ⟨[] ++ before, [], trodAll_append (hargs _ (fun _ _ => rfl)) (hres _ _ _), hvars _, rfl, ?_, fun h => by cases h⟩, ?_⟩
    · intro j t r ht hr'
      rw [hrt] at ht hr'
      match j, ht, hr' with
      | 0, ht, hr' =>
        simp at ht
        subst ht
        simp [Value.resultList] at hr'
        subst hr'
        exact okWide_bool_mk htb _
      | j + 1, ht, _ => simp at ht
    · intro b off hp
      have hin : MemPlace.cell b off ∈ before := by simpa using hp
      rw [hb.frozen (hlt _ hin)]
      exact hz b off hin
    · intro p hp _
      simpa using hp

end

end Go.Proofs.YtokncfhpmjohdabGreat.Mem
namespace Go.Proofs.YtokncfhpmjohdabGreat.Rw
open Go.RowKit Go.ChangeShapes Go.WideShapes Go.WideElems Go.Deep Go.Proofs.YtokncfhpmjohdabGreat.Mem
set_option linter.unusedVariables false

section
variable {G : Type} {cells : G → List Value} {K : Nat}
theorem flat_len (hl : ∀ g, (cells g).length = K) : ∀ zs : List G, (zs.flatMap cells).length = zs.length * K
  | [] => by simp
  | z :: zs => by rw [List.flatMap_cons, List.length_append, hl, flat_len hl zs, List.length_cons, Nat.add_mul]; omega
theorem flat_get (hl : ∀ g, (cells g).length = K) : ∀ {zs : List G} {k : Nat} {z : G}, zs[k]? = some z → ∀ j, j < K → (zs.flatMap cells)[k * K + j]? = (cells z)[j]?
  | [], _, _, h, _, _ => by simp at h
  | q :: zs, 0, z, h, j, hj => by
    simp at h; subst h
    rw [List.flatMap_cons, Nat.zero_mul, Nat.zero_add, List.getElem?_append_left (by rw [hl]; exact hj)]
  | q :: zs, k + 1, z, h, j, hj => by
    have := flat_get hl (zs := zs) (k := k) (z := z) (by simpa using h) j hj
    rw [List.flatMap_cons, List.getElem?_append_right (by rw [hl, Nat.add_mul]; omega), hl, show (k + 1) * K + j - K = k * K + j by rw [Nat.add_mul]; omega]
    exact this
theorem flat_snoc (zs : List G) (z : G) : (zs ++ [z]).flatMap cells = zs.flatMap cells ++ cells z := by simp

variable {H : Type} {enc : TypeId × Value → H} {P : Program}
end

theorem info_of {P : Program} {e : TypeId} {z : Value} {n b : Nat} (h : (P.info? e).map (fun i => (i.zero, i.size, i.bytes)) = some (some z, n, b)) : ∃ i, P.info? e = some i ∧ i.zero = some z ∧ i.size = n ∧ i.bytes = b := by
  match hi : P.info? e, h with
  | some i, h => simp at h; exact ⟨i, rfl, h.1, h.2.1, h.2.2⟩
  | none, h => simp at h

theorem made_ints (z : Value) (K : Nat) (hz : ∀ j, j < K → z.cells[j]? = some (.int .i64 0)) (hs : z.cells.size = K) (hK : 0 < K) (n : Nat) : (madeCells z.cells (n * K)).toList = List.replicate (n * K) (.int .i64 0) := by
  apply List.ext_getElem?
  intro j
  rw [Array.getElem?_toList, List.getElem?_replicate]
  simp only [madeCells]
  by_cases h : j < n * K
  · have hm : j % K < K := Nat.mod_lt _ hK
    have := hz _ hm
    simp [h, hs]
    rw [getElem!_def, this]
  · simp [h]

theorem owns_below {w w' : World} {base : Nat} {e : TypeId} {size : Nat} {v : Value} {n : Nat} {xs : List Value} (h : w.ownsRow base e size v n xs) (hb : Below w.heap.size w w') : w'.ownsRow base e size v n xs := by
  refine ⟨h.1, h.2.imp id fun ⟨g, cap, cur, e1, e2, e3, e4⟩ => ⟨g, cap, cur, e1, e2, (hb.block g ?_).trans e3, e4⟩⟩
  exact (Array.getElem?_eq_some_iff.1 e3).1

/-- m numbers from k on. -/
def mk (k m : Nat) : List Value := (List.range m).map fun j : Nat => .int .i64 ((k : Int) + (j : Int))
theorem owns_grown {w w' : World} {base : Nat} {e : TypeId} {size : Nat} {v : Value} {n : Nat} {xs : List Value} {r : Option Nat} (h : w.ownsRow base e size v n xs) (hg : w.grownBy w' r) (hr : ∀ k, v.ownBlock = some k → r ≠ some k) : w'.ownsRow base e size v n xs := by
  refine ⟨h.1, h.2.imp id fun ⟨g, cap, cur, e1, e2, e3, e4⟩ => ⟨g, cap, cur, e1, e2, ?_, e4⟩⟩
  rw [hg.block g (Array.getElem?_eq_some_iff.1 e3).1 (fun k => hr g (by rw [e1]; rfl) k.symm)]
  exact e3
theorem owns_base {w : World} {base base' : Nat} {e : TypeId} {size g n c : Nat} {xs : List Value} (h : w.ownsRow base e size (.slice (some ⟨g, 0, none⟩) n c) n xs) (hg : base' ≤ g) : w.ownsRow base' e size (.slice (some ⟨g, 0, none⟩) n c) n xs := by
  refine ⟨h.1, h.2.imp id fun ⟨g', cap, cur, e1, e2, e3, e4⟩ => ⟨g', cap, cur, e1, ?_, e3, e4⟩⟩
  injection e1 with e1; injection e1 with e1; injection e1 with e1
  omega
theorem rd_grown {w w' : World} {B : Nat} {A : Option Addr} {xs : List Value} {r : Option Nat} (h : Rd w B A xs) (hg : w.grownBy w' r) (hB : B ≤ w.heap.size) (hr : ∀ k, r = some k → B ≤ k) : Rd w' B A xs :=
  h.below ((Below.refl _ _).grown hg hB hr)
theorem grown_trans {a b c : World} {row : Option Nat} (h : a.grownBy b row) (k : b.grownBy c row) : a.grownBy c row :=
  ⟨k.os.trans h.os, k.tape.trans h.tape, k.output.trans h.output, Nat.le_trans h.size k.size, fun j hj hr => (k.block j (Nat.lt_of_lt_of_le hj h.size) hr).trans (h.block j hj hr)⟩
theorem grown_refl (w : World) (r : Option Nat) : w.grownBy w r := ⟨rfl, rfl, rfl, Nat.le_refl _, fun _ _ _ => rfl⟩

end Go.Proofs.YtokncfhpmjohdabGreat.Rw
namespace Go.Proofs.YtokncfhpmjohdabGreat.Str
open Go.RowKit Go.ChangeShapes Go.WideShapes Go.WideElems Go.Joins Go.Deep

/-- A place's value. -/
def pv (x y : Int) : Value := .agg #[.int .i64 x, .int .i64 y]
/-- A box's value. -/
def bv (x y z u : Int) : Value := .agg #[.int .i64 x, .int .i64 y, .int .i64 z, .int .i64 u]

section
variable {H : Type} {enc : TypeId × Value → H} {P : Program}

end
end Go.Proofs.YtokncfhpmjohdabGreat.Str
namespace Go.Proofs.YtokncfhpmjohdabGreat.Cd
open Go.RowKit Go.ChangeShapes Go.WideShapes Go.WideElems Go.Joins Go.Deep Go.Proofs.YtokncfhpmjohdabGreat.Mem Go.Proofs.YtokncfhpmjohdabGreat.Rw
set_option linter.unusedVariables false
set_option linter.unusedSimpArgs false

/-- A cue. -/
structure C where
  tk : Int
  nm : ByteArray
  lv : Int
  rp : Int
instance : Inhabited C := ⟨⟨0, ByteArray.empty, 0, 0⟩⟩
/-- The cells of a cue. -/
abbrev cl (t : Int) (n : ByteArray) (l r : Int) : List Value := [.int .i64 t, .string n, .int .i64 l, .int .i64 r]
abbrev ca (t : Int) (n : ByteArray) (l r : Int) : Array Value := #[.int .i64 t, .string n, .int .i64 l, .int .i64 r]
/-- A cue's value. -/
abbrev va (t : Int) (n : ByteArray) (l r : Int) : Value := .agg #[.int .i64 t, .string n, .int .i64 l, .int .i64 r]
def dc (d : C) : List Value := cl d.tk d.nm d.lv d.rp
theorem dc_len (d : C) : (dc d).length = 4 := rfl
def dls (zs : List C) : List Value := zs.flatMap dc
theorem dls_len (zs : List C) : (dls zs).length = zs.length * 4 := flat_len dc_len zs
theorem dls_get {zs : List C} {k : Nat} {t : Int} {n : ByteArray} {l r : Int} (hz : zs[k]? = some ⟨t, n, l, r⟩) :
    (dls zs)[k * 4]? = some (.int .i64 t) ∧ (dls zs)[k * 4 + 1]? = some (.string n) ∧ (dls zs)[k * 4 + 2]? = some (.int .i64 l) ∧ (dls zs)[k * 4 + 3]? = some (.int .i64 r) :=
  ⟨(flat_get dc_len hz 0 (by omega)).trans rfl, (flat_get dc_len hz 1 (by omega)).trans rfl, (flat_get dc_len hz 2 (by omega)).trans rfl, (flat_get dc_len hz 3 (by omega)).trans rfl⟩
theorem dls_snoc (zs : List C) (z : C) : dls zs ++ dc z = dls (zs ++ [z]) := (flat_snoc zs z).symm

/-- What a cue that came in is within. -/
def Dok (d : C) : Prop := d.nm.size ≤ maxLen ∧ (Lit.int .i64 d.tk).wf = true ∧ (Lit.int .i64 d.lv).wf = true ∧ (Lit.int .i64 d.rp).wf = true

section
variable {H : Type} {enc : TypeId × Value → H} {P : Program}
end
end Go.Proofs.YtokncfhpmjohdabGreat.Cd
