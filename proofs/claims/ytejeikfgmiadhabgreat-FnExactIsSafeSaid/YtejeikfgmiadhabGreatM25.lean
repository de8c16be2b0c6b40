/- What the model answers for a heading that is turned. -/
import Derived.Test.YtejeikfgmiadhabGreatM9
import Derived.Test.YtejeikfgmiadhabGreatIr
import Derived.Test.YtejeikfgmiadhabGreatNd
import Derived.Test.YtejeikfgmiadhabGreatM8
import Derived.Test.YtejeikfgmiadhabGreatIq
import Derived.BigRegion
set_option linter.unusedVariables false
set_option linter.unusedSimpArgs false
namespace Go.Proofs.YtejeikfgmiadhabGreat.Hd
open Go.RowKit Go.Proofs.YtejeikfgmiadhabGreat.Cm Go.Proofs.YtejeikfgmiadhabGreat.Pl
set_option linter.unusedVariables false

end Go.Proofs.YtejeikfgmiadhabGreat.Hd
namespace Go.Proofs.YtejeikfgmiadhabGreat.Mo
open Go.RowKit Go.ChangeShapes Go.WideShapes Go.WideElems Go.Deep Go.Proofs.YtejeikfgmiadhabGreat.Mem Go.Proofs.YtejeikfgmiadhabGreat.Rw Go.Proofs.YtejeikfgmiadhabGreat.Pw Go.Proofs.YtejeikfgmiadhabGreat.P2 Go.Proofs.YtejeikfgmiadhabGreat.Dd Go.Proofs.YtejeikfgmiadhabGreat.Dv Go.Proofs.YtejeikfgmiadhabGreat.Dl Go.Proofs.YtejeikfgmiadhabGreat.Ds Go.Proofs.YtejeikfgmiadhabGreat.Fd Go.Proofs.YtejeikfgmiadhabGreat.Ch Go.Proofs.YtejeikfgmiadhabGreat.Hn Go.Proofs.YtejeikfgmiadhabGreat.Po
set_option linter.unusedVariables false
set_option linter.unusedSimpArgs false
open Go.Proofs.YtejeikfgmiadhabGreat.Cm Go.Proofs.YtejeikfgmiadhabGreat.Pl Go.Proofs.YtejeikfgmiadhabGreat.Str Go.Proofs.YtejeikfgmiadhabGreat.Hd Go.Proofs.YtejeikfgmiadhabGreat.Jt Go.Proofs.YtejeikfgmiadhabGreat.Ho Go.Proofs.YtejeikfgmiadhabGreat.Pa Go.Proofs.YtejeikfgmiadhabGreat.Di Go.Proofs.YtejeikfgmiadhabGreat.Ig Go.Proofs.YtejeikfgmiadhabGreat.Ir Go.Proofs.YtejeikfgmiadhabGreat.IsName
open Go.Proofs.YtejeikfgmiadhabGreat.Rw (owns_below owns_grown)

/-- A device that is turned and moved. -/
def mvD (n a b : Int) (d : D) : D := if d.kd = 1 then d else ⟨d.nm, d.kd, d.ln, tx (n % 4).toNat d.x d.y + a, ty (n % 4).toNat d.x d.y + b, if d.kd = 2 then th d.hd n else d.hd, d.tl, d.ms⟩
theorem mvD_1 {n a b : Int} {d : D} (h : d.kd = 1) : mvD n a b d = d := by unfold mvD; rw [if_pos h]
theorem mvD_o {n a b : Int} {d : D} (h : d.kd ≠ 1) : mvD n a b d = ⟨d.nm, d.kd, d.ln, tx (n % 4).toNat d.x d.y + a, ty (n % 4).toNat d.x d.y + b, if d.kd = 2 then th d.hd n else d.hd, d.tl, d.ms⟩ := by unfold mvD; rw [if_neg h]
theorem dB_kinds {d : D} (h : dB d = true) : d.kd = 1 ∨ d.kd = 2 ∨ d.kd = 3 := by
  unfold dB devB at h
  rw [Bool.and_eq_true] at h
  by_cases h1 : d.kd = 1
  · exact Or.inl h1
  by_cases h2 : d.kd = 2
  · exact Or.inr (Or.inl h2)
  by_cases h3 : d.kd = 3
  · exact Or.inr (Or.inr h3)
  · rw [if_neg h1, if_neg h2, if_neg h3] at h; cases h.2
/-- A list of the call's own that holds these devices. -/
def RowD (w : World) (ds : List D) (e : Ending) (w' : World) : Prop :=
  ∃ g c, e = .returned (.slice (some ⟨g, 0, none⟩) ds.length c) ∧ w'.ownsRow w.heap.size 102 8 (.slice (some ⟨g, 0, none⟩) ds.length c) ds.length (dls ds) ∧ Below w.heap.size w w'
/-- .. and whether it has all of them. -/
def RowB (w : World) (ds : List D) (r : Bool) (e : Ending) (w' : World) : Prop :=
  ∃ g c, e = .returned (.tuple #[.slice (some ⟨g, 0, none⟩) ds.length c, .bool r]) ∧ w'.ownsRow w.heap.size 102 8 (.slice (some ⟨g, 0, none⟩) ds.length c) ds.length (dls ds) ∧ Below w.heap.size w w'
theorem own_mk {w : World} {base n : Nat} {v : Value} {xs : List Value} (h : w.ownsRow base 102 8 v (n + 1) xs) : ∃ g c, v = .slice (some ⟨g, 0, none⟩) (n + 1) c := by
  rcases h.2 with ⟨_, e⟩ | ⟨g, cap, cur, e, _⟩
  · omega
  · exact ⟨g, cap, e⟩
theorem own_drew {w : World} {base n : Nat} {v : Value} {xs : List Value} (h : w.ownsRow base 102 8 v n xs) : w.drew.ownsRow base 102 8 v n xs := ⟨h.1, h.2⟩
theorem own_base {w : World} {base n : Nat} {v : Value} {xs : List Value} (h : w.ownsRow base 102 8 v n xs) : ∀ k, v.ownBlock = some k → base ≤ k := fun k e => (h.lt k e).1

end Go.Proofs.YtejeikfgmiadhabGreat.Mo
namespace Go.Proofs.YtejeikfgmiadhabGreat.Dr4
open Go.RowKit Go.Proofs.YtejeikfgmiadhabGreat.Cm Go.Proofs.YtejeikfgmiadhabGreat.Pl Go.Proofs.YtejeikfgmiadhabGreat.Str Go.Proofs.YtejeikfgmiadhabGreat.Pw Go.Proofs.YtejeikfgmiadhabGreat.P2 Go.Proofs.YtejeikfgmiadhabGreat.Hd Go.Proofs.YtejeikfgmiadhabGreat.Jt Go.Proofs.YtejeikfgmiadhabGreat.Dp
set_option linter.unusedVariables false
set_option linter.unusedSimpArgs false

/-- Block b is a jet of the call's own. -/
def JB (w : World) (b : Nat) (x y h t l : Int) : Prop := w.heap[b]? = some (.cells (jc x y h t l) 70 (0, 0))
section
variable {w w' : World} {b b' : Nat} {x y h t l u : Int}
theorem JB.c (k : JB w b x y h t l) : J5 w b x y h t l := by
  have e : w.heap[b]? = _ := k
  refine ⟨?_, ?_, ?_, ?_, ?_⟩ <;> simp [World.cell?, e]
theorem JB.f (k : JB w b x y h t l) (i : Nat) (hi : i < 5 := by omega) : w.frozen? ⟨b, i, none⟩ = false := by simp [World.frozen?, show w.heap[b]? = _ from k]
theorem JB.lt (k : JB w b x y h t l) : b < w.heap.size := (Array.getElem?_eq_some_iff.1 k).1
theorem JB.new (w : World) (x y h t l : Int) : JB (w.alloc (.cells (jc x y h t l) 70)) w.heap.size x y h t l := heap_alloc_new w _
theorem JB.alloc (k : JB w b x y h t l) (o : Obj) : JB (w.alloc o) b x y h t l := (Below.heap_alloc _ _ _ k.lt).trans k
theorem JB.below (k : JB w b x y h t l) (hb : Below w.heap.size w w') : JB w' b x y h t l := (hb.block b k.lt).trans k
theorem JB.drew (k : JB w b x y h t l) : JB w.drew b x y h t l := k
theorem JB.grown {r : Option Nat} (k : JB w b x y h t l) (g : w.grownBy w' r) (hr : some b ≠ r) : JB w' b x y h t l := (g.block b k.lt hr).trans k
theorem JB.other (k : JB w b x y h t l) (j : Nat) (v : Value) (hne : b ≠ b') : JB (w.setCell ⟨b', j, none⟩ v) b x y h t l := (Below.heap_setCell _ _ _ _ hne).trans k
theorem JB.set0 (u : Int) (k : JB w b x y h t l) : JB (w.setCell ⟨b, 0, none⟩ (.int .i64 u)) b u y h t l := by
  obtain ⟨hlt, hk⟩ := Array.getElem?_eq_some_iff.1 k
  show (w.heap.modify b _)[b]? = _
  rw [Array.getElem?_eq_getElem (by rw [Array.size_modify]; exact hlt), Array.getElem_modify_self, hk]
  rfl
theorem JB.set1 (u : Int) (k : JB w b x y h t l) : JB (w.setCell ⟨b, 1, none⟩ (.int .i64 u)) b x u h t l := by
  obtain ⟨hlt, hk⟩ := Array.getElem?_eq_some_iff.1 k
  show (w.heap.modify b _)[b]? = _
  rw [Array.getElem?_eq_getElem (by rw [Array.size_modify]; exact hlt), Array.getElem_modify_self, hk]
  rfl
theorem JB.set2 (u : Int) (k : JB w b x y h t l) : JB (w.setCell ⟨b, 2, none⟩ (.int .i64 u)) b x y u t l := by
  obtain ⟨hlt, hk⟩ := Array.getElem?_eq_some_iff.1 k
  show (w.heap.modify b _)[b]? = _
  rw [Array.getElem?_eq_getElem (by rw [Array.size_modify]; exact hlt), Array.getElem_modify_self, hk]
  rfl
theorem JB.set3 (u : Int) (k : JB w b x y h t l) : JB (w.setCell ⟨b, 3, none⟩ (.int .i64 u)) b x y h u l := by
  obtain ⟨hlt, hk⟩ := Array.getElem?_eq_some_iff.1 k
  show (w.heap.modify b _)[b]? = _
  rw [Array.getElem?_eq_getElem (by rw [Array.size_modify]; exact hlt), Array.getElem_modify_self, hk]
  rfl
theorem JB.set4 (u : Int) (k : JB w b x y h t l) : JB (w.setCell ⟨b, 4, none⟩ (.int .i64 u)) b x y h t u := by
  obtain ⟨hlt, hk⟩ := Array.getElem?_eq_some_iff.1 k
  show (w.heap.modify b _)[b]? = _
  rw [Array.getElem?_eq_getElem (by rw [Array.size_modify]; exact hlt), Array.getElem_modify_self, hk]
  rfl
theorem JB.set (k : JB w b x y h t l) (x' y' h' t' l' : Int) : JB (((((w.setCell ⟨b, 0, none⟩ (.int .i64 x')).setCell ⟨b, 1, none⟩ (.int .i64 y')).setCell ⟨b, 2, none⟩ (.int .i64 h')).setCell ⟨b, 3, none⟩ (.int .i64 t')).setCell ⟨b, 4, none⟩ (.int .i64 l')) b x' y' h' t' l' :=
  ((((k.set0 x').set1 y').set2 h').set3 t').set4 l'
end

end Go.Proofs.YtejeikfgmiadhabGreat.Dr4
namespace Go.Proofs.YtejeikfgmiadhabGreat.Tp
open Go.RowKit Go.Proofs.YtejeikfgmiadhabGreat.Cm Go.Proofs.YtejeikfgmiadhabGreat.Pl Go.Proofs.YtejeikfgmiadhabGreat.Str Go.Proofs.YtejeikfgmiadhabGreat.Pw Go.Proofs.YtejeikfgmiadhabGreat.P2
set_option linter.unusedVariables false

theorem placeI {x y : Int} {b : Bool} (h : (ms x && ms y) = b) (w : World) : Calls Tryz.prog 138 #[.agg #[.int .i64 x, .int .i64 y]] w fun e w' => e = .returned (.bool b) ∧ Below w.heap.size w w' :=
  (isPlaceI_of h w).mono fun e w' k => ⟨k.1, by rw [k.2]; go_grown⟩
theorem placeS {x y : Int} {b : Bool} (h : (ms x && ms y) = b) (w : World) : Calls Tryz.prog 80 #[.agg #[.int .i64 x, .int .i64 y]] w fun e w' => e = .returned (.bool b) ∧ Below w.heap.size w w' :=
  (isPlaceS_of h w).mono fun e w' k => ⟨k.1, by rw [k.2]; go_grown⟩

set_option maxHeartbeats 1000000 in
theorem turnI {x y : Int} (n : Int) (h : (ms x && ms y) = true) (w : World) : Calls Tryz.prog 149 #[.agg #[.int .i64 x, .int .i64 y], .int .i64 n] w fun e w' => e = .returned (.agg #[.int .i64 (tx (n % 4).toNat x y), .int .i64 (ty (n % 4).toNat x y)]) ∧ Below w.heap.size w w' := by
  obtain ⟨hx, hy⟩ := pl_yes h
  have CI := Lib.hid (isPlaceI_of h)
  have C := Lib.hid (complexOf x y (by omega) (by omega))
  have T := turned (n := n) (by omega) (by omega) (i32_f32 x) (i32_f32 y)
  have bx := txle (k := (n % 4).toNat) hx hy
  have b_y := tyle (k := (n % 4).toNat) hx hy
  generalize tx (n % 4).toNat x y = X at *
  generalize ty (n % 4).toNat x y = Y at *
  replace T := Lib.hid T
  have D := Lib.hid (fun re im => toldYes (re := re) (im := im) bx b_y)
  clear h hx hy bx b_y
  go_enter Tryz.func149, Tryz.ntmps149
  go_wp2_with (first
    | (go_at_call 138; refine (CI.out _).mono ?_; rintro e w' ⟨rfl, rfl⟩)
    | (go_at_call 108; refine (C.out _).mono ?_; rintro e w' ⟨rfl, rfl⟩)
    | (go_at_call 177; refine (T.out _).mono ?_; rintro e w' ⟨re, im, rfl, rfl, i1, i2⟩)
    | (go_at_call 137; refine (D.out _ _ (by assumption) (by assumption) _).mono ?_; rintro e w' ⟨rfl, rfl⟩))
  all_goals go_returns
  all_goals exact ⟨rfl, by go_grown⟩

/-- Block b's first two cells hold the place x, y. -/
def CB (w : World) (b : Nat) (x y : Int) : Prop := w.cell? ⟨b, 0, none⟩ = some (.int .i64 x) ∧ w.cell? ⟨b, 1, none⟩ = some (.int .i64 y)
theorem CB.c0 {w : World} {b : Nat} {x y : Int} (h : CB w b x y) : w.cell? ⟨b, 0, none⟩ = some (.int .i64 x) := h.1
theorem CB.c1 {w : World} {b : Nat} {x y : Int} (h : CB w b x y) : w.cell? ⟨b, 1, none⟩ = some (.int .i64 y) := h.2
theorem CB.lt {w : World} {b : Nat} {x y : Int} (h : CB w b x y) : b < w.heap.size := World.block_lt_of_cell? w _ h.1
theorem CB.alloc {w : World} {b : Nat} {x y : Int} (h : CB w b x y) (o : Obj) : CB (w.alloc o) b x y := ⟨cell_alloc h.1, cell_alloc h.2⟩
theorem CB.below {w w' : World} {b : Nat} {x y : Int} (h : CB w b x y) (hb : Below w.heap.size w w') : CB w' b x y := ⟨cell_below hb h.1, cell_below hb h.2⟩
theorem CB.new (w : World) (x y : Int) : CB (w.alloc (.cells #[.int .i64 x, .int .i64 y] 31)) w.heap.size x y := ⟨cell_here rfl, cell_here rfl⟩
theorem CB.lay {W wx : World} {k : Nat} {x y : Int} (h : Lay W wx k x y) : CB wx k x y := ⟨h.c0, h.c1⟩

end Go.Proofs.YtejeikfgmiadhabGreat.Tp
namespace Go.Proofs.YtejeikfgmiadhabGreat.Dr4
open Go.RowKit Go.Proofs.YtejeikfgmiadhabGreat.Cx Go.Proofs.YtejeikfgmiadhabGreat.Cm Go.Proofs.YtejeikfgmiadhabGreat.Pl Go.Proofs.YtejeikfgmiadhabGreat.Str Go.Proofs.YtejeikfgmiadhabGreat.Pw Go.Proofs.YtejeikfgmiadhabGreat.P2 Go.Proofs.YtejeikfgmiadhabGreat.Hd Go.Proofs.YtejeikfgmiadhabGreat.Jt Go.Proofs.YtejeikfgmiadhabGreat.Dp
set_option linter.unusedVariables false
set_option linter.unusedSimpArgs false

/-- A jet behind n quarter turns. -/
def turnV (x y h t l n : Int) : Value := if jt x y h t l then jv (tx (n % 4).toNat x y) (ty (n % 4).toNat x y) (th h n) t l else jv 0 0 0 0 0
theorem turnV_no {x y h t l n : Int} (hj : jt x y h t l = false) : turnV x y h t l n = jv 0 0 0 0 0 := by unfold turnV; rw [hj]; rfl
theorem turnV_yes {x y h t l n : Int} (hj : jt x y h t l = true) : turnV x y h t l n = jv (tx (n % 4).toNat x y) (ty (n % 4).toNat x y) (th h n) t l := by unfold turnV; rw [hj]; rfl
theorem pl_of {x y h t l : Int} (hj : jt x y h t l = true) : (ms x && ms y) = true := by
  obtain ⟨hx, hy, _⟩ := jt_iff.1 hj
  exact pl_mk (by omega) (by omega)

set_option maxHeartbeats 2000000 in
set_option maxRecDepth 100000 in
theorem turnJetI (x y h t l n : Int) (w : World) : Calls Tryz.prog 241 #[jv x y h t l, .int .i64 n] w fun e w' => e = .returned (turnV x y h t l n) ∧ Below w.heap.size w w' := by
  cases hj : jt x y h t l
  · rw [turnV_no hj]
    have C := Lib.hid (isJetI_of hj)
    clear hj
    go_enter Tryz.func241, Tryz.ntmps241
    go_wp2_with fail
    refine (C.out _).mono ?_
    rintro e w' ⟨rfl, rfl⟩
    go_wp2_with fail
    go_returns
    exact ⟨rfl, by go_grown⟩
  · rw [turnV_yes hj]
    have C := Lib.hid (isJetI_of hj)
    have T := Lib.hid (Tp.turnI n (pl_of hj))
    have H := Lib.hid (turnHeadingI h n)
    generalize tx (n % 4).toNat x y = X at *
    generalize ty (n % 4).toNat x y = Y at *
    generalize th h n = R at *
    clear hj
    go_enter Tryz.func241, Tryz.ntmps241
    go_wp2_with fail
    refine (C.out _).mono ?_
    rintro e w' ⟨rfl, rfl⟩
    go_wp2_with fail
    refine (T.out _).mono ?_
    rintro e v ⟨rfl, hb⟩
    have Jj := Lib.hid (JB.below (((JB.new w x y h t l).alloc (.cells (jc 0 0 0 0 0) 70)).alloc (.cells (jc x y h t l) 70)) hb)
    have Jr := Lib.hid (JB.below ((show JB ((w.alloc (.cells (jc x y h t l) 70)).alloc (.cells (jc 0 0 0 0 0) 70)) (w.heap.size + 1) 0 0 0 0 0 from by simpa using JB.new (w.alloc (.cells (jc x y h t l) 70)) 0 0 0 0 0).alloc (.cells (jc x y h t l) 70)) hb)
    have HB := Lib.hid (show Below w.heap.size w v from Below.trans (by go_grown) (hb.mono (by go_size)))
    have hsz := HB.out.size
    obtain ⟨a0, a1, a2, a3, a4⟩ := Jj.out.c
    have f0 := Jj.out.f 0
    have f1 := Jj.out.f 1
    have f2 := Jj.out.f 2
    obtain ⟨b0, b1, b2, b3, b4⟩ := Jr.out.c
    have g0 := Jr.out.f 0
    have g1 := Jr.out.f 1
    have g2 := Jr.out.f 2
    have g3 := Jr.out.f 3
    have g4 := Jr.out.f 4
    clear hb
    go_wp2_with fail
    refine (H.out _).mono ?_
    rintro e w' ⟨rfl, rfl⟩
    have JR := Lib.hid (((Jr.out.other (b' := w.heap.size) 0 (.int .i64 X) (by omega)).other (b' := w.heap.size) 1 (.int .i64 Y) (by omega)).other (b' := w.heap.size) 2 (.int .i64 R) (by omega))
    go_wp2_with fail
    obtain ⟨s0, s1, s2, s3, s4⟩ := (JR.out.set X Y R t l).c
    (try simp only [Exit.inBlock, Exit.then])
    refine bodyPost_ret (v := jv X Y R t l) (by simp [results, Tryz.results241, go_sem, s0, s1, s2, s3, s4]; try rfl) rfl ?_
    exact ⟨rfl, HB.out.trans (by go_grown)⟩

end Go.Proofs.YtejeikfgmiadhabGreat.Dr4
namespace Go.Proofs.YtejeikfgmiadhabGreat.Tr
open Go.RowKit Go.ChangeShapes Go.WideShapes Go.WideElems Go.Deep Go.Proofs.YtejeikfgmiadhabGreat.Mem Go.Proofs.YtejeikfgmiadhabGreat.Rw Go.Proofs.YtejeikfgmiadhabGreat.Pw Go.Proofs.YtejeikfgmiadhabGreat.P2 Go.Proofs.YtejeikfgmiadhabGreat.Dd Go.Proofs.YtejeikfgmiadhabGreat.Dv Go.Proofs.YtejeikfgmiadhabGreat.Dl Go.Proofs.YtejeikfgmiadhabGreat.Ds Go.Proofs.YtejeikfgmiadhabGreat.Fd Go.Proofs.YtejeikfgmiadhabGreat.Ch Go.Proofs.YtejeikfgmiadhabGreat.Hn Go.Proofs.YtejeikfgmiadhabGreat.Po
set_option linter.unusedVariables false
set_option linter.unusedSimpArgs false
open Go.Proofs.YtejeikfgmiadhabGreat.Cm Go.Proofs.YtejeikfgmiadhabGreat.Pl Go.Proofs.YtejeikfgmiadhabGreat.Str Go.Proofs.YtejeikfgmiadhabGreat.Hd Go.Proofs.YtejeikfgmiadhabGreat.Jt Go.Proofs.YtejeikfgmiadhabGreat.Ho Go.Proofs.YtejeikfgmiadhabGreat.Pa Go.Proofs.YtejeikfgmiadhabGreat.Di Go.Proofs.YtejeikfgmiadhabGreat.Ig Go.Proofs.YtejeikfgmiadhabGreat.Ir Go.Proofs.YtejeikfgmiadhabGreat.Iq Go.Proofs.YtejeikfgmiadhabGreat.IsName Go.Proofs.YtejeikfgmiadhabGreat.Mo
open Go.Proofs.YtejeikfgmiadhabGreat.Dr4 (turnJetI turnV_yes)
open Go.Proofs.YtejeikfgmiadhabGreat.Rw (owns_below owns_grown)

/-- A rig that is turned. -/
noncomputable def trV (zs : List D) (n : Int) : List D := if rig zs = true then zs.map (mvD n 0 0) else []
theorem turnedP (n l : ByteArray) (x y h t m : Int) (t9 : Int) (w : World) : Calls Tryz.prog 233 #[va n 1 l x y h t m, .int .i64 t9] w fun e w' => e = .returned (va n 1 l x y h t m) ∧ Below w.heap.size w w' := by
  go_enter Tryz.func233, Tryz.ntmps233
  go_wp2_with fail
  go_returns
  exact ⟨rfl, by go_grown⟩

theorem set8 {W : World} {b : Nat} {v0 v1 v2 v3 v4 v5 v6 v7 : Value} (h : ∀ j, j < 8 → (W.cell? ⟨b, j, none⟩).isSome = true) : ((((((((W.setCell ⟨b, 0, none⟩ v0).setCell ⟨b, 1, none⟩ v1).setCell ⟨b, 2, none⟩ v2).setCell ⟨b, 3, none⟩ v3).setCell ⟨b, 4, none⟩ v4).setCell ⟨b, 5, none⟩ v5).setCell ⟨b, 6, none⟩ v6).setCell ⟨b, 7, none⟩ v7).cell? ⟨b, 0, none⟩ = some v0 ∧ ((((((((W.setCell ⟨b, 0, none⟩ v0).setCell ⟨b, 1, none⟩ v1).setCell ⟨b, 2, none⟩ v2).setCell ⟨b, 3, none⟩ v3).setCell ⟨b, 4, none⟩ v4).setCell ⟨b, 5, none⟩ v5).setCell ⟨b, 6, none⟩ v6).setCell ⟨b, 7, none⟩ v7).cell? ⟨b, 1, none⟩ = some v1 ∧ ((((((((W.setCell ⟨b, 0, none⟩ v0).setCell ⟨b, 1, none⟩ v1).setCell ⟨b, 2, none⟩ v2).setCell ⟨b, 3, none⟩ v3).setCell ⟨b, 4, none⟩ v4).setCell ⟨b, 5, none⟩ v5).setCell ⟨b, 6, none⟩ v6).setCell ⟨b, 7, none⟩ v7).cell? ⟨b, 2, none⟩ = some v2 ∧ ((((((((W.setCell ⟨b, 0, none⟩ v0).setCell ⟨b, 1, none⟩ v1).setCell ⟨b, 2, none⟩ v2).setCell ⟨b, 3, none⟩ v3).setCell ⟨b, 4, none⟩ v4).setCell ⟨b, 5, none⟩ v5).setCell ⟨b, 6, none⟩ v6).setCell ⟨b, 7, none⟩ v7).cell? ⟨b, 3, none⟩ = some v3 ∧ ((((((((W.setCell ⟨b, 0, none⟩ v0).setCell ⟨b, 1, none⟩ v1).setCell ⟨b, 2, none⟩ v2).setCell ⟨b, 3, none⟩ v3).setCell ⟨b, 4, none⟩ v4).setCell ⟨b, 5, none⟩ v5).setCell ⟨b, 6, none⟩ v6).setCell ⟨b, 7, none⟩ v7).cell? ⟨b, 4, none⟩ = some v4 ∧ ((((((((W.setCell ⟨b, 0, none⟩ v0).setCell ⟨b, 1, none⟩ v1).setCell ⟨b, 2, none⟩ v2).setCell ⟨b, 3, none⟩ v3).setCell ⟨b, 4, none⟩ v4).setCell ⟨b, 5, none⟩ v5).setCell ⟨b, 6, none⟩ v6).setCell ⟨b, 7, none⟩ v7).cell? ⟨b, 5, none⟩ = some v5 ∧ ((((((((W.setCell ⟨b, 0, none⟩ v0).setCell ⟨b, 1, none⟩ v1).setCell ⟨b, 2, none⟩ v2).setCell ⟨b, 3, none⟩ v3).setCell ⟨b, 4, none⟩ v4).setCell ⟨b, 5, none⟩ v5).setCell ⟨b, 6, none⟩ v6).setCell ⟨b, 7, none⟩ v7).cell? ⟨b, 6, none⟩ = some v6 ∧ ((((((((W.setCell ⟨b, 0, none⟩ v0).setCell ⟨b, 1, none⟩ v1).setCell ⟨b, 2, none⟩ v2).setCell ⟨b, 3, none⟩ v3).setCell ⟨b, 4, none⟩ v4).setCell ⟨b, 5, none⟩ v5).setCell ⟨b, 6, none⟩ v6).setCell ⟨b, 7, none⟩ v7).cell? ⟨b, 7, none⟩ = some v7 := by
  refine ⟨?_, ?_, ?_, ?_, ?_, ?_, ?_, ?_⟩
  · rw [World.cell?_setCell_other _ _ _ _ (by simp), World.cell?_setCell_other _ _ _ _ (by simp), World.cell?_setCell_other _ _ _ _ (by simp), World.cell?_setCell_other _ _ _ _ (by simp), World.cell?_setCell_other _ _ _ _ (by simp), World.cell?_setCell_other _ _ _ _ (by simp), World.cell?_setCell_other _ _ _ _ (by simp)]; refine World.cell?_setCell_same' _ _ _ ?_; exact h 0 (by omega)
  · rw [World.cell?_setCell_other _ _ _ _ (by simp), World.cell?_setCell_other _ _ _ _ (by simp), World.cell?_setCell_other _ _ _ _ (by simp), World.cell?_setCell_other _ _ _ _ (by simp), World.cell?_setCell_other _ _ _ _ (by simp), World.cell?_setCell_other _ _ _ _ (by simp)]; refine World.cell?_setCell_same' _ _ _ ?_; rw [World.cell?_setCell_other _ _ _ _ (by simp)]; exact h 1 (by omega)
  · rw [World.cell?_setCell_other _ _ _ _ (by simp), World.cell?_setCell_other _ _ _ _ (by simp), World.cell?_setCell_other _ _ _ _ (by simp), World.cell?_setCell_other _ _ _ _ (by simp), World.cell?_setCell_other _ _ _ _ (by simp)]; refine World.cell?_setCell_same' _ _ _ ?_; rw [World.cell?_setCell_other _ _ _ _ (by simp), World.cell?_setCell_other _ _ _ _ (by simp)]; exact h 2 (by omega)
  · rw [World.cell?_setCell_other _ _ _ _ (by simp), World.cell?_setCell_other _ _ _ _ (by simp), World.cell?_setCell_other _ _ _ _ (by simp), World.cell?_setCell_other _ _ _ _ (by simp)]; refine World.cell?_setCell_same' _ _ _ ?_; rw [World.cell?_setCell_other _ _ _ _ (by simp), World.cell?_setCell_other _ _ _ _ (by simp), World.cell?_setCell_other _ _ _ _ (by simp)]; exact h 3 (by omega)
  · rw [World.cell?_setCell_other _ _ _ _ (by simp), World.cell?_setCell_other _ _ _ _ (by simp), World.cell?_setCell_other _ _ _ _ (by simp)]; refine World.cell?_setCell_same' _ _ _ ?_; rw [World.cell?_setCell_other _ _ _ _ (by simp), World.cell?_setCell_other _ _ _ _ (by simp), World.cell?_setCell_other _ _ _ _ (by simp), World.cell?_setCell_other _ _ _ _ (by simp)]; exact h 4 (by omega)
  · rw [World.cell?_setCell_other _ _ _ _ (by simp), World.cell?_setCell_other _ _ _ _ (by simp)]; refine World.cell?_setCell_same' _ _ _ ?_; rw [World.cell?_setCell_other _ _ _ _ (by simp), World.cell?_setCell_other _ _ _ _ (by simp), World.cell?_setCell_other _ _ _ _ (by simp), World.cell?_setCell_other _ _ _ _ (by simp), World.cell?_setCell_other _ _ _ _ (by simp)]; exact h 5 (by omega)
  · rw [World.cell?_setCell_other _ _ _ _ (by simp)]; refine World.cell?_setCell_same' _ _ _ ?_; rw [World.cell?_setCell_other _ _ _ _ (by simp), World.cell?_setCell_other _ _ _ _ (by simp), World.cell?_setCell_other _ _ _ _ (by simp), World.cell?_setCell_other _ _ _ _ (by simp), World.cell?_setCell_other _ _ _ _ (by simp), World.cell?_setCell_other _ _ _ _ (by simp)]; exact h 6 (by omega)
  · refine World.cell?_setCell_same' _ _ _ ?_; rw [World.cell?_setCell_other _ _ _ _ (by simp), World.cell?_setCell_other _ _ _ _ (by simp), World.cell?_setCell_other _ _ _ _ (by simp), World.cell?_setCell_other _ _ _ _ (by simp), World.cell?_setCell_other _ _ _ _ (by simp), World.cell?_setCell_other _ _ _ _ (by simp), World.cell?_setCell_other _ _ _ _ (by simp)]; exact h 7 (by omega)

set_option maxHeartbeats 400000 in
theorem turnedN (n l : ByteArray) (x y h t m : Int) (c : Nat) (t9 : Int) (hj : jt x y h t 1 = true) (w : World) :
    Calls Tryz.prog 238 #[hv n 2 l x y h t m c, .int .i64 t9] w fun e w' => e = .returned (va n 2 l (tx (t9 % 4).toNat x y) (ty (t9 % 4).toNat x y) (th h t9) t m) ∧ Below w.heap.size w w' := by
  have TJ := turnJetI x y h t 1 t9
  rw [turnV_yes hj] at TJ
  generalize tx (t9 % 4).toNat x y = X at *
  generalize ty (t9 % 4).toNat x y = Y at *
  generalize th h t9 = Q at *
  have TJ := Lib.hid TJ
  clear hj
  go_enter Tryz.func238, Tryz.ntmps238
  go_wp2_with fail
  refine (jetOf _ _ _ _ _ _ _ _ _ _).mono ?_
  rintro e w1 ⟨rfl, hb1⟩
  have B1 := Lib.hid (show Below w.heap.size w w1 from Below.trans (by go_grown) (hb1.mono (by simp; omega)))
  have c0 : w1.cell? ⟨w.heap.size, 0, none⟩ = some (.string n) := (hb1.cell (by simp; omega)).trans (by simp [go_sem])
  have c1 : w1.cell? ⟨w.heap.size, 1, none⟩ = some (.int .i64 2) := (hb1.cell (by simp; omega)).trans (by simp [go_sem])
  have c2 : w1.cell? ⟨w.heap.size, 2, none⟩ = some (.string l) := (hb1.cell (by simp; omega)).trans (by simp [go_sem])
  have c3 : w1.cell? ⟨w.heap.size, 3, none⟩ = some (.int .i64 x) := (hb1.cell (by simp; omega)).trans (by simp [go_sem])
  have c4 : w1.cell? ⟨w.heap.size, 4, none⟩ = some (.int .i64 y) := (hb1.cell (by simp; omega)).trans (by simp [go_sem])
  have c5 : w1.cell? ⟨w.heap.size, 5, none⟩ = some (.int .i64 h) := (hb1.cell (by simp; omega)).trans (by simp [go_sem])
  have c6 : w1.cell? ⟨w.heap.size, 6, none⟩ = some (.int .i64 t) := (hb1.cell (by simp; omega)).trans (by simp [go_sem])
  have c7 : w1.cell? ⟨w.heap.size, 7, none⟩ = some (.int .i64 m) := (hb1.cell (by simp; omega)).trans (by simp [go_sem])
  have c8 : w1.cell? ⟨w.heap.size, 8, none⟩ = some (.chan (some c)) := (hb1.cell (by simp; omega)).trans (by simp [go_sem])
  have r0 : w1.cell? ⟨w.heap.size + 1, 0, none⟩ = some (.string ⟨#[]⟩) := (hb1.cell (by simp)).trans (by simp [go_sem])
  have f0 : w1.frozen? ⟨w.heap.size + 1, 0, none⟩ = false := (hb1.frozen (by simp)).trans (by simp [go_sem])
  have r1 : w1.cell? ⟨w.heap.size + 1, 1, none⟩ = some (.int .i64 0) := (hb1.cell (by simp)).trans (by simp [go_sem])
  have f1 : w1.frozen? ⟨w.heap.size + 1, 1, none⟩ = false := (hb1.frozen (by simp)).trans (by simp [go_sem])
  have r2 : w1.cell? ⟨w.heap.size + 1, 2, none⟩ = some (.string ⟨#[]⟩) := (hb1.cell (by simp)).trans (by simp [go_sem])
  have f2 : w1.frozen? ⟨w.heap.size + 1, 2, none⟩ = false := (hb1.frozen (by simp)).trans (by simp [go_sem])
  have r3 : w1.cell? ⟨w.heap.size + 1, 3, none⟩ = some (.int .i64 0) := (hb1.cell (by simp)).trans (by simp [go_sem])
  have f3 : w1.frozen? ⟨w.heap.size + 1, 3, none⟩ = false := (hb1.frozen (by simp)).trans (by simp [go_sem])
  have r4 : w1.cell? ⟨w.heap.size + 1, 4, none⟩ = some (.int .i64 0) := (hb1.cell (by simp)).trans (by simp [go_sem])
  have f4 : w1.frozen? ⟨w.heap.size + 1, 4, none⟩ = false := (hb1.frozen (by simp)).trans (by simp [go_sem])
  have r5 : w1.cell? ⟨w.heap.size + 1, 5, none⟩ = some (.int .i64 0) := (hb1.cell (by simp)).trans (by simp [go_sem])
  have f5 : w1.frozen? ⟨w.heap.size + 1, 5, none⟩ = false := (hb1.frozen (by simp)).trans (by simp [go_sem])
  have r6 : w1.cell? ⟨w.heap.size + 1, 6, none⟩ = some (.int .i64 0) := (hb1.cell (by simp)).trans (by simp [go_sem])
  have f6 : w1.frozen? ⟨w.heap.size + 1, 6, none⟩ = false := (hb1.frozen (by simp)).trans (by simp [go_sem])
  have r7 : w1.cell? ⟨w.heap.size + 1, 7, none⟩ = some (.int .i64 0) := (hb1.cell (by simp)).trans (by simp [go_sem])
  have f7 : w1.frozen? ⟨w.heap.size + 1, 7, none⟩ = false := (hb1.frozen (by simp)).trans (by simp [go_sem])
  clear hb1
  go_wp2_with fail
  refine (TJ.out _).mono ?_
  rintro e w2 ⟨rfl, hb2⟩
  have B2 := Lib.hid (B1.out.trans (hb2.mono B1.out.size))
  have e0 := cell_below hb2 c0
  have e1 := cell_below hb2 c1
  have e2 := cell_below hb2 c2
  have e3 := cell_below hb2 c3
  have e4 := cell_below hb2 c4
  have e5 := cell_below hb2 c5
  have e6 := cell_below hb2 c6
  have e7 := cell_below hb2 c7
  have e8 := cell_below hb2 c8
  have s0 := cell_below hb2 r0
  have g0 := (hb2.frozen (p := ⟨w.heap.size + 1, 0, none⟩) (World.block_lt_of_cell? w1 _ r0)).trans f0
  have s1 := cell_below hb2 r1
  have g1 := (hb2.frozen (p := ⟨w.heap.size + 1, 1, none⟩) (World.block_lt_of_cell? w1 _ r1)).trans f1
  have s2 := cell_below hb2 r2
  have g2 := (hb2.frozen (p := ⟨w.heap.size + 1, 2, none⟩) (World.block_lt_of_cell? w1 _ r2)).trans f2
  have s3 := cell_below hb2 r3
  have g3 := (hb2.frozen (p := ⟨w.heap.size + 1, 3, none⟩) (World.block_lt_of_cell? w1 _ r3)).trans f3
  have s4 := cell_below hb2 r4
  have g4 := (hb2.frozen (p := ⟨w.heap.size + 1, 4, none⟩) (World.block_lt_of_cell? w1 _ r4)).trans f4
  have s5 := cell_below hb2 r5
  have g5 := (hb2.frozen (p := ⟨w.heap.size + 1, 5, none⟩) (World.block_lt_of_cell? w1 _ r5)).trans f5
  have s6 := cell_below hb2 r6
  have g6 := (hb2.frozen (p := ⟨w.heap.size + 1, 6, none⟩) (World.block_lt_of_cell? w1 _ r6)).trans f6
  have s7 := cell_below hb2 r7
  have g7 := (hb2.frozen (p := ⟨w.heap.size + 1, 7, none⟩) (World.block_lt_of_cell? w1 _ r7)).trans f7
  have p0 : w.heap.size < w2.heap.size := World.block_lt_of_cell? w2 _ e0
  have p1 : w.heap.size + 1 < w2.heap.size := World.block_lt_of_cell? w2 _ s0
  clear hb2  c0 c1 c2 c3 c4 c5 c6 c7 c8 r0 f0 r1 f1 r2 f2 r3 f3 r4 f4 r5 f5 r6 f6 r7 f7
  have d0 : ((w2.alloc (.cells (jc X Y Q t 1) 70)).alloc (.cells (ca n 2 l X Y Q t m) 102)).drew.cell? ⟨w2.heap.size + 1, 0, none⟩ = some (.string n) := by simp [go_sem]
  have d1 : ((w2.alloc (.cells (jc X Y Q t 1) 70)).alloc (.cells (ca n 2 l X Y Q t m) 102)).drew.cell? ⟨w2.heap.size + 1, 1, none⟩ = some (.int .i64 2) := by simp [go_sem]
  have d2 : ((w2.alloc (.cells (jc X Y Q t 1) 70)).alloc (.cells (ca n 2 l X Y Q t m) 102)).drew.cell? ⟨w2.heap.size + 1, 2, none⟩ = some (.string l) := by simp [go_sem]
  have d3 : ((w2.alloc (.cells (jc X Y Q t 1) 70)).alloc (.cells (ca n 2 l X Y Q t m) 102)).drew.cell? ⟨w2.heap.size + 1, 3, none⟩ = some (.int .i64 X) := by simp [go_sem]
  have d4 : ((w2.alloc (.cells (jc X Y Q t 1) 70)).alloc (.cells (ca n 2 l X Y Q t m) 102)).drew.cell? ⟨w2.heap.size + 1, 4, none⟩ = some (.int .i64 Y) := by simp [go_sem]
  have d5 : ((w2.alloc (.cells (jc X Y Q t 1) 70)).alloc (.cells (ca n 2 l X Y Q t m) 102)).drew.cell? ⟨w2.heap.size + 1, 5, none⟩ = some (.int .i64 Q) := by simp [go_sem]
  have d6 : ((w2.alloc (.cells (jc X Y Q t 1) 70)).alloc (.cells (ca n 2 l X Y Q t m) 102)).drew.cell? ⟨w2.heap.size + 1, 6, none⟩ = some (.int .i64 t) := by simp [go_sem]
  have d7 : ((w2.alloc (.cells (jc X Y Q t 1) 70)).alloc (.cells (ca n 2 l X Y Q t m) 102)).drew.cell? ⟨w2.heap.size + 1, 7, none⟩ = some (.int .i64 m) := by simp [go_sem]
  have a0 : ((w2.alloc (.cells (jc X Y Q t 1) 70)).alloc (.cells (ca n 2 l X Y Q t m) 102)).drew.cell? ⟨w.heap.size + 1, 0, none⟩ = _ := cell_alloc (cell_alloc s0)
  have q0 : ((w2.alloc (.cells (jc X Y Q t 1) 70)).alloc (.cells (ca n 2 l X Y Q t m) 102)).drew.frozen? ⟨w.heap.size + 1, 0, none⟩ = false := by simp [go_sem, p1, g0, Nat.lt_succ_of_lt p1]
  have a1 : ((w2.alloc (.cells (jc X Y Q t 1) 70)).alloc (.cells (ca n 2 l X Y Q t m) 102)).drew.cell? ⟨w.heap.size + 1, 1, none⟩ = _ := cell_alloc (cell_alloc s1)
  have q1 : ((w2.alloc (.cells (jc X Y Q t 1) 70)).alloc (.cells (ca n 2 l X Y Q t m) 102)).drew.frozen? ⟨w.heap.size + 1, 1, none⟩ = false := by simp [go_sem, p1, g1, Nat.lt_succ_of_lt p1]
  have a2 : ((w2.alloc (.cells (jc X Y Q t 1) 70)).alloc (.cells (ca n 2 l X Y Q t m) 102)).drew.cell? ⟨w.heap.size + 1, 2, none⟩ = _ := cell_alloc (cell_alloc s2)
  have q2 : ((w2.alloc (.cells (jc X Y Q t 1) 70)).alloc (.cells (ca n 2 l X Y Q t m) 102)).drew.frozen? ⟨w.heap.size + 1, 2, none⟩ = false := by simp [go_sem, p1, g2, Nat.lt_succ_of_lt p1]
  have a3 : ((w2.alloc (.cells (jc X Y Q t 1) 70)).alloc (.cells (ca n 2 l X Y Q t m) 102)).drew.cell? ⟨w.heap.size + 1, 3, none⟩ = _ := cell_alloc (cell_alloc s3)
  have q3 : ((w2.alloc (.cells (jc X Y Q t 1) 70)).alloc (.cells (ca n 2 l X Y Q t m) 102)).drew.frozen? ⟨w.heap.size + 1, 3, none⟩ = false := by simp [go_sem, p1, g3, Nat.lt_succ_of_lt p1]
  have a4 : ((w2.alloc (.cells (jc X Y Q t 1) 70)).alloc (.cells (ca n 2 l X Y Q t m) 102)).drew.cell? ⟨w.heap.size + 1, 4, none⟩ = _ := cell_alloc (cell_alloc s4)
  have q4 : ((w2.alloc (.cells (jc X Y Q t 1) 70)).alloc (.cells (ca n 2 l X Y Q t m) 102)).drew.frozen? ⟨w.heap.size + 1, 4, none⟩ = false := by simp [go_sem, p1, g4, Nat.lt_succ_of_lt p1]
  have a5 : ((w2.alloc (.cells (jc X Y Q t 1) 70)).alloc (.cells (ca n 2 l X Y Q t m) 102)).drew.cell? ⟨w.heap.size + 1, 5, none⟩ = _ := cell_alloc (cell_alloc s5)
  have q5 : ((w2.alloc (.cells (jc X Y Q t 1) 70)).alloc (.cells (ca n 2 l X Y Q t m) 102)).drew.frozen? ⟨w.heap.size + 1, 5, none⟩ = false := by simp [go_sem, p1, g5, Nat.lt_succ_of_lt p1]
  have a6 : ((w2.alloc (.cells (jc X Y Q t 1) 70)).alloc (.cells (ca n 2 l X Y Q t m) 102)).drew.cell? ⟨w.heap.size + 1, 6, none⟩ = _ := cell_alloc (cell_alloc s6)
  have q6 : ((w2.alloc (.cells (jc X Y Q t 1) 70)).alloc (.cells (ca n 2 l X Y Q t m) 102)).drew.frozen? ⟨w.heap.size + 1, 6, none⟩ = false := by simp [go_sem, p1, g6, Nat.lt_succ_of_lt p1]
  have a7 : ((w2.alloc (.cells (jc X Y Q t 1) 70)).alloc (.cells (ca n 2 l X Y Q t m) 102)).drew.cell? ⟨w.heap.size + 1, 7, none⟩ = _ := cell_alloc (cell_alloc s7)
  have q7 : ((w2.alloc (.cells (jc X Y Q t 1) 70)).alloc (.cells (ca n 2 l X Y Q t m) 102)).drew.frozen? ⟨w.heap.size + 1, 7, none⟩ = false := by simp [go_sem, p1, g7, Nat.lt_succ_of_lt p1]
  have BV := Lib.hid (show Below w.heap.size w ((w2.alloc (.cells (jc X Y Q t 1) 70)).alloc (.cells (ca n 2 l X Y Q t m) 102)).drew from ((B2.out.alloc B2.out.size _).alloc (by have := B2.out.size; simp; omega) _).drew)
  clear s0 g0 s1 g1 s2 g2 s3 g3 s4 g4 s5 g5 s6 g6 s7 g7 B1 B2 TJ
  go_wp2_with fail
  go_region
  clear p0 p1 e0 e1 e2 e3 e4 e5 e6 e7 e8
  generalize ((w2.alloc (.cells (jc X Y Q t 1) 70)).alloc (.cells (ca n 2 l X Y Q t m) 102)).drew = V at *
  go_wp2_with fail
  obtain ⟨s0, s1, s2, s3, s4, s5, s6, s7⟩ := set8 (W := V) (b := w.heap.size + 1) (v0 := .string n) (v1 := .int .i64 2) (v2 := .string l) (v3 := .int .i64 X) (v4 := .int .i64 Y) (v5 := .int .i64 Q) (v6 := .int .i64 t) (v7 := .int .i64 m) (by intro j hj; match j, hj with | 0, _ => (rw [a0]; rfl) | 1, _ => (rw [a1]; rfl) | 2, _ => (rw [a2]; rfl) | 3, _ => (rw [a3]; rfl) | 4, _ => (rw [a4]; rfl) | 5, _ => (rw [a5]; rfl) | 6, _ => (rw [a6]; rfl) | 7, _ => (rw [a7]; rfl))
  clear a0 a1 a2 a3 a4 a5 a6 a7 d0 d1 d2 d3 d4 d5 d6 d7 q0 q1 q2 q3 q4 q5 q6 q7
  (try simp only [Exit.inBlock, Exit.then])
  refine bodyPost_ret (v := va n 2 l X Y Q t m) (by simp only [results, Tryz.results238, s0, s1, s2, s3, s4, s5, s6, s7]; simp [go_sem, s0, s1, s2, s3, s4, s5, s6, s7]; try rfl) rfl ?_
  exact ⟨rfl, BV.out.trans (by go_grown)⟩

end Go.Proofs.YtejeikfgmiadhabGreat.Tr
