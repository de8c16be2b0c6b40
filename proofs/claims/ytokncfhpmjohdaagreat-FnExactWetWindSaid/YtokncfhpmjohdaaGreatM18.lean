/- What the model answers for a heading that is turned. -/
import Derived.Test.YtokncfhpmjohdaaGreatM5
import Derived.Test.YtokncfhpmjohdaaGreatIr
import Derived.Test.YtokncfhpmjohdaaGreatM15
import Derived.Test.YtokncfhpmjohdaaGreatM9
import Derived.BigRegion
import Derived.Test.YtokncfhpmjohdaaGreatWi
import Derived.Test.YtokncfhpmjohdaaGreatM4
import Derived.Laws.AppendOwn
import Derived.ArgAppend
set_option linter.unusedVariables false
set_option linter.unusedSimpArgs false
namespace Go.Proofs.YtokncfhpmjohdaaGreat.Hd
open Go.RowKit Go.Proofs.YtokncfhpmjohdaaGreat.Cm Go.Proofs.YtokncfhpmjohdaaGreat.Pl
set_option linter.unusedVariables false

end Go.Proofs.YtokncfhpmjohdaaGreat.Hd
namespace Go.Proofs.YtokncfhpmjohdaaGreat.Mo
open Go.RowKit Go.ChangeShapes Go.WideShapes Go.WideElems Go.Deep Go.Proofs.YtokncfhpmjohdaaGreat.Mem Go.Proofs.YtokncfhpmjohdaaGreat.Rw Go.Proofs.YtokncfhpmjohdaaGreat.Pw Go.Proofs.YtokncfhpmjohdaaGreat.P2 Go.Proofs.YtokncfhpmjohdaaGreat.Dd Go.Proofs.YtokncfhpmjohdaaGreat.Dv Go.Proofs.YtokncfhpmjohdaaGreat.Dl Go.Proofs.YtokncfhpmjohdaaGreat.Ds Go.Proofs.YtokncfhpmjohdaaGreat.Fd Go.Proofs.YtokncfhpmjohdaaGreat.Ch Go.Proofs.YtokncfhpmjohdaaGreat.Hn Go.Proofs.YtokncfhpmjohdaaGreat.Po
set_option linter.unusedVariables false
set_option linter.unusedSimpArgs false
open Go.Proofs.YtokncfhpmjohdaaGreat.Cm Go.Proofs.YtokncfhpmjohdaaGreat.Pl Go.Proofs.YtokncfhpmjohdaaGreat.Str Go.Proofs.YtokncfhpmjohdaaGreat.Hd Go.Proofs.YtokncfhpmjohdaaGreat.Jt Go.Proofs.YtokncfhpmjohdaaGreat.Ho Go.Proofs.YtokncfhpmjohdaaGreat.Pa Go.Proofs.YtokncfhpmjohdaaGreat.Di Go.Proofs.YtokncfhpmjohdaaGreat.Ig Go.Proofs.YtokncfhpmjohdaaGreat.Ir Go.Proofs.YtokncfhpmjohdaaGreat.IsName
open Go.Proofs.YtokncfhpmjohdaaGreat.Rw (owns_below owns_grown)

/-- A device that is turned and moved. -/
def mvD (n a b : Int) (d : D) : D := if d.kd = 1 then d else ⟨d.nm, d.kd, d.ln, tx (n % 4).toNat d.x d.y + a, ty (n % 4).toNat d.x d.y + b, if d.kd = 2 then th d.hd n else d.hd, d.tl, d.ms⟩
theorem mvD_1 {n a b : Int} {d : D} (h : d.kd = 1) : mvD n a b d = d := by unfold mvD; rw [if_pos h]
theorem mvD_o {n a b : Int} {d : D} (h : d.kd ≠ 1) : mvD n a b d = ⟨d.nm, d.kd, d.ln, tx (n % 4).toNat d.x d.y + a, ty (n % 4).toNat d.x d.y + b, if d.kd = 2 then th d.hd n else d.hd, d.tl, d.ms⟩ := by unfold mvD; rw [if_neg h]
theorem dB_kinds {d : D} (h : dB d = true) : d.kd = 1 ∨ d.kd = 2 ∨ d.kd = 3 := by
  unfold dB devB at h
  rw [Bool.and_eq_true] at h
  by_cases h1 : d.kd = 1
  · exact Or.inl h1
  by_cases h2 : d.kd = 2
  · exact Or.inr (Or.inl h2)
  by_cases h3 : d.kd = 3
  · exact Or.inr (Or.inr h3)
  · rw [if_neg h1, if_neg h2, if_neg h3] at h; cases h.2
/-- A list of the call's own that holds these devices. -/
def RowD (w : World) (ds : List D) (e : Ending) (w' : World) : Prop :=
  ∃ g c, e = .returned (.slice (some ⟨g, 0, none⟩) ds.length c) ∧ w'.ownsRow w.heap.size 98 8 (.slice (some ⟨g, 0, none⟩) ds.length c) ds.length (dls ds) ∧ Below w.heap.size w w'
/-- .. and whether it has all of them. -/
def RowB (w : World) (ds : List D) (r : Bool) (e : Ending) (w' : World) : Prop :=
  ∃ g c, e = .returned (.tuple #[.slice (some ⟨g, 0, none⟩) ds.length c, .bool r]) ∧ w'.ownsRow w.heap.size 98 8 (.slice (some ⟨g, 0, none⟩) ds.length c) ds.length (dls ds) ∧ Below w.heap.size w w'
theorem own_mk {w : World} {base n : Nat} {v : Value} {xs : List Value} (h : w.ownsRow base 98 8 v (n + 1) xs) : ∃ g c, v = .slice (some ⟨g, 0, none⟩) (n + 1) c := by
  rcases h.2 with ⟨_, e⟩ | ⟨g, cap, cur, e, _⟩
  · omega
  · exact ⟨g, cap, e⟩
theorem own_drew {w : World} {base n : Nat} {v : Value} {xs : List Value} (h : w.ownsRow base 98 8 v n xs) : w.drew.ownsRow base 98 8 v n xs := ⟨h.1, h.2⟩
theorem own_base {w : World} {base n : Nat} {v : Value} {xs : List Value} (h : w.ownsRow base 98 8 v n xs) : ∀ k, v.ownBlock = some k → base ≤ k := fun k e => (h.lt k e).1

end Go.Proofs.YtokncfhpmjohdaaGreat.Mo
namespace Go.Proofs.YtokncfhpmjohdaaGreat.Dr4
open Go.RowKit Go.Proofs.YtokncfhpmjohdaaGreat.Cm Go.Proofs.YtokncfhpmjohdaaGreat.Pl Go.Proofs.YtokncfhpmjohdaaGreat.Str Go.Proofs.YtokncfhpmjohdaaGreat.Pw Go.Proofs.YtokncfhpmjohdaaGreat.P2 Go.Proofs.YtokncfhpmjohdaaGreat.Hd Go.Proofs.YtokncfhpmjohdaaGreat.Jt Go.Proofs.YtokncfhpmjohdaaGreat.Dp
set_option linter.unusedVariables false
set_option linter.unusedSimpArgs false

/-- Block b is a jet of the call's own. -/
def JB (w : World) (b : Nat) (x y h t l : Int) : Prop := w.heap[b]? = some (.cells (jc x y h t l) 69 (0, 0))
section
variable {w w' : World} {b b' : Nat} {x y h t l u : Int}
theorem JB.c (k : JB w b x y h t l) : J5 w b x y h t l := by
  have e : w.heap[b]? = _ := k
  refine ⟨?_, ?_, ?_, ?_, ?_⟩ <;> simp [World.cell?, e]
theorem JB.f (k : JB w b x y h t l) (i : Nat) (hi : i < 5 := by omega) : w.frozen? ⟨b, i, none⟩ = false := by simp [World.frozen?, show w.heap[b]? = _ from k]
theorem JB.lt (k : JB w b x y h t l) : b < w.heap.size := (Array.getElem?_eq_some_iff.1 k).1
theorem JB.new (w : World) (x y h t l : Int) : JB (w.alloc (.cells (jc x y h t l) 69)) w.heap.size x y h t l := heap_alloc_new w _
theorem JB.alloc (k : JB w b x y h t l) (o : Obj) : JB (w.alloc o) b x y h t l := (Below.heap_alloc _ _ _ k.lt).trans k
theorem JB.below (k : JB w b x y h t l) (hb : Below w.heap.size w w') : JB w' b x y h t l := (hb.block b k.lt).trans k
theorem JB.drew (k : JB w b x y h t l) : JB w.drew b x y h t l := k
theorem JB.grown {r : Option Nat} (k : JB w b x y h t l) (g : w.grownBy w' r) (hr : some b ≠ r) : JB w' b x y h t l := (g.block b k.lt hr).trans k
theorem JB.other (k : JB w b x y h t l) (j : Nat) (v : Value) (hne : b ≠ b') : JB (w.setCell ⟨b', j, none⟩ v) b x y h t l := (Below.heap_setCell _ _ _ _ hne).trans k
theorem JB.set0 (u : Int) (k : JB w b x y h t l) : JB (w.setCell ⟨b, 0, none⟩ (.int .i64 u)) b u y h t l := by
  obtain ⟨hlt, hk⟩ := Array.getElem?_eq_some_iff.1 k
  show (w.heap.modify b _)[b]? = _
  rw [Array.getElem?_eq_getElem (by rw [Array.size_modify]; exact hlt), Array.getElem_modify_self, hk]
  rfl
theorem JB.set1 (u : Int) (k : JB w b x y h t l) : JB (w.setCell ⟨b, 1, none⟩ (.int .i64 u)) b x u h t l := by
  obtain ⟨hlt, hk⟩ := Array.getElem?_eq_some_iff.1 k
  show (w.heap.modify b _)[b]? = _
  rw [Array.getElem?_eq_getElem (by rw [Array.size_modify]; exact hlt), Array.getElem_modify_self, hk]
  rfl
theorem JB.set2 (u : Int) (k : JB w b x y h t l) : JB (w.setCell ⟨b, 2, none⟩ (.int .i64 u)) b x y u t l := by
  obtain ⟨hlt, hk⟩ := Array.getElem?_eq_some_iff.1 k
  show (w.heap.modify b _)[b]? = _
  rw [Array.getElem?_eq_getElem (by rw [Array.size_modify]; exact hlt), Array.getElem_modify_self, hk]
  rfl
theorem JB.set3 (u : Int) (k : JB w b x y h t l) : JB (w.setCell ⟨b, 3, none⟩ (.int .i64 u)) b x y h u l := by
  obtain ⟨hlt, hk⟩ := Array.getElem?_eq_some_iff.1 k
  show (w.heap.modify b _)[b]? = _
  rw [Array.getElem?_eq_getElem (by rw [Array.size_modify]; exact hlt), Array.getElem_modify_self, hk]
  rfl
theorem JB.set4 (u : Int) (k : JB w b x y h t l) : JB (w.setCell ⟨b, 4, none⟩ (.int .i64 u)) b x y h t u := by
  obtain ⟨hlt, hk⟩ := Array.getElem?_eq_some_iff.1 k
  show (w.heap.modify b _)[b]? = _
  rw [Array.getElem?_eq_getElem (by rw [Array.size_modify]; exact hlt), Array.getElem_modify_self, hk]
  rfl
theorem JB.set (k : JB w b x y h t l) (x' y' h' t' l' : Int) : JB (((((w.setCell ⟨b, 0, none⟩ (.int .i64 x')).setCell ⟨b, 1, none⟩ (.int .i64 y')).setCell ⟨b, 2, none⟩ (.int .i64 h')).setCell ⟨b, 3, none⟩ (.int .i64 t')).setCell ⟨b, 4, none⟩ (.int .i64 l')) b x' y' h' t' l' :=
  ((((k.set0 x').set1 y').set2 h').set3 t').set4 l'
end

end Go.Proofs.YtokncfhpmjohdaaGreat.Dr4
namespace Go.Proofs.YtokncfhpmjohdaaGreat.Tp
open Go.RowKit Go.Proofs.YtokncfhpmjohdaaGreat.Cm Go.Proofs.YtokncfhpmjohdaaGreat.Pl Go.Proofs.YtokncfhpmjohdaaGreat.Str Go.Proofs.YtokncfhpmjohdaaGreat.Pw Go.Proofs.YtokncfhpmjohdaaGreat.P2
set_option linter.unusedVariables false

theorem placeI {x y : Int} {b : Bool} (h : (ms x && ms y) = b) (w : World) : Calls Tryz.prog 128 #[.agg #[.int .i64 x, .int .i64 y]] w fun e w' => e = .returned (.bool b) ∧ Below w.heap.size w w' :=
  (isPlaceI_of h w).mono fun e w' k => ⟨k.1, by rw [k.2]; go_grown⟩
theorem placeS {x y : Int} {b : Bool} (h : (ms x && ms y) = b) (w : World) : Calls Tryz.prog 74 #[.agg #[.int .i64 x, .int .i64 y]] w fun e w' => e = .returned (.bool b) ∧ Below w.heap.size w w' :=
  (isPlaceS_of h w).mono fun e w' k => ⟨k.1, by rw [k.2]; go_grown⟩

set_option maxHeartbeats 1000000 in
theorem turnI {x y : Int} (n : Int) (h : (ms x && ms y) = true) (w : World) : Calls Tryz.prog 144 #[.agg #[.int .i64 x, .int .i64 y], .int .i64 n] w fun e w' => e = .returned (.agg #[.int .i64 (tx (n % 4).toNat x y), .int .i64 (ty (n % 4).toNat x y)]) ∧ Below w.heap.size w w' := by
  obtain ⟨hx, hy⟩ := pl_yes h
  have CI := Lib.hid (isPlaceI_of h)
  have C := Lib.hid (complexOf x y (by omega) (by omega))
  have T := turned (n := n) (by omega) (by omega) (i32_f32 x) (i32_f32 y)
  have bx := txle (k := (n % 4).toNat) hx hy
  have b_y := tyle (k := (n % 4).toNat) hx hy
  generalize tx (n % 4).toNat x y = X at *
  generalize ty (n % 4).toNat x y = Y at *
  replace T := Lib.hid T
  have D := Lib.hid (fun re im => toldYes (re := re) (im := im) bx b_y)
  clear h hx hy bx b_y
  go_enter Tryz.func144, Tryz.ntmps144
  go_wp2_with (first
    | (go_at_call 128; refine (CI.out _).mono ?_; rintro e w' ⟨rfl, rfl⟩)
    | (go_at_call 94; refine (C.out _).mono ?_; rintro e w' ⟨rfl, rfl⟩)
    | (go_at_call 170; refine (T.out _).mono ?_; rintro e w' ⟨re, im, rfl, rfl, i1, i2⟩)
    | (go_at_call 151; refine (D.out _ _ (by assumption) (by assumption) _).mono ?_; rintro e w' ⟨rfl, rfl⟩))
  all_goals go_returns
  all_goals exact ⟨rfl, by go_grown⟩

/-- Block b's first two cells hold the place x, y. -/
def CB (w : World) (b : Nat) (x y : Int) : Prop := w.cell? ⟨b, 0, none⟩ = some (.int .i64 x) ∧ w.cell? ⟨b, 1, none⟩ = some (.int .i64 y)
theorem CB.c0 {w : World} {b : Nat} {x y : Int} (h : CB w b x y) : w.cell? ⟨b, 0, none⟩ = some (.int .i64 x) := h.1
theorem CB.c1 {w : World} {b : Nat} {x y : Int} (h : CB w b x y) : w.cell? ⟨b, 1, none⟩ = some (.int .i64 y) := h.2
theorem CB.lt {w : World} {b : Nat} {x y : Int} (h : CB w b x y) : b < w.heap.size := World.block_lt_of_cell? w _ h.1
theorem CB.alloc {w : World} {b : Nat} {x y : Int} (h : CB w b x y) (o : Obj) : CB (w.alloc o) b x y := ⟨cell_alloc h.1, cell_alloc h.2⟩
theorem CB.below {w w' : World} {b : Nat} {x y : Int} (h : CB w b x y) (hb : Below w.heap.size w w') : CB w' b x y := ⟨cell_below hb h.1, cell_below hb h.2⟩
theorem CB.new (w : World) (x y : Int) : CB (w.alloc (.cells #[.int .i64 x, .int .i64 y] 44)) w.heap.size x y := ⟨cell_here rfl, cell_here rfl⟩
end Go.Proofs.YtokncfhpmjohdaaGreat.Tp
namespace Go.Proofs.YtokncfhpmjohdaaGreat.Dr4
open Go.RowKit Go.Proofs.YtokncfhpmjohdaaGreat.Cx Go.Proofs.YtokncfhpmjohdaaGreat.Cm Go.Proofs.YtokncfhpmjohdaaGreat.Pl Go.Proofs.YtokncfhpmjohdaaGreat.Str Go.Proofs.YtokncfhpmjohdaaGreat.Pw Go.Proofs.YtokncfhpmjohdaaGreat.P2 Go.Proofs.YtokncfhpmjohdaaGreat.Hd Go.Proofs.YtokncfhpmjohdaaGreat.Jt Go.Proofs.YtokncfhpmjohdaaGreat.Dp
set_option linter.unusedVariables false
set_option linter.unusedSimpArgs false

/-- A jet behind n quarter turns. -/
def turnV (x y h t l n : Int) : Value := if jt x y h t l then jv (tx (n % 4).toNat x y) (ty (n % 4).toNat x y) (th h n) t l else jv 0 0 0 0 0
theorem turnV_no {x y h t l n : Int} (hj : jt x y h t l = false) : turnV x y h t l n = jv 0 0 0 0 0 := by unfold turnV; rw [hj]; rfl
theorem turnV_yes {x y h t l n : Int} (hj : jt x y h t l = true) : turnV x y h t l n = jv (tx (n % 4).toNat x y) (ty (n % 4).toNat x y) (th h n) t l := by unfold turnV; rw [hj]; rfl
theorem pl_of {x y h t l : Int} (hj : jt x y h t l = true) : (ms x && ms y) = true := by
  obtain ⟨hx, hy, _⟩ := jt_iff.1 hj
  exact pl_mk (by omega) (by omega)

set_option maxHeartbeats 2000000 in
set_option maxRecDepth 100000 in
theorem turnJetI (x y h t l n : Int) (w : World) : Calls Tryz.prog 241 #[jv x y h t l, .int .i64 n] w fun e w' => e = .returned (turnV x y h t l n) ∧ Below w.heap.size w w' := by
  cases hj : jt x y h t l
  · rw [turnV_no hj]
    have C := Lib.hid (isJetI_of hj)
    clear hj
    go_enter Tryz.func241, Tryz.ntmps241
    go_wp2_with fail
    refine (C.out _).mono ?_
    rintro e w' ⟨rfl, rfl⟩
    go_wp2_with fail
    go_returns
    exact ⟨rfl, by go_grown⟩
  · rw [turnV_yes hj]
    have C := Lib.hid (isJetI_of hj)
    have T := Lib.hid (Tp.turnI n (pl_of hj))
    have H := Lib.hid (turnHeadingI h n)
    generalize tx (n % 4).toNat x y = X at *
    generalize ty (n % 4).toNat x y = Y at *
    generalize th h n = R at *
    clear hj
    go_enter Tryz.func241, Tryz.ntmps241
    go_wp2_with fail
    refine (C.out _).mono ?_
    rintro e w' ⟨rfl, rfl⟩
    go_wp2_with fail
    refine (T.out _).mono ?_
    rintro e v ⟨rfl, hb⟩
    have Jj := Lib.hid (JB.below (((JB.new w x y h t l).alloc (.cells (jc 0 0 0 0 0) 69)).alloc (.cells (jc x y h t l) 69)) hb)
    have Jr := Lib.hid (JB.below ((show JB ((w.alloc (.cells (jc x y h t l) 69)).alloc (.cells (jc 0 0 0 0 0) 69)) (w.heap.size + 1) 0 0 0 0 0 from by simpa using JB.new (w.alloc (.cells (jc x y h t l) 69)) 0 0 0 0 0).alloc (.cells (jc x y h t l) 69)) hb)
    have HB := Lib.hid (show Below w.heap.size w v from Below.trans (by go_grown) (hb.mono (by go_size)))
    have hsz := HB.out.size
    obtain ⟨a0, a1, a2, a3, a4⟩ := Jj.out.c
    have f0 := Jj.out.f 0
    have f1 := Jj.out.f 1
    have f2 := Jj.out.f 2
    obtain ⟨b0, b1, b2, b3, b4⟩ := Jr.out.c
    have g0 := Jr.out.f 0
    have g1 := Jr.out.f 1
    have g2 := Jr.out.f 2
    have g3 := Jr.out.f 3
    have g4 := Jr.out.f 4
    clear hb
    go_wp2_with fail
    refine (H.out _).mono ?_
    rintro e w' ⟨rfl, rfl⟩
    have JR := Lib.hid (((Jr.out.other (b' := w.heap.size) 0 (.int .i64 X) (by omega)).other (b' := w.heap.size) 1 (.int .i64 Y) (by omega)).other (b' := w.heap.size) 2 (.int .i64 R) (by omega))
    go_wp2_with fail
    obtain ⟨s0, s1, s2, s3, s4⟩ := (JR.out.set X Y R t l).c
    (try simp only [Exit.inBlock, Exit.then])
    refine bodyPost_ret (v := jv X Y R t l) (by simp [results, Tryz.results241, go_sem, s0, s1, s2, s3, s4]; try rfl) rfl ?_
    exact ⟨rfl, HB.out.trans (by go_grown)⟩

end Go.Proofs.YtokncfhpmjohdaaGreat.Dr4
namespace Go.Proofs.YtokncfhpmjohdaaGreat.Tr
open Go.RowKit Go.ChangeShapes Go.WideShapes Go.WideElems Go.Deep Go.Proofs.YtokncfhpmjohdaaGreat.Mem Go.Proofs.YtokncfhpmjohdaaGreat.Rw Go.Proofs.YtokncfhpmjohdaaGreat.Pw Go.Proofs.YtokncfhpmjohdaaGreat.P2 Go.Proofs.YtokncfhpmjohdaaGreat.Dd Go.Proofs.YtokncfhpmjohdaaGreat.Dv Go.Proofs.YtokncfhpmjohdaaGreat.Dl Go.Proofs.YtokncfhpmjohdaaGreat.Ds Go.Proofs.YtokncfhpmjohdaaGreat.Fd Go.Proofs.YtokncfhpmjohdaaGreat.Ch Go.Proofs.YtokncfhpmjohdaaGreat.Hn Go.Proofs.YtokncfhpmjohdaaGreat.Po
set_option linter.unusedVariables false
set_option linter.unusedSimpArgs false
open Go.Proofs.YtokncfhpmjohdaaGreat.Cm Go.Proofs.YtokncfhpmjohdaaGreat.Pl Go.Proofs.YtokncfhpmjohdaaGreat.Str Go.Proofs.YtokncfhpmjohdaaGreat.Hd Go.Proofs.YtokncfhpmjohdaaGreat.Jt Go.Proofs.YtokncfhpmjohdaaGreat.Ho Go.Proofs.YtokncfhpmjohdaaGreat.Pa Go.Proofs.YtokncfhpmjohdaaGreat.Di Go.Proofs.YtokncfhpmjohdaaGreat.Ig Go.Proofs.YtokncfhpmjohdaaGreat.Ir Go.Proofs.YtokncfhpmjohdaaGreat.Iq Go.Proofs.YtokncfhpmjohdaaGreat.IsName Go.Proofs.YtokncfhpmjohdaaGreat.Mo
open Go.Proofs.YtokncfhpmjohdaaGreat.Dr4 (turnJetI turnV_yes)
open Go.Proofs.YtokncfhpmjohdaaGreat.Rw (owns_below owns_grown)

/-- A rig that is turned. -/
noncomputable def trV (zs : List D) (n : Int) : List D := if rig zs = true then zs.map (mvD n 0 0) else []
theorem turnedP (n l : ByteArray) (x y h t m : Int) (t9 : Int) (w : World) : Calls Tryz.prog 233 #[va n 1 l x y h t m, .int .i64 t9] w fun e w' => e = .returned (va n 1 l x y h t m) ∧ Below w.heap.size w w' := by
  go_enter Tryz.func233, Tryz.ntmps233
  go_wp2_with fail
  go_returns
  exact ⟨rfl, by go_grown⟩

theorem set8 {W : World} {b : Nat} {v0 v1 v2 v3 v4 v5 v6 v7 : Value} (h : ∀ j, j < 8 → (W.cell? ⟨b, j, none⟩).isSome = true) : ((((((((W.setCell ⟨b, 0, none⟩ v0).setCell ⟨b, 1, none⟩ v1).setCell ⟨b, 2, none⟩ v2).setCell ⟨b, 3, none⟩ v3).setCell ⟨b, 4, none⟩ v4).setCell ⟨b, 5, none⟩ v5).setCell ⟨b, 6, none⟩ v6).setCell ⟨b, 7, none⟩ v7).cell? ⟨b, 0, none⟩ = some v0 ∧ ((((((((W.setCell ⟨b, 0, none⟩ v0).setCell ⟨b, 1, none⟩ v1).setCell ⟨b, 2, none⟩ v2).setCell ⟨b, 3, none⟩ v3).setCell ⟨b, 4, none⟩ v4).setCell ⟨b, 5, none⟩ v5).setCell ⟨b, 6, none⟩ v6).setCell ⟨b, 7, none⟩ v7).cell? ⟨b, 1, none⟩ = some v1 ∧ ((((((((W.setCell ⟨b, 0, none⟩ v0).setCell ⟨b, 1, none⟩ v1).setCell ⟨b, 2, none⟩ v2).setCell ⟨b, 3, none⟩ v3).setCell ⟨b, 4, none⟩ v4).setCell ⟨b, 5, none⟩ v5).setCell ⟨b, 6, none⟩ v6).setCell ⟨b, 7, none⟩ v7).cell? ⟨b, 2, none⟩ = some v2 ∧ ((((((((W.setCell ⟨b, 0, none⟩ v0).setCell ⟨b, 1, none⟩ v1).setCell ⟨b, 2, none⟩ v2).setCell ⟨b, 3, none⟩ v3).setCell ⟨b, 4, none⟩ v4).setCell ⟨b, 5, none⟩ v5).setCell ⟨b, 6, none⟩ v6).setCell ⟨b, 7, none⟩ v7).cell? ⟨b, 3, none⟩ = some v3 ∧ ((((((((W.setCell ⟨b, 0, none⟩ v0).setCell ⟨b, 1, none⟩ v1).setCell ⟨b, 2, none⟩ v2).setCell ⟨b, 3, none⟩ v3).setCell ⟨b, 4, none⟩ v4).setCell ⟨b, 5, none⟩ v5).setCell ⟨b, 6, none⟩ v6).setCell ⟨b, 7, none⟩ v7).cell? ⟨b, 4, none⟩ = some v4 ∧ ((((((((W.setCell ⟨b, 0, none⟩ v0).setCell ⟨b, 1, none⟩ v1).setCell ⟨b, 2, none⟩ v2).setCell ⟨b, 3, none⟩ v3).setCell ⟨b, 4, none⟩ v4).setCell ⟨b, 5, none⟩ v5).setCell ⟨b, 6, none⟩ v6).setCell ⟨b, 7, none⟩ v7).cell? ⟨b, 5, none⟩ = some v5 ∧ ((((((((W.setCell ⟨b, 0, none⟩ v0).setCell ⟨b, 1, none⟩ v1).setCell ⟨b, 2, none⟩ v2).setCell ⟨b, 3, none⟩ v3).setCell ⟨b, 4, none⟩ v4).setCell ⟨b, 5, none⟩ v5).setCell ⟨b, 6, none⟩ v6).setCell ⟨b, 7, none⟩ v7).cell? ⟨b, 6, none⟩ = some v6 ∧ ((((((((W.setCell ⟨b, 0, none⟩ v0).setCell ⟨b, 1, none⟩ v1).setCell ⟨b, 2, none⟩ v2).setCell ⟨b, 3, none⟩ v3).setCell ⟨b, 4, none⟩ v4).setCell ⟨b, 5, none⟩ v5).setCell ⟨b, 6, none⟩ v6).setCell ⟨b, 7, none⟩ v7).cell? ⟨b, 7, none⟩ = some v7 := by
  refine ⟨?_, ?_, ?_, ?_, ?_, ?_, ?_, ?_⟩
  · rw [World.cell?_setCell_other _ _ _ _ (by simp), World.cell?_setCell_other _ _ _ _ (by simp), World.cell?_setCell_other _ _ _ _ (by simp), World.cell?_setCell_other _ _ _ _ (by simp), World.cell?_setCell_other _ _ _ _ (by simp), World.cell?_setCell_other _ _ _ _ (by simp), World.cell?_setCell_other _ _ _ _ (by simp)]; refine World.cell?_setCell_same' _ _ _ ?_; exact h 0 (by omega)
  · rw [World.cell?_setCell_other _ _ _ _ (by simp), World.cell?_setCell_other _ _ _ _ (by simp), World.cell?_setCell_other _ _ _ _ (by simp), World.cell?_setCell_other _ _ _ _ (by simp), World.cell?_setCell_other _ _ _ _ (by simp), World.cell?_setCell_other _ _ _ _ (by simp)]; refine World.cell?_setCell_same' _ _ _ ?_; rw [World.cell?_setCell_other _ _ _ _ (by simp)]; exact h 1 (by omega)
  · rw [World.cell?_setCell_other _ _ _ _ (by simp), World.cell?_setCell_other _ _ _ _ (by simp), World.cell?_setCell_other _ _ _ _ (by simp), World.cell?_setCell_other _ _ _ _ (by simp), World.cell?_setCell_other _ _ _ _ (by simp)]; refine World.cell?_setCell_same' _ _ _ ?_; rw [World.cell?_setCell_other _ _ _ _ (by simp), World.cell?_setCell_other _ _ _ _ (by simp)]; exact h 2 (by omega)
  · rw [World.cell?_setCell_other _ _ _ _ (by simp), World.cell?_setCell_other _ _ _ _ (by simp), World.cell?_setCell_other _ _ _ _ (by simp), World.cell?_setCell_other _ _ _ _ (by simp)]; refine World.cell?_setCell_same' _ _ _ ?_; rw [World.cell?_setCell_other _ _ _ _ (by simp), World.cell?_setCell_other _ _ _ _ (by simp), World.cell?_setCell_other _ _ _ _ (by simp)]; exact h 3 (by omega)
  · rw [World.cell?_setCell_other _ _ _ _ (by simp), World.cell?_setCell_other _ _ _ _ (by simp), World.cell?_setCell_other _ _ _ _ (by simp)]; refine World.cell?_setCell_same' _ _ _ ?_; rw [World.cell?_setCell_other _ _ _ _ (by simp), World.cell?_setCell_other _ _ _ _ (by simp), World.cell?_setCell_other _ _ _ _ (by simp), World.cell?_setCell_other _ _ _ _ (by simp)]; exact h 4 (by omega)
  · rw [World.cell?_setCell_other _ _ _ _ (by simp), World.cell?_setCell_other _ _ _ _ (by simp)]; refine World.cell?_setCell_same' _ _ _ ?_; rw [World.cell?_setCell_other _ _ _ _ (by simp), World.cell?_setCell_other _ _ _ _ (by simp), World.cell?_setCell_other _ _ _ _ (by simp), World.cell?_setCell_other _ _ _ _ (by simp), World.cell?_setCell_other _ _ _ _ (by simp)]; exact h 5 (by omega)
  · rw [World.cell?_setCell_other _ _ _ _ (by simp)]; refine World.cell?_setCell_same' _ _ _ ?_; rw [World.cell?_setCell_other _ _ _ _ (by simp), World.cell?_setCell_other _ _ _ _ (by simp), World.cell?_setCell_other _ _ _ _ (by simp), World.cell?_setCell_other _ _ _ _ (by simp), World.cell?_setCell_other _ _ _ _ (by simp), World.cell?_setCell_other _ _ _ _ (by simp)]; exact h 6 (by omega)
  · refine World.cell?_setCell_same' _ _ _ ?_; rw [World.cell?_setCell_other _ _ _ _ (by simp), World.cell?_setCell_other _ _ _ _ (by simp), World.cell?_setCell_other _ _ _ _ (by simp), World.cell?_setCell_other _ _ _ _ (by simp), World.cell?_setCell_other _ _ _ _ (by simp), World.cell?_setCell_other _ _ _ _ (by simp), World.cell?_setCell_other _ _ _ _ (by simp)]; exact h 7 (by omega)

set_option maxHeartbeats 400000 in
theorem turnedN (n l : ByteArray) (x y h t m : Int) (c : Nat) (t9 : Int) (hj : jt x y h t 1 = true) (w : World) :
    Calls Tryz.prog 238 #[hv n 2 l x y h t m c, .int .i64 t9] w fun e w' => e = .returned (va n 2 l (tx (t9 % 4).toNat x y) (ty (t9 % 4).toNat x y) (th h t9) t m) ∧ Below w.heap.size w w' := by
  have TJ := turnJetI x y h t 1 t9
  rw [turnV_yes hj] at TJ
  generalize tx (t9 % 4).toNat x y = X at *
  generalize ty (t9 % 4).toNat x y = Y at *
  generalize th h t9 = Q at *
  have TJ := Lib.hid TJ
  clear hj
  go_enter Tryz.func238, Tryz.ntmps238
  go_wp2_with fail
  refine (jetOf _ _ _ _ _ _ _ _ _ _).mono ?_
  rintro e w1 ⟨rfl, hb1⟩
  have B1 := Lib.hid (show Below w.heap.size w w1 from Below.trans (by go_grown) (hb1.mono (by simp; omega)))
  have c0 : w1.cell? ⟨w.heap.size, 0, none⟩ = some (.string n) := (hb1.cell (by simp; omega)).trans (by simp [go_sem])
  have c1 : w1.cell? ⟨w.heap.size, 1, none⟩ = some (.int .i64 2) := (hb1.cell (by simp; omega)).trans (by simp [go_sem])
  have c2 : w1.cell? ⟨w.heap.size, 2, none⟩ = some (.string l) := (hb1.cell (by simp; omega)).trans (by simp [go_sem])
  have c3 : w1.cell? ⟨w.heap.size, 3, none⟩ = some (.int .i64 x) := (hb1.cell (by simp; omega)).trans (by simp [go_sem])
  have c4 : w1.cell? ⟨w.heap.size, 4, none⟩ = some (.int .i64 y) := (hb1.cell (by simp; omega)).trans (by simp [go_sem])
  have c5 : w1.cell? ⟨w.heap.size, 5, none⟩ = some (.int .i64 h) := (hb1.cell (by simp; omega)).trans (by simp [go_sem])
  have c6 : w1.cell? ⟨w.heap.size, 6, none⟩ = some (.int .i64 t) := (hb1.cell (by simp; omega)).trans (by simp [go_sem])
  have c7 : w1.cell? ⟨w.heap.size, 7, none⟩ = some (.int .i64 m) := (hb1.cell (by simp; omega)).trans (by simp [go_sem])
  have c8 : w1.cell? ⟨w.heap.size, 8, none⟩ = some (.chan (some c)) := (hb1.cell (by simp; omega)).trans (by simp [go_sem])
  have r0 : w1.cell? ⟨w.heap.size + 1, 0, none⟩ = some (.string ⟨#[]⟩) := (hb1.cell (by simp)).trans (by simp [go_sem])
  have f0 : w1.frozen? ⟨w.heap.size + 1, 0, none⟩ = false := (hb1.frozen (by simp)).trans (by simp [go_sem])
  have r1 : w1.cell? ⟨w.heap.size + 1, 1, none⟩ = some (.int .i64 0) := (hb1.cell (by simp)).trans (by simp [go_sem])
  have f1 : w1.frozen? ⟨w.heap.size + 1, 1, none⟩ = false := (hb1.frozen (by simp)).trans (by simp [go_sem])
  have r2 : w1.cell? ⟨w.heap.size + 1, 2, none⟩ = some (.string ⟨#[]⟩) := (hb1.cell (by simp)).trans (by simp [go_sem])
  have f2 : w1.frozen? ⟨w.heap.size + 1, 2, none⟩ = false := (hb1.frozen (by simp)).trans (by simp [go_sem])
  have r3 : w1.cell? ⟨w.heap.size + 1, 3, none⟩ = some (.int .i64 0) := (hb1.cell (by simp)).trans (by simp [go_sem])
  have f3 : w1.frozen? ⟨w.heap.size + 1, 3, none⟩ = false := (hb1.frozen (by simp)).trans (by simp [go_sem])
  have r4 : w1.cell? ⟨w.heap.size + 1, 4, none⟩ = some (.int .i64 0) := (hb1.cell (by simp)).trans (by simp [go_sem])
  have f4 : w1.frozen? ⟨w.heap.size + 1, 4, none⟩ = false := (hb1.frozen (by simp)).trans (by simp [go_sem])
  have r5 : w1.cell? ⟨w.heap.size + 1, 5, none⟩ = some (.int .i64 0) := (hb1.cell (by simp)).trans (by simp [go_sem])
  have f5 : w1.frozen? ⟨w.heap.size + 1, 5, none⟩ = false := (hb1.frozen (by simp)).trans (by simp [go_sem])
  have r6 : w1.cell? ⟨w.heap.size + 1, 6, none⟩ = some (.int .i64 0) := (hb1.cell (by simp)).trans (by simp [go_sem])
  have f6 : w1.frozen? ⟨w.heap.size + 1, 6, none⟩ = false := (hb1.frozen (by simp)).trans (by simp [go_sem])
  have r7 : w1.cell? ⟨w.heap.size + 1, 7, none⟩ = some (.int .i64 0) := (hb1.cell (by simp)).trans (by simp [go_sem])
  have f7 : w1.frozen? ⟨w.heap.size + 1, 7, none⟩ = false := (hb1.frozen (by simp)).trans (by simp [go_sem])
  clear hb1
  go_wp2_with fail
  refine (TJ.out _).mono ?_
  rintro e w2 ⟨rfl, hb2⟩
  have B2 := Lib.hid (B1.out.trans (hb2.mono B1.out.size))
  have e0 := cell_below hb2 c0
  have e1 := cell_below hb2 c1
  have e2 := cell_below hb2 c2
  have e3 := cell_below hb2 c3
  have e4 := cell_below hb2 c4
  have e5 := cell_below hb2 c5
  have e6 := cell_below hb2 c6
  have e7 := cell_below hb2 c7
  have e8 := cell_below hb2 c8
  have s0 := cell_below hb2 r0
  have g0 := (hb2.frozen (p := ⟨w.heap.size + 1, 0, none⟩) (World.block_lt_of_cell? w1 _ r0)).trans f0
  have s1 := cell_below hb2 r1
  have g1 := (hb2.frozen (p := ⟨w.heap.size + 1, 1, none⟩) (World.block_lt_of_cell? w1 _ r1)).trans f1
  have s2 := cell_below hb2 r2
  have g2 := (hb2.frozen (p := ⟨w.heap.size + 1, 2, none⟩) (World.block_lt_of_cell? w1 _ r2)).trans f2
  have s3 := cell_below hb2 r3
  have g3 := (hb2.frozen (p := ⟨w.heap.size + 1, 3, none⟩) (World.block_lt_of_cell? w1 _ r3)).trans f3
  have s4 := cell_below hb2 r4
  have g4 := (hb2.frozen (p := ⟨w.heap.size + 1, 4, none⟩) (World.block_lt_of_cell? w1 _ r4)).trans f4
  have s5 := cell_below hb2 r5
  have g5 := (hb2.frozen (p := ⟨w.heap.size + 1, 5, none⟩) (World.block_lt_of_cell? w1 _ r5)).trans f5
  have s6 := cell_below hb2 r6
  have g6 := (hb2.frozen (p := ⟨w.heap.size + 1, 6, none⟩) (World.block_lt_of_cell? w1 _ r6)).trans f6
  have s7 := cell_below hb2 r7
  have g7 := (hb2.frozen (p := ⟨w.heap.size + 1, 7, none⟩) (World.block_lt_of_cell? w1 _ r7)).trans f7
  have p0 : w.heap.size < w2.heap.size := World.block_lt_of_cell? w2 _ e0
  have p1 : w.heap.size + 1 < w2.heap.size := World.block_lt_of_cell? w2 _ s0
  clear hb2  c0 c1 c2 c3 c4 c5 c6 c7 c8 r0 f0 r1 f1 r2 f2 r3 f3 r4 f4 r5 f5 r6 f6 r7 f7
  have d0 : ((w2.alloc (.cells (jc X Y Q t 1) 69)).alloc (.cells (ca n 2 l X Y Q t m) 98)).drew.cell? ⟨w2.heap.size + 1, 0, none⟩ = some (.string n) := by simp [go_sem]
  have d1 : ((w2.alloc (.cells (jc X Y Q t 1) 69)).alloc (.cells (ca n 2 l X Y Q t m) 98)).drew.cell? ⟨w2.heap.size + 1, 1, none⟩ = some (.int .i64 2) := by simp [go_sem]
  have d2 : ((w2.alloc (.cells (jc X Y Q t 1) 69)).alloc (.cells (ca n 2 l X Y Q t m) 98)).drew.cell? ⟨w2.heap.size + 1, 2, none⟩ = some (.string l) := by simp [go_sem]
  have d3 : ((w2.alloc (.cells (jc X Y Q t 1) 69)).alloc (.cells (ca n 2 l X Y Q t m) 98)).drew.cell? ⟨w2.heap.size + 1, 3, none⟩ = some (.int .i64 X) := by simp [go_sem]
  have d4 : ((w2.alloc (.cells (jc X Y Q t 1) 69)).alloc (.cells (ca n 2 l X Y Q t m) 98)).drew.cell? ⟨w2.heap.size + 1, 4, none⟩ = some (.int .i64 Y) := by simp [go_sem]
  have d5 : ((w2.alloc (.cells (jc X Y Q t 1) 69)).alloc (.cells (ca n 2 l X Y Q t m) 98)).drew.cell? ⟨w2.heap.size + 1, 5, none⟩ = some (.int .i64 Q) := by simp [go_sem]
  have d6 : ((w2.alloc (.cells (jc X Y Q t 1) 69)).alloc (.cells (ca n 2 l X Y Q t m) 98)).drew.cell? ⟨w2.heap.size + 1, 6, none⟩ = some (.int .i64 t) := by simp [go_sem]
  have d7 : ((w2.alloc (.cells (jc X Y Q t 1) 69)).alloc (.cells (ca n 2 l X Y Q t m) 98)).drew.cell? ⟨w2.heap.size + 1, 7, none⟩ = some (.int .i64 m) := by simp [go_sem]
  have a0 : ((w2.alloc (.cells (jc X Y Q t 1) 69)).alloc (.cells (ca n 2 l X Y Q t m) 98)).drew.cell? ⟨w.heap.size + 1, 0, none⟩ = _ := cell_alloc (cell_alloc s0)
  have q0 : ((w2.alloc (.cells (jc X Y Q t 1) 69)).alloc (.cells (ca n 2 l X Y Q t m) 98)).drew.frozen? ⟨w.heap.size + 1, 0, none⟩ = false := by simp [go_sem, p1, g0, Nat.lt_succ_of_lt p1]
  have a1 : ((w2.alloc (.cells (jc X Y Q t 1) 69)).alloc (.cells (ca n 2 l X Y Q t m) 98)).drew.cell? ⟨w.heap.size + 1, 1, none⟩ = _ := cell_alloc (cell_alloc s1)
  have q1 : ((w2.alloc (.cells (jc X Y Q t 1) 69)).alloc (.cells (ca n 2 l X Y Q t m) 98)).drew.frozen? ⟨w.heap.size + 1, 1, none⟩ = false := by simp [go_sem, p1, g1, Nat.lt_succ_of_lt p1]
  have a2 : ((w2.alloc (.cells (jc X Y Q t 1) 69)).alloc (.cells (ca n 2 l X Y Q t m) 98)).drew.cell? ⟨w.heap.size + 1, 2, none⟩ = _ := cell_alloc (cell_alloc s2)
  have q2 : ((w2.alloc (.cells (jc X Y Q t 1) 69)).alloc (.cells (ca n 2 l X Y Q t m) 98)).drew.frozen? ⟨w.heap.size + 1, 2, none⟩ = false := by simp [go_sem, p1, g2, Nat.lt_succ_of_lt p1]
  have a3 : ((w2.alloc (.cells (jc X Y Q t 1) 69)).alloc (.cells (ca n 2 l X Y Q t m) 98)).drew.cell? ⟨w.heap.size + 1, 3, none⟩ = _ := cell_alloc (cell_alloc s3)
  have q3 : ((w2.alloc (.cells (jc X Y Q t 1) 69)).alloc (.cells (ca n 2 l X Y Q t m) 98)).drew.frozen? ⟨w.heap.size + 1, 3, none⟩ = false := by simp [go_sem, p1, g3, Nat.lt_succ_of_lt p1]
  have a4 : ((w2.alloc (.cells (jc X Y Q t 1) 69)).alloc (.cells (ca n 2 l X Y Q t m) 98)).drew.cell? ⟨w.heap.size + 1, 4, none⟩ = _ := cell_alloc (cell_alloc s4)
  have q4 : ((w2.alloc (.cells (jc X Y Q t 1) 69)).alloc (.cells (ca n 2 l X Y Q t m) 98)).drew.frozen? ⟨w.heap.size + 1, 4, none⟩ = false := by simp [go_sem, p1, g4, Nat.lt_succ_of_lt p1]
  have a5 : ((w2.alloc (.cells (jc X Y Q t 1) 69)).alloc (.cells (ca n 2 l X Y Q t m) 98)).drew.cell? ⟨w.heap.size + 1, 5, none⟩ = _ := cell_alloc (cell_alloc s5)
  have q5 : ((w2.alloc (.cells (jc X Y Q t 1) 69)).alloc (.cells (ca n 2 l X Y Q t m) 98)).drew.frozen? ⟨w.heap.size + 1, 5, none⟩ = false := by simp [go_sem, p1, g5, Nat.lt_succ_of_lt p1]
  have a6 : ((w2.alloc (.cells (jc X Y Q t 1) 69)).alloc (.cells (ca n 2 l X Y Q t m) 98)).drew.cell? ⟨w.heap.size + 1, 6, none⟩ = _ := cell_alloc (cell_alloc s6)
  have q6 : ((w2.alloc (.cells (jc X Y Q t 1) 69)).alloc (.cells (ca n 2 l X Y Q t m) 98)).drew.frozen? ⟨w.heap.size + 1, 6, none⟩ = false := by simp [go_sem, p1, g6, Nat.lt_succ_of_lt p1]
  have a7 : ((w2.alloc (.cells (jc X Y Q t 1) 69)).alloc (.cells (ca n 2 l X Y Q t m) 98)).drew.cell? ⟨w.heap.size + 1, 7, none⟩ = _ := cell_alloc (cell_alloc s7)
  have q7 : ((w2.alloc (.cells (jc X Y Q t 1) 69)).alloc (.cells (ca n 2 l X Y Q t m) 98)).drew.frozen? ⟨w.heap.size + 1, 7, none⟩ = false := by simp [go_sem, p1, g7, Nat.lt_succ_of_lt p1]
  have BV := Lib.hid (show Below w.heap.size w ((w2.alloc (.cells (jc X Y Q t 1) 69)).alloc (.cells (ca n 2 l X Y Q t m) 98)).drew from ((B2.out.alloc B2.out.size _).alloc (by have := B2.out.size; simp; omega) _).drew)
  clear s0 g0 s1 g1 s2 g2 s3 g3 s4 g4 s5 g5 s6 g6 s7 g7 B1 B2 TJ
  go_wp2_with fail
  go_region
  clear p0 p1 e0 e1 e2 e3 e4 e5 e6 e7 e8
  generalize ((w2.alloc (.cells (jc X Y Q t 1) 69)).alloc (.cells (ca n 2 l X Y Q t m) 98)).drew = V at *
  go_wp2_with fail
  obtain ⟨s0, s1, s2, s3, s4, s5, s6, s7⟩ := set8 (W := V) (b := w.heap.size + 1) (v0 := .string n) (v1 := .int .i64 2) (v2 := .string l) (v3 := .int .i64 X) (v4 := .int .i64 Y) (v5 := .int .i64 Q) (v6 := .int .i64 t) (v7 := .int .i64 m) (by intro j hj; match j, hj with | 0, _ => (rw [a0]; rfl) | 1, _ => (rw [a1]; rfl) | 2, _ => (rw [a2]; rfl) | 3, _ => (rw [a3]; rfl) | 4, _ => (rw [a4]; rfl) | 5, _ => (rw [a5]; rfl) | 6, _ => (rw [a6]; rfl) | 7, _ => (rw [a7]; rfl))
  clear a0 a1 a2 a3 a4 a5 a6 a7 d0 d1 d2 d3 d4 d5 d6 d7 q0 q1 q2 q3 q4 q5 q6 q7
  (try simp only [Exit.inBlock, Exit.then])
  refine bodyPost_ret (v := va n 2 l X Y Q t m) (by simp only [results, Tryz.results238, s0, s1, s2, s3, s4, s5, s6, s7]; simp [go_sem, s0, s1, s2, s3, s4, s5, s6, s7]; try rfl) rfl ?_
  exact ⟨rfl, BV.out.trans (by go_grown)⟩

end Go.Proofs.YtokncfhpmjohdaaGreat.Tr
namespace Go.Proofs.YtokncfhpmjohdaaGreat.Tq
open Go.RowKit Go.ChangeShapes Go.WideShapes Go.WideElems Go.Deep Go.Proofs.YtokncfhpmjohdaaGreat.Mem Go.Proofs.YtokncfhpmjohdaaGreat.Rw Go.Proofs.YtokncfhpmjohdaaGreat.Pw Go.Proofs.YtokncfhpmjohdaaGreat.P2 Go.Proofs.YtokncfhpmjohdaaGreat.Dd Go.Proofs.YtokncfhpmjohdaaGreat.Dv Go.Proofs.YtokncfhpmjohdaaGreat.Dl Go.Proofs.YtokncfhpmjohdaaGreat.Ds Go.Proofs.YtokncfhpmjohdaaGreat.Fd Go.Proofs.YtokncfhpmjohdaaGreat.Ch Go.Proofs.YtokncfhpmjohdaaGreat.Hn Go.Proofs.YtokncfhpmjohdaaGreat.Po
set_option linter.unusedVariables false
set_option linter.unusedSimpArgs false
open Go.Proofs.YtokncfhpmjohdaaGreat.Cm Go.Proofs.YtokncfhpmjohdaaGreat.Pl Go.Proofs.YtokncfhpmjohdaaGreat.Str Go.Proofs.YtokncfhpmjohdaaGreat.Hd Go.Proofs.YtokncfhpmjohdaaGreat.Jt Go.Proofs.YtokncfhpmjohdaaGreat.Ho Go.Proofs.YtokncfhpmjohdaaGreat.Pa Go.Proofs.YtokncfhpmjohdaaGreat.Di Go.Proofs.YtokncfhpmjohdaaGreat.Ig Go.Proofs.YtokncfhpmjohdaaGreat.Ir Go.Proofs.YtokncfhpmjohdaaGreat.Iq Go.Proofs.YtokncfhpmjohdaaGreat.IsName Go.Proofs.YtokncfhpmjohdaaGreat.Mo Go.Proofs.YtokncfhpmjohdaaGreat.Tr
open Go.Proofs.YtokncfhpmjohdaaGreat.Rw (owns_below owns_grown)

set_option maxHeartbeats 400000 in
theorem turnedL (n l : ByteArray) (x y h t m : Int) (c : Nat) (t9 : Int) (hp : (ms x && ms y) = true) (w : World) :
    Calls Tryz.prog 245 #[hv n 3 l x y h t m c, .int .i64 t9] w fun e w' => e = .returned (va n 3 l (tx (t9 % 4).toNat x y) (ty (t9 % 4).toNat x y) h t m) ∧ Below w.heap.size w w' := by
  have T := Tp.turnI t9 hp
  generalize tx (t9 % 4).toNat x y = X at *
  generalize ty (t9 % 4).toNat x y = Y at *
  have T := Lib.hid T
  clear hp
  go_enter Tryz.func245, Tryz.ntmps245
  go_wp2_with fail
  refine (T.out _).mono ?_
  rintro e v ⟨rfl, hb⟩
  have hz : w.heap.size + 1 + 1 < v.heap.size := by have := hb.size; simp at this; omega
  have u0 : v.cell? ⟨w.heap.size + 1 + 1, 0, none⟩ = some (.string n) := (hb.cell (by simp)).trans (by simp [go_sem])
  have u1 : v.cell? ⟨w.heap.size + 1 + 1, 1, none⟩ = some (.int .i64 3) := (hb.cell (by simp)).trans (by simp [go_sem])
  have u2 : v.cell? ⟨w.heap.size + 1 + 1, 2, none⟩ = some (.string l) := (hb.cell (by simp)).trans (by simp [go_sem])
  have u3 : v.cell? ⟨w.heap.size + 1 + 1, 3, none⟩ = some (.int .i64 x) := (hb.cell (by simp)).trans (by simp [go_sem])
  have u4 : v.cell? ⟨w.heap.size + 1 + 1, 4, none⟩ = some (.int .i64 y) := (hb.cell (by simp)).trans (by simp [go_sem])
  have u5 : v.cell? ⟨w.heap.size + 1 + 1, 5, none⟩ = some (.int .i64 h) := (hb.cell (by simp)).trans (by simp [go_sem])
  have u6 : v.cell? ⟨w.heap.size + 1 + 1, 6, none⟩ = some (.int .i64 t) := (hb.cell (by simp)).trans (by simp [go_sem])
  have u7 : v.cell? ⟨w.heap.size + 1 + 1, 7, none⟩ = some (.int .i64 m) := (hb.cell (by simp)).trans (by simp [go_sem])
  have fu3 : v.frozen? ⟨w.heap.size + 1 + 1, 3, none⟩ = false := (hb.frozen (by simp)).trans (by simp [go_sem])
  have fu4 : v.frozen? ⟨w.heap.size + 1 + 1, 4, none⟩ = false := (hb.frozen (by simp)).trans (by simp [go_sem])
  have r0 : v.cell? ⟨w.heap.size + 1, 0, none⟩ = some (.string ⟨#[]⟩) := (hb.cell (by first | (simp; done) | (simp; omega))).trans (by simp [go_sem])
  have f0 : v.frozen? ⟨w.heap.size + 1, 0, none⟩ = false := (hb.frozen (by first | (simp; done) | (simp; omega))).trans (by simp [go_sem])
  have r1 : v.cell? ⟨w.heap.size + 1, 1, none⟩ = some (.int .i64 0) := (hb.cell (by first | (simp; done) | (simp; omega))).trans (by simp [go_sem])
  have f1 : v.frozen? ⟨w.heap.size + 1, 1, none⟩ = false := (hb.frozen (by first | (simp; done) | (simp; omega))).trans (by simp [go_sem])
  have r2 : v.cell? ⟨w.heap.size + 1, 2, none⟩ = some (.string ⟨#[]⟩) := (hb.cell (by first | (simp; done) | (simp; omega))).trans (by simp [go_sem])
  have f2 : v.frozen? ⟨w.heap.size + 1, 2, none⟩ = false := (hb.frozen (by first | (simp; done) | (simp; omega))).trans (by simp [go_sem])
  have r3 : v.cell? ⟨w.heap.size + 1, 3, none⟩ = some (.int .i64 0) := (hb.cell (by first | (simp; done) | (simp; omega))).trans (by simp [go_sem])
  have f3 : v.frozen? ⟨w.heap.size + 1, 3, none⟩ = false := (hb.frozen (by first | (simp; done) | (simp; omega))).trans (by simp [go_sem])
  have r4 : v.cell? ⟨w.heap.size + 1, 4, none⟩ = some (.int .i64 0) := (hb.cell (by first | (simp; done) | (simp; omega))).trans (by simp [go_sem])
  have f4 : v.frozen? ⟨w.heap.size + 1, 4, none⟩ = false := (hb.frozen (by first | (simp; done) | (simp; omega))).trans (by simp [go_sem])
  have r5 : v.cell? ⟨w.heap.size + 1, 5, none⟩ = some (.int .i64 0) := (hb.cell (by first | (simp; done) | (simp; omega))).trans (by simp [go_sem])
  have f5 : v.frozen? ⟨w.heap.size + 1, 5, none⟩ = false := (hb.frozen (by first | (simp; done) | (simp; omega))).trans (by simp [go_sem])
  have r6 : v.cell? ⟨w.heap.size + 1, 6, none⟩ = some (.int .i64 0) := (hb.cell (by first | (simp; done) | (simp; omega))).trans (by simp [go_sem])
  have f6 : v.frozen? ⟨w.heap.size + 1, 6, none⟩ = false := (hb.frozen (by first | (simp; done) | (simp; omega))).trans (by simp [go_sem])
  have r7 : v.cell? ⟨w.heap.size + 1, 7, none⟩ = some (.int .i64 0) := (hb.cell (by first | (simp; done) | (simp; omega))).trans (by simp [go_sem])
  have f7 : v.frozen? ⟨w.heap.size + 1, 7, none⟩ = false := (hb.frozen (by first | (simp; done) | (simp; omega))).trans (by simp [go_sem])
  have B1 := Lib.hid (show Below w.heap.size w v from Below.trans (by go_grown) (hb.mono (by simp; omega)))
  have d0 : ((v.setCell ⟨w.heap.size + 1 + 1, 3, none⟩ (.int .i64 X)).setCell ⟨w.heap.size + 1 + 1, 4, none⟩ (.int .i64 Y)).cell? ⟨w.heap.size + 1 + 1, 0, none⟩ = some (.string n) := by rw [World.cell?_setCell_other _ _ _ _ (by simp), World.cell?_setCell_other _ _ _ _ (by simp)]; exact u0
  have d1 : ((v.setCell ⟨w.heap.size + 1 + 1, 3, none⟩ (.int .i64 X)).setCell ⟨w.heap.size + 1 + 1, 4, none⟩ (.int .i64 Y)).cell? ⟨w.heap.size + 1 + 1, 1, none⟩ = some (.int .i64 3) := by rw [World.cell?_setCell_other _ _ _ _ (by simp), World.cell?_setCell_other _ _ _ _ (by simp)]; exact u1
  have d2 : ((v.setCell ⟨w.heap.size + 1 + 1, 3, none⟩ (.int .i64 X)).setCell ⟨w.heap.size + 1 + 1, 4, none⟩ (.int .i64 Y)).cell? ⟨w.heap.size + 1 + 1, 2, none⟩ = some (.string l) := by rw [World.cell?_setCell_other _ _ _ _ (by simp), World.cell?_setCell_other _ _ _ _ (by simp)]; exact u2
  have d5 : ((v.setCell ⟨w.heap.size + 1 + 1, 3, none⟩ (.int .i64 X)).setCell ⟨w.heap.size + 1 + 1, 4, none⟩ (.int .i64 Y)).cell? ⟨w.heap.size + 1 + 1, 5, none⟩ = some (.int .i64 h) := by rw [World.cell?_setCell_other _ _ _ _ (by simp), World.cell?_setCell_other _ _ _ _ (by simp)]; exact u5
  have d6 : ((v.setCell ⟨w.heap.size + 1 + 1, 3, none⟩ (.int .i64 X)).setCell ⟨w.heap.size + 1 + 1, 4, none⟩ (.int .i64 Y)).cell? ⟨w.heap.size + 1 + 1, 6, none⟩ = some (.int .i64 t) := by rw [World.cell?_setCell_other _ _ _ _ (by simp), World.cell?_setCell_other _ _ _ _ (by simp)]; exact u6
  have d7 : ((v.setCell ⟨w.heap.size + 1 + 1, 3, none⟩ (.int .i64 X)).setCell ⟨w.heap.size + 1 + 1, 4, none⟩ (.int .i64 Y)).cell? ⟨w.heap.size + 1 + 1, 7, none⟩ = some (.int .i64 m) := by rw [World.cell?_setCell_other _ _ _ _ (by simp), World.cell?_setCell_other _ _ _ _ (by simp)]; exact u7
  have d3 : ((v.setCell ⟨w.heap.size + 1 + 1, 3, none⟩ (.int .i64 X)).setCell ⟨w.heap.size + 1 + 1, 4, none⟩ (.int .i64 Y)).cell? ⟨w.heap.size + 1 + 1, 3, none⟩ = some (.int .i64 X) := by rw [World.cell?_setCell_other _ _ _ _ (by simp)]; exact World.cell?_setCell_same' _ _ _ (by rw [u3]; rfl)
  have d4 : ((v.setCell ⟨w.heap.size + 1 + 1, 3, none⟩ (.int .i64 X)).setCell ⟨w.heap.size + 1 + 1, 4, none⟩ (.int .i64 Y)).cell? ⟨w.heap.size + 1 + 1, 4, none⟩ = some (.int .i64 Y) := World.cell?_setCell_same' _ _ _ (by rw [World.cell?_setCell_other _ _ _ _ (by simp), u4]; rfl)
  have a0 : ((v.setCell ⟨w.heap.size + 1 + 1, 3, none⟩ (.int .i64 X)).setCell ⟨w.heap.size + 1 + 1, 4, none⟩ (.int .i64 Y)).cell? ⟨w.heap.size + 1, 0, none⟩ = some (.string ⟨#[]⟩) := by rw [World.cell?_setCell_far _ _ _ _ (by show w.heap.size + 1 + 1 ≠ w.heap.size + 1; omega), World.cell?_setCell_far _ _ _ _ (by show w.heap.size + 1 + 1 ≠ w.heap.size + 1; omega)]; exact r0
  have q0 : ((v.setCell ⟨w.heap.size + 1 + 1, 3, none⟩ (.int .i64 X)).setCell ⟨w.heap.size + 1 + 1, 4, none⟩ (.int .i64 Y)).frozen? ⟨w.heap.size + 1, 0, none⟩ = false := by rw [World.frozen?_setCell, World.frozen?_setCell]; exact f0
  have a1 : ((v.setCell ⟨w.heap.size + 1 + 1, 3, none⟩ (.int .i64 X)).setCell ⟨w.heap.size + 1 + 1, 4, none⟩ (.int .i64 Y)).cell? ⟨w.heap.size + 1, 1, none⟩ = some (.int .i64 0) := by rw [World.cell?_setCell_far _ _ _ _ (by show w.heap.size + 1 + 1 ≠ w.heap.size + 1; omega), World.cell?_setCell_far _ _ _ _ (by show w.heap.size + 1 + 1 ≠ w.heap.size + 1; omega)]; exact r1
  have q1 : ((v.setCell ⟨w.heap.size + 1 + 1, 3, none⟩ (.int .i64 X)).setCell ⟨w.heap.size + 1 + 1, 4, none⟩ (.int .i64 Y)).frozen? ⟨w.heap.size + 1, 1, none⟩ = false := by rw [World.frozen?_setCell, World.frozen?_setCell]; exact f1
  have a2 : ((v.setCell ⟨w.heap.size + 1 + 1, 3, none⟩ (.int .i64 X)).setCell ⟨w.heap.size + 1 + 1, 4, none⟩ (.int .i64 Y)).cell? ⟨w.heap.size + 1, 2, none⟩ = some (.string ⟨#[]⟩) := by rw [World.cell?_setCell_far _ _ _ _ (by show w.heap.size + 1 + 1 ≠ w.heap.size + 1; omega), World.cell?_setCell_far _ _ _ _ (by show w.heap.size + 1 + 1 ≠ w.heap.size + 1; omega)]; exact r2
  have q2 : ((v.setCell ⟨w.heap.size + 1 + 1, 3, none⟩ (.int .i64 X)).setCell ⟨w.heap.size + 1 + 1, 4, none⟩ (.int .i64 Y)).frozen? ⟨w.heap.size + 1, 2, none⟩ = false := by rw [World.frozen?_setCell, World.frozen?_setCell]; exact f2
  have a3 : ((v.setCell ⟨w.heap.size + 1 + 1, 3, none⟩ (.int .i64 X)).setCell ⟨w.heap.size + 1 + 1, 4, none⟩ (.int .i64 Y)).cell? ⟨w.heap.size + 1, 3, none⟩ = some (.int .i64 0) := by rw [World.cell?_setCell_far _ _ _ _ (by show w.heap.size + 1 + 1 ≠ w.heap.size + 1; omega), World.cell?_setCell_far _ _ _ _ (by show w.heap.size + 1 + 1 ≠ w.heap.size + 1; omega)]; exact r3
  have q3 : ((v.setCell ⟨w.heap.size + 1 + 1, 3, none⟩ (.int .i64 X)).setCell ⟨w.heap.size + 1 + 1, 4, none⟩ (.int .i64 Y)).frozen? ⟨w.heap.size + 1, 3, none⟩ = false := by rw [World.frozen?_setCell, World.frozen?_setCell]; exact f3
  have a4 : ((v.setCell ⟨w.heap.size + 1 + 1, 3, none⟩ (.int .i64 X)).setCell ⟨w.heap.size + 1 + 1, 4, none⟩ (.int .i64 Y)).cell? ⟨w.heap.size + 1, 4, none⟩ = some (.int .i64 0) := by rw [World.cell?_setCell_far _ _ _ _ (by show w.heap.size + 1 + 1 ≠ w.heap.size + 1; omega), World.cell?_setCell_far _ _ _ _ (by show w.heap.size + 1 + 1 ≠ w.heap.size + 1; omega)]; exact r4
  have q4 : ((v.setCell ⟨w.heap.size + 1 + 1, 3, none⟩ (.int .i64 X)).setCell ⟨w.heap.size + 1 + 1, 4, none⟩ (.int .i64 Y)).frozen? ⟨w.heap.size + 1, 4, none⟩ = false := by rw [World.frozen?_setCell, World.frozen?_setCell]; exact f4
  have a5 : ((v.setCell ⟨w.heap.size + 1 + 1, 3, none⟩ (.int .i64 X)).setCell ⟨w.heap.size + 1 + 1, 4, none⟩ (.int .i64 Y)).cell? ⟨w.heap.size + 1, 5, none⟩ = some (.int .i64 0) := by rw [World.cell?_setCell_far _ _ _ _ (by show w.heap.size + 1 + 1 ≠ w.heap.size + 1; omega), World.cell?_setCell_far _ _ _ _ (by show w.heap.size + 1 + 1 ≠ w.heap.size + 1; omega)]; exact r5
  have q5 : ((v.setCell ⟨w.heap.size + 1 + 1, 3, none⟩ (.int .i64 X)).setCell ⟨w.heap.size + 1 + 1, 4, none⟩ (.int .i64 Y)).frozen? ⟨w.heap.size + 1, 5, none⟩ = false := by rw [World.frozen?_setCell, World.frozen?_setCell]; exact f5
  have a6 : ((v.setCell ⟨w.heap.size + 1 + 1, 3, none⟩ (.int .i64 X)).setCell ⟨w.heap.size + 1 + 1, 4, none⟩ (.int .i64 Y)).cell? ⟨w.heap.size + 1, 6, none⟩ = some (.int .i64 0) := by rw [World.cell?_setCell_far _ _ _ _ (by show w.heap.size + 1 + 1 ≠ w.heap.size + 1; omega), World.cell?_setCell_far _ _ _ _ (by show w.heap.size + 1 + 1 ≠ w.heap.size + 1; omega)]; exact r6
  have q6 : ((v.setCell ⟨w.heap.size + 1 + 1, 3, none⟩ (.int .i64 X)).setCell ⟨w.heap.size + 1 + 1, 4, none⟩ (.int .i64 Y)).frozen? ⟨w.heap.size + 1, 6, none⟩ = false := by rw [World.frozen?_setCell, World.frozen?_setCell]; exact f6
  have a7 : ((v.setCell ⟨w.heap.size + 1 + 1, 3, none⟩ (.int .i64 X)).setCell ⟨w.heap.size + 1 + 1, 4, none⟩ (.int .i64 Y)).cell? ⟨w.heap.size + 1, 7, none⟩ = some (.int .i64 0) := by rw [World.cell?_setCell_far _ _ _ _ (by show w.heap.size + 1 + 1 ≠ w.heap.size + 1; omega), World.cell?_setCell_far _ _ _ _ (by show w.heap.size + 1 + 1 ≠ w.heap.size + 1; omega)]; exact r7
  have q7 : ((v.setCell ⟨w.heap.size + 1 + 1, 3, none⟩ (.int .i64 X)).setCell ⟨w.heap.size + 1 + 1, 4, none⟩ (.int .i64 Y)).frozen? ⟨w.heap.size + 1, 7, none⟩ = false := by rw [World.frozen?_setCell, World.frozen?_setCell]; exact f7
  have BV := Lib.hid (show Below w.heap.size w ((v.setCell ⟨w.heap.size + 1 + 1, 3, none⟩ (.int .i64 X)).setCell ⟨w.heap.size + 1 + 1, 4, none⟩ (.int .i64 Y)) from (B1.out.setCell (by show w.heap.size ≤ w.heap.size + 1 + 1; omega) _).setCell (by show w.heap.size ≤ w.heap.size + 1 + 1; omega) _)
  have HF := Lib.hid (And.intro (And.intro d0 (And.intro d1 (And.intro d2 (And.intro d3 (And.intro d4 (And.intro d5 (And.intro d6 d7))))))) (And.intro (And.intro a0 (And.intro a1 (And.intro a2 (And.intro a3 (And.intro a4 (And.intro a5 (And.intro a6 a7))))))) (And.intro q0 (And.intro q1 (And.intro q2 (And.intro q3 (And.intro q4 (And.intro q5 (And.intro q6 q7)))))))))
  clear hb B1 d0 d1 d2 d3 d4 d5 d6 d7 a0 a1 a2 a3 a4 a5 a6 a7 q0 q1 q2 q3 q4 q5 q6 q7 r0 r1 r2 r3 r4 r5 r6 r7 f0 f1 f2 f3 f4 f5 f6 f7
  go_upto_region 3 with fail
  clear u0 u1 u2 u3 u4 u5 u6 u7 fu3 fu4
  generalize (v.setCell ⟨w.heap.size + 1 + 1, 3, none⟩ (.int .i64 X)).setCell ⟨w.heap.size + 1 + 1, 4, none⟩ (.int .i64 Y) = V at *
  obtain ⟨⟨d0, d1, d2, d3, d4, d5, d6, d7⟩, ⟨a0, a1, a2, a3, a4, a5, a6, a7⟩, q0, q1, q2, q3, q4, q5, q6, q7⟩ := HF.out
  go_wp2_with fail
  obtain ⟨s0, s1, s2, s3, s4, s5, s6, s7⟩ := set8 (W := V) (b := w.heap.size + 1) (v0 := .string n) (v1 := .int .i64 3) (v2 := .string l) (v3 := .int .i64 X) (v4 := .int .i64 Y) (v5 := .int .i64 h) (v6 := .int .i64 t) (v7 := .int .i64 m) (by intro j hj; match j, hj with | 0, _ => (rw [a0]; rfl) | 1, _ => (rw [a1]; rfl) | 2, _ => (rw [a2]; rfl) | 3, _ => (rw [a3]; rfl) | 4, _ => (rw [a4]; rfl) | 5, _ => (rw [a5]; rfl) | 6, _ => (rw [a6]; rfl) | 7, _ => (rw [a7]; rfl))
  clear a0 a1 a2 a3 a4 a5 a6 a7 d0 d1 d2 d3 d4 d5 d6 d7 q0 q1 q2 q3 q4 q5 q6 q7
  (try simp only [Exit.inBlock, Exit.then])
  refine bodyPost_ret (v := va n 3 l X Y h t m) (by simp only [results, Tryz.results245, s0, s1, s2, s3, s4, s5, s6, s7]; simp [go_sem, s0, s1, s2, s3, s4, s5, s6, s7]; try rfl) rfl ?_
  exact ⟨rfl, BV.out.trans (by go_grown)⟩

theorem ne_own {w : World} {base base2 n n2 g c2 g2 c3 : Nat} {xs ys : List Value} (h : w.ownsRow base 98 8 (.slice (some ⟨g2, 0, none⟩) n c3) n xs) (k : w.ownsRow base2 180 1 (.slice (some ⟨g, 0, none⟩) n2 c2) n2 ys) : g2 ≠ g := by
  intro hb
  subst hb
  rcases h.2 with ⟨e1, _⟩ | ⟨g', cap, cur, e1, _, e3, _⟩
  · cases e1
  · rcases k.2 with ⟨f1, _⟩ | ⟨g9, cap2, cur2, f1, _, f3, _⟩
    · cases f1
    · injection f1 with f1; injection f1 with f1; injection f1 with f1
      injection e1 with e1; injection e1 with e1; injection e1 with e1
      subst f1 e1
      rw [e3] at f3
      injection f3 with f3
      injection f3 with _ f3
      exact absurd f3 (by decide)

set_option maxHeartbeats 2000000 in
theorem turnI (A : Option Addr) (n0 c9 : Nat) (zs : List D) (t9 : Int) (w : World) (hn : zs.length = n0) (hb : n0 ≤ 1048576) (hr : Rd w w.heap.size A (dls zs)) :
    Calls Tryz.prog 102 #[.slice A n0 c9, .int .i64 t9] w (RowD w (trV zs t9)) := by
  have hmm := @run_makeMap Tryz.prog
  have HR := Lib.hid hr
  have HN := Lib.hid hn
  have CR := Lib.hid (rigI A n0 c9 zs w hn hb hr)
  clear hr hn
  by_cases hrig : rig zs = true
  · have HH := Lib.hid (rig_of hrig)
    have HL := Lib.hid (show trV zs t9 = zs.map (mvD t9 0 0) by unfold trV; rw [if_pos hrig])
    rw [hrig] at CR
    clear hrig
    obtain ⟨i0, hi, hz0, hz1, hz2⟩ := info_of infoD
    have HLN := Lib.hid (show (dls (List.replicate n0 d0)).length = (dls (zs.map (mvD t9 0 0))).length by rw [dls_len, dls_len, List.length_replicate, List.length_map, HN.out])
    go_enter Tryz.func102, Tryz.ntmps102
    go_wp2_with fail
    refine CR.out.mono ?_
    rintro e w1 ⟨rfl, hb1⟩
    have B1 := Lib.hid hb1
    clear hb1 CR
    go_wp2_with (at_make; refine wpList_make_full _ rfl _ _ 37 rfl w1.heap.size 98 i0 (.agg #[.string ⟨#[]⟩, .int .i64 0, .string ⟨#[]⟩, .int .i64 0, .int .i64 0, .int .i64 0, .int .i64 0, .int .i64 0]) 8 Tryz.underlying37 hi hz0 hz1 .i64 .i64 n0 n0 n0 rfl rfl rfl rfl (by rw [hz2]; omega) (by unfold maxLen; omega) (Nat.le_refl _) ?_; intro w2 hown hgrow; clear hi hz0 hz1 hz2)
    have R2 := Lib.hid (show w2.ownsRow w1.heap.size 98 8 (.slice (some ⟨w1.heap.size, 0, none⟩) n0 n0) n0 (mixed (dls (zs.map (mvD t9 0 0))) (dls (List.replicate n0 d0)) 0) by
      rw [mixed_zero, ← dls_made]; exact hown)
    have W2 := Lib.hid (show Below w1.heap.size w1 w2 from (Below.refl _ _).grown hgrow (Nat.le_refl _) (fun k hk => by cases hk))
    have B2 := Lib.hid (B1.out.trans (W2.out.mono B1.out.size))
    clear hown hgrow W2
    have CP := Lib.hid (partsOf A n0 c9 w2.heap.size zs [] w.heap.size (w2.alloc (.map #[] 0)) HN.out hb (by have := B2.out.size; simp; omega) ((HR.out.below B2.out).below (Below.mono (by go_grown) B2.out.size)) (by
      have hs := B2.out.size
      rcases HR.out with h | ⟨b', o', e, hb', _⟩
      · exact Or.inr h
      · refine Or.inl ?_; rw [e]; simp; omega) (Ls.made w2) (Gd.nil _))
    go_wp2_with fail
    refine CP.out.mono ?_
    rintro e w3 ⟨g, M, rfl, HP⟩
    have HP := Lib.hid HP
    have W3 := Lib.hid (show Below w2.heap.size w2 w3 from Below.grown (by go_grown) HP.out.grown (by simp) (fun k hk => by cases hk; exact Nat.le_refl _))
    have B3 := Lib.hid (B2.out.trans (W3.out.mono B2.out.size))
    have R3 := Lib.hid (owns_below R2.out W3.out)
    have P3 := Lib.hid HP.out.row
    clear hmm CP R2 B2 W3 HP
    go_wp2_with fail
    go_loopw [19] (fun i wr => ∃ k : Nat, k ≤ n0 ∧ i = .int .i64 k ∧ Hid (wr.ownsRow w1.heap.size 98 8 (.slice (some ⟨w1.heap.size, 0, none⟩) n0 n0) n0 (mixed (dls (zs.map (mvD t9 0 0))) (dls (List.replicate n0 d0)) (k * 8))) ∧ Hid (wr.ownsRow (w2.alloc (.map #[] 0)).heap.size 180 1 (.slice (some ⟨g, 0, none⟩) n0 n0) n0 (zs.map (ptM M))) ∧ Hid (Below w.heap.size w wr)) (fun i _ => n0 - (intOf i).toNat)
    case atStart => exact ⟨0, Nat.zero_le _, rfl, R3, P3, B3⟩
    case round =>
      obtain ⟨k, hk, rfl, RK, PK, BK⟩ := hrel
      clear R3 P3 B3
      by_cases hlt : k < n0
      · obtain ⟨z, hz⟩ : ∃ z, zs[k]? = some z := ⟨_, List.getElem?_eq_getElem (by rw [HN.out]; exact hlt)⟩
        have hp : wr.cell? ⟨g, k, none⟩ = some (ptM M z) := by
          have := PK.out.cellAt k (by show k < n0 * 1; omega)
          rw [List.getElem?_map, hz, Option.map_some] at this
          exact this
        have hw9 := (HH.out.2 k z hz).1
        obtain ⟨y0, y1, y2, y3, y4, y5, y6, y7⟩ := dls_get (zs := List.replicate n0 d0) (k := k) (by rw [List.getElem?_replicate, if_pos hlt])
        have HY := Lib.hid (⟨y0, y1, y2, y3, y4, y5, y6, y7⟩ : _ ∧ _ ∧ _ ∧ _ ∧ _ ∧ _ ∧ _ ∧ _)
        have hm : (zs.map (mvD t9 0 0))[k]? = some (mvD t9 0 0 z) := by rw [List.getElem?_map, hz]; rfl
        clear y0 y1 y2 y3 y4 y5 y6 y7 hz
        have NE := Lib.hid (ne_own RK.out PK.out)
        obtain ⟨n, q, l, x, y, h, t, m⟩ := z
        have hk3 := dB_kinds hw9
        unfold ptM at hp
        simp only [] at hp hk3
        generalize (lk M l).getD 0 = c at hp
        by_cases q1 : q = 1
        · subst q1
          rw [show pt n 1 l x y h t m c = .iface 198 (va n 1 l x y h t m) from rfl] at hp
          have CT := Lib.hid (fun W => turnedP n l x y h t m t9 W)
          rw [mvD_1 rfl] at hm
          obtain ⟨z0, z1, z2, z3, z4, z5, z6, z7⟩ := dls_get (n := n) (q := 1) (l := l) (x := x) (y := y) (h := h) (t := t) (m := m) hm
          have Z0 := Lib.hid (mixed_put HLN.out z0)
          have Z1 := Lib.hid (mixed_put HLN.out z1)
          have Z2 := Lib.hid (mixed_put HLN.out z2)
          have Z3 := Lib.hid (mixed_put HLN.out z3)
          have Z4 := Lib.hid (mixed_put HLN.out z4)
          have Z5 := Lib.hid (mixed_put HLN.out z5)
          have Z6 := Lib.hid (mixed_put HLN.out z6)
          have Z7 := Lib.hid (mixed_put HLN.out z7)
          clear z0 z1 z2 z3 z4 z5 z6 z7 hm hw9 hk3
          go_wp2_with fail
          refine (CT.out _).mono ?_
          rintro e u ⟨rfl, hb1⟩
          have R1 := owns_below RK.out hb1
          have P1 := owns_below PK.out hb1
          have BU := BK.out.trans (hb1.mono BK.out.size)
          have hL := HLN.out
          have hl8 : (dls (zs.map (mvD t9 0 0))).length = n0 * 8 := by rw [dls_len, List.length_map, HN.out]
          have e0 : u.cell? ⟨w1.heap.size, k * 8, none⟩ = some (.string ⟨#[]⟩) := (R1.cellAt (k * 8) (by omega)).trans (mixed_at hL (by omega) HY.out.1)
          have f0 := R1.frozenAt (k * 8)
          have e1 : u.cell? ⟨w1.heap.size, k * 8 + 1, none⟩ = some (.int .i64 0) := (R1.cellAt (k * 8 + 1) (by omega)).trans (mixed_at hL (by omega) HY.out.2.1)
          have f1 := R1.frozenAt (k * 8 + 1)
          have e2 : u.cell? ⟨w1.heap.size, k * 8 + 2, none⟩ = some (.string ⟨#[]⟩) := (R1.cellAt (k * 8 + 2) (by omega)).trans (mixed_at hL (by omega) HY.out.2.2.1)
          have f2 := R1.frozenAt (k * 8 + 2)
          have e3 : u.cell? ⟨w1.heap.size, k * 8 + 3, none⟩ = some (.int .i64 0) := (R1.cellAt (k * 8 + 3) (by omega)).trans (mixed_at hL (by omega) HY.out.2.2.2.1)
          have f3 := R1.frozenAt (k * 8 + 3)
          have e4 : u.cell? ⟨w1.heap.size, k * 8 + 4, none⟩ = some (.int .i64 0) := (R1.cellAt (k * 8 + 4) (by omega)).trans (mixed_at hL (by omega) HY.out.2.2.2.2.1)
          have f4 := R1.frozenAt (k * 8 + 4)
          have e5 : u.cell? ⟨w1.heap.size, k * 8 + 5, none⟩ = some (.int .i64 0) := (R1.cellAt (k * 8 + 5) (by omega)).trans (mixed_at hL (by omega) HY.out.2.2.2.2.2.1)
          have f5 := R1.frozenAt (k * 8 + 5)
          have e6 : u.cell? ⟨w1.heap.size, k * 8 + 6, none⟩ = some (.int .i64 0) := (R1.cellAt (k * 8 + 6) (by omega)).trans (mixed_at hL (by omega) HY.out.2.2.2.2.2.2.1)
          have f6 := R1.frozenAt (k * 8 + 6)
          have e7 : u.cell? ⟨w1.heap.size, k * 8 + 7, none⟩ = some (.int .i64 0) := (R1.cellAt (k * 8 + 7) (by omega)).trans (mixed_at hL (by omega) HY.out.2.2.2.2.2.2.2)
          have f7 := R1.frozenAt (k * 8 + 7)
          obtain ⟨r0, g0⟩ := R1.stored (k * 8) (.string n)
          rw [Z0.out] at r0
          obtain ⟨r1, g1⟩ := r0.stored (k * 8 + 1) (.int .i64 1)
          rw [Z1.out] at r1
          obtain ⟨r2, g2⟩ := r1.stored (k * 8 + 1 + 1) (.string l)
          rw [Z2.out] at r2
          obtain ⟨r3, g3⟩ := r2.stored (k * 8 + 1 + 1 + 1) (.int .i64 x)
          rw [Z3.out] at r3
          obtain ⟨r4, g4⟩ := r3.stored (k * 8 + 1 + 1 + 1 + 1) (.int .i64 y)
          rw [Z4.out] at r4
          obtain ⟨r5, g5⟩ := r4.stored (k * 8 + 1 + 1 + 1 + 1 + 1) (.int .i64 h)
          rw [Z5.out] at r5
          obtain ⟨r6, g6⟩ := r5.stored (k * 8 + 1 + 1 + 1 + 1 + 1 + 1) (.int .i64 t)
          rw [Z6.out] at r6
          obtain ⟨r7, g7⟩ := r6.stored (k * 8 + 1 + 1 + 1 + 1 + 1 + 1 + 1) (.int .i64 m)
          rw [Z7.out] at r7
          have RR := Lib.hid r7
          have b0 := BU.grown g0 BU.size (fun g hg => by cases hg; exact B1.out.size)
          have p0 := owns_grown P1 g0 (fun u hu e => by cases hu; exact NE.out (Option.some.inj e))
          have b1 := b0.grown g1 b0.size (fun g hg => by cases hg; exact B1.out.size)
          have p1 := owns_grown p0 g1 (fun u hu e => by cases hu; exact NE.out (Option.some.inj e))
          have b2 := b1.grown g2 b1.size (fun g hg => by cases hg; exact B1.out.size)
          have p2 := owns_grown p1 g2 (fun u hu e => by cases hu; exact NE.out (Option.some.inj e))
          have b3 := b2.grown g3 b2.size (fun g hg => by cases hg; exact B1.out.size)
          have p3 := owns_grown p2 g3 (fun u hu e => by cases hu; exact NE.out (Option.some.inj e))
          have b4 := b3.grown g4 b3.size (fun g hg => by cases hg; exact B1.out.size)
          have p4 := owns_grown p3 g4 (fun u hu e => by cases hu; exact NE.out (Option.some.inj e))
          have b5 := b4.grown g5 b4.size (fun g hg => by cases hg; exact B1.out.size)
          have p5 := owns_grown p4 g5 (fun u hu e => by cases hu; exact NE.out (Option.some.inj e))
          have b6 := b5.grown g6 b5.size (fun g hg => by cases hg; exact B1.out.size)
          have p6 := owns_grown p5 g6 (fun u hu e => by cases hu; exact NE.out (Option.some.inj e))
          have b7 := b6.grown g7 b6.size (fun g hg => by cases hg; exact B1.out.size)
          have p7 := owns_grown p6 g7 (fun u hu e => by cases hu; exact NE.out (Option.some.inj e))
          have BB := Lib.hid b7
          have PP := Lib.hid p7
          clear r0 g0 b0 p0 Z0 r1 g1 b1 p1 Z1 r2 g2 b2 p2 Z2 r3 g3 b3 p3 Z3 r4 g4 b4 p4 Z4 r5 g5 b5 p5 Z5 r6 g6 b6 p6 Z6 r7 g7 b7 p7 Z7 hb1 RK BK PK R1 BU P1 hL hl8 HY CT hp
          go_wp2_with fail
          go_roundw
          case rel => exact ⟨k + 1, by omega, by go_num, by rw [show (k + 1) * 8 = k * 8 + 1 + 1 + 1 + 1 + 1 + 1 + 1 + 1 by omega]; exact RR, PP, BB⟩
          case measure => simp [intOf]; omega
        by_cases q2 : q = 2
        · subst q2
          rw [show pt n 2 l x y h t m c = .iface 204 (hv n 2 l x y h t m c) from rfl] at hp
          have hj : jt x y h t 1 = true := by
            unfold dB devB at hw9
            rw [Bool.and_eq_true, if_neg (by show (2 : Int) ≠ 1; decide), if_pos rfl] at hw9
            have := hw9.2
            unfold nozB at this
            rw [Bool.and_eq_true, Bool.and_eq_true] at this
            exact this.2.1
          have CT := Lib.hid (fun W => turnedN n l x y h t m c t9 hj W)
          rw [mvD_o (by show (2 : Int) ≠ 1; decide)] at hm
          simp only [Int.add_zero, if_true] at hm
          clear hj
          generalize tx (t9 % 4).toNat x y = X at *
          generalize ty (t9 % 4).toNat x y = Y at *
          generalize th h t9 = Q at *
          obtain ⟨z0, z1, z2, z3, z4, z5, z6, z7⟩ := dls_get (n := n) (q := 2) (l := l) (x := X) (y := Y) (h := Q) (t := t) (m := m) hm
          have Z0 := Lib.hid (mixed_put HLN.out z0)
          have Z1 := Lib.hid (mixed_put HLN.out z1)
          have Z2 := Lib.hid (mixed_put HLN.out z2)
          have Z3 := Lib.hid (mixed_put HLN.out z3)
          have Z4 := Lib.hid (mixed_put HLN.out z4)
          have Z5 := Lib.hid (mixed_put HLN.out z5)
          have Z6 := Lib.hid (mixed_put HLN.out z6)
          have Z7 := Lib.hid (mixed_put HLN.out z7)
          clear z0 z1 z2 z3 z4 z5 z6 z7 hm hw9 hk3
          go_wp2_with fail
          refine (CT.out _).mono ?_
          rintro e u ⟨rfl, hb1⟩
          have R1 := owns_below RK.out hb1
          have P1 := owns_below PK.out hb1
          have BU := BK.out.trans (hb1.mono BK.out.size)
          have hL := HLN.out
          have hl8 : (dls (zs.map (mvD t9 0 0))).length = n0 * 8 := by rw [dls_len, List.length_map, HN.out]
          have e0 : u.cell? ⟨w1.heap.size, k * 8, none⟩ = some (.string ⟨#[]⟩) := (R1.cellAt (k * 8) (by omega)).trans (mixed_at hL (by omega) HY.out.1)
          have f0 := R1.frozenAt (k * 8)
          have e1 : u.cell? ⟨w1.heap.size, k * 8 + 1, none⟩ = some (.int .i64 0) := (R1.cellAt (k * 8 + 1) (by omega)).trans (mixed_at hL (by omega) HY.out.2.1)
          have f1 := R1.frozenAt (k * 8 + 1)
          have e2 : u.cell? ⟨w1.heap.size, k * 8 + 2, none⟩ = some (.string ⟨#[]⟩) := (R1.cellAt (k * 8 + 2) (by omega)).trans (mixed_at hL (by omega) HY.out.2.2.1)
          have f2 := R1.frozenAt (k * 8 + 2)
          have e3 : u.cell? ⟨w1.heap.size, k * 8 + 3, none⟩ = some (.int .i64 0) := (R1.cellAt (k * 8 + 3) (by omega)).trans (mixed_at hL (by omega) HY.out.2.2.2.1)
          have f3 := R1.frozenAt (k * 8 + 3)
          have e4 : u.cell? ⟨w1.heap.size, k * 8 + 4, none⟩ = some (.int .i64 0) := (R1.cellAt (k * 8 + 4) (by omega)).trans (mixed_at hL (by omega) HY.out.2.2.2.2.1)
          have f4 := R1.frozenAt (k * 8 + 4)
          have e5 : u.cell? ⟨w1.heap.size, k * 8 + 5, none⟩ = some (.int .i64 0) := (R1.cellAt (k * 8 + 5) (by omega)).trans (mixed_at hL (by omega) HY.out.2.2.2.2.2.1)
          have f5 := R1.frozenAt (k * 8 + 5)
          have e6 : u.cell? ⟨w1.heap.size, k * 8 + 6, none⟩ = some (.int .i64 0) := (R1.cellAt (k * 8 + 6) (by omega)).trans (mixed_at hL (by omega) HY.out.2.2.2.2.2.2.1)
          have f6 := R1.frozenAt (k * 8 + 6)
          have e7 : u.cell? ⟨w1.heap.size, k * 8 + 7, none⟩ = some (.int .i64 0) := (R1.cellAt (k * 8 + 7) (by omega)).trans (mixed_at hL (by omega) HY.out.2.2.2.2.2.2.2)
          have f7 := R1.frozenAt (k * 8 + 7)
          obtain ⟨r0, g0⟩ := R1.stored (k * 8) (.string n)
          rw [Z0.out] at r0
          obtain ⟨r1, g1⟩ := r0.stored (k * 8 + 1) (.int .i64 2)
          rw [Z1.out] at r1
          obtain ⟨r2, g2⟩ := r1.stored (k * 8 + 1 + 1) (.string l)
          rw [Z2.out] at r2
          obtain ⟨r3, g3⟩ := r2.stored (k * 8 + 1 + 1 + 1) (.int .i64 X)
          rw [Z3.out] at r3
          obtain ⟨r4, g4⟩ := r3.stored (k * 8 + 1 + 1 + 1 + 1) (.int .i64 Y)
          rw [Z4.out] at r4
          obtain ⟨r5, g5⟩ := r4.stored (k * 8 + 1 + 1 + 1 + 1 + 1) (.int .i64 Q)
          rw [Z5.out] at r5
          obtain ⟨r6, g6⟩ := r5.stored (k * 8 + 1 + 1 + 1 + 1 + 1 + 1) (.int .i64 t)
          rw [Z6.out] at r6
          obtain ⟨r7, g7⟩ := r6.stored (k * 8 + 1 + 1 + 1 + 1 + 1 + 1 + 1) (.int .i64 m)
          rw [Z7.out] at r7
          have RR := Lib.hid r7
          have b0 := BU.grown g0 BU.size (fun g hg => by cases hg; exact B1.out.size)
          have p0 := owns_grown P1 g0 (fun u hu e => by cases hu; exact NE.out (Option.some.inj e))
          have b1 := b0.grown g1 b0.size (fun g hg => by cases hg; exact B1.out.size)
          have p1 := owns_grown p0 g1 (fun u hu e => by cases hu; exact NE.out (Option.some.inj e))
          have b2 := b1.grown g2 b1.size (fun g hg => by cases hg; exact B1.out.size)
          have p2 := owns_grown p1 g2 (fun u hu e => by cases hu; exact NE.out (Option.some.inj e))
          have b3 := b2.grown g3 b2.size (fun g hg => by cases hg; exact B1.out.size)
          have p3 := owns_grown p2 g3 (fun u hu e => by cases hu; exact NE.out (Option.some.inj e))
          have b4 := b3.grown g4 b3.size (fun g hg => by cases hg; exact B1.out.size)
          have p4 := owns_grown p3 g4 (fun u hu e => by cases hu; exact NE.out (Option.some.inj e))
          have b5 := b4.grown g5 b4.size (fun g hg => by cases hg; exact B1.out.size)
          have p5 := owns_grown p4 g5 (fun u hu e => by cases hu; exact NE.out (Option.some.inj e))
          have b6 := b5.grown g6 b5.size (fun g hg => by cases hg; exact B1.out.size)
          have p6 := owns_grown p5 g6 (fun u hu e => by cases hu; exact NE.out (Option.some.inj e))
          have b7 := b6.grown g7 b6.size (fun g hg => by cases hg; exact B1.out.size)
          have p7 := owns_grown p6 g7 (fun u hu e => by cases hu; exact NE.out (Option.some.inj e))
          have BB := Lib.hid b7
          have PP := Lib.hid p7
          clear r0 g0 b0 p0 Z0 r1 g1 b1 p1 Z1 r2 g2 b2 p2 Z2 r3 g3 b3 p3 Z3 r4 g4 b4 p4 Z4 r5 g5 b5 p5 Z5 r6 g6 b6 p6 Z6 r7 g7 b7 p7 Z7 hb1 RK BK PK R1 BU P1 hL hl8 HY CT hp
          go_wp2_with fail
          go_roundw
          case rel => exact ⟨k + 1, by omega, by go_num, by rw [show (k + 1) * 8 = k * 8 + 1 + 1 + 1 + 1 + 1 + 1 + 1 + 1 by omega]; exact RR, PP, BB⟩
          case measure => simp [intOf]; omega
        have q3 : q = 3 := by omega
        subst q3
        rw [show pt n 3 l x y h t m c = .iface 205 (hv n 3 l x y h t m c) from rfl] at hp
        have hj : (ms x && ms y) = true := by
          unfold dB devB at hw9
          rw [Bool.and_eq_true, if_neg (by show (3 : Int) ≠ 1; decide), if_neg (by show (3 : Int) ≠ 2; decide), if_pos rfl] at hw9
          have := hw9.2
          unfold lampB at this
          rw [Bool.and_eq_true, Bool.and_eq_true] at this
          exact this.2.1
        have CT := Lib.hid (fun W => turnedL n l x y h t m c t9 hj W)
        rw [mvD_o (by show (3 : Int) ≠ 1; decide)] at hm
        simp only [Int.add_zero, show ((3 : Int) = 2) = False by decide, if_false] at hm
        clear hj
        generalize tx (t9 % 4).toNat x y = X at *
        generalize ty (t9 % 4).toNat x y = Y at *
        obtain ⟨z0, z1, z2, z3, z4, z5, z6, z7⟩ := dls_get (n := n) (q := 3) (l := l) (x := X) (y := Y) (h := h) (t := t) (m := m) hm
        have Z0 := Lib.hid (mixed_put HLN.out z0)
        have Z1 := Lib.hid (mixed_put HLN.out z1)
        have Z2 := Lib.hid (mixed_put HLN.out z2)
        have Z3 := Lib.hid (mixed_put HLN.out z3)
        have Z4 := Lib.hid (mixed_put HLN.out z4)
        have Z5 := Lib.hid (mixed_put HLN.out z5)
        have Z6 := Lib.hid (mixed_put HLN.out z6)
        have Z7 := Lib.hid (mixed_put HLN.out z7)
        clear z0 z1 z2 z3 z4 z5 z6 z7 hm hw9 hk3
        go_wp2_with fail
        refine (CT.out _).mono ?_
        rintro e u ⟨rfl, hb1⟩
        have R1 := owns_below RK.out hb1
        have P1 := owns_below PK.out hb1
        have BU := BK.out.trans (hb1.mono BK.out.size)
        have hL := HLN.out
        have hl8 : (dls (zs.map (mvD t9 0 0))).length = n0 * 8 := by rw [dls_len, List.length_map, HN.out]
        have e0 : u.cell? ⟨w1.heap.size, k * 8, none⟩ = some (.string ⟨#[]⟩) := (R1.cellAt (k * 8) (by omega)).trans (mixed_at hL (by omega) HY.out.1)
        have f0 := R1.frozenAt (k * 8)
        have e1 : u.cell? ⟨w1.heap.size, k * 8 + 1, none⟩ = some (.int .i64 0) := (R1.cellAt (k * 8 + 1) (by omega)).trans (mixed_at hL (by omega) HY.out.2.1)
        have f1 := R1.frozenAt (k * 8 + 1)
        have e2 : u.cell? ⟨w1.heap.size, k * 8 + 2, none⟩ = some (.string ⟨#[]⟩) := (R1.cellAt (k * 8 + 2) (by omega)).trans (mixed_at hL (by omega) HY.out.2.2.1)
        have f2 := R1.frozenAt (k * 8 + 2)
        have e3 : u.cell? ⟨w1.heap.size, k * 8 + 3, none⟩ = some (.int .i64 0) := (R1.cellAt (k * 8 + 3) (by omega)).trans (mixed_at hL (by omega) HY.out.2.2.2.1)
        have f3 := R1.frozenAt (k * 8 + 3)
        have e4 : u.cell? ⟨w1.heap.size, k * 8 + 4, none⟩ = some (.int .i64 0) := (R1.cellAt (k * 8 + 4) (by omega)).trans (mixed_at hL (by omega) HY.out.2.2.2.2.1)
        have f4 := R1.frozenAt (k * 8 + 4)
        have e5 : u.cell? ⟨w1.heap.size, k * 8 + 5, none⟩ = some (.int .i64 0) := (R1.cellAt (k * 8 + 5) (by omega)).trans (mixed_at hL (by omega) HY.out.2.2.2.2.2.1)
        have f5 := R1.frozenAt (k * 8 + 5)
        have e6 : u.cell? ⟨w1.heap.size, k * 8 + 6, none⟩ = some (.int .i64 0) := (R1.cellAt (k * 8 + 6) (by omega)).trans (mixed_at hL (by omega) HY.out.2.2.2.2.2.2.1)
        have f6 := R1.frozenAt (k * 8 + 6)
        have e7 : u.cell? ⟨w1.heap.size, k * 8 + 7, none⟩ = some (.int .i64 0) := (R1.cellAt (k * 8 + 7) (by omega)).trans (mixed_at hL (by omega) HY.out.2.2.2.2.2.2.2)
        have f7 := R1.frozenAt (k * 8 + 7)
        obtain ⟨r0, g0⟩ := R1.stored (k * 8) (.string n)
        rw [Z0.out] at r0
        obtain ⟨r1, g1⟩ := r0.stored (k * 8 + 1) (.int .i64 3)
        rw [Z1.out] at r1
        obtain ⟨r2, g2⟩ := r1.stored (k * 8 + 1 + 1) (.string l)
        rw [Z2.out] at r2
        obtain ⟨r3, g3⟩ := r2.stored (k * 8 + 1 + 1 + 1) (.int .i64 X)
        rw [Z3.out] at r3
        obtain ⟨r4, g4⟩ := r3.stored (k * 8 + 1 + 1 + 1 + 1) (.int .i64 Y)
        rw [Z4.out] at r4
        obtain ⟨r5, g5⟩ := r4.stored (k * 8 + 1 + 1 + 1 + 1 + 1) (.int .i64 h)
        rw [Z5.out] at r5
        obtain ⟨r6, g6⟩ := r5.stored (k * 8 + 1 + 1 + 1 + 1 + 1 + 1) (.int .i64 t)
        rw [Z6.out] at r6
        obtain ⟨r7, g7⟩ := r6.stored (k * 8 + 1 + 1 + 1 + 1 + 1 + 1 + 1) (.int .i64 m)
        rw [Z7.out] at r7
        have RR := Lib.hid r7
        have b0 := BU.grown g0 BU.size (fun g hg => by cases hg; exact B1.out.size)
        have p0 := owns_grown P1 g0 (fun u hu e => by cases hu; exact NE.out (Option.some.inj e))
        have b1 := b0.grown g1 b0.size (fun g hg => by cases hg; exact B1.out.size)
        have p1 := owns_grown p0 g1 (fun u hu e => by cases hu; exact NE.out (Option.some.inj e))
        have b2 := b1.grown g2 b1.size (fun g hg => by cases hg; exact B1.out.size)
        have p2 := owns_grown p1 g2 (fun u hu e => by cases hu; exact NE.out (Option.some.inj e))
        have b3 := b2.grown g3 b2.size (fun g hg => by cases hg; exact B1.out.size)
        have p3 := owns_grown p2 g3 (fun u hu e => by cases hu; exact NE.out (Option.some.inj e))
        have b4 := b3.grown g4 b3.size (fun g hg => by cases hg; exact B1.out.size)
        have p4 := owns_grown p3 g4 (fun u hu e => by cases hu; exact NE.out (Option.some.inj e))
        have b5 := b4.grown g5 b4.size (fun g hg => by cases hg; exact B1.out.size)
        have p5 := owns_grown p4 g5 (fun u hu e => by cases hu; exact NE.out (Option.some.inj e))
        have b6 := b5.grown g6 b5.size (fun g hg => by cases hg; exact B1.out.size)
        have p6 := owns_grown p5 g6 (fun u hu e => by cases hu; exact NE.out (Option.some.inj e))
        have b7 := b6.grown g7 b6.size (fun g hg => by cases hg; exact B1.out.size)
        have p7 := owns_grown p6 g7 (fun u hu e => by cases hu; exact NE.out (Option.some.inj e))
        have BB := Lib.hid b7
        have PP := Lib.hid p7
        clear r0 g0 b0 p0 Z0 r1 g1 b1 p1 Z1 r2 g2 b2 p2 Z2 r3 g3 b3 p3 Z3 r4 g4 b4 p4 Z4 r5 g5 b5 p5 Z5 r6 g6 b6 p6 Z6 r7 g7 b7 p7 Z7 hb1 RK BK PK R1 BU P1 hL hl8 HY CT hp
        go_wp2_with fail
        go_roundw
        case rel => exact ⟨k + 1, by omega, by go_num, by rw [show (k + 1) * 8 = k * 8 + 1 + 1 + 1 + 1 + 1 + 1 + 1 + 1 by omega]; exact RR, PP, BB⟩
        case measure => simp [intOf]; omega
      · obtain rfl : k = n0 := by omega
        have F9 := Lib.hid (show wr.ownsRow w1.heap.size 98 8 (.slice (some ⟨w1.heap.size, 0, none⟩) k k) k (dls (zs.map (mvD t9 0 0))) by
          have := RK.out
          rw [show k * 8 = (dls (zs.map (mvD t9 0 0))).length by rw [dls_len, List.length_map, HN.out], mixed_all HLN.out] at this
          exact this)
        have Q9 := Lib.hid (show (zs.map (mvD t9 0 0)).length = k by rw [List.length_map, HN.out])
        go_wp2_with fail
        go_ret
        rw [HL.out]
        exact ⟨w1.heap.size, k, by rw [Q9.out]; rfl, by rw [Q9.out]; exact Rw.owns_base F9.out B1.out.size, BK.out⟩
  · have hf : rig zs = false := by simpa using hrig
    have HL := Lib.hid (show trV zs t9 = [] by unfold trV; rw [if_neg hrig])
    rw [hf] at CR
    clear hf hrig hmm
    go_enter Tryz.func102, Tryz.ntmps102
    go_wp2_with fail
    refine CR.out.mono ?_
    rintro e w1 ⟨rfl, hb1⟩
    have B1 := Lib.hid hb1
    clear hb1 CR
    go_wp2_with fail
    go_returns
    rw [HL.out]
    exact ⟨_, _, rfl, World.ownsRow_lit (base := w.heap.size) (e := 98) (size := 8) w1 #[] 0 B1.out.size (Nat.zero_le _) rfl, B1.out.alloc B1.out.size _⟩

end Go.Proofs.YtokncfhpmjohdaaGreat.Tq
namespace Go.Proofs.YtokncfhpmjohdaaGreat.Wa
open Go.RowKit Go.Proofs.YtokncfhpmjohdaaGreat.Mem Go.Proofs.YtokncfhpmjohdaaGreat.Rw Go.Proofs.YtokncfhpmjohdaaGreat.Bk Go.Proofs.YtokncfhpmjohdaaGreat.Jt Go.Proofs.YtokncfhpmjohdaaGreat.Pw Go.Proofs.YtokncfhpmjohdaaGreat.P2 Go.Proofs.YtokncfhpmjohdaaGreat.Gs Go.Proofs.YtokncfhpmjohdaaGreat.Wm Go.Proofs.YtokncfhpmjohdaaGreat.Wi
set_option linter.unusedVariables false
set_option linter.unusedSimpArgs false

abbrev pq (p : Int × Int) : Value := .agg #[.int .i64 p.1, .int .i64 p.2]
abbrev pc (x y : Int) : Array Value := #[.int .i64 x, .int .i64 y]

theorem infoPlace : (Tryz.prog.info? 44).map (fun i => (i.zero, i.size, i.bytes)) = some (some (.agg #[.int .i64 0, .int .i64 0]), 2, 16) := by kernel_rfl
/-- The cells of a list of places. -/
def pcs (ps : List (Int × Int)) : List Value := ps.flatMap fun p => [.int .i64 p.1, .int .i64 p.2]
theorem pcs_len (ps : List (Int × Int)) : (pcs ps).length = ps.length * 2 := flat_len (cells := fun p : Int × Int => [Value.int .i64 p.1, .int .i64 p.2]) (fun _ => rfl) ps
theorem pcs_get {ps : List (Int × Int)} {k : Nat} {p : Int × Int} (h : ps[k]? = some p) : (pcs ps)[k * 2]? = some (.int .i64 p.1) ∧ (pcs ps)[k * 2 + 1]? = some (.int .i64 p.2) :=
  ⟨(flat_get (K := 2) (cells := fun p : Int × Int => [Value.int .i64 p.1, .int .i64 p.2]) (fun _ => rfl) h 0 (by omega)).trans rfl, (flat_get (K := 2) (cells := fun p : Int × Int => [Value.int .i64 p.1, .int .i64 p.2]) (fun _ => rfl) h 1 (by omega)).trans rfl⟩

/-- A row of one's own with these gusts; what was there is as it was. -/
def Row3 (w : World) (zs : List G) (e : Ending) (w' : World) : Prop :=
  ∃ g c, e = .returned (.slice (some ⟨g, 0, none⟩) zs.length c) ∧ w'.ownsRow w.heap.size 89 3 (.slice (some ⟨g, 0, none⟩) zs.length c) zs.length (gls zs) ∧ Below w.heap.size w w'
theorem own_base {w : World} {base n : Nat} {e : TypeId} {s : Nat} {v : Value} {xs : List Value} (h : w.ownsRow base e s v n xs) : ∀ k, v.ownBlock = some k → base ≤ k := fun k e => (h.lt k e).1

end Go.Proofs.YtokncfhpmjohdaaGreat.Wa
namespace Go.Proofs.YtokncfhpmjohdaaGreat.Wc
open Go.RowKit Go.Proofs.YtokncfhpmjohdaaGreat.Mem Go.Proofs.YtokncfhpmjohdaaGreat.Rw Go.Proofs.YtokncfhpmjohdaaGreat.Bk Go.Proofs.YtokncfhpmjohdaaGreat.Cx Go.Proofs.YtokncfhpmjohdaaGreat.Cm Go.Proofs.YtokncfhpmjohdaaGreat.Jt Go.Proofs.YtokncfhpmjohdaaGreat.Pl Go.Proofs.YtokncfhpmjohdaaGreat.Str Go.Proofs.YtokncfhpmjohdaaGreat.Pw Go.Proofs.YtokncfhpmjohdaaGreat.P2 Go.Proofs.YtokncfhpmjohdaaGreat.Gs Go.Proofs.YtokncfhpmjohdaaGreat.Wm Go.Proofs.YtokncfhpmjohdaaGreat.Wi Go.Proofs.YtokncfhpmjohdaaGreat.Wa
set_option linter.unusedVariables false
set_option linter.unusedSimpArgs false

abbrev zv (p : Int × Int) : Value := .complex .f32 (Meas.f32 p.1) (Meas.f32 p.2)
/-- The places as words. -/
def zs2 (l : List (Int × Int)) : List Value := l.map zv
theorem zs2_len (l : List (Int × Int)) : (zs2 l).length = l.length := List.length_map ..
theorem zs2_get {l : List (Int × Int)} {k : Nat} {p : Int × Int} (h : l[k]? = some p) : (zs2 l)[k]? = some (zv p) := by
  unfold zs2; rw [List.getElem?_map, h]; rfl
theorem f32_0 : Meas.f32 0 = 0 := by decide
theorem infoC : (Tryz.prog.info? 82).map (fun i => (i.zero, i.size, i.bytes)) = some (some (.complex .f32 0 0), 1, 8) := by kernel_rfl
theorem made_c (n : Nat) : (madeCells (Value.complex .f32 0 0).cells (n * 1)).toList = List.replicate n (.complex .f32 0 0) := by
  apply List.ext_getElem?
  intro j
  rw [Nat.mul_one, Array.getElem?_toList, List.getElem?_replicate]
  simp only [madeCells, Value.cells]
  by_cases h : j < n <;> simp [h, Nat.mod_one]
@[go_sem] theorem run_store_complex (P : Program) (w : World) (a : Addr) (m : Mode) (k : FloatKind) (b c : Nat) : (store a (.complex k b c) m).run P w = stored P w a (.complex k b c) m := run_store P w a _ m rfl

/-- The drifts at the first 128 ticks, the ticks below t by k + 1 gusts, the others by k. -/
def mixed (zs : List G) (k t : Nat) : List (Int × Int) := (List.range 128).map fun j => if j < t then dr (zs.take (k + 1)) (j : Int) else dr (zs.take k) (j : Int)
theorem mixed_len (zs : List G) (k t : Nat) : (mixed zs k t).length = 128 := by simp [mixed]
theorem mixed_get {zs : List G} {k t j : Nat} (h : j < 128) : (mixed zs k t)[j]? = some (if j < t then dr (zs.take (k + 1)) (j : Int) else dr (zs.take k) (j : Int)) := by
  unfold mixed; rw [List.getElem?_map, List.getElem?_range h]; rfl
theorem mixed_from {zs : List G} {k : Nat} {z : G} (hz : zs[k]? = some z) {t : Nat} (ht : (t : Int) ≤ z.1) : mixed zs k t = mixed zs k 0 := by
  unfold mixed
  apply List.map_congr_left
  intro j hj
  by_cases h : j < t
  · rw [if_pos h, if_neg (by omega), dr_take hz, if_neg (by omega)]
  · rw [if_neg h, if_neg (by omega)]
theorem mixed_end {zs : List G} {k : Nat} : mixed zs k 128 = mixed zs (k + 1) 0 := by
  unfold mixed
  apply List.map_congr_left
  intro j hj
  have := List.mem_range.1 hj
  rw [if_pos this, if_neg (by omega)]
theorem mixed_set {zs : List G} {k t : Nat} {z : G} (hz : zs[k]? = some z) (ht : z.1 ≤ (t : Int)) (h8 : t < 128) : (zs2 (mixed zs k t)).set t (zv z.2) = zs2 (mixed zs k (t + 1)) := by
  unfold zs2
  rw [← List.map_set]
  congr 1
  apply List.ext_getElem?
  intro j
  rw [List.getElem?_set]
  by_cases h : t = j
  · subst h
    rw [if_pos rfl, if_pos (by rw [mixed_len]; exact h8), mixed_get h8, if_pos (by omega), dr_take hz, if_pos ht]
  · rw [if_neg h]
    by_cases hj : j < 128
    · rw [mixed_get hj, mixed_get hj]
      by_cases h2 : j < t
      · rw [if_pos h2, if_pos (by omega)]
      · rw [if_neg h2, if_neg (by omega)]
    · rw [List.getElem?_eq_none (by rw [mixed_len]; omega), List.getElem?_eq_none (by rw [mixed_len]; omega)]
theorem mixed_zero (zs : List G) : zs2 (mixed zs 0 0) = List.replicate 128 (.complex .f32 0 0) := by
  apply List.ext_getElem?
  intro j
  rw [List.getElem?_replicate]
  by_cases h : j < 128
  · rw [zs2_get (mixed_get h), if_pos h, if_neg (by omega)]
    show some (Value.complex .f32 (Meas.f32 0) (Meas.f32 0)) = _
    rw [f32_0]
  · rw [if_neg h, List.getElem?_eq_none (by rw [zs2_len, mixed_len]; omega)]
theorem mixed_all (zs : List G) {n : Nat} (hn : zs.length = n) : mixed zs n 0 = drs zs 0 128 := by
  unfold mixed drs
  apply List.map_congr_left
  intro j hj
  rw [if_neg (by omega), ← hn, List.take_length, Nat.zero_add]

/-- A row of one's own with these words; what was there is as it was. -/
def RowC (w : World) (l : List (Int × Int)) (e : Ending) (w' : World) : Prop :=
  ∃ g, e = .returned (.slice (some ⟨g, 0, none⟩) l.length l.length) ∧ w'.ownsRow w.heap.size 82 1 (.slice (some ⟨g, 0, none⟩) l.length l.length) l.length (zs2 l) ∧ Below w.heap.size w w'

set_option maxRecDepth 100000 in
set_option maxHeartbeats 2000000 in
theorem spreadOut (A : Option Addr) (n c : Nat) (zs : List G) (H : Nat) (w : World) (hn : zs.length = n) (hb : n ≤ 1048576) (hH : H ≤ w.heap.size) (hr : Rd w H A (gls zs)) (hw : wd zs = true) :
    Calls Tryz.prog 169 #[.slice A n c] w (RowC w (drs zs 0 128)) := by
  obtain ⟨i0, hi, hz0, hz1, hz2⟩ := info_of infoC
  have HR := Lib.hid (hr.more hH)
  have HN := Lib.hid hn
  have HW := Lib.hid hw
  clear hr hn hw
  go_enter Tryz.func169, Tryz.ntmps169
  go_wp2_with (at_make; refine wpList_make_full _ rfl _ _ 151 rfl w.heap.size 82 i0 (.complex .f32 0 0) 1 Tryz.underlying151 hi hz0 hz1 .i64 .i64 128 128 128 rfl rfl rfl rfl (by rw [hz2]; omega) (by unfold maxLen; omega) (Nat.le_refl _) ?_; intro w1 hown hgrow; clear hi hz0 hz1 hz2)
  have R0 := Lib.hid (show w1.ownsRow w.heap.size 82 1 (.slice (some ⟨w.heap.size, 0, none⟩) 128 128) 128 (zs2 (mixed zs 0 0)) by
    rw [mixed_zero]; rw [made_c] at hown; exact hown)
  have B0 := Lib.hid (show Below w.heap.size w w1 from (Below.refl _ _).grown hgrow (Nat.le_refl _) (fun k hk => by cases hk))
  clear hown hgrow
  go_loopw [10] (fun i wr => ∃ k : Nat, k ≤ n ∧ i = .int .i64 k ∧ Hid (wr.ownsRow w.heap.size 82 1 (.slice (some ⟨w.heap.size, 0, none⟩) 128 128) 128 (zs2 (mixed zs k 0))) ∧ Hid (Below w.heap.size w wr)) (fun i _ => n - (intOf i).toNat)
  case atStart => exact ⟨0, Nat.zero_le _, rfl, R0, B0⟩
  case round =>
    obtain ⟨k, hk, rfl, RK, BK⟩ := hrel
    have hbs := BK.out.size
    by_cases hlt : k < n
    · have hkz : k < zs.length := by rw [HN.out]; exact hlt
      have hl : k * 3 < (gls zs).length := by rw [gls_len]; omega
      obtain ⟨z, hz⟩ : ∃ z, zs[k]? = some z := ⟨_, List.getElem?_eq_getElem hkz⟩
      obtain ⟨b, o, eA, hbl, hcell⟩ := (HR.out.below BK.out).get hl
      obtain ⟨z0, z1, z2⟩ := gls_get hz
      obtain ⟨hf, hx, hy⟩ := wd_each HW.out hz
      have HZ := Lib.hid hz
      obtain ⟨f, x, y⟩ := z
      simp only at hf hx hy
      obtain ⟨F, rfl⟩ : ∃ F : Nat, f = (F : Int) := ⟨f.toNat, by omega⟩
      have c1 : wr.cell? ⟨b, o + k * 3, none⟩ = some (.int .i64 (F : Int)) := hcell _ _ z0
      have c2 : wr.cell? ⟨b, o + k * 3 + 1, none⟩ = some (.int .i64 x) := hcell _ _ z1
      have c3 : wr.cell? ⟨b, o + k * 3 + 2, none⟩ = some (.int .i64 y) := hcell _ _ z2
      have p1 : b < wr.heap.size := World.block_lt_of_cell? wr _ c1
      have p2 : ∀ j, b < wr.heap.size + j := fun j => by omega
      have R1 := Lib.hid (show (wr.alloc (.cells #[.int .i64 (F : Int), .int .i64 x, .int .i64 y] 89)).ownsRow w.heap.size 82 1 (.slice (some ⟨w.heap.size, 0, none⟩) 128 128) 128 (zs2 (mixed zs k F)) by
        rw [mixed_from HZ.out (Int.le_refl _)]; exact RK.out.alloc _)
      have B1 := Lib.hid (BK.out.alloc hbs (.cells #[.int .i64 (F : Int), .int .i64 x, .int .i64 y] 89))
      have T1 := Lib.hid (Bk.new wr #[.int .i64 (F : Int), .int .i64 x, .int .i64 y] 89)
      have C := Lib.hid (complexOf x y (by omega) (by omega))
      clear hcell hz hl hkz z0 z1 z2 hbl RK BK R0 B0
      subst eA
      go_wp2_with fail
      obtain ⟨wo, rfl⟩ : ∃ wo : World, wo = wr := ⟨_, rfl⟩
      go_loopw [6] (fun i wr => ∃ t : Nat, F ≤ t ∧ t ≤ 128 ∧ i = .int .i64 t ∧ Hid (wr.ownsRow w.heap.size 82 1 (.slice (some ⟨w.heap.size, 0, none⟩) 128 128) 128 (zs2 (mixed zs k t))) ∧ Hid (Bk wr wo.heap.size #[.int .i64 (F : Int), .int .i64 x, .int .i64 y] 89) ∧ Hid (Below w.heap.size w wr)) (fun i _ => 128 - (intOf i).toNat)
      case atStart => exact ⟨F, Nat.le_refl _, by omega, rfl, R1, T1, B1⟩
      case round =>
        obtain ⟨t, ht1, ht2, rfl, RT, TT, BT⟩ := hrel
        have hts := BT.out.size
        by_cases hlt2 : t < 128
        · have hne := own_ne RT.out TT.out (by decide)
          have q0 := TT.out.cell (i := 1) rfl
          have q1 := TT.out.cell (i := 2) rfl
          have l1 := TT.out.lt
          have l2 : ∀ j, wo.heap.size < wr.heap.size + j := fun j => by omega
          have c4 := (RT.out.cellAt t (by omega)).trans (zs2_get (mixed_get hlt2))
          have f4 := RT.out.frozenAt t
          have l3 : w.heap.size < wr.heap.size := (RT.out.lt _ rfl).2
          have l4 : ∀ j, w.heap.size < wr.heap.size + j := fun j => by omega
          obtain ⟨r2, g2⟩ := RT.out.stored t (zv (x, y))
          rw [mixed_set HZ.out (by simp only; omega) hlt2] at r2
          have R2 := Lib.hid (show (((wr.setCell ⟨w.heap.size, t, none⟩ (zv (x, y))).alloc (.cells #[.int .i64 x, .int .i64 y] 44)).drew).ownsRow w.heap.size 82 1 (.slice (some ⟨w.heap.size, 0, none⟩) 128 128) 128 (zs2 (mixed zs k (t + 1))) from r2.alloc _)
          have T3 := Lib.hid ((TT.out.grown g2 hne).alloc (o := .cells #[.int .i64 x, .int .i64 y] 44)).drew
          have B2 := Lib.hid (((BT.out.grown g2 hts (fun q hq => by cases hq; exact Nat.le_refl _)).alloc (by simp [World.setCell]; omega) (.cells #[.int .i64 x, .int .i64 y] 44)).drew)
          clear r2 g2 hne
          go_wp2_with fail
          refine (C.out _).mono ?_
          rintro e u ⟨rfl, rfl⟩
          go_wp2_with fail
          go_roundw
          case rel => exact ⟨t + 1, by omega, by omega, by go_num, R2, T3, B2⟩
          case measure => simp [intOf]; omega
        · obtain rfl : t = 128 := by omega
          have R2 := Lib.hid (show wr.ownsRow w.heap.size 82 1 (.slice (some ⟨w.heap.size, 0, none⟩) 128 128) 128 (zs2 (mixed zs (k + 1) 0)) by rw [← mixed_end]; exact RT.out)
          go_wp2_with fail
          go_roundw
          case rel => exact ⟨k + 1, by omega, by go_num, R2, BT⟩
          case measure => simp [intOf]; omega
    · obtain rfl : k = n := by omega
      go_wp2
      go_ret
      refine ⟨w.heap.size, by rw [drs_len]; rfl, ?_, BK.out⟩
      rw [drs_len, ← mixed_all zs HN.out]; exact RK.out

end Go.Proofs.YtokncfhpmjohdaaGreat.Wc
