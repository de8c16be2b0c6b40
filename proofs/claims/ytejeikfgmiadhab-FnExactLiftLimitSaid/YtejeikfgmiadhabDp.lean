/- A drop that flies, in the program's memory: what it is behind a tick. -/
import Derived.Test.YtejeikfgmiadhabJt
import Derived.Test.YtejeikfgmiadhabUn
import Derived.StillTailTactics
set_option linter.unusedVariables false
set_option linter.unusedSimpArgs false
namespace Go.Proofs.Ytejeikfgmiadhab.Dp
open Go.RowKit Go.Proofs.Ytejeikfgmiadhab.Cx Go.Proofs.Ytejeikfgmiadhab.Cm Go.Proofs.Ytejeikfgmiadhab.Pl Go.Proofs.Ytejeikfgmiadhab.Str Go.Proofs.Ytejeikfgmiadhab.Pw Go.Proofs.Ytejeikfgmiadhab.P2 Go.Proofs.Ytejeikfgmiadhab.Hd Go.Proofs.Ytejeikfgmiadhab.Sf Go.Proofs.Ytejeikfgmiadhab.Jt
set_option linter.unusedVariables false
set_option linter.unusedSimpArgs false

theorem grown_trans {a b c : World} {row : Option Nat} (h : a.grownBy b row) (k : b.grownBy c row) : a.grownBy c row :=
  ⟨k.os.trans h.os, k.tape.trans h.tape, k.output.trans h.output, Nat.le_trans h.size k.size, fun j hj hr => (k.block j (Nat.lt_of_lt_of_le hj h.size) hr).trans (h.block j hj hr)⟩
theorem grown_refl (w : World) (r : Option Nat) : w.grownBy w r := ⟨rfl, rfl, rfl, Nat.le_refl _, fun _ _ _ => rfl⟩
theorem grown_drew (w : World) (r : Option Nat) : w.grownBy w.drew r := ⟨rfl, rfl, rfl, Nat.le_refl _, fun _ _ _ => rfl⟩
theorem grown_set (w : World) (g j : Nat) (v : Value) : w.grownBy (w.setCell ⟨g, j, none⟩ v) (some g) :=
  ⟨rfl, rfl, rfl, by simp [World.setCell], fun k _ hr => Below.heap_setCell _ _ _ _ (by show k ≠ g; exact fun e => hr (by rw [e]))⟩

theorem wp_still_tail {P : Program} {id : Nat} {Q : Exit → Act → World → Prop} {a : Act} {w : World} {l : List Oper} (n : Nat) (hm : P.follows .mixedOrders = true) (hB : Region.lexTailB .any l.toArray n = true)
    (h : ∀ W2, W2 = w.drew → wpStill P l.toArray W2 (fun a' => wpList P l.toArray Q (l.drop n) a' W2) (l.take n) a) : (Code.region id l.toArray true).wp P Q a w := wp_region_still_tail n hm hB (h _ rfl)

@[go_sem] theorem run_store_float (P : Program) (w : World) (a : Addr) (m : Mode) (k : FloatKind) (b : Nat) : (store a (.float k b) m).run P w = stored P w a (.float k b) m := run_store P w a _ m rfl
@[go_sem] theorem run_store_complex (P : Program) (w : World) (a : Addr) (m : Mode) (k : FloatKind) (b c : Nat) : (store a (.complex k b c) m).run P w = stored P w a (.complex k b c) m := run_store P w a _ m rfl

/-- Block b is a drop of these words. -/
def DB (w : World) (b : Nat) (x y p q h s : Nat) : Prop := w.heap[b]? = some (.cells #[.complex .f32 x y, .complex .f32 p q, .float .f32 h, .float .f32 s] 107 (0, 0))

section
variable {w w' : World} {b b' : Nat} {x y p q h s : Nat}
theorem DB.c0 (k : DB w b x y p q h s) : w.cell? ⟨b, 0, none⟩ = some (.complex .f32 x y) := by simp [World.cell?, show w.heap[b]? = _ from k]
theorem DB.c1 (k : DB w b x y p q h s) : w.cell? ⟨b, 1, none⟩ = some (.complex .f32 p q) := by simp [World.cell?, show w.heap[b]? = _ from k]
theorem DB.c2 (k : DB w b x y p q h s) : w.cell? ⟨b, 2, none⟩ = some (.float .f32 h) := by simp [World.cell?, show w.heap[b]? = _ from k]
theorem DB.c3 (k : DB w b x y p q h s) : w.cell? ⟨b, 3, none⟩ = some (.float .f32 s) := by simp [World.cell?, show w.heap[b]? = _ from k]
theorem DB.f0 (k : DB w b x y p q h s) : w.frozen? ⟨b, 0, none⟩ = false := by simp [World.frozen?, show w.heap[b]? = _ from k]
theorem DB.f2 (k : DB w b x y p q h s) : w.frozen? ⟨b, 2, none⟩ = false := by simp [World.frozen?, show w.heap[b]? = _ from k]
theorem DB.f3 (k : DB w b x y p q h s) : w.frozen? ⟨b, 3, none⟩ = false := by simp [World.frozen?, show w.heap[b]? = _ from k]
theorem DB.lt (k : DB w b x y p q h s) : b < w.heap.size := (Array.getElem?_eq_some_iff.1 k).1
theorem DB.drew (k : DB w b x y p q h s) : DB w.drew b x y p q h s := k
theorem DB.new (w : World) (x y p q h s : Nat) : DB (w.alloc (.cells #[.complex .f32 x y, .complex .f32 p q, .float .f32 h, .float .f32 s] 107)) w.heap.size x y p q h s := heap_alloc_new w _
theorem DB.below (k : DB w b x y p q h s) (hb : Below w.heap.size w w') : DB w' b x y p q h s := (hb.block b k.lt).trans k
theorem DB.grown {r : Option Nat} (k : DB w b x y p q h s) (g : w.grownBy w' r) (hr : some b ≠ r) : DB w' b x y p q h s := (g.block b k.lt hr).trans k
theorem DB.set0 (u v : Nat) (k : DB w b x y p q h s) : DB (w.setCell ⟨b, 0, none⟩ (.complex .f32 u v)) b u v p q h s := by
  obtain ⟨hlt, hk⟩ := Array.getElem?_eq_some_iff.1 k
  show (w.heap.modify b _)[b]? = _
  rw [Array.getElem?_eq_getElem (by rw [Array.size_modify]; exact hlt), Array.getElem_modify_self, hk]
  rfl
theorem DB.set2 (u : Nat) (k : DB w b x y p q h s) : DB (w.setCell ⟨b, 2, none⟩ (.float .f32 u)) b x y p q u s := by
  obtain ⟨hlt, hk⟩ := Array.getElem?_eq_some_iff.1 k
  show (w.heap.modify b _)[b]? = _
  rw [Array.getElem?_eq_getElem (by rw [Array.size_modify]; exact hlt), Array.getElem_modify_self, hk]
  rfl
theorem DB.set3 (u : Nat) (k : DB w b x y p q h s) : DB (w.setCell ⟨b, 3, none⟩ (.float .f32 u)) b x y p q h u := by
  obtain ⟨hlt, hk⟩ := Array.getElem?_eq_some_iff.1 k
  show (w.heap.modify b _)[b]? = _
  rw [Array.getElem?_eq_getElem (by rw [Array.size_modify]; exact hlt), Array.getElem_modify_self, hk]
  rfl
end

/-- Block b is a drop at this place, with this way and height and speed, in eighths. -/
def Fly (w : World) (b : Nat) (X Y P Q H S : Int) : Prop := ∃ x y p q h s : Nat, DB w b x y p q h s ∧ I32 X x ∧ I32 Y y ∧ I32 P p ∧ I32 Q q ∧ I32 H h ∧ I32 S s

theorem Fly.lt {w : World} {b : Nat} {X Y P Q H S : Int} (k : Fly w b X Y P Q H S) : b < w.heap.size := let ⟨_, _, _, _, _, _, d, _⟩ := k; d.lt
theorem Fly.below {w w' : World} {b : Nat} {X Y P Q H S : Int} (k : Fly w b X Y P Q H S) (hb : Below w.heap.size w w') : Fly w' b X Y P Q H S :=
  let ⟨x, y, p, q, h, s, d, i⟩ := k; ⟨x, y, p, q, h, s, d.below hb, i⟩
theorem Fly.grown {w w' : World} {b : Nat} {X Y P Q H S : Int} {r : Option Nat} (k : Fly w b X Y P Q H S) (g : w.grownBy w' r) (hr : some b ≠ r) : Fly w' b X Y P Q H S :=
  let ⟨x, y, p, q, h, s, d, i⟩ := k; ⟨x, y, p, q, h, s, d.grown g hr, i⟩

theorem fadd {P : Program} {a b : Int} {x y : Nat} (ha : a.natAbs < 16777216) (hb : b.natAbs < 16777216) (hx : I32 a x) (hy : I32 b y) : ∃ r, (∀ t w, (binOp .add t (.float .f32 x) (.float .f32 y)).run P w = .ok (.float .f32 r) w) ∧ I32 (a + b) r := by
  obtain ⟨r, h1, h2⟩ := add_is (s32 a ha) (s32 b hb) hx hy
  exact ⟨r, fun t w => run_float_arith w .add t .f32 x y r h1, h2⟩
theorem fsub {P : Program} {a b : Int} {x y : Nat} (ha : a.natAbs < 16777216) (hb : b.natAbs < 16777216) (hx : I32 a x) (hy : I32 b y) : ∃ r, (∀ t w, (binOp .sub t (.float .f32 x) (.float .f32 y)).run P w = .ok (.float .f32 r) w) ∧ I32 (a - b) r := by
  obtain ⟨r, h1, h2⟩ := sub_is (s32 a ha) (s32 b hb) hx hy
  exact ⟨r, fun t w => run_float_arith w .sub t .f32 x y r h1, h2⟩

theorem whole2 (w : World) : Calls Try.prog 67 #[.int .i64 2] w fun e w' => e = .returned (.float .f32 (Meas.f32 2)) ∧ w' = w := (Meas.wholesOf 2 (by decide) w).mono fun _ _ h => ⟨h.1, h.2.symm⟩

/-- What a tick leaves. -/
def Ticked (w : World) (b : Nat) (X Y P Q H S : Int) (e : Ending) (w' : World) : Prop := e = .returned (.tuple #[]) ∧ Fly w' b X Y P Q H S ∧ w.grownBy w' (some b)

set_option maxHeartbeats 2000000 in
set_option maxRecDepth 100000 in
theorem fly {w : World} {b : Nat} {X Y P Q H S : Int} (k : Fly w b X Y P Q H S) (hX : X.natAbs < 8388608) (hY : Y.natAbs < 8388608) (hP : P.natAbs < 8388608) (hQ : Q.natAbs < 8388608) (hH : H.natAbs < 8388608) (hS : S.natAbs < 8388608) :
    Calls Try.prog 72 #[.pointer (some ⟨b, 0, none⟩)] w (Ticked w b (X + P) (Y + Q) P Q (H + S) (S - 2)) := by
  obtain ⟨x, y, p, q, h, s, hD, i1, i2, i3, i4, i5, i6⟩ := k
  obtain ⟨u, v, e1, j1, j2⟩ := csum (P := Try.prog) .add 1 (Or.inl ⟨rfl, rfl⟩) hX hY hP hQ i1 i2 i3 i4
  obtain ⟨g, e2, j3⟩ := fadd (P := Try.prog) (by omega) (by omega) i5 i6
  obtain ⟨r, e3, j4⟩ := fsub (P := Try.prog) (b := 2) (by omega) (by decide) i6 (i32_f32 2)
  rw [Int.one_mul] at j1 j2
  have J := Lib.hid (And.intro j1 (And.intro j2 (And.intro i3 (And.intro i4 (And.intro j3 j4)))))
  have D := Lib.hid hD
  have W2 := Lib.hid whole2
  clear i1 i2 i3 i4 i5 i6 j1 j2 j3 j4 hD hX hY hP hQ hH hS
  go_enter Try.func72, Try.ntmps72
  go_wp2_with fail
  refine wp_still_tail 11 (by kernel_rfl) (by kernel_rfl) ?_
  intro V hV
  have D1 := Lib.hid (show DB V b x y p q h s by rw [hV]; exact D.out.drew)
  have G1 := Lib.hid (show w.grownBy V (some b) by rw [hV]; exact grown_drew _ _)
  have c0 := D1.out.c0
  have c1 := D1.out.c1
  have f0 := D1.out.f0
  clear hV D
  simp only [List.take_succ_cons, List.take_zero, List.drop_succ_cons, List.drop_zero]
  repeat still_step
  refine wpStill_nil ?_
  clear c1
  go_wp2_with fail
  clear c0 f0
  refine wp_still_tail 11 (by kernel_rfl) (by kernel_rfl) ?_
  intro V2 hV
  have D2 := Lib.hid (show DB V2 b u v p q h s by rw [hV]; exact (D1.out.set0 u v).drew)
  have G2 := Lib.hid (show w.grownBy V2 (some b) by rw [hV]; exact grown_trans G1.out (grown_trans (grown_set _ _ _ _) (grown_drew _ _)))
  have c2 := D2.out.c2
  have c3 := D2.out.c3
  have f2 := D2.out.f2
  clear hV D1 G1
  simp only [List.take_succ_cons, List.take_zero, List.drop_succ_cons, List.drop_zero]
  repeat still_step
  refine wpStill_nil ?_
  clear c3
  go_wp2_with fail
  clear c2 f2
  refine wp_still_tail 8 (by kernel_rfl) (by kernel_rfl) ?_
  intro V3 hV
  have D3 := Lib.hid (show DB V3 b u v p q g s by rw [hV]; exact (D2.out.set2 g).drew)
  have G3 := Lib.hid (show w.grownBy V3 (some b) by rw [hV]; exact grown_trans G2.out (grown_trans (grown_set _ _ _ _) (grown_drew _ _)))
  have c3 := D3.out.c3
  have f3 := D3.out.f3
  clear hV D2 G2
  simp only [List.take_succ_cons, List.take_zero, List.drop_succ_cons, List.drop_zero]
  iterate 4 still_step
  still_call (W2.out _)
  repeat still_step
  refine wpStill_nil ?_
  go_wp2_with fail
  go_returns
  exact ⟨rfl, ⟨u, v, p, q, g, r, D3.out.set3 r, J.out⟩, grown_trans G3.out (grown_set _ _ _ _)⟩

end Go.Proofs.Ytejeikfgmiadhab.Dp
