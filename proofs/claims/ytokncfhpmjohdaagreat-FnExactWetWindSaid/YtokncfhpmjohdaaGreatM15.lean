/- The four units of the program's headings. -/
import Derived.Test.YtokncfhpmjohdaaGreatM5
import Derived.StillTailTactics
import Derived.Deep.DeepCutAuto
set_option linter.unusedVariables false
set_option linter.unusedSimpArgs false
namespace Go.Proofs.YtokncfhpmjohdaaGreat.Sf
open Go.RowKit Go.Proofs.YtokncfhpmjohdaaGreat.Cm Go.Proofs.YtokncfhpmjohdaaGreat.Pl Go.Proofs.YtokncfhpmjohdaaGreat.Str Go.Proofs.YtokncfhpmjohdaaGreat.Pw Go.Proofs.YtokncfhpmjohdaaGreat.P2
set_option linter.unusedVariables false

theorem units (w : World) : Calls Tryz.prog 134 #[] w fun e w' => e = .returned (.slice (some ⟨w.heap.size, 0, none⟩) 4 4) ∧ w' = w.alloc (.cells #[.complex .f32 1065353216 0, .complex .f32 0 1065353216, .complex .f32 3212836864 0, .complex .f32 0 3212836864] 82) := by
  go_enter Tryz.func134, Tryz.ntmps134
  go_wp2
  go_returns
  exact ⟨rfl, rfl⟩

theorem i32_0 : I32 0 0 := ⟨false, by decide, by decide⟩

end Go.Proofs.YtokncfhpmjohdaaGreat.Sf
namespace Go.Proofs.YtokncfhpmjohdaaGreat.Dp
open Go.RowKit Go.Proofs.YtokncfhpmjohdaaGreat.Cx Go.Proofs.YtokncfhpmjohdaaGreat.Cm Go.Proofs.YtokncfhpmjohdaaGreat.Pl Go.Proofs.YtokncfhpmjohdaaGreat.Str Go.Proofs.YtokncfhpmjohdaaGreat.Pw Go.Proofs.YtokncfhpmjohdaaGreat.P2 Go.Proofs.YtokncfhpmjohdaaGreat.Hd Go.Proofs.YtokncfhpmjohdaaGreat.Sf Go.Proofs.YtokncfhpmjohdaaGreat.Jt
set_option linter.unusedVariables false
set_option linter.unusedSimpArgs false

theorem grown_trans {a b c : World} {row : Option Nat} (h : a.grownBy b row) (k : b.grownBy c row) : a.grownBy c row :=
  ⟨k.os.trans h.os, k.tape.trans h.tape, k.output.trans h.output, Nat.le_trans h.size k.size, fun j hj hr => (k.block j (Nat.lt_of_lt_of_le hj h.size) hr).trans (h.block j hj hr)⟩
theorem grown_refl (w : World) (r : Option Nat) : w.grownBy w r := ⟨rfl, rfl, rfl, Nat.le_refl _, fun _ _ _ => rfl⟩
theorem grown_drew (w : World) (r : Option Nat) : w.grownBy w.drew r := ⟨rfl, rfl, rfl, Nat.le_refl _, fun _ _ _ => rfl⟩
theorem grown_set (w : World) (g j : Nat) (v : Value) : w.grownBy (w.setCell ⟨g, j, none⟩ v) (some g) :=
  ⟨rfl, rfl, rfl, by simp [World.setCell], fun k _ hr => Below.heap_setCell _ _ _ _ (by show k ≠ g; exact fun e => hr (by rw [e]))⟩

theorem wp_still_tail {P : Program} {id : Nat} {Q : Exit → Act → World → Prop} {a : Act} {w : World} {l : List Oper} (n : Nat) (hm : P.follows .mixedOrders = true) (hB : Region.lexTailB .any l.toArray n = true)
    (h : ∀ W2, W2 = w.drew → wpStill P l.toArray W2 (fun a' => wpList P l.toArray Q (l.drop n) a' W2) (l.take n) a) : (Code.region id l.toArray true).wp P Q a w := wp_region_still_tail n hm hB (h _ rfl)

@[go_sem] theorem run_store_float (P : Program) (w : World) (a : Addr) (m : Mode) (k : FloatKind) (b : Nat) : (store a (.float k b) m).run P w = stored P w a (.float k b) m := run_store P w a _ m rfl
@[go_sem] theorem run_store_complex (P : Program) (w : World) (a : Addr) (m : Mode) (k : FloatKind) (b c : Nat) : (store a (.complex k b c) m).run P w = stored P w a (.complex k b c) m := run_store P w a _ m rfl

/-- Block b is a drop of these words. -/
def DB (w : World) (b : Nat) (x y p q h s : Nat) : Prop := w.heap[b]? = some (.cells #[.complex .f32 x y, .complex .f32 p q, .float .f32 h, .float .f32 s] 166 (0, 0))

section
variable {w w' : World} {b b' : Nat} {x y p q h s : Nat}
theorem DB.c0 (k : DB w b x y p q h s) : w.cell? ⟨b, 0, none⟩ = some (.complex .f32 x y) := by simp [World.cell?, show w.heap[b]? = _ from k]
theorem DB.c1 (k : DB w b x y p q h s) : w.cell? ⟨b, 1, none⟩ = some (.complex .f32 p q) := by simp [World.cell?, show w.heap[b]? = _ from k]
theorem DB.c2 (k : DB w b x y p q h s) : w.cell? ⟨b, 2, none⟩ = some (.float .f32 h) := by simp [World.cell?, show w.heap[b]? = _ from k]
theorem DB.c3 (k : DB w b x y p q h s) : w.cell? ⟨b, 3, none⟩ = some (.float .f32 s) := by simp [World.cell?, show w.heap[b]? = _ from k]
theorem DB.f0 (k : DB w b x y p q h s) : w.frozen? ⟨b, 0, none⟩ = false := by simp [World.frozen?, show w.heap[b]? = _ from k]
theorem DB.f2 (k : DB w b x y p q h s) : w.frozen? ⟨b, 2, none⟩ = false := by simp [World.frozen?, show w.heap[b]? = _ from k]
theorem DB.f3 (k : DB w b x y p q h s) : w.frozen? ⟨b, 3, none⟩ = false := by simp [World.frozen?, show w.heap[b]? = _ from k]
theorem DB.lt (k : DB w b x y p q h s) : b < w.heap.size := (Array.getElem?_eq_some_iff.1 k).1
theorem DB.drew (k : DB w b x y p q h s) : DB w.drew b x y p q h s := k
theorem DB.new (w : World) (x y p q h s : Nat) : DB (w.alloc (.cells #[.complex .f32 x y, .complex .f32 p q, .float .f32 h, .float .f32 s] 166)) w.heap.size x y p q h s := heap_alloc_new w _
theorem DB.below (k : DB w b x y p q h s) (hb : Below w.heap.size w w') : DB w' b x y p q h s := (hb.block b k.lt).trans k
theorem DB.grown {r : Option Nat} (k : DB w b x y p q h s) (g : w.grownBy w' r) (hr : some b ≠ r) : DB w' b x y p q h s := (g.block b k.lt hr).trans k
theorem DB.set0 (u v : Nat) (k : DB w b x y p q h s) : DB (w.setCell ⟨b, 0, none⟩ (.complex .f32 u v)) b u v p q h s := by
  obtain ⟨hlt, hk⟩ := Array.getElem?_eq_some_iff.1 k
  show (w.heap.modify b _)[b]? = _
  rw [Array.getElem?_eq_getElem (by rw [Array.size_modify]; exact hlt), Array.getElem_modify_self, hk]
  rfl
theorem DB.set2 (u : Nat) (k : DB w b x y p q h s) : DB (w.setCell ⟨b, 2, none⟩ (.float .f32 u)) b x y p q u s := by
  obtain ⟨hlt, hk⟩ := Array.getElem?_eq_some_iff.1 k
  show (w.heap.modify b _)[b]? = _
  rw [Array.getElem?_eq_getElem (by rw [Array.size_modify]; exact hlt), Array.getElem_modify_self, hk]
  rfl
theorem DB.set3 (u : Nat) (k : DB w b x y p q h s) : DB (w.setCell ⟨b, 3, none⟩ (.float .f32 u)) b x y p q h u := by
  obtain ⟨hlt, hk⟩ := Array.getElem?_eq_some_iff.1 k
  show (w.heap.modify b _)[b]? = _
  rw [Array.getElem?_eq_getElem (by rw [Array.size_modify]; exact hlt), Array.getElem_modify_self, hk]
  rfl
end

/-- Block b is a drop at this place, with this way and height and speed, in eighths. -/
def Fly (w : World) (b : Nat) (X Y P Q H S : Int) : Prop := ∃ x y p q h s : Nat, DB w b x y p q h s ∧ I32 X x ∧ I32 Y y ∧ I32 P p ∧ I32 Q q ∧ I32 H h ∧ I32 S s

theorem Fly.lt {w : World} {b : Nat} {X Y P Q H S : Int} (k : Fly w b X Y P Q H S) : b < w.heap.size := let ⟨_, _, _, _, _, _, d, _⟩ := k; d.lt
theorem Fly.below {w w' : World} {b : Nat} {X Y P Q H S : Int} (k : Fly w b X Y P Q H S) (hb : Below w.heap.size w w') : Fly w' b X Y P Q H S :=
  let ⟨x, y, p, q, h, s, d, i⟩ := k; ⟨x, y, p, q, h, s, d.below hb, i⟩
theorem Fly.grown {w w' : World} {b : Nat} {X Y P Q H S : Int} {r : Option Nat} (k : Fly w b X Y P Q H S) (g : w.grownBy w' r) (hr : some b ≠ r) : Fly w' b X Y P Q H S :=
  let ⟨x, y, p, q, h, s, d, i⟩ := k; ⟨x, y, p, q, h, s, d.grown g hr, i⟩

theorem fadd {P : Program} {a b : Int} {x y : Nat} (ha : a.natAbs < 16777216) (hb : b.natAbs < 16777216) (hx : I32 a x) (hy : I32 b y) : ∃ r, (∀ t w, (binOp .add t (.float .f32 x) (.float .f32 y)).run P w = .ok (.float .f32 r) w) ∧ I32 (a + b) r := by
  obtain ⟨r, h1, h2⟩ := add_is (s32 a ha) (s32 b hb) hx hy
  exact ⟨r, fun t w => run_float_arith w .add t .f32 x y r h1, h2⟩
theorem fsub {P : Program} {a b : Int} {x y : Nat} (ha : a.natAbs < 16777216) (hb : b.natAbs < 16777216) (hx : I32 a x) (hy : I32 b y) : ∃ r, (∀ t w, (binOp .sub t (.float .f32 x) (.float .f32 y)).run P w = .ok (.float .f32 r) w) ∧ I32 (a - b) r := by
  obtain ⟨r, h1, h2⟩ := sub_is (s32 a ha) (s32 b hb) hx hy
  exact ⟨r, fun t w => run_float_arith w .sub t .f32 x y r h1, h2⟩

theorem whole2 (w : World) : Calls Tryz.prog 138 #[.int .i64 2] w fun e w' => e = .returned (.float .f32 (Meas.f32 2)) ∧ w' = w := (Meas.wholesOf 2 (by decide) w).mono fun _ _ h => ⟨h.1, h.2.symm⟩

/-- What a tick leaves. -/
def Ticked (w : World) (b : Nat) (X Y P Q H S : Int) (e : Ending) (w' : World) : Prop := e = .returned (.tuple #[]) ∧ Fly w' b X Y P Q H S ∧ w.grownBy w' (some b)

set_option maxHeartbeats 2000000 in
set_option maxRecDepth 100000 in
theorem fly {w : World} {b : Nat} {X Y P Q H S : Int} (k : Fly w b X Y P Q H S) (hX : X.natAbs < 8388608) (hY : Y.natAbs < 8388608) (hP : P.natAbs < 8388608) (hQ : Q.natAbs < 8388608) (hH : H.natAbs < 8388608) (hS : S.natAbs < 8388608) :
    Calls Tryz.prog 166 #[.pointer (some ⟨b, 0, none⟩)] w (Ticked w b (X + P) (Y + Q) P Q (H + S) (S - 2)) := by
  obtain ⟨x, y, p, q, h, s, hD, i1, i2, i3, i4, i5, i6⟩ := k
  obtain ⟨u, v, e1, j1, j2⟩ := csum (P := Tryz.prog) .add 1 (Or.inl ⟨rfl, rfl⟩) hX hY hP hQ i1 i2 i3 i4
  obtain ⟨g, e2, j3⟩ := fadd (P := Tryz.prog) (by omega) (by omega) i5 i6
  obtain ⟨r, e3, j4⟩ := fsub (P := Tryz.prog) (b := 2) (by omega) (by decide) i6 (i32_f32 2)
  rw [Int.one_mul] at j1 j2
  have J := Lib.hid (And.intro j1 (And.intro j2 (And.intro i3 (And.intro i4 (And.intro j3 j4)))))
  have D := Lib.hid hD
  have W2 := Lib.hid whole2
  clear i1 i2 i3 i4 i5 i6 j1 j2 j3 j4 hD hX hY hP hQ hH hS
  go_enter Tryz.func166, Tryz.ntmps166
  go_wp2_with fail
  refine wp_still_tail 11 (by kernel_rfl) (by kernel_rfl) ?_
  intro V hV
  have D1 := Lib.hid (show DB V b x y p q h s by rw [hV]; exact D.out.drew)
  have G1 := Lib.hid (show w.grownBy V (some b) by rw [hV]; exact grown_drew _ _)
  have c0 := D1.out.c0
  have c1 := D1.out.c1
  have f0 := D1.out.f0
  clear hV D
  simp only [List.take_succ_cons, List.take_zero, List.drop_succ_cons, List.drop_zero]
  repeat still_step
  refine wpStill_nil ?_
  clear c1
  go_wp2_with fail
  clear c0 f0
  refine wp_still_tail 11 (by kernel_rfl) (by kernel_rfl) ?_
  intro V2 hV
  have D2 := Lib.hid (show DB V2 b u v p q h s by rw [hV]; exact (D1.out.set0 u v).drew)
  have G2 := Lib.hid (show w.grownBy V2 (some b) by rw [hV]; exact grown_trans G1.out (grown_trans (grown_set _ _ _ _) (grown_drew _ _)))
  have c2 := D2.out.c2
  have c3 := D2.out.c3
  have f2 := D2.out.f2
  clear hV D1 G1
  simp only [List.take_succ_cons, List.take_zero, List.drop_succ_cons, List.drop_zero]
  repeat still_step
  refine wpStill_nil ?_
  clear c3
  go_wp2_with fail
  clear c2 f2
  refine wp_still_tail 8 (by kernel_rfl) (by kernel_rfl) ?_
  intro V3 hV
  have D3 := Lib.hid (show DB V3 b u v p q g s by rw [hV]; exact (D2.out.set2 g).drew)
  have G3 := Lib.hid (show w.grownBy V3 (some b) by rw [hV]; exact grown_trans G2.out (grown_trans (grown_set _ _ _ _) (grown_drew _ _)))
  have c3 := D3.out.c3
  have f3 := D3.out.f3
  clear hV D2 G2
  simp only [List.take_succ_cons, List.take_zero, List.drop_succ_cons, List.drop_zero]
  iterate 4 still_step
  still_call (W2.out _)
  repeat still_step
  refine wpStill_nil ?_
  go_wp2_with fail
  go_returns
  exact ⟨rfl, ⟨u, v, p, q, g, r, D3.out.set3 r, J.out⟩, grown_trans G3.out (grown_set _ _ _ _)⟩

end Go.Proofs.YtokncfhpmjohdaaGreat.Dp
namespace Go.Proofs.YtokncfhpmjohdaaGreat.Dp
open Go.RowKit Go.Proofs.YtokncfhpmjohdaaGreat.Cx Go.Proofs.YtokncfhpmjohdaaGreat.Cm Go.Proofs.YtokncfhpmjohdaaGreat.Pl Go.Proofs.YtokncfhpmjohdaaGreat.Str Go.Proofs.YtokncfhpmjohdaaGreat.Pw Go.Proofs.YtokncfhpmjohdaaGreat.P2 Go.Proofs.YtokncfhpmjohdaaGreat.Hd Go.Proofs.YtokncfhpmjohdaaGreat.Sf Go.Proofs.YtokncfhpmjohdaaGreat.Jt
set_option linter.unusedVariables false
set_option linter.unusedSimpArgs false

/-- The height behind k ticks. -/
def hg (l : Int) (k : Nat) : Int := (k : Int) * (l + 1 - k)
theorem hg_succ (l : Int) (k : Nat) : hg l k + (l - 2 * k) = hg l (k + 1) := by
  unfold hg
  have e : (((k + 1 : Nat) : Int)) = (k : Int) + 1 := by omega
  rw [e]
  generalize (k : Int) = m
  have h1 : (m + 1) * (l + 1 - (m + 1)) = m * (l + 1 - (m + 1)) + (l + 1 - (m + 1)) := by rw [Int.add_mul, Int.one_mul]
  have h2 : m * (l + 1 - (m + 1)) = m * (l + 1 - m) - m := by
    rw [show l + 1 - (m + 1) = (l + 1 - m) - 1 by omega, Int.mul_sub, Int.mul_one]
  rw [h1, h2]; omega
theorem hg_zero (l : Int) : hg l 0 = 0 := by unfold hg; simp
theorem hg_end {l : Int} {k : Nat} (h : (k : Int) = l + 1) : hg l k = 0 := by unfold hg; rw [h]; simp
theorem hg_nonneg {l : Int} {k : Nat} (h : (k : Int) ≤ l + 1) : 0 ≤ hg l k := Int.mul_nonneg (by omega) (by omega)
theorem hg_pos {l : Int} {k : Nat} (h0 : 1 ≤ k) (h : (k : Int) ≤ l) : 0 < hg l k := Int.mul_pos (by omega) (by omega)
theorem hg_le {l : Int} {k : Nat} (h : (k : Int) ≤ l + 1) (hl : l ≤ 32) : hg l k ≤ 1089 :=
  Int.le_trans (Int.mul_le_mul (a := (k : Int)) (b := l + 1 - k) (c := 33) (d := 33) (by omega) (by omega) (by omega) (by omega)) (by omega)

/-- Where it is behind k ticks. -/
def wy (X P : Int) (k : Nat) : Int := X + (k : Int) * P
theorem wy_zero (X P : Int) : wy X P 0 = X := by unfold wy; simp
theorem wy_succ (X P : Int) (k : Nat) : wy X P k + P = wy X P (k + 1) := by
  unfold wy
  rw [show (((k + 1 : Nat) : Int)) = (k : Int) + 1 by omega, Int.add_mul, Int.one_mul]; omega
theorem wy_le {X P : Int} {k : Nat} (hX : -1024 ≤ X ∧ X ≤ 1024) (hP : -16 ≤ P ∧ P ≤ 16) (hk : k ≤ 33) : -1552 ≤ wy X P k ∧ wy X P k ≤ 1552 := by
  unfold wy
  have h1 : (k : Int) * P ≤ (k : Int) * 16 := Int.mul_le_mul_of_nonneg_left hP.2 (by omega)
  have h2 : (k : Int) * (-16) ≤ (k : Int) * P := Int.mul_le_mul_of_nonneg_left hP.1 (by omega)
  omega

/-- What a drop of this jet is behind k ticks. -/
def At (w : World) (b : Nat) (X Y P Q l : Int) (k : Nat) : Prop := Fly w b (wy X P k) (wy Y Q k) P Q (hg l k) (l - 2 * k)

structure Ok (X Y P Q l : Int) : Prop where
  x : -1024 ≤ X ∧ X ≤ 1024
  y : -1024 ≤ Y ∧ Y ≤ 1024
  p : -16 ≤ P ∧ P ≤ 16
  q : -16 ≤ Q ∧ Q ≤ 16
  l : 1 ≤ l ∧ l ≤ 32

theorem At.tick {w : World} {b : Nat} {X Y P Q l : Int} {k : Nat} (o : Ok X Y P Q l) (h : At w b X Y P Q l k) (hk : (k : Int) ≤ l + 1) :
    Calls Tryz.prog 166 #[.pointer (some ⟨b, 0, none⟩)] w fun e w' => e = .returned (.tuple #[]) ∧ At w' b X Y P Q l (k + 1) ∧ w.grownBy w' (some b) := by
  have b1 := wy_le (k := k) o.x o.p (by have := o.l; omega)
  have b2 := wy_le (k := k) o.y o.q (by have := o.l; omega)
  have b3 := hg_le hk o.l.2
  have b4 := hg_nonneg hk
  have hp := o.p
  have hq := o.q
  have hl := o.l
  refine (fly h (by omega) (by omega) (by omega) (by omega) (by omega) (by omega)).mono fun e w' r => ⟨r.1, ?_, r.2.2⟩
  have := r.2.1
  rw [wy_succ, wy_succ, hg_succ] at this
  unfold At
  rw [show l - 2 * (((k + 1 : Nat) : Int)) = l - 2 * (k : Int) - 2 by omega]
  exact this

theorem leq0 {n : Int} {x : Nat} (hn : n.natAbs < 16777216) (h : I32 n x) : (FloatKind.f32.format.order x 0 == some .lt || FloatKind.f32.format.order x 0 == some .eq) = decide (n ≤ 0) := by
  have o : FloatKind.f32.format.order x 0 = some (compare n 0) := order_is (s32 n hn) (s32 0 (by decide)) h i32_0
  rw [o]
  rcases (by omega : n < 0 ∨ n = 0 ∨ 0 < n) with c | c | c
  · rw [Meas.cmp_lt c, decide_eq_true (by omega)]; rfl
  · rw [Meas.cmp_eq c, decide_eq_true (by omega)]; rfl
  · rw [Meas.cmp_gt c, decide_eq_false (by omega)]; rfl

theorem isDown {w : World} {b : Nat} {X Y P Q H S : Int} {c : Bool} (k : Fly w b X Y P Q H S) (hn : H.natAbs < 16777216) (hc : decide (H ≤ 0) = c) :
    Calls Tryz.prog 167 #[.pointer (some ⟨b, 0, none⟩)] w fun e w' => e = .returned (.bool c) ∧ w = w' := by
  obtain ⟨x, y, p, q, h, s, hD, i1, i2, i3, i4, i5, i6⟩ := k
  have c0 := hD.c2
  have o := leq0 hn i5
  rw [hc] at o
  clear hD i1 i2 i3 i4 i5 i6 hc hn
  go_enter Tryz.func167, Tryz.ntmps167
  go_wp2
  go_returns
  exact ⟨rfl, rfl⟩

end Go.Proofs.YtokncfhpmjohdaaGreat.Dp
namespace Go.Proofs.YtokncfhpmjohdaaGreat.Dp
open Go.RowKit Go.Proofs.YtokncfhpmjohdaaGreat.Cx Go.Proofs.YtokncfhpmjohdaaGreat.Cm Go.Proofs.YtokncfhpmjohdaaGreat.Pl Go.Proofs.YtokncfhpmjohdaaGreat.Str Go.Proofs.YtokncfhpmjohdaaGreat.Pw Go.Proofs.YtokncfhpmjohdaaGreat.P2 Go.Proofs.YtokncfhpmjohdaaGreat.Hd Go.Proofs.YtokncfhpmjohdaaGreat.Sf Go.Proofs.YtokncfhpmjohdaaGreat.Jt
set_option linter.unusedVariables false
set_option linter.unusedSimpArgs false

theorem ret_i {a b : Int} (h : a = b) : Ending.returned (.int .i64 a) = .returned (.int .i64 b) := by rw [h]

/-- What counting leaves: N ticks were counted, and the drop is where it is then. -/
def Counted (w : World) (b : Nat) (X Y P Q l : Int) (N : Nat) (e : Ending) (w' : World) : Prop :=
  e = .returned (.int .i64 N) ∧ At w' b X Y P Q l N ∧ w.grownBy w' (some b)
/-- What a repetition leaves. -/
def Gone (w : World) (b : Nat) (X Y P Q l : Int) (N : Nat) (e : Ending) (w' : World) : Prop :=
  e = .returned (.tuple #[]) ∧ At w' b X Y P Q l N ∧ w.grownBy w' (some b)

set_option maxHeartbeats 1000000 in
theorem until_isDown {w : World} {b : Nat} {X Y P Q l : Int} {N : Nat} (o : Ok X Y P Q l) (hN : (N : Int) = l + 1) (h : At w b X Y P Q l 0) :
    Calls Tryz.prog 165 #[.func (.func 166) #[.pointer (some ⟨b, 0, none⟩)] #[], .func (.func 167) #[.pointer (some ⟨b, 0, none⟩)] #[]] w (Counted w b X Y P Q l N) := by
  have hl := o.l
  have O := Lib.hid o
  have H0 := Lib.hid h
  clear o h
  go_enter Tryz.func165, Tryz.ntmps165
  go_wp2_with fail
  refine (At.tick O.out H0.out (by omega)).mono ?_
  rintro e w1 ⟨rfl, h1, g1⟩
  have H1 := Lib.hid h1
  have G1 := Lib.hid g1
  clear h1 g1
  go_wp2_with fail
  go_loopw [5] (fun n wr => ∃ k : Nat, 1 ≤ k ∧ k ≤ N ∧ n = .int .i64 k ∧ Hid (At wr b X Y P Q l k) ∧ Hid (w.grownBy wr (some b))) (fun n _ => N - (intOf n).toNat)
  case atStart => exact ⟨1, by omega, by omega, rfl, H1, G1⟩
  case round =>
    obtain ⟨k, k1, k2, rfl, HK, GK⟩ := hrel
    have b3 := hg_le (k := k) (by omega) hl.2
    have b4 := hg_nonneg (l := l) (k := k) (by omega)
    by_cases hlt : k < N
    · have C := Lib.hid (isDown (c := false) HK.out (by omega) (decide_eq_false (by have := hg_pos (l := l) k1 (by omega); omega)))
      clear b3 b4
      go_wp2_with fail
      refine C.out.mono ?_
      rintro e w' ⟨rfl, rfl⟩
      go_wp2_with fail
      refine (At.tick O.out HK.out (by omega)).mono ?_
      rintro e w2 ⟨rfl, h2, g2⟩
      have H2 := Lib.hid h2
      have G2 := Lib.hid (grown_trans GK.out g2)
      clear h2 g2
      go_wp2_with fail
      go_roundw
      case rel => exact ⟨k + 1, by omega, by omega, by go_num, H2, G2⟩
      case measure => simp [intOf]; omega
    · have hk : k = N := by omega
      have C := Lib.hid (isDown (c := true) HK.out (by omega) (decide_eq_true (by rw [hg_end (by omega)]; decide)))
      clear b3 b4
      have HK2 := Lib.hid (hk ▸ HK.out)
      have RI := Lib.hid (show Ending.returned (.int .i64 (k : Int)) = .returned (.int .i64 (N : Int)) by rw [hk])
      clear hk
      go_wp2_with fail
      refine C.out.mono ?_
      rintro e w' ⟨rfl, rfl⟩
      go_wp2_with fail
      go_returns
      exact ⟨RI.out, HK2.out, GK.out⟩

set_option maxHeartbeats 1000000 in
theorem repeatTick {w : World} {b : Nat} {X Y P Q l : Int} {N : Nat} (o : Ok X Y P Q l) (hN : (N : Int) ≤ l + 1) (h : At w b X Y P Q l 0) :
    Calls Tryz.prog 200 #[.func (.func 166) #[.pointer (some ⟨b, 0, none⟩)] #[], .int .i64 N] w (Gone w b X Y P Q l N) := by
  have hl := o.l
  have O := Lib.hid o
  have H0 := Lib.hid h
  clear o h
  go_enter Tryz.func200, Tryz.ntmps200
  go_wp2_with fail
  go_loopw [5] (fun n wr => ∃ k : Nat, k ≤ N ∧ n = .int .i64 k ∧ Hid (At wr b X Y P Q l k) ∧ Hid (w.grownBy wr (some b))) (fun n _ => N - (intOf n).toNat)
  case atStart => exact ⟨0, by omega, rfl, H0, Lib.hid (grown_refl _ _)⟩
  case round =>
    obtain ⟨k, k2, rfl, HK, GK⟩ := hrel
    by_cases hlt : k < N
    · go_wp2_with fail
      refine (At.tick O.out HK.out (by omega)).mono ?_
      rintro e w2 ⟨rfl, h2, g2⟩
      have H2 := Lib.hid h2
      have G2 := Lib.hid (grown_trans GK.out g2)
      clear h2 g2
      go_wp2_with fail
      go_roundw
      case rel => exact ⟨k + 1, by omega, by go_num, H2, G2⟩
      case measure => simp [intOf]; omega
    · have hk : k = N := by omega
      have HK2 := Lib.hid (hk ▸ HK.out)
      clear hk
      go_wp2_with fail
      go_returns
      exact ⟨rfl, HK2.out, GK.out⟩

end Go.Proofs.YtokncfhpmjohdaaGreat.Dp
namespace Go.Proofs.YtokncfhpmjohdaaGreat.Dp
open Go.RowKit Go.Proofs.YtokncfhpmjohdaaGreat.Cx Go.Proofs.YtokncfhpmjohdaaGreat.Cm Go.Proofs.YtokncfhpmjohdaaGreat.Pl Go.Proofs.YtokncfhpmjohdaaGreat.Str Go.Proofs.YtokncfhpmjohdaaGreat.Pw Go.Proofs.YtokncfhpmjohdaaGreat.P2 Go.Proofs.YtokncfhpmjohdaaGreat.Hd Go.Proofs.YtokncfhpmjohdaaGreat.Sf Go.Proofs.YtokncfhpmjohdaaGreat.Jt
set_option linter.unusedVariables false
set_option linter.unusedSimpArgs false

/-- What a new drop is: behind k ticks, in a block of its own. -/
def Born (w : World) (X Y P Q l : Int) (k : Nat) (e : Ending) (w' : World) : Prop :=
  ∃ b, e = .returned (.pointer (some ⟨b, 0, none⟩)) ∧ w.heap.size ≤ b ∧ At w' b X Y P Q l k ∧ Below w.heap.size w w'

theorem ok_of {x y h t l : Int} (hj : jt x y h t l = true) : Ok x y (tx h.toNat t 0) (ty h.toNat t 0) l := by
  obtain ⟨hx, hy, hh, ht, hl⟩ := jt_iff.1 hj
  exact ⟨hx, hy, txle (by omega) (by omega), tyle (by omega) (by omega), hl⟩

theorem newAt {w : World} {b : Nat} (hb : b = w.heap.size) (x y p q h s : Nat) : DB (w.alloc (.cells #[.complex .f32 x y, .complex .f32 p q, .float .f32 h, .float .f32 s] 166)).drew.drew b x y p q h s := by
  subst hb; exact DB.new _ _ _ _ _ _ _

theorem at_zero {w : World} {b : Nat} {X Y P Q l : Int} {x y p q s : Nat} (d : DB w b x y p q 0 s) (i1 : I32 X x) (i2 : I32 Y y) (i3 : I32 P p) (i4 : I32 Q q) (i6 : I32 l s) : At w b X Y P Q l 0 := by
  unfold At
  rw [wy_zero, wy_zero, hg_zero, show l - 2 * ((0 : Nat) : Int) = l by omega]
  exact ⟨x, y, p, q, 0, s, d, i1, i2, i3, i4, i32_0, i6⟩

/-- Block b holds a jet. -/
abbrev J5 (w : World) (b : Nat) (x y h t l : Int) : Prop := w.cell? ⟨b, 0, none⟩ = some (.int .i64 x) ∧ w.cell? ⟨b, 1, none⟩ = some (.int .i64 y) ∧ w.cell? ⟨b, 2, none⟩ = some (.int .i64 h) ∧ w.cell? ⟨b, 3, none⟩ = some (.int .i64 t) ∧ w.cell? ⟨b, 4, none⟩ = some (.int .i64 l)
theorem J5.new (w : World) (x y h t l : Int) (k : TypeId) : J5 (w.alloc (.cells (jc x y h t l) k)) w.heap.size x y h t l := ⟨cell_here rfl, cell_here rfl, cell_here rfl, cell_here rfl, cell_here rfl⟩
theorem J5.alloc {w : World} {b : Nat} {x y h t l : Int} {o : Obj} (k : J5 w b x y h t l) : J5 (w.alloc o) b x y h t l := ⟨cell_alloc k.1, cell_alloc k.2.1, cell_alloc k.2.2.1, cell_alloc k.2.2.2.1, cell_alloc k.2.2.2.2⟩
theorem J5.drew {w : World} {b : Nat} {x y h t l : Int} (k : J5 w b x y h t l) : J5 w.drew b x y h t l := k
theorem J5.below {w w' : World} {b : Nat} {x y h t l : Int} (k : J5 w b x y h t l) (hb : Below w.heap.size w w') : J5 w' b x y h t l := ⟨cell_below hb k.1, cell_below hb k.2.1, cell_below hb k.2.2.1, cell_below hb k.2.2.2.1, cell_below hb k.2.2.2.2⟩

theorem wpAnyH_to {P : Program} {md : Region.Mode} {ops : Array Oper} {Q : Exit → Act → World → Prop} {S S' : World → Prop} (hSS : ∀ w, S' w → S w) : ∀ (fuel : Nat) (listed : Array Bool) (a : Act) (w : World), wpAnyH P md ops Q S' fuel listed a w → wpAnyH P md ops Q S fuel listed a w
  | 0, _, _, _, h => h
  | fuel + 1, _, _, _, h => ⟨h.1, fun i hi => wpOp_mono (fun a' w' r => ⟨hSS _ r.1, wpAnyH_to hSS fuel _ a' w' r.2⟩) (h.2 i hi)⟩

set_option maxHeartbeats 4000000 in
set_option maxRecDepth 100000 in
theorem newDrop {x y h t l : Int} (hj : jt x y h t l = true) (w : World) :
    Calls Tryz.prog 133 #[jv x y h t l] w (Born w x y (tx h.toNat t 0) (ty h.toNat t 0) l 0) := by
  obtain ⟨hx, hy, hh, ht, hl⟩ := jt_iff.1 hj
  have C4 := Lib.hid (Meas.wholesOf t (by omega))
  have C6 := Lib.hid (Meas.wholesOf l (by omega))
  have C5 := Lib.hid (complexOf x y (by omega) (by omega))
  have U := Lib.hid units
  have hm : ∃ u v re im, ((h = 0 ∧ u = 1065353216 ∧ v = 0) ∨ (h = 1 ∧ u = 0 ∧ v = 1065353216) ∨ (h = 2 ∧ u = 3212836864 ∧ v = 0) ∨ (h = 3 ∧ u = 0 ∧ v = 3212836864)) ∧ (∀ t' w, (binOp .mul t' (.complex .f32 u v) (.complex .f32 (Meas.f32 t) 0)).run Tryz.prog w = .ok (.complex .f32 re im) w) ∧ I32 (tx h.toNat t 0) re ∧ I32 (ty h.toNat t 0) im := by
    have go : ∀ (c d : Int) (u v : Nat), c.natAbs < 2 → d.natAbs < 2 → U32 c u → U32 d v → ∃ re im, (∀ t' w, (binOp .mul t' (.complex .f32 u v) (.complex .f32 (Meas.f32 t) 0)).run Tryz.prog w = .ok (.complex .f32 re im) w) ∧ I32 (c * t - d * 0) re ∧ I32 (c * 0 + d * t) im :=
      fun c d u v h1 h2 h3 h4 => cmulU (P := Tryz.prog) (by omega) (by decide) h1 h2 (i32_f32 t) i32_0 h3 h4
    rcases (by omega : h = 0 ∨ h = 1 ∨ h = 2 ∨ h = 3) with rfl | rfl | rfl | rfl
    · obtain ⟨re, im, e1, e2, e3⟩ := go 1 0 _ _ (by decide) (by decide) u32_1 u32_0
      exact ⟨_, _, re, im, Or.inl ⟨rfl, rfl, rfl⟩, e1, by simpa [tx] using e2, by simpa [ty] using e3⟩
    · obtain ⟨re, im, e1, e2, e3⟩ := go 0 1 _ _ (by decide) (by decide) u32_0 u32_1
      exact ⟨_, _, re, im, Or.inr (Or.inl ⟨rfl, rfl, rfl⟩), e1, by simpa [tx] using e2, by simpa [ty] using e3⟩
    · obtain ⟨re, im, e1, e2, e3⟩ := go (-1) 0 _ _ (by decide) (by decide) u32_m1 u32_0
      exact ⟨_, _, re, im, Or.inr (Or.inr (Or.inl ⟨rfl, rfl, rfl⟩)), e1, by simpa [tx, Int.neg_one_mul] using e2, by simpa [ty] using e3⟩
    · obtain ⟨re, im, e1, e2, e3⟩ := go 0 (-1) _ _ (by decide) (by decide) u32_0 u32_m1
      exact ⟨_, _, re, im, Or.inr (Or.inr (Or.inr ⟨rfl, rfl, rfl⟩)), e1, by simpa [tx] using e2, by simpa [ty, Int.neg_one_mul] using e3⟩
  obtain ⟨u, v, re, im, hcase, hmul, i1, i2⟩ := hm
  generalize tx h.toNat t 0 = X at *
  generalize ty h.toNat t 0 = Y at *
  have A0 := Lib.hid (fun (w' : World) (b : Nat) (d : DB w' b (Meas.f32 x) (Meas.f32 y) re im 0 (Meas.f32 l)) => at_zero d (i32_f32 x) (i32_f32 y) i1 i2 (i32_f32 l))
  clear hj hx hy hh ht hl i1 i2
  rcases hcase with ⟨rfl, rfl, rfl⟩ | ⟨rfl, rfl, rfl⟩ | ⟨rfl, rfl, rfl⟩ | ⟨rfl, rfl, rfl⟩
  · go_enter Tryz.func133, Tryz.ntmps133
    go_wp2_with fail
    refine wp_region_noPanic ?_
    refine wp_region_held_drew (S := (fun w' => w'.cell? ⟨w.heap.size, 0, none⟩ = some (.int .i64 x) ∧ w'.cell? ⟨w.heap.size, 1, none⟩ = some (.int .i64 y) ∧ w'.cell? ⟨w.heap.size, 2, none⟩ = some (.int .i64 0) ∧ w'.cell? ⟨w.heap.size, 3, none⟩ = some (.int .i64 t) ∧ w'.cell? ⟨w.heap.size, 4, none⟩ = some (.int .i64 l))) (by kernel_rfl) ?_ (fun hH => ?_)
    · exact J5.drew (J5.new _ _ _ _ _ _ _)
    refine wpAnyH_take (i := 0) (oi := _) (v := ?_) rfl (by kernel_rfl) (by kernel_rfl) (by kernel_rfl) (fun _ _ _ h => h) (Or.inl ⟨by rfl, ?_⟩) hH ?_
    rotate_left 1
    · intro W hSw
      (try dsimp only at hSw)
      go_simp
      (try with_reducible rfl)
    try simp only [Act.put, List.setIfInBounds_toArray, List.set_cons_zero, List.set_cons_succ]
    refine wpAnyH_take (i := 1) (oi := _) (v := ?_) rfl (by kernel_rfl) (by kernel_rfl) (by kernel_rfl) (fun _ _ _ h => h) (Or.inl ⟨by rfl, ?_⟩) hH ?_
    rotate_left 1
    · intro W hSw
      (try dsimp only at hSw)
      go_simp
      (try with_reducible rfl)
    try simp only [Act.put, List.setIfInBounds_toArray, List.set_cons_zero, List.set_cons_succ]
    refine wpAnyH_take (i := 4) (oi := _) (v := ?_) rfl (by kernel_rfl) (by kernel_rfl) (by kernel_rfl) (fun _ _ _ h => h) (Or.inl ⟨by rfl, ?_⟩) hH ?_
    rotate_left 1
    · intro W hSw
      (try dsimp only at hSw)
      go_simp
      (try with_reducible rfl)
    try simp only [Act.put, List.setIfInBounds_toArray, List.set_cons_zero, List.set_cons_succ]
    refine wpAnyH_take (i := 5) (oi := _) (v := ?_) rfl (by kernel_rfl) (by kernel_rfl) (by kernel_rfl) (fun _ _ _ h => h) (Or.inl ⟨by rfl, ?_⟩) hH ?_
    rotate_left 1
    · intro W hSw
      (try dsimp only at hSw)
      go_simp
      (try with_reducible rfl)
    try simp only [Act.put, List.setIfInBounds_toArray, List.set_cons_zero, List.set_cons_succ]
    refine wpAnyH_take (i := 8) (oi := _) (v := ?_) rfl (by kernel_rfl) (by kernel_rfl) (by kernel_rfl) (fun _ _ _ h => h) (Or.inl ⟨by rfl, ?_⟩) hH ?_
    rotate_left 1
    · intro W hSw
      (try dsimp only at hSw)
      go_simp
      (try with_reducible rfl)
    try simp only [Act.put, List.setIfInBounds_toArray, List.set_cons_zero, List.set_cons_succ]
    refine wpAnyH_take (i := 9) (oi := _) (v := ?_) rfl (by kernel_rfl) (by kernel_rfl) (by kernel_rfl) (fun _ _ _ h => h) (Or.inl ⟨by rfl, ?_⟩) hH ?_
    rotate_left 1
    · intro W hSw
      (try dsimp only at hSw)
      go_simp
      (try with_reducible rfl)
    try simp only [Act.put, List.setIfInBounds_toArray, List.set_cons_zero, List.set_cons_succ]
    refine wpAnyH_take (i := 13) (oi := _) (v := ?_) rfl (by kernel_rfl) (by kernel_rfl) (by kernel_rfl) (fun _ _ _ h => h) (Or.inl ⟨by rfl, ?_⟩) hH ?_
    rotate_left 1
    · intro W hSw
      (try dsimp only at hSw)
      go_simp
      (try with_reducible rfl)
    try simp only [Act.put, List.setIfInBounds_toArray, List.set_cons_zero, List.set_cons_succ]
    refine wpAnyH_take (i := 14) (oi := _) (v := ?_) rfl (by kernel_rfl) (by kernel_rfl) (by kernel_rfl) (fun _ _ _ h => h) (Or.inl ⟨by rfl, ?_⟩) hH ?_
    rotate_left 1
    · intro W hSw
      (try dsimp only at hSw)
      go_simp
      (try with_reducible rfl)
    try simp only [Act.put, List.setIfInBounds_toArray, List.set_cons_zero, List.set_cons_succ]
    refine wpAnyH_ready (rs := [2]) (by kernel_rfl) (by simp) (AllReadyH.cons rfl (fun K hK => ?_) AllReadyH.nil)
    go_simp
    go_at_call 94; refine (C5.out _).mono ?_; rintro e w' ⟨rfl, rfl⟩; go_wp2_with fail
    refine hK.out _ _ ?_ (fun hG => ?_)
    · exact J5.drew (J5.alloc hH)
    replace hH := hG
    clear hK K hG
    try simp only [Act.put, List.setIfInBounds_toArray, List.set_cons_zero, List.set_cons_succ]
    refine wpAnyH_ready (rs := [3]) (by kernel_rfl) (by simp) (AllReadyH.cons rfl (fun K hK => ?_) AllReadyH.nil)
    go_simp
    go_at_call 134; refine (U.out _).mono ?_; rintro e w' ⟨rfl, rfl⟩; go_wp2_with fail
    refine hK.out _ _ ?_ (fun hG => ?_)
    · exact J5.drew (J5.drew (J5.alloc (J5.alloc (J5.new _ _ _ _ _ _ _))))
    replace hH := hG
    clear hK K hG
    try simp only [Act.put, List.setIfInBounds_toArray, List.set_cons_zero, List.set_cons_succ]
    have hU : (((w.alloc (.cells (jc x y 0 t l) 69)).alloc (.cells #[.int .i64 x, .int .i64 y] 44)).alloc (.cells #[.complex .f32 1065353216 0, .complex .f32 0 1065353216, .complex .f32 3212836864 0, .complex .f32 0 3212836864] 82)).cell? ⟨w.heap.size + 1 + 1, 0, none⟩ = some (.complex .f32 1065353216 0) := by simp [go_sem]
    refine wpAnyH_to (S' := (fun w' => w'.cell? ⟨w.heap.size + 1 + 1, 0, none⟩ = some (.complex .f32 1065353216 0) ∧ w'.cell? ⟨w.heap.size, 0, none⟩ = some (.int .i64 x) ∧ w'.cell? ⟨w.heap.size, 1, none⟩ = some (.int .i64 y) ∧ w'.cell? ⟨w.heap.size, 2, none⟩ = some (.int .i64 0) ∧ w'.cell? ⟨w.heap.size, 3, none⟩ = some (.int .i64 t) ∧ w'.cell? ⟨w.heap.size, 4, none⟩ = some (.int .i64 l))) (fun _ h => h.2) _ _ _ _ ?_
    replace hH := And.intro hU hH
    clear hU
    refine wpAnyH_take (i := 6) (oi := _) (v := ?_) rfl (by kernel_rfl) (by kernel_rfl) (by kernel_rfl) (fun _ _ _ h => h) (Or.inl ⟨by rfl, ?_⟩) hH ?_
    rotate_left 1
    · intro W hSw
      (try dsimp only at hSw)
      go_simp
      (try with_reducible rfl)
    try simp only [Act.put, List.setIfInBounds_toArray, List.set_cons_zero, List.set_cons_succ]
    refine wpAnyH_take (i := 7) (oi := _) (v := ?_) rfl (by kernel_rfl) (by kernel_rfl) (by kernel_rfl) (fun _ _ _ h => h) (Or.inl ⟨by rfl, ?_⟩) hH ?_
    rotate_left 1
    · intro W hSw
      (try dsimp only at hSw)
      go_simp
      (try with_reducible rfl)
    try simp only [Act.put, List.setIfInBounds_toArray, List.set_cons_zero, List.set_cons_succ]
    refine wpAnyH_ready (rs := [10]) (by kernel_rfl) (by simp) (AllReadyH.cons rfl (fun K hK => ?_) AllReadyH.nil)
    go_simp
    go_at_call 138; refine (C4.out _).mono ?_; rintro e w' ⟨rfl, rfl⟩; go_wp2_with fail
    refine hK.out _ _ ?_ (fun hG => ?_)
    · exact hH
    replace hH := hG
    clear hK K hG
    try simp only [Act.put, List.setIfInBounds_toArray, List.set_cons_zero, List.set_cons_succ]
    refine wpAnyH_take (i := 11) (oi := _) (v := ?_) rfl (by kernel_rfl) (by kernel_rfl) (by kernel_rfl) (fun _ _ _ h => h) (Or.inl ⟨by rfl, ?_⟩) hH ?_
    rotate_left 1
    · intro W hSw
      (try dsimp only at hSw)
      go_simp
      (try with_reducible rfl)
    try simp only [Act.put, List.setIfInBounds_toArray, List.set_cons_zero, List.set_cons_succ]
    refine wpAnyH_take (i := 12) (oi := _) (v := ?_) rfl (by kernel_rfl) (by kernel_rfl) (by kernel_rfl) (fun _ _ _ h => h) (Or.inl ⟨by rfl, ?_⟩) hH ?_
    rotate_left 1
    · intro W hSw
      (try dsimp only at hSw)
      go_simp
      (try with_reducible rfl)
    try simp only [Act.put, List.setIfInBounds_toArray, List.set_cons_zero, List.set_cons_succ]
    refine wpAnyH_ready (rs := [15]) (by kernel_rfl) (by simp) (AllReadyH.cons rfl (fun K hK => ?_) AllReadyH.nil)
    go_simp
    go_at_call 138; refine (C6.out _).mono ?_; rintro e w' ⟨rfl, rfl⟩; go_wp2_with fail
    refine hK.out _ _ ?_ (fun hG => ?_)
    · exact hH
    replace hH := hG
    clear hK K hG
    try simp only [Act.put, List.setIfInBounds_toArray, List.set_cons_zero, List.set_cons_succ]
    refine wpAnyH_take (i := 16) (oi := _) (v := ?_) rfl (by kernel_rfl) (by kernel_rfl) (by kernel_rfl) (fun _ _ _ h => h) (Or.inl ⟨by rfl, ?_⟩) hH ?_
    rotate_left 1
    · intro W hSw
      (try dsimp only at hSw)
      go_simp
      (try with_reducible rfl)
    try simp only [Act.put, List.setIfInBounds_toArray, List.set_cons_zero, List.set_cons_succ]
    refine wpAnyH_ready (rs := [17]) (by kernel_rfl) (by simp) (AllReadyH.cons rfl (fun K hK => ?_) AllReadyH.nil)
    go_simp
    refine hK.out _ _ ?_ (fun hG => ?_)
    · exact ⟨cell_alloc hH.1, J5.alloc hH.2⟩
    replace hH := hG
    clear hK K hG
    try simp only [Act.put, List.setIfInBounds_toArray, List.set_cons_zero, List.set_cons_succ]
    refine wpAnyH_ready (rs := [18]) (by kernel_rfl) (by simp) (AllReadyH.cons rfl (fun K hK => ?_) AllReadyH.nil)
    go_simp
    refine hK.out _ _ ?_ (fun hG => ?_)
    · exact hH
    replace hH := hG
    clear hK K hG
    try simp only [Act.put, List.setIfInBounds_toArray, List.set_cons_zero, List.set_cons_succ]
    refine wpAnyH_done (by kernel_rfl) ?_ _
    refine NoPanic.normal ?_
    go_wp2_with fail
    go_returns
    exact ⟨_, rfl, by go_size, A0.out _ _ (newAt (by simp) _ _ _ _ _ _), by go_grown⟩
  · go_enter Tryz.func133, Tryz.ntmps133
    go_wp2_with fail
    refine wp_region_noPanic ?_
    refine wp_region_held_drew (S := (fun w' => w'.cell? ⟨w.heap.size, 0, none⟩ = some (.int .i64 x) ∧ w'.cell? ⟨w.heap.size, 1, none⟩ = some (.int .i64 y) ∧ w'.cell? ⟨w.heap.size, 2, none⟩ = some (.int .i64 1) ∧ w'.cell? ⟨w.heap.size, 3, none⟩ = some (.int .i64 t) ∧ w'.cell? ⟨w.heap.size, 4, none⟩ = some (.int .i64 l))) (by kernel_rfl) ?_ (fun hH => ?_)
    · exact J5.drew (J5.new _ _ _ _ _ _ _)
    refine wpAnyH_take (i := 0) (oi := _) (v := ?_) rfl (by kernel_rfl) (by kernel_rfl) (by kernel_rfl) (fun _ _ _ h => h) (Or.inl ⟨by rfl, ?_⟩) hH ?_
    rotate_left 1
    · intro W hSw
      (try dsimp only at hSw)
      go_simp
      (try with_reducible rfl)
    try simp only [Act.put, List.setIfInBounds_toArray, List.set_cons_zero, List.set_cons_succ]
    refine wpAnyH_take (i := 1) (oi := _) (v := ?_) rfl (by kernel_rfl) (by kernel_rfl) (by kernel_rfl) (fun _ _ _ h => h) (Or.inl ⟨by rfl, ?_⟩) hH ?_
    rotate_left 1
    · intro W hSw
      (try dsimp only at hSw)
      go_simp
      (try with_reducible rfl)
    try simp only [Act.put, List.setIfInBounds_toArray, List.set_cons_zero, List.set_cons_succ]
    refine wpAnyH_take (i := 4) (oi := _) (v := ?_) rfl (by kernel_rfl) (by kernel_rfl) (by kernel_rfl) (fun _ _ _ h => h) (Or.inl ⟨by rfl, ?_⟩) hH ?_
    rotate_left 1
    · intro W hSw
      (try dsimp only at hSw)
      go_simp
      (try with_reducible rfl)
    try simp only [Act.put, List.setIfInBounds_toArray, List.set_cons_zero, List.set_cons_succ]
    refine wpAnyH_take (i := 5) (oi := _) (v := ?_) rfl (by kernel_rfl) (by kernel_rfl) (by kernel_rfl) (fun _ _ _ h => h) (Or.inl ⟨by rfl, ?_⟩) hH ?_
    rotate_left 1
    · intro W hSw
      (try dsimp only at hSw)
      go_simp
      (try with_reducible rfl)
    try simp only [Act.put, List.setIfInBounds_toArray, List.set_cons_zero, List.set_cons_succ]
    refine wpAnyH_take (i := 8) (oi := _) (v := ?_) rfl (by kernel_rfl) (by kernel_rfl) (by kernel_rfl) (fun _ _ _ h => h) (Or.inl ⟨by rfl, ?_⟩) hH ?_
    rotate_left 1
    · intro W hSw
      (try dsimp only at hSw)
      go_simp
      (try with_reducible rfl)
    try simp only [Act.put, List.setIfInBounds_toArray, List.set_cons_zero, List.set_cons_succ]
    refine wpAnyH_take (i := 9) (oi := _) (v := ?_) rfl (by kernel_rfl) (by kernel_rfl) (by kernel_rfl) (fun _ _ _ h => h) (Or.inl ⟨by rfl, ?_⟩) hH ?_
    rotate_left 1
    · intro W hSw
      (try dsimp only at hSw)
      go_simp
      (try with_reducible rfl)
    try simp only [Act.put, List.setIfInBounds_toArray, List.set_cons_zero, List.set_cons_succ]
    refine wpAnyH_take (i := 13) (oi := _) (v := ?_) rfl (by kernel_rfl) (by kernel_rfl) (by kernel_rfl) (fun _ _ _ h => h) (Or.inl ⟨by rfl, ?_⟩) hH ?_
    rotate_left 1
    · intro W hSw
      (try dsimp only at hSw)
      go_simp
      (try with_reducible rfl)
    try simp only [Act.put, List.setIfInBounds_toArray, List.set_cons_zero, List.set_cons_succ]
    refine wpAnyH_take (i := 14) (oi := _) (v := ?_) rfl (by kernel_rfl) (by kernel_rfl) (by kernel_rfl) (fun _ _ _ h => h) (Or.inl ⟨by rfl, ?_⟩) hH ?_
    rotate_left 1
    · intro W hSw
      (try dsimp only at hSw)
      go_simp
      (try with_reducible rfl)
    try simp only [Act.put, List.setIfInBounds_toArray, List.set_cons_zero, List.set_cons_succ]
    refine wpAnyH_ready (rs := [2]) (by kernel_rfl) (by simp) (AllReadyH.cons rfl (fun K hK => ?_) AllReadyH.nil)
    go_simp
    go_at_call 94; refine (C5.out _).mono ?_; rintro e w' ⟨rfl, rfl⟩; go_wp2_with fail
    refine hK.out _ _ ?_ (fun hG => ?_)
    · exact J5.drew (J5.alloc hH)
    replace hH := hG
    clear hK K hG
    try simp only [Act.put, List.setIfInBounds_toArray, List.set_cons_zero, List.set_cons_succ]
    refine wpAnyH_ready (rs := [3]) (by kernel_rfl) (by simp) (AllReadyH.cons rfl (fun K hK => ?_) AllReadyH.nil)
    go_simp
    go_at_call 134; refine (U.out _).mono ?_; rintro e w' ⟨rfl, rfl⟩; go_wp2_with fail
    refine hK.out _ _ ?_ (fun hG => ?_)
    · exact J5.drew (J5.drew (J5.alloc (J5.alloc (J5.new _ _ _ _ _ _ _))))
    replace hH := hG
    clear hK K hG
    try simp only [Act.put, List.setIfInBounds_toArray, List.set_cons_zero, List.set_cons_succ]
    have hU : (((w.alloc (.cells (jc x y 1 t l) 69)).alloc (.cells #[.int .i64 x, .int .i64 y] 44)).alloc (.cells #[.complex .f32 1065353216 0, .complex .f32 0 1065353216, .complex .f32 3212836864 0, .complex .f32 0 3212836864] 82)).cell? ⟨w.heap.size + 1 + 1, 1, none⟩ = some (.complex .f32 0 1065353216) := by simp [go_sem]
    refine wpAnyH_to (S' := (fun w' => w'.cell? ⟨w.heap.size + 1 + 1, 1, none⟩ = some (.complex .f32 0 1065353216) ∧ w'.cell? ⟨w.heap.size, 0, none⟩ = some (.int .i64 x) ∧ w'.cell? ⟨w.heap.size, 1, none⟩ = some (.int .i64 y) ∧ w'.cell? ⟨w.heap.size, 2, none⟩ = some (.int .i64 1) ∧ w'.cell? ⟨w.heap.size, 3, none⟩ = some (.int .i64 t) ∧ w'.cell? ⟨w.heap.size, 4, none⟩ = some (.int .i64 l))) (fun _ h => h.2) _ _ _ _ ?_
    replace hH := And.intro hU hH
    clear hU
    refine wpAnyH_take (i := 6) (oi := _) (v := ?_) rfl (by kernel_rfl) (by kernel_rfl) (by kernel_rfl) (fun _ _ _ h => h) (Or.inl ⟨by rfl, ?_⟩) hH ?_
    rotate_left 1
    · intro W hSw
      (try dsimp only at hSw)
      go_simp
      (try with_reducible rfl)
    try simp only [Act.put, List.setIfInBounds_toArray, List.set_cons_zero, List.set_cons_succ]
    refine wpAnyH_take (i := 7) (oi := _) (v := ?_) rfl (by kernel_rfl) (by kernel_rfl) (by kernel_rfl) (fun _ _ _ h => h) (Or.inl ⟨by rfl, ?_⟩) hH ?_
    rotate_left 1
    · intro W hSw
      (try dsimp only at hSw)
      go_simp
      (try with_reducible rfl)
    try simp only [Act.put, List.setIfInBounds_toArray, List.set_cons_zero, List.set_cons_succ]
    refine wpAnyH_ready (rs := [10]) (by kernel_rfl) (by simp) (AllReadyH.cons rfl (fun K hK => ?_) AllReadyH.nil)
    go_simp
    go_at_call 138; refine (C4.out _).mono ?_; rintro e w' ⟨rfl, rfl⟩; go_wp2_with fail
    refine hK.out _ _ ?_ (fun hG => ?_)
    · exact hH
    replace hH := hG
    clear hK K hG
    try simp only [Act.put, List.setIfInBounds_toArray, List.set_cons_zero, List.set_cons_succ]
    refine wpAnyH_take (i := 11) (oi := _) (v := ?_) rfl (by kernel_rfl) (by kernel_rfl) (by kernel_rfl) (fun _ _ _ h => h) (Or.inl ⟨by rfl, ?_⟩) hH ?_
    rotate_left 1
    · intro W hSw
      (try dsimp only at hSw)
      go_simp
      (try with_reducible rfl)
    try simp only [Act.put, List.setIfInBounds_toArray, List.set_cons_zero, List.set_cons_succ]
    refine wpAnyH_take (i := 12) (oi := _) (v := ?_) rfl (by kernel_rfl) (by kernel_rfl) (by kernel_rfl) (fun _ _ _ h => h) (Or.inl ⟨by rfl, ?_⟩) hH ?_
    rotate_left 1
    · intro W hSw
      (try dsimp only at hSw)
      go_simp
      (try with_reducible rfl)
    try simp only [Act.put, List.setIfInBounds_toArray, List.set_cons_zero, List.set_cons_succ]
    refine wpAnyH_ready (rs := [15]) (by kernel_rfl) (by simp) (AllReadyH.cons rfl (fun K hK => ?_) AllReadyH.nil)
    go_simp
    go_at_call 138; refine (C6.out _).mono ?_; rintro e w' ⟨rfl, rfl⟩; go_wp2_with fail
    refine hK.out _ _ ?_ (fun hG => ?_)
    · exact hH
    replace hH := hG
    clear hK K hG
    try simp only [Act.put, List.setIfInBounds_toArray, List.set_cons_zero, List.set_cons_succ]
    refine wpAnyH_take (i := 16) (oi := _) (v := ?_) rfl (by kernel_rfl) (by kernel_rfl) (by kernel_rfl) (fun _ _ _ h => h) (Or.inl ⟨by rfl, ?_⟩) hH ?_
    rotate_left 1
    · intro W hSw
      (try dsimp only at hSw)
      go_simp
      (try with_reducible rfl)
    try simp only [Act.put, List.setIfInBounds_toArray, List.set_cons_zero, List.set_cons_succ]
    refine wpAnyH_ready (rs := [17]) (by kernel_rfl) (by simp) (AllReadyH.cons rfl (fun K hK => ?_) AllReadyH.nil)
    go_simp
    refine hK.out _ _ ?_ (fun hG => ?_)
    · exact ⟨cell_alloc hH.1, J5.alloc hH.2⟩
    replace hH := hG
    clear hK K hG
    try simp only [Act.put, List.setIfInBounds_toArray, List.set_cons_zero, List.set_cons_succ]
    refine wpAnyH_ready (rs := [18]) (by kernel_rfl) (by simp) (AllReadyH.cons rfl (fun K hK => ?_) AllReadyH.nil)
    go_simp
    refine hK.out _ _ ?_ (fun hG => ?_)
    · exact hH
    replace hH := hG
    clear hK K hG
    try simp only [Act.put, List.setIfInBounds_toArray, List.set_cons_zero, List.set_cons_succ]
    refine wpAnyH_done (by kernel_rfl) ?_ _
    refine NoPanic.normal ?_
    go_wp2_with fail
    go_returns
    exact ⟨_, rfl, by go_size, A0.out _ _ (newAt (by simp) _ _ _ _ _ _), by go_grown⟩
  · go_enter Tryz.func133, Tryz.ntmps133
    go_wp2_with fail
    refine wp_region_noPanic ?_
    refine wp_region_held_drew (S := (fun w' => w'.cell? ⟨w.heap.size, 0, none⟩ = some (.int .i64 x) ∧ w'.cell? ⟨w.heap.size, 1, none⟩ = some (.int .i64 y) ∧ w'.cell? ⟨w.heap.size, 2, none⟩ = some (.int .i64 2) ∧ w'.cell? ⟨w.heap.size, 3, none⟩ = some (.int .i64 t) ∧ w'.cell? ⟨w.heap.size, 4, none⟩ = some (.int .i64 l))) (by kernel_rfl) ?_ (fun hH => ?_)
    · exact J5.drew (J5.new _ _ _ _ _ _ _)
    refine wpAnyH_take (i := 0) (oi := _) (v := ?_) rfl (by kernel_rfl) (by kernel_rfl) (by kernel_rfl) (fun _ _ _ h => h) (Or.inl ⟨by rfl, ?_⟩) hH ?_
    rotate_left 1
    · intro W hSw
      (try dsimp only at hSw)
      go_simp
      (try with_reducible rfl)
    try simp only [Act.put, List.setIfInBounds_toArray, List.set_cons_zero, List.set_cons_succ]
    refine wpAnyH_take (i := 1) (oi := _) (v := ?_) rfl (by kernel_rfl) (by kernel_rfl) (by kernel_rfl) (fun _ _ _ h => h) (Or.inl ⟨by rfl, ?_⟩) hH ?_
    rotate_left 1
    · intro W hSw
      (try dsimp only at hSw)
      go_simp
      (try with_reducible rfl)
    try simp only [Act.put, List.setIfInBounds_toArray, List.set_cons_zero, List.set_cons_succ]
    refine wpAnyH_take (i := 4) (oi := _) (v := ?_) rfl (by kernel_rfl) (by kernel_rfl) (by kernel_rfl) (fun _ _ _ h => h) (Or.inl ⟨by rfl, ?_⟩) hH ?_
    rotate_left 1
    · intro W hSw
      (try dsimp only at hSw)
      go_simp
      (try with_reducible rfl)
    try simp only [Act.put, List.setIfInBounds_toArray, List.set_cons_zero, List.set_cons_succ]
    refine wpAnyH_take (i := 5) (oi := _) (v := ?_) rfl (by kernel_rfl) (by kernel_rfl) (by kernel_rfl) (fun _ _ _ h => h) (Or.inl ⟨by rfl, ?_⟩) hH ?_
    rotate_left 1
    · intro W hSw
      (try dsimp only at hSw)
      go_simp
      (try with_reducible rfl)
    try simp only [Act.put, List.setIfInBounds_toArray, List.set_cons_zero, List.set_cons_succ]
    refine wpAnyH_take (i := 8) (oi := _) (v := ?_) rfl (by kernel_rfl) (by kernel_rfl) (by kernel_rfl) (fun _ _ _ h => h) (Or.inl ⟨by rfl, ?_⟩) hH ?_
    rotate_left 1
    · intro W hSw
      (try dsimp only at hSw)
      go_simp
      (try with_reducible rfl)
    try simp only [Act.put, List.setIfInBounds_toArray, List.set_cons_zero, List.set_cons_succ]
    refine wpAnyH_take (i := 9) (oi := _) (v := ?_) rfl (by kernel_rfl) (by kernel_rfl) (by kernel_rfl) (fun _ _ _ h => h) (Or.inl ⟨by rfl, ?_⟩) hH ?_
    rotate_left 1
    · intro W hSw
      (try dsimp only at hSw)
      go_simp
      (try with_reducible rfl)
    try simp only [Act.put, List.setIfInBounds_toArray, List.set_cons_zero, List.set_cons_succ]
    refine wpAnyH_take (i := 13) (oi := _) (v := ?_) rfl (by kernel_rfl) (by kernel_rfl) (by kernel_rfl) (fun _ _ _ h => h) (Or.inl ⟨by rfl, ?_⟩) hH ?_
    rotate_left 1
    · intro W hSw
      (try dsimp only at hSw)
      go_simp
      (try with_reducible rfl)
    try simp only [Act.put, List.setIfInBounds_toArray, List.set_cons_zero, List.set_cons_succ]
    refine wpAnyH_take (i := 14) (oi := _) (v := ?_) rfl (by kernel_rfl) (by kernel_rfl) (by kernel_rfl) (fun _ _ _ h => h) (Or.inl ⟨by rfl, ?_⟩) hH ?_
    rotate_left 1
    · intro W hSw
      (try dsimp only at hSw)
      go_simp
      (try with_reducible rfl)
    try simp only [Act.put, List.setIfInBounds_toArray, List.set_cons_zero, List.set_cons_succ]
    refine wpAnyH_ready (rs := [2]) (by kernel_rfl) (by simp) (AllReadyH.cons rfl (fun K hK => ?_) AllReadyH.nil)
    go_simp
    go_at_call 94; refine (C5.out _).mono ?_; rintro e w' ⟨rfl, rfl⟩; go_wp2_with fail
    refine hK.out _ _ ?_ (fun hG => ?_)
    · exact J5.drew (J5.alloc hH)
    replace hH := hG
    clear hK K hG
    try simp only [Act.put, List.setIfInBounds_toArray, List.set_cons_zero, List.set_cons_succ]
    refine wpAnyH_ready (rs := [3]) (by kernel_rfl) (by simp) (AllReadyH.cons rfl (fun K hK => ?_) AllReadyH.nil)
    go_simp
    go_at_call 134; refine (U.out _).mono ?_; rintro e w' ⟨rfl, rfl⟩; go_wp2_with fail
    refine hK.out _ _ ?_ (fun hG => ?_)
    · exact J5.drew (J5.drew (J5.alloc (J5.alloc (J5.new _ _ _ _ _ _ _))))
    replace hH := hG
    clear hK K hG
    try simp only [Act.put, List.setIfInBounds_toArray, List.set_cons_zero, List.set_cons_succ]
    have hU : (((w.alloc (.cells (jc x y 2 t l) 69)).alloc (.cells #[.int .i64 x, .int .i64 y] 44)).alloc (.cells #[.complex .f32 1065353216 0, .complex .f32 0 1065353216, .complex .f32 3212836864 0, .complex .f32 0 3212836864] 82)).cell? ⟨w.heap.size + 1 + 1, 2, none⟩ = some (.complex .f32 3212836864 0) := by simp [go_sem]
    refine wpAnyH_to (S' := (fun w' => w'.cell? ⟨w.heap.size + 1 + 1, 2, none⟩ = some (.complex .f32 3212836864 0) ∧ w'.cell? ⟨w.heap.size, 0, none⟩ = some (.int .i64 x) ∧ w'.cell? ⟨w.heap.size, 1, none⟩ = some (.int .i64 y) ∧ w'.cell? ⟨w.heap.size, 2, none⟩ = some (.int .i64 2) ∧ w'.cell? ⟨w.heap.size, 3, none⟩ = some (.int .i64 t) ∧ w'.cell? ⟨w.heap.size, 4, none⟩ = some (.int .i64 l))) (fun _ h => h.2) _ _ _ _ ?_
    replace hH := And.intro hU hH
    clear hU
    refine wpAnyH_take (i := 6) (oi := _) (v := ?_) rfl (by kernel_rfl) (by kernel_rfl) (by kernel_rfl) (fun _ _ _ h => h) (Or.inl ⟨by rfl, ?_⟩) hH ?_
    rotate_left 1
    · intro W hSw
      (try dsimp only at hSw)
      go_simp
      (try with_reducible rfl)
    try simp only [Act.put, List.setIfInBounds_toArray, List.set_cons_zero, List.set_cons_succ]
    refine wpAnyH_take (i := 7) (oi := _) (v := ?_) rfl (by kernel_rfl) (by kernel_rfl) (by kernel_rfl) (fun _ _ _ h => h) (Or.inl ⟨by rfl, ?_⟩) hH ?_
    rotate_left 1
    · intro W hSw
      (try dsimp only at hSw)
      go_simp
      (try with_reducible rfl)
    try simp only [Act.put, List.setIfInBounds_toArray, List.set_cons_zero, List.set_cons_succ]
    refine wpAnyH_ready (rs := [10]) (by kernel_rfl) (by simp) (AllReadyH.cons rfl (fun K hK => ?_) AllReadyH.nil)
    go_simp
    go_at_call 138; refine (C4.out _).mono ?_; rintro e w' ⟨rfl, rfl⟩; go_wp2_with fail
    refine hK.out _ _ ?_ (fun hG => ?_)
    · exact hH
    replace hH := hG
    clear hK K hG
    try simp only [Act.put, List.setIfInBounds_toArray, List.set_cons_zero, List.set_cons_succ]
    refine wpAnyH_take (i := 11) (oi := _) (v := ?_) rfl (by kernel_rfl) (by kernel_rfl) (by kernel_rfl) (fun _ _ _ h => h) (Or.inl ⟨by rfl, ?_⟩) hH ?_
    rotate_left 1
    · intro W hSw
      (try dsimp only at hSw)
      go_simp
      (try with_reducible rfl)
    try simp only [Act.put, List.setIfInBounds_toArray, List.set_cons_zero, List.set_cons_succ]
    refine wpAnyH_take (i := 12) (oi := _) (v := ?_) rfl (by kernel_rfl) (by kernel_rfl) (by kernel_rfl) (fun _ _ _ h => h) (Or.inl ⟨by rfl, ?_⟩) hH ?_
    rotate_left 1
    · intro W hSw
      (try dsimp only at hSw)
      go_simp
      (try with_reducible rfl)
    try simp only [Act.put, List.setIfInBounds_toArray, List.set_cons_zero, List.set_cons_succ]
    refine wpAnyH_ready (rs := [15]) (by kernel_rfl) (by simp) (AllReadyH.cons rfl (fun K hK => ?_) AllReadyH.nil)
    go_simp
    go_at_call 138; refine (C6.out _).mono ?_; rintro e w' ⟨rfl, rfl⟩; go_wp2_with fail
    refine hK.out _ _ ?_ (fun hG => ?_)
    · exact hH
    replace hH := hG
    clear hK K hG
    try simp only [Act.put, List.setIfInBounds_toArray, List.set_cons_zero, List.set_cons_succ]
    refine wpAnyH_take (i := 16) (oi := _) (v := ?_) rfl (by kernel_rfl) (by kernel_rfl) (by kernel_rfl) (fun _ _ _ h => h) (Or.inl ⟨by rfl, ?_⟩) hH ?_
    rotate_left 1
    · intro W hSw
      (try dsimp only at hSw)
      go_simp
      (try with_reducible rfl)
    try simp only [Act.put, List.setIfInBounds_toArray, List.set_cons_zero, List.set_cons_succ]
    refine wpAnyH_ready (rs := [17]) (by kernel_rfl) (by simp) (AllReadyH.cons rfl (fun K hK => ?_) AllReadyH.nil)
    go_simp
    refine hK.out _ _ ?_ (fun hG => ?_)
    · exact ⟨cell_alloc hH.1, J5.alloc hH.2⟩
    replace hH := hG
    clear hK K hG
    try simp only [Act.put, List.setIfInBounds_toArray, List.set_cons_zero, List.set_cons_succ]
    refine wpAnyH_ready (rs := [18]) (by kernel_rfl) (by simp) (AllReadyH.cons rfl (fun K hK => ?_) AllReadyH.nil)
    go_simp
    refine hK.out _ _ ?_ (fun hG => ?_)
    · exact hH
    replace hH := hG
    clear hK K hG
    try simp only [Act.put, List.setIfInBounds_toArray, List.set_cons_zero, List.set_cons_succ]
    refine wpAnyH_done (by kernel_rfl) ?_ _
    refine NoPanic.normal ?_
    go_wp2_with fail
    go_returns
    exact ⟨_, rfl, by go_size, A0.out _ _ (newAt (by simp) _ _ _ _ _ _), by go_grown⟩
  · go_enter Tryz.func133, Tryz.ntmps133
    go_wp2_with fail
    refine wp_region_noPanic ?_
    refine wp_region_held_drew (S := (fun w' => w'.cell? ⟨w.heap.size, 0, none⟩ = some (.int .i64 x) ∧ w'.cell? ⟨w.heap.size, 1, none⟩ = some (.int .i64 y) ∧ w'.cell? ⟨w.heap.size, 2, none⟩ = some (.int .i64 3) ∧ w'.cell? ⟨w.heap.size, 3, none⟩ = some (.int .i64 t) ∧ w'.cell? ⟨w.heap.size, 4, none⟩ = some (.int .i64 l))) (by kernel_rfl) ?_ (fun hH => ?_)
    · exact J5.drew (J5.new _ _ _ _ _ _ _)
    refine wpAnyH_take (i := 0) (oi := _) (v := ?_) rfl (by kernel_rfl) (by kernel_rfl) (by kernel_rfl) (fun _ _ _ h => h) (Or.inl ⟨by rfl, ?_⟩) hH ?_
    rotate_left 1
    · intro W hSw
      (try dsimp only at hSw)
      go_simp
      (try with_reducible rfl)
    try simp only [Act.put, List.setIfInBounds_toArray, List.set_cons_zero, List.set_cons_succ]
    refine wpAnyH_take (i := 1) (oi := _) (v := ?_) rfl (by kernel_rfl) (by kernel_rfl) (by kernel_rfl) (fun _ _ _ h => h) (Or.inl ⟨by rfl, ?_⟩) hH ?_
    rotate_left 1
    · intro W hSw
      (try dsimp only at hSw)
      go_simp
      (try with_reducible rfl)
    try simp only [Act.put, List.setIfInBounds_toArray, List.set_cons_zero, List.set_cons_succ]
    refine wpAnyH_take (i := 4) (oi := _) (v := ?_) rfl (by kernel_rfl) (by kernel_rfl) (by kernel_rfl) (fun _ _ _ h => h) (Or.inl ⟨by rfl, ?_⟩) hH ?_
    rotate_left 1
    · intro W hSw
      (try dsimp only at hSw)
      go_simp
      (try with_reducible rfl)
    try simp only [Act.put, List.setIfInBounds_toArray, List.set_cons_zero, List.set_cons_succ]
    refine wpAnyH_take (i := 5) (oi := _) (v := ?_) rfl (by kernel_rfl) (by kernel_rfl) (by kernel_rfl) (fun _ _ _ h => h) (Or.inl ⟨by rfl, ?_⟩) hH ?_
    rotate_left 1
    · intro W hSw
      (try dsimp only at hSw)
      go_simp
      (try with_reducible rfl)
    try simp only [Act.put, List.setIfInBounds_toArray, List.set_cons_zero, List.set_cons_succ]
    refine wpAnyH_take (i := 8) (oi := _) (v := ?_) rfl (by kernel_rfl) (by kernel_rfl) (by kernel_rfl) (fun _ _ _ h => h) (Or.inl ⟨by rfl, ?_⟩) hH ?_
    rotate_left 1
    · intro W hSw
      (try dsimp only at hSw)
      go_simp
      (try with_reducible rfl)
    try simp only [Act.put, List.setIfInBounds_toArray, List.set_cons_zero, List.set_cons_succ]
    refine wpAnyH_take (i := 9) (oi := _) (v := ?_) rfl (by kernel_rfl) (by kernel_rfl) (by kernel_rfl) (fun _ _ _ h => h) (Or.inl ⟨by rfl, ?_⟩) hH ?_
    rotate_left 1
    · intro W hSw
      (try dsimp only at hSw)
      go_simp
      (try with_reducible rfl)
    try simp only [Act.put, List.setIfInBounds_toArray, List.set_cons_zero, List.set_cons_succ]
    refine wpAnyH_take (i := 13) (oi := _) (v := ?_) rfl (by kernel_rfl) (by kernel_rfl) (by kernel_rfl) (fun _ _ _ h => h) (Or.inl ⟨by rfl, ?_⟩) hH ?_
    rotate_left 1
    · intro W hSw
      (try dsimp only at hSw)
      go_simp
      (try with_reducible rfl)
    try simp only [Act.put, List.setIfInBounds_toArray, List.set_cons_zero, List.set_cons_succ]
    refine wpAnyH_take (i := 14) (oi := _) (v := ?_) rfl (by kernel_rfl) (by kernel_rfl) (by kernel_rfl) (fun _ _ _ h => h) (Or.inl ⟨by rfl, ?_⟩) hH ?_
    rotate_left 1
    · intro W hSw
      (try dsimp only at hSw)
      go_simp
      (try with_reducible rfl)
    try simp only [Act.put, List.setIfInBounds_toArray, List.set_cons_zero, List.set_cons_succ]
    refine wpAnyH_ready (rs := [2]) (by kernel_rfl) (by simp) (AllReadyH.cons rfl (fun K hK => ?_) AllReadyH.nil)
    go_simp
    go_at_call 94; refine (C5.out _).mono ?_; rintro e w' ⟨rfl, rfl⟩; go_wp2_with fail
    refine hK.out _ _ ?_ (fun hG => ?_)
    · exact J5.drew (J5.alloc hH)
    replace hH := hG
    clear hK K hG
    try simp only [Act.put, List.setIfInBounds_toArray, List.set_cons_zero, List.set_cons_succ]
    refine wpAnyH_ready (rs := [3]) (by kernel_rfl) (by simp) (AllReadyH.cons rfl (fun K hK => ?_) AllReadyH.nil)
    go_simp
    go_at_call 134; refine (U.out _).mono ?_; rintro e w' ⟨rfl, rfl⟩; go_wp2_with fail
    refine hK.out _ _ ?_ (fun hG => ?_)
    · exact J5.drew (J5.drew (J5.alloc (J5.alloc (J5.new _ _ _ _ _ _ _))))
    replace hH := hG
    clear hK K hG
    try simp only [Act.put, List.setIfInBounds_toArray, List.set_cons_zero, List.set_cons_succ]
    have hU : (((w.alloc (.cells (jc x y 3 t l) 69)).alloc (.cells #[.int .i64 x, .int .i64 y] 44)).alloc (.cells #[.complex .f32 1065353216 0, .complex .f32 0 1065353216, .complex .f32 3212836864 0, .complex .f32 0 3212836864] 82)).cell? ⟨w.heap.size + 1 + 1, 3, none⟩ = some (.complex .f32 0 3212836864) := by simp [go_sem]
    refine wpAnyH_to (S' := (fun w' => w'.cell? ⟨w.heap.size + 1 + 1, 3, none⟩ = some (.complex .f32 0 3212836864) ∧ w'.cell? ⟨w.heap.size, 0, none⟩ = some (.int .i64 x) ∧ w'.cell? ⟨w.heap.size, 1, none⟩ = some (.int .i64 y) ∧ w'.cell? ⟨w.heap.size, 2, none⟩ = some (.int .i64 3) ∧ w'.cell? ⟨w.heap.size, 3, none⟩ = some (.int .i64 t) ∧ w'.cell? ⟨w.heap.size, 4, none⟩ = some (.int .i64 l))) (fun _ h => h.2) _ _ _ _ ?_
    replace hH := And.intro hU hH
    clear hU
    refine wpAnyH_take (i := 6) (oi := _) (v := ?_) rfl (by kernel_rfl) (by kernel_rfl) (by kernel_rfl) (fun _ _ _ h => h) (Or.inl ⟨by rfl, ?_⟩) hH ?_
    rotate_left 1
    · intro W hSw
      (try dsimp only at hSw)
      go_simp
      (try with_reducible rfl)
    try simp only [Act.put, List.setIfInBounds_toArray, List.set_cons_zero, List.set_cons_succ]
    refine wpAnyH_take (i := 7) (oi := _) (v := ?_) rfl (by kernel_rfl) (by kernel_rfl) (by kernel_rfl) (fun _ _ _ h => h) (Or.inl ⟨by rfl, ?_⟩) hH ?_
    rotate_left 1
    · intro W hSw
      (try dsimp only at hSw)
      go_simp
      (try with_reducible rfl)
    try simp only [Act.put, List.setIfInBounds_toArray, List.set_cons_zero, List.set_cons_succ]
    refine wpAnyH_ready (rs := [10]) (by kernel_rfl) (by simp) (AllReadyH.cons rfl (fun K hK => ?_) AllReadyH.nil)
    go_simp
    go_at_call 138; refine (C4.out _).mono ?_; rintro e w' ⟨rfl, rfl⟩; go_wp2_with fail
    refine hK.out _ _ ?_ (fun hG => ?_)
    · exact hH
    replace hH := hG
    clear hK K hG
    try simp only [Act.put, List.setIfInBounds_toArray, List.set_cons_zero, List.set_cons_succ]
    refine wpAnyH_take (i := 11) (oi := _) (v := ?_) rfl (by kernel_rfl) (by kernel_rfl) (by kernel_rfl) (fun _ _ _ h => h) (Or.inl ⟨by rfl, ?_⟩) hH ?_
    rotate_left 1
    · intro W hSw
      (try dsimp only at hSw)
      go_simp
      (try with_reducible rfl)
    try simp only [Act.put, List.setIfInBounds_toArray, List.set_cons_zero, List.set_cons_succ]
    refine wpAnyH_take (i := 12) (oi := _) (v := ?_) rfl (by kernel_rfl) (by kernel_rfl) (by kernel_rfl) (fun _ _ _ h => h) (Or.inl ⟨by rfl, ?_⟩) hH ?_
    rotate_left 1
    · intro W hSw
      (try dsimp only at hSw)
      go_simp
      (try with_reducible rfl)
    try simp only [Act.put, List.setIfInBounds_toArray, List.set_cons_zero, List.set_cons_succ]
    refine wpAnyH_ready (rs := [15]) (by kernel_rfl) (by simp) (AllReadyH.cons rfl (fun K hK => ?_) AllReadyH.nil)
    go_simp
    go_at_call 138; refine (C6.out _).mono ?_; rintro e w' ⟨rfl, rfl⟩; go_wp2_with fail
    refine hK.out _ _ ?_ (fun hG => ?_)
    · exact hH
    replace hH := hG
    clear hK K hG
    try simp only [Act.put, List.setIfInBounds_toArray, List.set_cons_zero, List.set_cons_succ]
    refine wpAnyH_take (i := 16) (oi := _) (v := ?_) rfl (by kernel_rfl) (by kernel_rfl) (by kernel_rfl) (fun _ _ _ h => h) (Or.inl ⟨by rfl, ?_⟩) hH ?_
    rotate_left 1
    · intro W hSw
      (try dsimp only at hSw)
      go_simp
      (try with_reducible rfl)
    try simp only [Act.put, List.setIfInBounds_toArray, List.set_cons_zero, List.set_cons_succ]
    refine wpAnyH_ready (rs := [17]) (by kernel_rfl) (by simp) (AllReadyH.cons rfl (fun K hK => ?_) AllReadyH.nil)
    go_simp
    refine hK.out _ _ ?_ (fun hG => ?_)
    · exact ⟨cell_alloc hH.1, J5.alloc hH.2⟩
    replace hH := hG
    clear hK K hG
    try simp only [Act.put, List.setIfInBounds_toArray, List.set_cons_zero, List.set_cons_succ]
    refine wpAnyH_ready (rs := [18]) (by kernel_rfl) (by simp) (AllReadyH.cons rfl (fun K hK => ?_) AllReadyH.nil)
    go_simp
    refine hK.out _ _ ?_ (fun hG => ?_)
    · exact hH
    replace hH := hG
    clear hK K hG
    try simp only [Act.put, List.setIfInBounds_toArray, List.set_cons_zero, List.set_cons_succ]
    refine wpAnyH_done (by kernel_rfl) ?_ _
    refine NoPanic.normal ?_
    go_wp2_with fail
    go_returns
    exact ⟨_, rfl, by go_size, A0.out _ _ (newAt (by simp) _ _ _ _ _ _), by go_grown⟩

end Go.Proofs.YtokncfhpmjohdaaGreat.Dp
