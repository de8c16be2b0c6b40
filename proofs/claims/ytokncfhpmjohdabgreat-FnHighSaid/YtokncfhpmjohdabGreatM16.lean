/- A block of cells of the call's own: what it holds, and that it stays so. -/
import Derived.Test.YtokncfhpmjohdabGreatM3
import Derived.Test.YtokncfhpmjohdabGreatM1
import Derived.Test.YtokncfhpmjohdabGreatM15
import Derived.Laws.AppendOwn
import Derived.Test.YtokncfhpmjohdabGreatM14
import Derived.Test.YtokncfhpmjohdabGreatM5
import Derived.Test.YtokncfhpmjohdabGreatRows
set_option linter.unusedVariables false
set_option linter.unusedSimpArgs false
namespace Go.Proofs.YtokncfhpmjohdabGreat.Bk
open Go.RowKit Go.Proofs.YtokncfhpmjohdabGreat.Mem Go.Proofs.YtokncfhpmjohdabGreat.P2
set_option linter.unusedVariables false

/-- Block b holds these cells. -/
def Bk (w : World) (b : Nat) (c : Array Value) (T : TypeId) : Prop := w.heap[b]? = some (.cells c T (0, 0))
section
variable {w w' : World} {b b' i : Nat} {c : Array Value} {T : TypeId} {v : Value}
theorem Bk.cell (k : Bk w b c T) (h : c[i]? = some v) : w.cell? ⟨b, i, none⟩ = some v := by simp [World.cell?, show w.heap[b]? = _ from k, h]
theorem Bk.frozen (k : Bk w b c T) (i : Nat) : w.frozen? ⟨b, i, none⟩ = false := by simp [World.frozen?, show w.heap[b]? = _ from k]
theorem Bk.lt (k : Bk w b c T) : b < w.heap.size := (Array.getElem?_eq_some_iff.1 k).1
theorem Bk.drew (k : Bk w b c T) : Bk w.drew b c T := k
theorem Bk.drewN (k : Bk w b c T) : ∀ n, Bk (w.drewN n) b c T
  | 0 => k
  | n + 1 => Bk.drewN k n
theorem Bk.new (w : World) (c : Array Value) (T : TypeId) : Bk (w.alloc (.cells c T)) w.heap.size c T := heap_alloc_new w _
theorem Bk.below (k : Bk w b c T) (hb : Below w.heap.size w w') : Bk w' b c T := (hb.block b k.lt).trans k
theorem Bk.alloc {o : Obj} (k : Bk w b c T) : Bk (w.alloc o) b c T := k.below ((Below.refl _ _).alloc (Nat.le_refl _) _)
theorem Bk.grown {r : Option Nat} (k : Bk w b c T) (g : w.grownBy w' r) (hr : r ≠ some b) : Bk w' b c T := (g.block b k.lt (fun e => hr e.symm)).trans k
theorem Bk.set (k : Bk w b c T) : Bk (w.setCell ⟨b, i, none⟩ v) b (c.setIfInBounds i v) T := by
  obtain ⟨hlt, hk⟩ := Array.getElem?_eq_some_iff.1 k
  show (w.heap.modify b _)[b]? = _
  rw [Array.getElem?_eq_getElem (by rw [Array.size_modify]; exact hlt), Array.getElem_modify_self, hk]
  rfl
theorem Bk.far (e : b' ≠ b) (k : Bk w b c T) : Bk (w.setCell ⟨b', i, none⟩ v) b c T := by
  show (w.heap.modify b' _)[b]? = _
  rw [Array.getElem?_modify, if_neg e]; exact k
end

theorem Bk.setG (w : World) (b i : Nat) (v : Value) : w.grownBy (w.setCell ⟨b, i, none⟩ v) (some b) :=
  ⟨rfl, rfl, rfl, by simp [World.setCell], fun k _ hr => Below.heap_setCell _ _ _ _ (by show k ≠ b; exact fun e => hr (by rw [e]))⟩
/-- A row of one's own is no block of another type. -/
theorem own_ne {w : World} {base g n c : Nat} {e T : TypeId} {s : Nat} {xs : List Value} {b : Nat} {cs : Array Value} (h : w.ownsRow base e s (.slice (some ⟨g, 0, none⟩) n c) n xs) (k : Bk w b cs T) (hT : e ≠ T) : (Value.slice (some ⟨g, 0, none⟩) n c).ownBlock ≠ some b := by
  intro hb
  have hb : g = b := by injection hb
  subst hb
  rcases h.2 with ⟨e1, _⟩ | ⟨g', cap, cur, e1, _, e3, _⟩
  · cases e1
  · injection e1 with e1; injection e1 with e1; injection e1 with e1
    subst e1
    rw [show w.heap[g]? = some (.cells cs T (0, 0)) from k] at e3
    injection e3 with e3
    injection e3 with _ e3
    exact hT e3.symm
theorem own_slice {w : World} {base n : Nat} {e : TypeId} {s : Nat} {v : Value} {xs : List Value} (h : w.ownsRow base e s v (n + 1) xs) : ∃ g c, v = .slice (some ⟨g, 0, none⟩) (n + 1) c := by
  rcases h.2 with ⟨_, e⟩ | ⟨g, cap, cur, e, _⟩
  · omega
  · exact ⟨g, cap, e⟩

end Go.Proofs.YtokncfhpmjohdabGreat.Bk
namespace Go.Proofs.YtokncfhpmjohdabGreat.Wa
open Go.RowKit Go.Proofs.YtokncfhpmjohdabGreat.Mem Go.Proofs.YtokncfhpmjohdabGreat.Rw Go.Proofs.YtokncfhpmjohdabGreat.Bk Go.Proofs.YtokncfhpmjohdabGreat.Jt Go.Proofs.YtokncfhpmjohdabGreat.Pw Go.Proofs.YtokncfhpmjohdabGreat.P2 Go.Proofs.YtokncfhpmjohdabGreat.Gs Go.Proofs.YtokncfhpmjohdabGreat.Wm Go.Proofs.YtokncfhpmjohdabGreat.Wi
set_option linter.unusedVariables false
set_option linter.unusedSimpArgs false

abbrev pc (x y : Int) : Array Value := #[.int .i64 x, .int .i64 y]

theorem own_base {w : World} {base n : Nat} {e : TypeId} {s : Nat} {v : Value} {xs : List Value} (h : w.ownsRow base e s v n xs) : ∀ k, v.ownBlock = some k → base ≤ k := fun k e => (h.lt k e).1

end Go.Proofs.YtokncfhpmjohdabGreat.Wa
namespace Go.Proofs.YtokncfhpmjohdabGreat.Dw
open Go.RowKit Go.Proofs.YtokncfhpmjohdabGreat.Mem Go.Proofs.YtokncfhpmjohdabGreat.Rw Go.Proofs.YtokncfhpmjohdabGreat.Bk Go.Proofs.YtokncfhpmjohdabGreat.Cx Go.Proofs.YtokncfhpmjohdabGreat.Cm Go.Proofs.YtokncfhpmjohdabGreat.Jt Go.Proofs.YtokncfhpmjohdabGreat.Pl Go.Proofs.YtokncfhpmjohdabGreat.Str Go.Proofs.YtokncfhpmjohdabGreat.Pw Go.Proofs.YtokncfhpmjohdabGreat.P2 Go.Proofs.YtokncfhpmjohdabGreat.Gs Go.Proofs.YtokncfhpmjohdabGreat.Wm Go.Proofs.YtokncfhpmjohdabGreat.Wi Go.Proofs.YtokncfhpmjohdabGreat.Wa
open Go.Proofs.YtokncfhpmjohdabGreat.Draw (Cur Ready Got GotB u8s below once some_ pick cells_at new Fresh wf_of_small)
open Go.Proofs.YtokncfhpmjohdabGreat.Dr2 (HB HB.c0 HB.c1 HB.f0 HB.f1 HB.grown HB.new HB.set0 HB.set1 cur_set grown_set wf)
set_option linter.unusedVariables false
set_option linter.unusedSimpArgs false

theorem okAt_left {zs : List G} {z : G} {i : Nat} (hi : i < zs.length) : okAt (zs ++ [z]) i = okAt zs i := by
  unfold okAt
  rw [List.getElem?_append_left hi]
  cases zs[i]? with
  | none => rfl
  | some y => simp only []; rw [List.getElem?_append_left (by omega)]
theorem okUp_left {zs : List G} {z : G} {k : Nat} (hk : k ≤ zs.length) : okUp (zs ++ [z]) k = okUp zs k := by
  induction k with
  | zero => rfl
  | succ k ih => rw [okUp_succ, okUp_succ, ih (by omega), okAt_left (by omega)]
/-- A later gust behind a wind. -/
theorem wd_snoc {zs : List G} {t x y : Int} (h : wd zs = true) (hl : ∀ z ∈ zs, z.1 < t) (ht : 0 ≤ t ∧ t ≤ 64) (hd : dk x y = true) (hn : zs.length < 8) : wd (zs ++ [(t, x, y)]) = true := by
  unfold wd at h ⊢
  rw [Bool.and_eq_true] at h
  rw [List.length_append, List.length_singleton, okUp_succ, okUp_left (Nat.le_refl _), h.1, decide_eq_true (by omega), Bool.and_true, Bool.true_and]
  have hz : (zs ++ [(t, x, y)])[zs.length]? = some (t, x, y) := by rw [List.getElem?_append_right (Nat.le_refl _), Nat.sub_self]; rfl
  by_cases h0 : zs.length = 0
  · rw [h0] at hz ⊢
    exact ok_first hz (iw_yes ht) hd
  · have hp : (zs ++ [(t, x, y)])[zs.length - 1]? = some (zs[zs.length - 1]'(by omega)) := by rw [List.getElem?_append_left (by omega)]; exact List.getElem?_eq_getElem _
    rw [ok_next hz (iw_yes ht) hd h0 hp]
    exact decide_eq_true (hl _ (List.getElem_mem _))

theorem grown_app {w a b : World} {r : Option Nat} {gr : Nat} (h : w.grownBy a r) (k : a.grownBy b (some gr)) (hg : w.heap.size ≤ gr) : w.grownBy b r :=
  ⟨k.os.trans h.os, k.tape.trans h.tape, k.output.trans h.output, Nat.le_trans h.size k.size, fun i hi hr => (k.block i (Nat.lt_of_lt_of_le hi h.size) (fun e => by have e := Option.some.inj e; omega)).trans (h.block i hi hr)⟩
theorem ready_app {a b : World} {g n c gr : Nat} {A : Option Addr} {bs : List UInt8} (h : Ready a g A n c bs) (k : a.grownBy b (some gr)) (hg : g < gr) : Ready b g A n c bs :=
  ⟨h.len, h.max, rd_grown h.rd k (Nat.le_of_lt h.cur.lt) (fun q hq => by cases hq; omega), h.cur.kept (k.block g h.cur.lt (fun e => by have e := Option.some.inj e; omega))⟩
/-- A row is as it was where the cursor alone is written. -/
theorem row_next {a b : World} {base g gr q c : Nat} {e : TypeId} {s : Nat} {xs : List Value} (h : a.ownsRow base e s (.slice (some ⟨gr, 0, none⟩) q c) q xs) (k : a.grownBy b (some g)) (hg : g < base) : b.ownsRow base e s (.slice (some ⟨gr, 0, none⟩) q c) q xs :=
  owns_grown h k (fun i hi => by cases hi; intro e; have e : g = gr := Option.some.inj e; have h7 : base ≤ gr := (h.lt gr rfl).1; omega)

/-- What the draw of a drift leaves. -/
def GotN (w : World) (g : Nat) (A : Option Addr) (n c : Nat) (e : Ending) (w' : World) : Prop :=
  ∃ x y : Int, ((-3 ≤ x ∧ x ≤ 3) ∧ -3 ≤ y ∧ y ≤ 3) ∧ e = .returned (.agg #[.int .i64 x, .int .i64 y]) ∧ Cur w' g A n c ∧ w.grownBy w' (some g)

set_option maxHeartbeats 1000000 in
theorem driftDraw {w : World} {g n c : Nat} {A : Option Addr} {bs : List UInt8} (h : Ready w g A n c bs) :
    Calls Tryz.prog 96 #[.pointer (some ⟨g, 0, none⟩)] w (GotN w g A n c) := by
  have hlt := h.cur.lt
  have H1 := Lib.hid (h.alloc (.cells #[.int .i64 0, .int .i64 0] 34))
  have G0 := Lib.hid (World.grownBy_alloc w (.cells #[.int .i64 0, .int .i64 0] 34) (some g))
  have B0 := Lib.hid (HB.new w 0 0)
  have NE := Lib.hid (show w.heap.size ≠ g by omega)
  clear h hlt
  go_enter Tryz.func96, Tryz.ntmps96
  go_wp2_with fail
  refine (some_ H1.out (-3) 3 (by decide) (by decide) (by decide)).mono ?_
  rintro e w1 ⟨x, hx, rfl, k1, k2⟩
  have R1 := Lib.hid (H1.out.next k2 k1)
  have G1 := Lib.hid (Draw.grown_trans G0.out k2)
  have B1 := Lib.hid (B0.out.grown k2 (fun e => NE.out (Option.some.inj e)))
  have X := Lib.hid hx
  clear k1 k2 hx H1 G0 B0
  go_wp2_with fail
  refine (some_ R1.out (-3) 3 (by decide) (by decide) (by decide)).mono ?_
  rintro e w2 ⟨y, hy, rfl, k1, k2⟩
  have G2 := Lib.hid (Draw.grown_trans G1.out k2)
  have C2 := Lib.hid k1
  have b2 := B1.out.grown k2 (fun e => NE.out (Option.some.inj e))
  have Y := Lib.hid hy
  have B2 := Lib.hid b2
  have d0 := b2.c0
  have d1 := b2.c1
  have e0 := b2.f0
  have e1 := b2.f1
  clear k1 k2 hy R1 G1 B1 b2
  go_wp2_with fail
  have r := (B2.out.set0 x).set1 y
  have s0 := r.c0
  have s1 := r.c1
  clear r
  (try simp only [Exit.inBlock, Exit.then])
  refine bodyPost_ret (by simp [results, Tryz.results96, go_sem, s0, s1]; try rfl) rfl ?_
  exact ⟨x, y, ⟨X.out, Y.out⟩, rfl, cur_set (cur_set C2.out NE.out.symm _ _) NE.out.symm _ _, grown_set (grown_set G2.out (Nat.le_refl _) _ _) (Nat.le_refl _) _ _⟩

/-- What the draw of a wind leaves. -/
def GotW (w : World) (g : Nat) (A : Option Addr) (n c : Nat) (e : Ending) (w' : World) : Prop :=
  ∃ (zs : List G) (q gr cc : Nat), wd zs = true ∧ zs.length = q ∧ q ≤ 5 ∧ e = .returned (.slice (some ⟨gr, 0, none⟩) q cc) ∧ w'.ownsRow w.heap.size 133 3 (.slice (some ⟨gr, 0, none⟩) q cc) q (gls zs) ∧ Cur w' g A n c ∧ w.grownBy w' (some g)

def starts : List Int := [0, 0, 1, 5]
theorem starts_le {x : Int} (h : x ∈ starts) : 0 ≤ x ∧ x ≤ 5 := by
  unfold starts at h
  simp only [List.mem_cons, List.not_mem_nil, or_false] at h
  omega

set_option maxRecDepth 100000 in
set_option maxHeartbeats 2000000 in
theorem l4Draw {w : World} {g n c : Nat} {A : Option Addr} {bs : List UInt8} (h : Ready w g A n c bs) :
    Calls Tryz.prog 57 #[.pointer (some ⟨g, 0, none⟩)] w (GotW w g A n c) := by
  have hlt := h.cur.lt
  obtain ⟨i0, hi, hz0, hz1, hz2⟩ := info_of infoGust
  have R0 := Lib.hid (World.ownsRow_lit (base := w.heap.size) (e := 133) (size := 3) w #[] 0 (Nat.le_refl _) (Nat.zero_le _) rfl)
  have H1 := Lib.hid (h.alloc (.cells #[] 133))
  have G1 := Lib.hid (World.grownBy_alloc w (.cells #[] 133) (some g))
  have NE := Lib.hid hlt
  clear h hlt
  go_enter Tryz.func57, Tryz.ntmps57
  go_wp2_with fail
  have P := pick (H1.out.alloc (.cells (ints starts).toArray 3)) (w.alloc (.cells #[] 133)).heap.size 0 4 starts (by have := NE.out; simp; omega) (by decide) (by decide) (cells_at (w.alloc (.cells #[] 133)) starts 3)
  rw [show (w.alloc (.cells #[] 133)).heap.size = w.heap.size + 1 by simp] at P
  refine P.mono ?_
  rintro e w1 ⟨t, ht, rfl, k1, k2⟩
  have ht := starts_le ht
  have H2 := Lib.hid ((H1.out.alloc (.cells (ints starts).toArray 3)).next k2 k1)
  have G2 := Lib.hid (Draw.grown_trans (Draw.grown_trans G1.out (World.grownBy_alloc _ (.cells (ints starts).toArray 3) (some g))) k2)
  have R2 := Lib.hid (row_next (R0.out.alloc (.cells (ints starts).toArray 3)) k2 NE.out)
  clear k1 k2 P H1 G1 R0
  go_wp2_with fail
  refine (below H2.out 6 (by decide) (by decide)).mono ?_
  rintro e w2 ⟨m, hm, rfl, k1, k2⟩
  obtain ⟨m, rfl⟩ : ∃ k : Nat, m = (k : Int) := ⟨m.toNat, by omega⟩
  have H3 := Lib.hid (H2.out.next k2 k1)
  have G3 := Lib.hid (Draw.grown_trans G2.out k2)
  have R3 := Lib.hid (row_next R2.out k2 NE.out)
  have hm5 : m ≤ 5 := by omega
  clear k1 k2 H2 G2 R2 hm
  go_wp2_with fail
  go_loopw [3, 4, 5] (fun v tv mv wr => ∃ (zs : List G) (q m : Nat) (t : Int), q + m ≤ 5 ∧ mv = .int .i64 m ∧ tv = .int .i64 t ∧ 0 ≤ t ∧ t ≤ 5 + 9 * q ∧ (∃ gr cc : Nat, v = .slice (some ⟨gr, 0, none⟩) q cc) ∧ Hid (zs.length = q ∧ wd zs = true ∧ ∀ z ∈ zs, z.1 < t) ∧ Hid (wr.ownsRow w.heap.size 133 3 v q (gls zs)) ∧ Hid (Ready wr g A n c bs) ∧ Hid (w.grownBy wr (some g))) (fun _ _ mv _ => (intOf mv).toNat)
  case atStart => exact ⟨[], 0, m, t, by omega, rfl, rfl, ht.1, by omega, ⟨_, _, rfl⟩, Lib.hid ⟨rfl, rfl, fun z hz => by cases hz⟩, R3, H3, G3⟩
  case round =>
    obtain ⟨zs, q, m, t, hqm, rfl, rfl, ht0, ht5, ⟨gr, cc, rfl⟩, ZK, RK, HK, GK⟩ := hrel
    by_cases hm0 : 0 < m
    · have hm0' : (0 : Int) < (m : Int) := by omega
      have hgr := own_base RK.out gr rfl
      have hrl := (RK.out.lt gr rfl).2
      clear ht hm5 R3 H3 G3
      go_wp2_with fail
      refine (driftDraw HK.out).mono ?_
      rintro e w3 ⟨x, y, hxy, rfl, k1, k2⟩
      have H4 := Lib.hid (HK.out.next k2 k1)
      have G4 := Lib.hid (Draw.grown_trans GK.out k2)
      have R4 := row_next RK.out k2 NE.out
      have R5 := R4.alloc (.cells #[.int .i64 t, .int .i64 x, .int .i64 y] 133)
      have ZN := Lib.hid (wd_snoc ZK.out.2.1 ZK.out.2.2 (t := t) (x := x) (y := y) (by omega) (dk_iff.2 (by omega)) (by have := ZK.out.1; omega))
      have SN := Lib.hid (show gls zs ++ [.int .i64 t, .int .i64 x, .int .i64 y] = gls (zs ++ [(t, x, y)]) from gls_snoc zs (t, x, y))
      have hb3 : w.heap.size ≤ w3.heap.size := G4.out.size
      clear k1 k2 hxy HK GK RK R4
      go_wp2_with (
        at_builtin
        refine wpList_append_own _ rfl _ _ 26 rfl w.heap.size 133 i0 (.agg #[.int .i64 0, .int .i64 0, .int .i64 0]) 3 24 Tryz.underlying26 hi hz0 hz1 hz2 rfl (by decide) _ _ _ rfl R5 ⟨w3.heap.size, 0, none⟩ 1 1 [.int .i64 t, .int .i64 x, .int .i64 y] rfl rfl (by intro j z hj; match j, hj with | 0, hj => (simp at hj; subst hj; simp [Addr.add]) | 1, hj => (simp at hj; subst hj; simp [Addr.add]) | 2, hj => (simp at hj; subst hj; simp [Addr.add])) (by intro z hz; simp at hz; rcases hz with rfl | rfl | rfl <;> rfl) (by unfold maxLen; omega) (by omega) (by simp; omega) ?_
        intro v' w4 hown hgrow hnil
        rw [SN.out] at hown
        obtain ⟨g5, c5, rfl⟩ := own_slice hown
        have R6 := Lib.hid hown
        have H6 := Lib.hid (ready_app (H4.out.alloc (.cells #[.int .i64 t, .int .i64 x, .int .i64 y] 133)) hgrow (Nat.lt_of_lt_of_le NE.out hgr))
        have G6 := Lib.hid (grown_app (Draw.grown_trans G4.out (World.grownBy_alloc _ (.cells #[.int .i64 t, .int .i64 x, .int .i64 y] 133) (some g))) hgrow hgr)
        clear hown hgrow hnil R5 H4 G4)
      go_wp2_with fail
      refine (below H6.out 9 (by decide) (by decide)).mono ?_
      rintro e w5 ⟨d, hd, rfl, k1, k2⟩
      have H7 := Lib.hid (H6.out.next k2 k1)
      have G7 := Lib.hid (Draw.grown_trans G6.out k2)
      have R7 := Lib.hid (row_next R6.out k2 NE.out)
      have e1 : wrap64 (t + 1) = t + 1 := IntWalk.wrap64_in _ (by omega)
      have e2 : wrap64 (t + 1 + d) = t + 1 + d := IntWalk.wrap64_in _ (by omega)
      have e3 : wrap64 ((m : Int) - 1) = ((m - 1 : Nat) : Int) := by rw [IntWalk.wrap64_in _ (by omega)]; omega
      have e4 : (m : Int) - 1 = ((m - 1 : Nat) : Int) := by omega
      have E4 := Lib.hid e4
      have ZM := Lib.hid (show (zs ++ [(t, x, y)]).length = q + 1 ∧ wd (zs ++ [(t, x, y)]) = true ∧ ∀ z ∈ zs ++ [(t, x, y)], z.1 < t + 1 + d from ⟨by rw [List.length_append, ZK.out.1]; rfl, ZN.out, fun z hz => by
        rcases List.mem_append.1 hz with h | h
        · have := ZK.out.2.2 z h; omega
        · rw [List.mem_singleton] at h; subst h; show t < t + 1 + d; omega⟩)
      have hd0 : 0 ≤ t + 1 + d := by omega
      have hd5 : t + 1 + d ≤ 5 + 9 * ((q + 1 : Nat) : Int) := by omega
      clear k1 k2 H6 G6 R6 hd e4
      go_wp2_with fail
      go_roundw
      case rel => exact ⟨zs ++ [(t, x, y)], q + 1, m - 1, t + 1 + d, by omega, by first | rfl | (rw [E4.out]), rfl, hd0, hd5, ⟨_, _, rfl⟩, ZM, R7, H7, G7⟩
      case measure => simp [intOf]; omega
    · have hm0' : ¬ (0 : Int) < (m : Int) := by omega
      clear ht hm5 R3 H3 G3
      go_wp2_with fail
      go_ret
      exact ⟨zs, q, gr, cc, ZK.out.2.1, ZK.out.1, by omega, rfl, RK.out, HK.out.cur, GK.out⟩

end Go.Proofs.YtokncfhpmjohdabGreat.Dw
namespace Go.Proofs.YtokncfhpmjohdabGreat.Fe9
open Go.RowKit Go.ChangeShapes Go.WideShapes Go.WideElems Go.Deep Go.Proofs.YtokncfhpmjohdabGreat.Mem Go.Proofs.YtokncfhpmjohdabGreat.Rw Go.Proofs.YtokncfhpmjohdabGreat.P2 Go.Proofs.YtokncfhpmjohdabGreat.Cd Go.Proofs.YtokncfhpmjohdabGreat.Cv Go.Proofs.YtokncfhpmjohdabGreat.Cl Go.Proofs.YtokncfhpmjohdabGreat.Cs
set_option linter.unusedVariables false
set_option linter.unusedSimpArgs false
open Go.Proofs.YtokncfhpmjohdabGreat.Jt Go.Proofs.YtokncfhpmjohdabGreat.IsName Go.Proofs.YtokncfhpmjohdabGreat.Sd Go.Proofs.YtokncfhpmjohdabGreat.Oc Go.Proofs.YtokncfhpmjohdabGreat.Ld Go.Proofs.YtokncfhpmjohdabGreat.RampAt Go.Proofs.YtokncfhpmjohdabGreat.Tn

theorem quo_between (d i n : Int) (hi : 0 < i) (hin : i < n) : (0 ≤ d → 0 ≤ d * i / n ∧ d * i / n ≤ d) ∧ (d ≤ 0 → d ≤ d * i / n ∧ d * i / n ≤ 0) := by
  have hn : 0 < n := by omega
  constructor
  · intro hd
    refine ⟨Int.ediv_nonneg (Int.mul_nonneg hd (by omega)) (by omega), ?_⟩
    have : d * i ≤ d * n := Int.mul_le_mul_of_nonneg_left (by omega) hd
    calc d * i / n ≤ d * n / n := Int.ediv_le_ediv hn this
      _ = d := Int.mul_ediv_cancel _ (by omega)
  · intro hd
    constructor
    · have : d * n ≤ d * i := Int.mul_le_mul_of_nonpos_left hd (by omega)
      calc d = d * n / n := (Int.mul_ediv_cancel _ (by omega)).symm
        _ ≤ d * i / n := Int.ediv_le_ediv hn this
    · have : d * i ≤ 0 := Int.mul_nonpos_of_nonpos_of_nonneg hd (by omega)
      calc d * i / n ≤ 0 / n := Int.ediv_le_ediv hn this
        _ = 0 := Int.zero_ediv _
theorem level_between {a b : Int} (i n : Int) (ha1 : -4096 ≤ a) (ha2 : a ≤ 4096) (hb1 : -4096 ≤ b) (hb2 : b ≤ 4096) : (a ≤ level a b i n ∧ level a b i n ≤ b) ∨ (b ≤ level a b i n ∧ level a b i n ≤ a) := by
  rw [level_yes i n ha1 ha2 hb1 hb2]
  split
  · omega
  · split
    · omega
    · have := quo_between (b - a) i n (by omega) (by omega)
      generalize (b - a) * i / n = q at *
      by_cases h : a ≤ b
      · have := this.1 (by omega); omega
      · have := this.2 (by omega); omega
theorem level_in {a b : Int} (i n : Int) (ha1 : 0 ≤ a) (ha2 : a ≤ 32) (hb1 : 0 ≤ b) (hb2 : b ≤ 32) : 0 ≤ level a b i n ∧ level a b i n ≤ 32 := by
  have := level_between i n (show -4096 ≤ a by omega) (by omega) (show -4096 ≤ b by omega) (by omega)
  omega
/-- What is known where the cues led. -/
def Sane (u : Int × C) : Prop := (0 ≤ u.1 ∧ u.1 ≤ 32) ∧ (0 ≤ u.2.lv ∧ u.2.lv ≤ 32)
theorem sane_step {t : Int} {u : Int × C} (h : Sane u) {x : C} (hx : cB x = true) : Sane (stepC t u x) := by
  by_cases e : x.tk ≤ t
  · rw [step_yes u e]
    exact ⟨level_in _ _ h.1.1 h.1.2 h.2.1 h.2.2, (cB_in hx).2.1⟩
  · rw [step_no u e]; exact h
theorem reach_sane (t : Int) (ys : List C) (h : ∀ x ∈ ys, cB x = true) : Sane (reach t ys) := by
  have key : ∀ (ys : List C) (u : Int × C), Sane u → (∀ x ∈ ys, cB x = true) → Sane (ys.foldl (stepC t) u) := by
    intro ys
    induction ys with
    | nil => intro u hu _; exact hu
    | cons y r ih => intro u hu hr; exact ih _ (sane_step hu (hr y (List.mem_cons_self ..))) (fun x hx => hr x (List.mem_cons_of_mem _ hx))
  exact key ys _ ⟨⟨Int.le_refl _, by decide⟩, ⟨Int.le_refl _, by decide⟩⟩ h
theorem lev_in (t : Int) {ys : List C} (h : ∀ x ∈ ys, cB x = true) : 0 ≤ levP t ys ∧ levP t ys ≤ 32 := by
  have := reach_sane t ys h
  exact level_in _ _ this.1.1 this.1.2 this.2.1 this.2.2
theorem levV_in (zs : List C) (s : ByteArray) (t : Int) : 0 ≤ levV zs s t ∧ levV zs s t ≤ 32 := lev_in t (only_all zs [s])
end Go.Proofs.YtokncfhpmjohdabGreat.Fe9
namespace Go.Proofs.YtokncfhpmjohdabGreat.Dm
set_option linter.unusedVariables false
set_option linter.unusedSimpArgs false

/-- Each is an eighth that may be wanted. -/
def okD (zs : List Int) : Prop := ∀ z ∈ zs, 0 ≤ z ∧ z ≤ 64
/-- Whether a list is demands. -/
noncomputable def dm (zs : List Int) : Bool := @decide (zs.length ≤ 8 ∧ okD zs) (Classical.propDecidable _)
theorem dm_iff {zs : List Int} : dm zs = true ↔ zs.length ≤ 8 ∧ okD zs := by unfold dm; exact @decide_eq_true_iff _ (Classical.propDecidable _)
theorem dm_yes {zs : List Int} (h : zs.length ≤ 8) (k : okD zs) : dm zs = true := dm_iff.2 ⟨h, k⟩
theorem dm_long {zs : List Int} (h : 8 < zs.length) : dm zs = false := by rw [← Bool.not_eq_true, dm_iff]; omega
theorem dm_bad {zs : List Int} {z : Int} {k : Nat} (h : zs[k]? = some z) (b : z < 0 ∨ 64 < z) : dm zs = false := by
  rw [← Bool.not_eq_true, dm_iff]; intro ⟨_, c⟩; have := c z (List.mem_of_getElem? h); omega
theorem okD_nil : okD [] := fun _ h => by cases h
theorem okD_take_succ {zs : List Int} {z : Int} {k : Nat} (h : zs[k]? = some z) (b : 0 ≤ z ∧ z ≤ 64) (c : okD (zs.take k)) : okD (zs.take (k + 1)) := by
  obtain ⟨hk, rfl⟩ := List.getElem?_eq_some_iff.1 h
  rw [List.take_succ_eq_append_getElem hk]
  intro x hx
  rcases List.mem_append.1 hx with hx | hx
  · exact c x hx
  · rw [List.mem_singleton.1 hx]; exact b

/-- The sum. -/
def tot : List Int → Int
  | [] => 0
  | z :: zs => z + tot zs
theorem tot_append : ∀ a b : List Int, tot (a ++ b) = tot a + tot b
  | [], b => by simp [tot]
  | z :: a, b => by simp only [List.cons_append, tot]; rw [tot_append a b]; omega
theorem tot_take {zs : List Int} {z : Int} {k : Nat} (h : zs[k]? = some z) : tot (zs.take (k + 1)) = tot (zs.take k) + z := by
  obtain ⟨hk, rfl⟩ := List.getElem?_eq_some_iff.1 h
  rw [List.take_succ_eq_append_getElem hk, tot_append]; simp [tot]
theorem tot_bound {B : Int} : ∀ {zs : List Int}, (∀ z ∈ zs, 0 ≤ z ∧ z ≤ B) → 0 ≤ tot zs ∧ tot zs ≤ B * zs.length
  | [], _ => by simp [tot]
  | z :: zs, h => by
    have h1 := h z (List.mem_cons_self ..)
    have h2 := tot_bound (B := B) (zs := zs) fun x hx => h x (List.mem_cons_of_mem _ hx)
    simp only [tot, List.length_cons]
    push_cast
    rw [Int.mul_add]
    omega
theorem tot_small {zs : List Int} (hl : zs.length ≤ 8) (h : okD zs) : 0 ≤ tot zs ∧ tot zs ≤ 512 := by
  have := tot_bound (B := 64) h
  have h2 : (64 : Int) * zs.length ≤ 64 * 8 := by omega
  omega
theorem okD_take {zs : List Int} (h : okD zs) (k : Nat) : okD (zs.take k) := fun z hz => h z (List.mem_of_mem_take hz)
theorem tot_take_small {zs : List Int} (hl : zs.length ≤ 8) (h : okD zs) (k : Nat) : 0 ≤ tot (zs.take k) ∧ tot (zs.take k) ≤ 512 := tot_small (by rw [List.length_take]; omega) (okD_take h k)

theorem min_if (z l : Int) : min z l = if l < z then l else z := by split <;> omega
/-- Cut at a level. -/
def cut (zs : List Int) (l : Int) : List Int := zs.map fun z => min z l
theorem cut_len (zs : List Int) (l : Int) : (cut zs l).length = zs.length := by simp [cut]
theorem cut_get {zs : List Int} {z l : Int} {k : Nat} (h : zs[k]? = some z) : (cut zs l)[k]? = some (min z l) := by unfold cut; rw [List.getElem?_map, h]; rfl
theorem cut_take_succ {zs : List Int} {z l : Int} {k : Nat} (h : zs[k]? = some z) : (cut zs l).take k ++ [min z l] = (cut zs l).take (k + 1) := by
  obtain ⟨hk, e⟩ := List.getElem?_eq_some_iff.1 (cut_get (l := l) h)
  rw [List.take_succ_eq_append_getElem hk, e]
theorem cut_ok {zs : List Int} (h : okD zs) {l : Int} (hl : 0 ≤ l) : okD (cut zs l) := by
  intro x hx
  obtain ⟨z, hz, rfl⟩ := List.mem_map.1 hx
  have := h z hz
  show 0 ≤ min z l ∧ min z l ≤ 64
  omega
theorem cut_mono (l m : Int) (h : l ≤ m) : ∀ zs : List Int, tot (cut zs l) ≤ tot (cut zs m)
  | [] => Int.le_refl _
  | z :: zs => by
    have := cut_mono l m h zs
    simp only [cut, List.map_cons, tot] at *
    omega
theorem cut_zero : ∀ {zs : List Int}, okD zs → tot (cut zs 0) = 0
  | [], _ => rfl
  | z :: zs, h => by
    have h1 := h z (List.mem_cons_self ..)
    have := cut_zero (zs := zs) fun x hx => h x (List.mem_cons_of_mem _ hx)
    simp only [cut, List.map_cons, tot] at *
    omega
theorem cut_all : ∀ {zs : List Int} {l : Int}, (∀ z ∈ zs, z ≤ l) → cut zs l = zs
  | [], _, _ => rfl
  | z :: zs, l, h => by
    have h1 := h z (List.mem_cons_self ..)
    have := cut_all (zs := zs) (l := l) fun x hx => h x (List.mem_cons_of_mem _ hx)
    simp only [cut, List.map_cons] at *
    rw [this, show min z l = z by omega]

/-- A sum up to k of what is cut. -/
theorem cut_tot_take {zs : List Int} {z l : Int} {k : Nat} (h : zs[k]? = some z) : tot ((cut zs l).take (k + 1)) = tot ((cut zs l).take k) + min z l := tot_take (cut_get h)

/-- The greatest level up to n at which the cut ones fit. -/
def lv (s : Int) (zs : List Int) : Nat → Nat
  | 0 => 0
  | n + 1 => if tot (cut zs ((n : Int) + 1)) ≤ s then n + 1 else lv s zs n
theorem lv_yes {s : Int} {zs : List Int} {n : Nat} (h : tot (cut zs ((n : Int) + 1)) ≤ s) : lv s zs (n + 1) = n + 1 := if_pos h
theorem lv_no {s : Int} {zs : List Int} {n : Nat} (h : ¬ tot (cut zs ((n : Int) + 1)) ≤ s) : lv s zs (n + 1) = lv s zs n := if_neg h
theorem lv_le (s : Int) (zs : List Int) : ∀ n, lv s zs n ≤ n
  | 0 => Nat.le_refl _
  | n + 1 => by unfold lv; have := lv_le s zs n; split <;> omega
/-- What the level for a supply is. -/
theorem lv_fits {s : Int} {zs : List Int} (hz : okD zs) (hs : 0 ≤ s) : ∀ n, tot (cut zs (lv s zs n : Nat)) ≤ s
  | 0 => by rw [show ((lv s zs 0 : Nat) : Int) = 0 from rfl, cut_zero hz]; exact hs
  | n + 1 => by
    by_cases h : tot (cut zs ((n : Int) + 1)) ≤ s
    · rw [lv_yes h]; push_cast; exact h
    · rw [lv_no h]; exact lv_fits hz hs n
theorem lv_next {s : Int} {zs : List Int} : ∀ n, lv s zs n < n → s < tot (cut zs ((lv s zs n : Nat) + 1 : Int))
  | 0, h => absurd h (Nat.lt_irrefl _)
  | n + 1, h => by
    by_cases c : tot (cut zs ((n : Int) + 1)) ≤ s
    · rw [lv_yes c] at h; omega
    · rw [lv_no c]
      by_cases e : lv s zs n = n
      · rw [e]; omega
      · exact lv_next n (by have := lv_le s zs n; omega)
/-- Found by halves. -/
theorem lv_is {s : Int} {zs : List Int} {i : Nat} (hz : okD zs) (hs : 0 ≤ s) (hi : i ≤ 64) (h1 : i = 0 ∨ tot (cut zs (i : Int)) ≤ s) (h2 : i = 64 ∨ s < tot (cut zs ((i : Int) + 1))) : lv s zs 64 = i := by
  have f := lv_fits hz hs 64
  have l := lv_le s zs 64
  rcases Nat.lt_trichotomy (lv s zs 64) i with h | h | h
  · have n := lv_next (s := s) (zs := zs) 64 (by omega)
    have m := cut_mono ((lv s zs 64 : Nat) + 1 : Int) (i : Int) (by omega) zs
    rcases h1 with h1 | h1 <;> omega
  · exact h
  · have m := cut_mono ((i : Int) + 1) ((lv s zs 64 : Nat) : Int) (by omega) zs
    rcases h2 with h2 | h2 <;> omega
/-- The level for a supply. -/
noncomputable def level (s : Int) (zs : List Int) : Nat := if dm zs = true ∧ 0 ≤ s ∧ s ≤ 512 then lv s zs 64 else 0
theorem level_yes {s : Int} {zs : List Int} (h : dm zs = true) (h1 : 0 ≤ s) (h2 : s ≤ 512) : level s zs = lv s zs 64 := if_pos ⟨h, h1, h2⟩
theorem level_no {s : Int} {zs : List Int} (h : ¬ (dm zs = true ∧ 0 ≤ s ∧ s ≤ 512)) : level s zs = 0 := if_neg h
/-- An eighth more for those above the level, as long as there is a rest: what there is, and the rest, behind k of them. -/
def more (l r : Int) (zs : List Int) : Nat → List Int × Int
  | 0 => (cut zs l, r)
  | k + 1 => if l < zs.getD k 0 ∧ 0 < (more l r zs k).2 then ((more l r zs k).1.set k (min (zs.getD k 0) l + 1), (more l r zs k).2 - 1) else more l r zs k
theorem getD_of {zs : List Int} {z : Int} {k : Nat} (h : zs[k]? = some z) : zs.getD k 0 = z := by rw [List.getD_eq_getElem?_getD, h]; rfl
theorem more_yes {l r : Int} {zs : List Int} {z : Int} {k : Nat} (h : zs[k]? = some z) (h1 : l < z) (h2 : 0 < (more l r zs k).2) : more l r zs (k + 1) = ((more l r zs k).1.set k (min z l + 1), (more l r zs k).2 - 1) := by
  show (if _ then _ else _) = _
  rw [getD_of h, if_pos ⟨h1, h2⟩]
theorem more_no {l r : Int} {zs : List Int} {z : Int} {k : Nat} (h : zs[k]? = some z) (h1 : ¬ (l < z ∧ 0 < (more l r zs k).2)) : more l r zs (k + 1) = more l r zs k := by
  show (if _ then _ else _) = _
  rw [getD_of h, if_neg h1]
theorem more_len (l r : Int) (zs : List Int) : ∀ k, (more l r zs k).1.length = zs.length
  | 0 => cut_len zs l
  | k + 1 => by
    show (if _ then _ else _ : List Int × Int).1.length = _
    split
    · rw [List.length_set]; exact more_len l r zs k
    · exact more_len l r zs k
theorem more_far (l r : Int) (zs : List Int) : ∀ k j, k ≤ j → (more l r zs k).1[j]? = (cut zs l)[j]?
  | 0, _, _ => rfl
  | k + 1, j, h => by
    show (if _ then _ else _ : List Int × Int).1[j]? = _
    split
    · rw [List.getElem?_set_ne (by omega)]; exact more_far l r zs k j (by omega)
    · exact more_far l r zs k j (by omega)
theorem more_at {l r : Int} {zs : List Int} {z : Int} {k : Nat} (h : zs[k]? = some z) : (more l r zs k).1[k]? = some (min z l) := (more_far l r zs k k (Nat.le_refl _)).trans (cut_get h)
theorem more_rest (l r : Int) (zs : List Int) (hr : 0 ≤ r) : ∀ k, 0 ≤ (more l r zs k).2 ∧ (more l r zs k).2 ≤ r
  | 0 => ⟨hr, Int.le_refl _⟩
  | k + 1 => by
    show 0 ≤ (if _ then _ else _ : List Int × Int).2 ∧ (if _ then _ else _ : List Int × Int).2 ≤ r
    have := more_rest l r zs hr k
    split
    · rename_i h
      show 0 ≤ (more l r zs k).2 - 1 ∧ (more l r zs k).2 - 1 ≤ r
      omega
    · exact this
/-- What is shared out. -/
noncomputable def share (s : Int) (zs : List Int) : List Int :=
  if dm zs = true ∧ 0 ≤ s ∧ s ≤ 512 then (more (lv s zs 64) (s - tot (cut zs (lv s zs 64))) zs zs.length).1 else []
theorem share_yes {s : Int} {zs : List Int} (h : dm zs = true) (h1 : 0 ≤ s) (h2 : s ≤ 512) : share s zs = (more (lv s zs 64) (s - tot (cut zs (lv s zs 64))) zs zs.length).1 := if_pos ⟨h, h1, h2⟩
theorem share_no {s : Int} {zs : List Int} (h : ¬ (dm zs = true ∧ 0 ≤ s ∧ s ≤ 512)) : share s zs = [] := if_neg h
noncomputable def totB (zs : List Int) : Int := if dm zs = true then tot zs else 0
theorem totB_yes {zs : List Int} (h : dm zs = true) : totB zs = tot zs := if_pos h
theorem totB_no {zs : List Int} (h : dm zs = false) : totB zs = 0 := if_neg (by rw [h]; decide)
noncomputable def cutB (zs : List Int) (l : Int) : List Int := if dm zs = true ∧ 0 ≤ l then cut zs l else []
theorem cutB_yes {zs : List Int} {l : Int} (h : dm zs = true) (h1 : 0 ≤ l) : cutB zs l = cut zs l := if_pos ⟨h, h1⟩
theorem cutB_no {zs : List Int} {l : Int} (h : ¬ (dm zs = true ∧ 0 ≤ l)) : cutB zs l = [] := if_neg h
end Go.Proofs.YtokncfhpmjohdabGreat.Dm
namespace Go.Proofs.YtokncfhpmjohdabGreat.Dn
open Go.Proofs.YtokncfhpmjohdabGreat.Dm
set_option linter.unusedVariables false
set_option linter.unusedSimpArgs false

theorem tot_set : ∀ (l : List Int) (k : Nat) (v a : Int), l[k]? = some a → tot (l.set k v) = tot l - a + v
  | [], _, _, _, h => by simp at h
  | x :: l, 0, v, a, h => by simp at h; subst h; simp only [List.set_cons_zero, tot]; omega
  | x :: l, k + 1, v, a, h => by
    have := tot_set l k v a (by simpa using h)
    simp only [List.set_cons_succ, tot]; omega
/-- Sums of lists that compare place by place. -/
theorem tot_le : ∀ (a b : List Int), a.length = b.length → (∀ (j : Nat) (x y : Int), a[j]? = some x → b[j]? = some y → x ≤ y) → tot a ≤ tot b
  | [], [], _, _ => Int.le_refl _
  | [], _ :: _, h, _ => by simp at h
  | _ :: _, [], h, _ => by simp at h
  | x :: a, y :: b, h, k => by
    have h0 := k 0 x y rfl rfl
    have := tot_le a b (by simpa using h) fun j p q e1 e2 => k (j + 1) p q (by simpa using e1) (by simpa using e2)
    simp only [tot]; omega
/-- What is known behind k of them. -/
theorem more_inv (l r : Int) (zs : List Int) (hr : 0 ≤ r) : ∀ k, k ≤ zs.length →
    tot (more l r zs k).1 + (more l r zs k).2 = tot (cut zs l) + r ∧
    (∀ (j : Nat) (z : Int), zs[j]? = some z → ∃ s, (more l r zs k).1[j]? = some s ∧ min z l ≤ s ∧ s ≤ min z l + 1 ∧ s ≤ z) ∧
    (0 < (more l r zs k).2 → ∀ (j : Nat) (z : Int), j < k → zs[j]? = some z → l < z → (more l r zs k).1[j]? = some (l + 1))
  | 0, _ => ⟨rfl, fun j z h => ⟨min z l, cut_get h, by omega, by omega, by omega⟩, fun _ j z h => absurd h (Nat.not_lt_zero _)⟩
  | k + 1, hk => by
    obtain ⟨i1, i2, i3⟩ := more_inv l r zs hr k (by omega)
    obtain ⟨z, hz⟩ : ∃ z, zs[k]? = some z := ⟨_, List.getElem?_eq_getElem (by omega)⟩
    have hat := more_at (l := l) (r := r) hz
    by_cases c : l < z ∧ 0 < (more l r zs k).2
    · rw [more_yes hz c.1 c.2]
      refine ⟨?_, ?_, ?_⟩
      · show tot ((more l r zs k).1.set k (min z l + 1)) + ((more l r zs k).2 - 1) = _
        rw [tot_set _ _ _ _ hat]; omega
      · intro j y hy
        by_cases e : k = j
        · subst e
          rw [hz] at hy; cases hy
          have hb := (List.getElem?_eq_some_iff.1 hat).1
          exact ⟨min z l + 1, by show ((more l r zs k).1.set k (min z l + 1))[k]? = _; rw [List.getElem?_set_self hb], by omega, by omega, by omega⟩
        · obtain ⟨s, h1, h2⟩ := i2 j y hy
          exact ⟨s, by show ((more l r zs k).1.set k (min z l + 1))[j]? = _; rw [List.getElem?_set_ne e]; exact h1, h2⟩
      · intro h j y hj hy hl
        have h : 0 < (more l r zs k).2 - 1 := h
        by_cases e : k = j
        · subst e
          rw [hz] at hy; cases hy
          have hb := (List.getElem?_eq_some_iff.1 hat).1
          show ((more l r zs k).1.set k (min z l + 1))[k]? = _
          rw [List.getElem?_set_self hb, show min z l = l by omega]
        · show ((more l r zs k).1.set k (min z l + 1))[j]? = _
          rw [List.getElem?_set_ne e]; exact i3 (by omega) j y (by omega) hy hl
    · rw [more_no hz c]
      refine ⟨i1, i2, fun h j y hj hy hl => ?_⟩
      by_cases e : j = k
      · subst e; rw [hz] at hy; cases hy; exact absurd ⟨hl, h⟩ c
      · exact i3 h j y (by omega) hy hl
/-- What is shared out of a supply among demands: all that the law asks. -/
theorem share_facts {n : Int} {zs : List Int} (hd : dm zs = true) (h0 : 0 ≤ n) (h5 : n ≤ 512) :
    (share n zs).length = zs.length ∧ tot (share n zs) = min n (tot zs) ∧
    ∀ (j : Nat) (z : Int), zs[j]? = some z → ∃ s, (share n zs)[j]? = some s ∧ min z (lv n zs 64 : Nat) ≤ s ∧ s ≤ min z (lv n zs 64 : Nat) + 1 ∧ s ≤ z := by
  have hz := (dm_iff.1 hd).2
  have fits := lv_fits (s := n) hz h0 64
  have nxt := lv_next (s := n) (zs := zs) 64
  have le := lv_le n zs 64
  rw [share_yes hd h0 h5]
  obtain ⟨L, hL⟩ : ∃ L, lv n zs 64 = L := ⟨_, rfl⟩
  rw [hL] at fits nxt le ⊢
  obtain ⟨r, hr⟩ : ∃ r, n - tot (cut zs (L : Int)) = r := ⟨_, rfl⟩
  rw [hr]
  have hr0 : 0 ≤ r := by omega
  obtain ⟨i1, i2, i3⟩ := more_inv (L : Int) r zs hr0 zs.length (Nat.le_refl _)
  have hlen := more_len (L : Int) r zs zs.length
  have hq := more_rest (L : Int) r zs hr0 zs.length
  refine ⟨hlen, ?_, i2⟩
  have hle : tot (more (L : Int) r zs zs.length).1 ≤ tot zs := tot_le _ _ hlen fun j x y e1 e2 => by
    obtain ⟨s, h1, _, _, h4⟩ := i2 j y e2
    rw [h1] at e1; cases e1; exact h4
  by_cases c : 0 < (more (L : Int) r zs zs.length).2
  · have full : (more (L : Int) r zs zs.length).1 = cut zs ((L : Int) + 1) := by
      apply List.ext_getElem?
      intro j
      by_cases hj : j < zs.length
      · have e : zs[j]? = some zs[j] := List.getElem?_eq_getElem hj
        rw [cut_get e]
        by_cases g : (L : Int) < zs[j]
        · rw [i3 c j _ hj e g, show min zs[j] ((L : Int) + 1) = (L : Int) + 1 by omega]
        · obtain ⟨s, h1, h2, _, h4⟩ := i2 j _ e
          rw [h1]; congr 1; omega
      · rw [List.getElem?_eq_none (by rw [hlen]; omega), List.getElem?_eq_none (by rw [cut_len]; omega)]
    by_cases hL64 : L < 64
    · have := nxt hL64
      rw [full] at i1
      omega
    · have e64 : cut zs ((L : Int) + 1) = zs := cut_all fun z h => by have := (hz z h).2; omega
      rw [full, e64] at i1 ⊢
      omega
  · omega
end Go.Proofs.YtokncfhpmjohdabGreat.Dn
