/- The draws of winds. -/
import Derived.Test.YtknanaapaipoeaaWa
import Derived.Test.YtknanaapaipoeaaDr2q
namespace Go.Proofs.Ytknanaapaipoeaa.Dw
open Go.RowKit Go.Proofs.Ytknanaapaipoeaa.Mem Go.Proofs.Ytknanaapaipoeaa.Rw Go.Proofs.Ytknanaapaipoeaa.Bk Go.Proofs.Ytknanaapaipoeaa.Cx Go.Proofs.Ytknanaapaipoeaa.Cm Go.Proofs.Ytknanaapaipoeaa.Jt Go.Proofs.Ytknanaapaipoeaa.Pl Go.Proofs.Ytknanaapaipoeaa.Str Go.Proofs.Ytknanaapaipoeaa.Pw Go.Proofs.Ytknanaapaipoeaa.P2 Go.Proofs.Ytknanaapaipoeaa.Gs Go.Proofs.Ytknanaapaipoeaa.Wm Go.Proofs.Ytknanaapaipoeaa.Wi Go.Proofs.Ytknanaapaipoeaa.Wa
open Go.Proofs.Ytknanaapaipoeaa.Draw (Cur Ready Got GotB u8s below once some_ odd pick cells_at new Fresh wf_of_small odds)
open Go.Proofs.Ytknanaapaipoeaa.Dr2 (HB HB.c0 HB.c1 HB.f0 HB.f1 HB.grown HB.new HB.set0 HB.set1 cur_set grown_set wf)
set_option linter.unusedVariables false
set_option linter.unusedSimpArgs false

theorem okAt_left {zs : List G} {z : G} {i : Nat} (hi : i < zs.length) : okAt (zs ++ [z]) i = okAt zs i := by
  unfold okAt
  rw [List.getElem?_append_left hi]
  cases zs[i]? with
  | none => rfl
  | some y => simp only []; rw [List.getElem?_append_left (by omega)]
theorem okUp_left {zs : List G} {z : G} {k : Nat} (hk : k ≤ zs.length) : okUp (zs ++ [z]) k = okUp zs k := by
  induction k with
  | zero => rfl
  | succ k ih => rw [okUp_succ, okUp_succ, ih (by omega), okAt_left (by omega)]
/-- A later gust behind a wind. -/
theorem wd_snoc {zs : List G} {t x y : Int} (h : wd zs = true) (hl : ∀ z ∈ zs, z.1 < t) (ht : 0 ≤ t ∧ t ≤ 64) (hd : dk x y = true) (hn : zs.length < 8) : wd (zs ++ [(t, x, y)]) = true := by
  unfold wd at h ⊢
  rw [Bool.and_eq_true] at h
  rw [List.length_append, List.length_singleton, okUp_succ, okUp_left (Nat.le_refl _), h.1, decide_eq_true (by omega), Bool.and_true, Bool.true_and]
  have hz : (zs ++ [(t, x, y)])[zs.length]? = some (t, x, y) := by rw [List.getElem?_append_right (Nat.le_refl _), Nat.sub_self]; rfl
  by_cases h0 : zs.length = 0
  · rw [h0] at hz ⊢
    exact ok_first hz (iw_yes ht) hd
  · have hp : (zs ++ [(t, x, y)])[zs.length - 1]? = some (zs[zs.length - 1]'(by omega)) := by rw [List.getElem?_append_left (by omega)]; exact List.getElem?_eq_getElem _
    rw [ok_next hz (iw_yes ht) hd h0 hp]
    exact decide_eq_true (hl _ (List.getElem_mem _))

theorem rd_more {w : World} {A : Option Addr} {xs : List Value} {o : Obj} (h : Rd w w.heap.size A xs) : Rd (w.alloc o) (w.alloc o).heap.size A xs := (rd_alloc h (Nat.le_refl _)).more (by simp)
theorem grown_app {w a b : World} {r : Option Nat} {gr : Nat} (h : w.grownBy a r) (k : a.grownBy b (some gr)) (hg : w.heap.size ≤ gr) : w.grownBy b r :=
  ⟨k.os.trans h.os, k.tape.trans h.tape, k.output.trans h.output, Nat.le_trans h.size k.size, fun i hi hr => (k.block i (Nat.lt_of_lt_of_le hi h.size) (fun e => by have e := Option.some.inj e; omega)).trans (h.block i hi hr)⟩
theorem ready_app {a b : World} {g n c gr : Nat} {A : Option Addr} {bs : List UInt8} (h : Ready a g A n c bs) (k : a.grownBy b (some gr)) (hg : g < gr) : Ready b g A n c bs :=
  ⟨h.len, h.max, rd_grown h.rd k (Nat.le_of_lt h.cur.lt) (fun q hq => by cases hq; omega), h.cur.kept (k.block g h.cur.lt (fun e => by have e := Option.some.inj e; omega))⟩
theorem ready_alloc {a : World} {g n c : Nat} {A : Option Addr} {bs : List UInt8} (h : Ready a g A n c bs) (o : Obj) : Ready (a.alloc o) g A n c bs := h.alloc o
/-- A row is as it was where the cursor alone is written. -/
theorem row_next {a b : World} {base g gr q c : Nat} {e : TypeId} {s : Nat} {xs : List Value} (h : a.ownsRow base e s (.slice (some ⟨gr, 0, none⟩) q c) q xs) (k : a.grownBy b (some g)) (hg : g < base) : b.ownsRow base e s (.slice (some ⟨gr, 0, none⟩) q c) q xs :=
  owns_grown h k (fun i hi => by cases hi; intro e; have e : g = gr := Option.some.inj e; have h7 : base ≤ gr := (h.lt gr rfl).1; omega)

/-- What the draw of a drift leaves. -/
def GotN (w : World) (g : Nat) (A : Option Addr) (n c : Nat) (e : Ending) (w' : World) : Prop :=
  ∃ x y : Int, ((-3 ≤ x ∧ x ≤ 3) ∧ -3 ≤ y ∧ y ≤ 3) ∧ e = .returned (.agg #[.int .i64 x, .int .i64 y]) ∧ Cur w' g A n c ∧ w.grownBy w' (some g)

set_option maxHeartbeats 1000000 in
theorem driftDraw {w : World} {g n c : Nat} {A : Option Addr} {bs : List UInt8} (h : Ready w g A n c bs) :
    Calls Try.prog 94 #[.pointer (some ⟨g, 0, none⟩)] w (GotN w g A n c) := by
  have hlt := h.cur.lt
  have H1 := Lib.hid (h.alloc (.cells #[.int .i64 0, .int .i64 0] 28))
  have G0 := Lib.hid (World.grownBy_alloc w (.cells #[.int .i64 0, .int .i64 0] 28) (some g))
  have B0 := Lib.hid (HB.new w 0 0)
  have NE := Lib.hid (show w.heap.size ≠ g by omega)
  clear h hlt
  go_enter Try.func94, Try.ntmps94
  go_wp2_with fail
  refine (some_ H1.out (-3) 3 (by decide) (by decide) (by decide)).mono ?_
  rintro e w1 ⟨x, hx, rfl, k1, k2⟩
  have R1 := Lib.hid (H1.out.next k2 k1)
  have G1 := Lib.hid (Draw.grown_trans G0.out k2)
  have B1 := Lib.hid (B0.out.grown k2 (fun e => NE.out (Option.some.inj e)))
  have X := Lib.hid hx
  clear k1 k2 hx H1 G0 B0
  go_wp2_with fail
  refine (some_ R1.out (-3) 3 (by decide) (by decide) (by decide)).mono ?_
  rintro e w2 ⟨y, hy, rfl, k1, k2⟩
  have G2 := Lib.hid (Draw.grown_trans G1.out k2)
  have C2 := Lib.hid k1
  have b2 := B1.out.grown k2 (fun e => NE.out (Option.some.inj e))
  have Y := Lib.hid hy
  have B2 := Lib.hid b2
  have d0 := b2.c0
  have d1 := b2.c1
  have e0 := b2.f0
  have e1 := b2.f1
  clear k1 k2 hy R1 G1 B1 b2
  go_wp2_with fail
  have r := (B2.out.set0 x).set1 y
  have s0 := r.c0
  have s1 := r.c1
  clear r
  (try simp only [Exit.inBlock, Exit.then])
  refine bodyPost_ret (by simp [results, Try.results94, go_sem, s0, s1]; try rfl) rfl ?_
  exact ⟨x, y, ⟨X.out, Y.out⟩, rfl, cur_set (cur_set C2.out NE.out.symm _ _) NE.out.symm _ _, grown_set (grown_set G2.out (Nat.le_refl _) _ _) (Nat.le_refl _) _ _⟩

/-- What the draw of a wind leaves. -/
def GotW (w : World) (g : Nat) (A : Option Addr) (n c : Nat) (e : Ending) (w' : World) : Prop :=
  ∃ (zs : List G) (q gr cc : Nat), wd zs = true ∧ zs.length = q ∧ q ≤ 5 ∧ e = .returned (.slice (some ⟨gr, 0, none⟩) q cc) ∧ w'.ownsRow w.heap.size 57 3 (.slice (some ⟨gr, 0, none⟩) q cc) q (gls zs) ∧ Cur w' g A n c ∧ w.grownBy w' (some g)

def starts : List Int := [0, 0, 1, 5]
theorem starts_le {x : Int} (h : x ∈ starts) : 0 ≤ x ∧ x ≤ 5 := by
  unfold starts at h
  simp only [List.mem_cons, List.not_mem_nil, or_false] at h
  omega

set_option maxRecDepth 100000 in
set_option maxHeartbeats 2000000 in
theorem l4Draw {w : World} {g n c : Nat} {A : Option Addr} {bs : List UInt8} (h : Ready w g A n c bs) :
    Calls Try.prog 55 #[.pointer (some ⟨g, 0, none⟩)] w (GotW w g A n c) := by
  have hlt := h.cur.lt
  obtain ⟨i0, hi, hz0, hz1, hz2⟩ := info_of infoGust
  have R0 := Lib.hid (World.ownsRow_lit (base := w.heap.size) (e := 57) (size := 3) w #[] 0 (Nat.le_refl _) (Nat.zero_le _) rfl)
  have H1 := Lib.hid (h.alloc (.cells #[] 57))
  have G1 := Lib.hid (World.grownBy_alloc w (.cells #[] 57) (some g))
  have NE := Lib.hid hlt
  clear h hlt
  go_enter Try.func55, Try.ntmps55
  go_wp2_with fail
  have P := pick (H1.out.alloc (.cells (ints starts).toArray 3)) (w.alloc (.cells #[] 57)).heap.size 0 4 starts (by have := NE.out; simp; omega) (by decide) (by decide) (cells_at (w.alloc (.cells #[] 57)) starts 3)
  rw [show (w.alloc (.cells #[] 57)).heap.size = w.heap.size + 1 by simp] at P
  refine P.mono ?_
  rintro e w1 ⟨t, ht, rfl, k1, k2⟩
  have ht := starts_le ht
  have H2 := Lib.hid ((H1.out.alloc (.cells (ints starts).toArray 3)).next k2 k1)
  have G2 := Lib.hid (Draw.grown_trans (Draw.grown_trans G1.out (World.grownBy_alloc _ (.cells (ints starts).toArray 3) (some g))) k2)
  have R2 := Lib.hid (row_next (R0.out.alloc (.cells (ints starts).toArray 3)) k2 NE.out)
  clear k1 k2 P H1 G1 R0
  go_wp2_with fail
  refine (below H2.out 6 (by decide) (by decide)).mono ?_
  rintro e w2 ⟨m, hm, rfl, k1, k2⟩
  obtain ⟨m, rfl⟩ : ∃ k : Nat, m = (k : Int) := ⟨m.toNat, by omega⟩
  have H3 := Lib.hid (H2.out.next k2 k1)
  have G3 := Lib.hid (Draw.grown_trans G2.out k2)
  have R3 := Lib.hid (row_next R2.out k2 NE.out)
  have hm5 : m ≤ 5 := by omega
  clear k1 k2 H2 G2 R2 hm
  go_wp2_with fail
  go_loopw [3, 4, 5] (fun v tv mv wr => ∃ (zs : List G) (q m : Nat) (t : Int), q + m ≤ 5 ∧ mv = .int .i64 m ∧ tv = .int .i64 t ∧ 0 ≤ t ∧ t ≤ 5 + 9 * q ∧ (∃ gr cc : Nat, v = .slice (some ⟨gr, 0, none⟩) q cc) ∧ Hid (zs.length = q ∧ wd zs = true ∧ ∀ z ∈ zs, z.1 < t) ∧ Hid (wr.ownsRow w.heap.size 57 3 v q (gls zs)) ∧ Hid (Ready wr g A n c bs) ∧ Hid (w.grownBy wr (some g))) (fun _ _ mv _ => (intOf mv).toNat)
  case atStart => exact ⟨[], 0, m, t, by omega, rfl, rfl, ht.1, by omega, ⟨_, _, rfl⟩, Lib.hid ⟨rfl, rfl, fun z hz => by cases hz⟩, R3, H3, G3⟩
  case round =>
    obtain ⟨zs, q, m, t, hqm, rfl, rfl, ht0, ht5, ⟨gr, cc, rfl⟩, ZK, RK, HK, GK⟩ := hrel
    by_cases hm0 : 0 < m
    · have hm0' : (0 : Int) < (m : Int) := by omega
      have hgr := own_base RK.out gr rfl
      have hrl := (RK.out.lt gr rfl).2
      clear ht hm5 R3 H3 G3
      go_wp2_with fail
      refine (driftDraw HK.out).mono ?_
      rintro e w3 ⟨x, y, hxy, rfl, k1, k2⟩
      have H4 := Lib.hid (HK.out.next k2 k1)
      have G4 := Lib.hid (Draw.grown_trans GK.out k2)
      have R4 := row_next RK.out k2 NE.out
      have R5 := R4.alloc (.cells #[.int .i64 t, .int .i64 x, .int .i64 y] 57)
      have ZN := Lib.hid (wd_snoc ZK.out.2.1 ZK.out.2.2 (t := t) (x := x) (y := y) (by omega) (dk_iff.2 (by omega)) (by have := ZK.out.1; omega))
      have SN := Lib.hid (show gls zs ++ [.int .i64 t, .int .i64 x, .int .i64 y] = gls (zs ++ [(t, x, y)]) from gls_snoc zs (t, x, y))
      have hb3 : w.heap.size ≤ w3.heap.size := G4.out.size
      clear k1 k2 hxy HK GK RK R4
      go_wp2_with (
        at_builtin
        refine wpList_append_own _ rfl _ _ 24 rfl w.heap.size 57 i0 (.agg #[.int .i64 0, .int .i64 0, .int .i64 0]) 3 24 Try.underlying24 hi hz0 hz1 hz2 rfl (by decide) _ _ _ rfl R5 ⟨w3.heap.size, 0, none⟩ 1 1 [.int .i64 t, .int .i64 x, .int .i64 y] rfl rfl (by intro j z hj; match j, hj with | 0, hj => (simp at hj; subst hj; simp [Addr.add]) | 1, hj => (simp at hj; subst hj; simp [Addr.add]) | 2, hj => (simp at hj; subst hj; simp [Addr.add])) (by intro z hz; simp at hz; rcases hz with rfl | rfl | rfl <;> rfl) (by unfold maxLen; omega) (by omega) (by simp; omega) ?_
        intro v' w4 hown hgrow hnil
        rw [SN.out] at hown
        obtain ⟨g5, c5, rfl⟩ := own_slice hown
        have R6 := Lib.hid hown
        have H6 := Lib.hid (ready_app (H4.out.alloc (.cells #[.int .i64 t, .int .i64 x, .int .i64 y] 57)) hgrow (Nat.lt_of_lt_of_le NE.out hgr))
        have G6 := Lib.hid (grown_app (Draw.grown_trans G4.out (World.grownBy_alloc _ (.cells #[.int .i64 t, .int .i64 x, .int .i64 y] 57) (some g))) hgrow hgr)
        clear hown hgrow hnil R5 H4 G4)
      go_wp2_with fail
      refine (below H6.out 9 (by decide) (by decide)).mono ?_
      rintro e w5 ⟨d, hd, rfl, k1, k2⟩
      have H7 := Lib.hid (H6.out.next k2 k1)
      have G7 := Lib.hid (Draw.grown_trans G6.out k2)
      have R7 := Lib.hid (row_next R6.out k2 NE.out)
      have e1 : wrap64 (t + 1) = t + 1 := IntWalk.wrap64_in _ (by omega)
      have e2 : wrap64 (t + 1 + d) = t + 1 + d := IntWalk.wrap64_in _ (by omega)
      have e3 : wrap64 ((m : Int) - 1) = ((m - 1 : Nat) : Int) := by rw [IntWalk.wrap64_in _ (by omega)]; omega
      have e4 : (m : Int) - 1 = ((m - 1 : Nat) : Int) := by omega
      have E4 := Lib.hid e4
      have ZM := Lib.hid (show (zs ++ [(t, x, y)]).length = q + 1 ∧ wd (zs ++ [(t, x, y)]) = true ∧ ∀ z ∈ zs ++ [(t, x, y)], z.1 < t + 1 + d from ⟨by rw [List.length_append, ZK.out.1]; rfl, ZN.out, fun z hz => by
        rcases List.mem_append.1 hz with h | h
        · have := ZK.out.2.2 z h; omega
        · rw [List.mem_singleton] at h; subst h; show t < t + 1 + d; omega⟩)
      have hd0 : 0 ≤ t + 1 + d := by omega
      have hd5 : t + 1 + d ≤ 5 + 9 * ((q + 1 : Nat) : Int) := by omega
      clear k1 k2 H6 G6 R6 hd e4
      go_wp2_with fail
      go_roundw
      case rel => exact ⟨zs ++ [(t, x, y)], q + 1, m - 1, t + 1 + d, by omega, by first | rfl | (rw [E4.out]), rfl, hd0, hd5, ⟨_, _, rfl⟩, ZM, R7, H7, G7⟩
      case measure => simp [intOf]; omega
    · have hm0' : ¬ (0 : Int) < (m : Int) := by omega
      clear ht hm5 R3 H3 G3
      go_wp2_with fail
      go_ret
      exact ⟨zs, q, gr, cc, ZK.out.2.1, ZK.out.1, by omega, rfl, RK.out, HK.out.cur, GK.out⟩

/-- What the draw of a wind and two ticks leaves for a law. -/
def DrawnW (w : World) (e : Ending) (w' : World) : Prop :=
  ∃ (zs : List G) (q gr cc a d : Nat), wd zs = true ∧ zs.length = q ∧ q ≤ 5 ∧ a ≤ 39 ∧ d ≤ 39 ∧ e = .returned (.tuple #[.slice (some ⟨gr, 0, none⟩) q cc, .int .i64 (a : Int), .int .i64 ((a : Int) + (d : Int))]) ∧ Rd w' w'.heap.size (some ⟨gr, 0, none⟩) (gls zs) ∧ Below w.heap.size w w'

theorem below_of {w a b : World} {g : Nat} (h : Below w.heap.size w a) (hg : w.heap.size ≤ g) (k : a.grownBy b (some g)) : Below w.heap.size w b :=
  h.grown k h.size (fun q hq => by cases hq; exact hg)

set_option maxHeartbeats 2000000 in
theorem drawWind (w : World) (A : Option Addr) (n c : Nat) (bs : List UInt8) (hn : bs.length = n) (hb : n ≤ 4096) (hr : Rd w w.heap.size A (u8s bs)) :
    Calls Try.prog 16 #[.slice A n c] w (DrawnW w) := by
  have N0 := Lib.hid (new w A n c bs hn hb hr)
  clear hn hb hr
  go_enter Try.func16, Try.ntmps16
  go_wp2_with fail
  refine N0.out.mono ?_
  rintro e w1 ⟨g, rfl, hg, hR, hB⟩
  have R1 := Lib.hid hR
  have B1 := Lib.hid hB
  clear hR hB N0
  go_wp2_with fail
  refine (l4Draw R1.out).mono ?_
  rintro e w2 ⟨zs, q, gr, cc, hw, hl, hq, rfl, ho, k1, k2⟩
  have R2 := Lib.hid (R1.out.next k2 k1)
  have NE := Lib.hid R1.out.cur.lt
  have B2 := Lib.hid (below_of B1.out hg k2)
  have O2 := Lib.hid ho
  have Z := Lib.hid (And.intro hw hl)
  clear k1 k2 ho hw hl R1 B1
  go_wp2_with fail
  refine (below R2.out 40 (by decide) (by decide)).mono ?_
  rintro e w3 ⟨a, ha, rfl, k1, k2⟩
  obtain ⟨a, rfl⟩ : ∃ k : Nat, a = (k : Int) := ⟨a.toNat, by omega⟩
  have R3 := Lib.hid (R2.out.next k2 k1)
  have B3 := Lib.hid (below_of B2.out hg k2)
  have O3 := Lib.hid (row_next O2.out k2 NE.out)
  clear k1 k2 R2 B2 O2
  go_wp2_with fail
  refine (below R3.out 40 (by decide) (by decide)).mono ?_
  rintro e w4 ⟨d, hd, rfl, k1, k2⟩
  obtain ⟨d, rfl⟩ : ∃ k : Nat, d = (k : Int) := ⟨d.toNat, by omega⟩
  have B4 := Lib.hid (below_of B3.out hg k2)
  have O4 := Lib.hid (row_next O3.out k2 NE.out)
  have e1 : wrap64 ((a : Int) + (d : Int)) = (a : Int) + (d : Int) := IntWalk.wrap64_in _ (by omega)
  have ha39 : a ≤ 39 := by omega
  have hd39 : d ≤ 39 := by omega
  clear k1 k2 R3 B3 O3 ha hd
  go_wp2_with fail
  (try simp only [Exit.inBlock, Exit.then])
  refine bodyPost_ret (v := .tuple #[.slice (some ⟨gr, 0, none⟩) q cc, .int .i64 (a : Int), .int .i64 ((a : Int) + (d : Int))]) (by simp [results, Try.results16, go_sem, e1]; try rfl) rfl ?_
  exact ⟨zs, q, gr, cc, a, d, Z.out.1, Z.out.2, hq, ha39, hd39, rfl, Rd.own O4.out, B4.out⟩

end Go.Proofs.Ytknanaapaipoeaa.Dw
