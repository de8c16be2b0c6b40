/- The draws of winds that may be none. -/
import Derived.Test.YtknanaapaipoeaaDw
namespace Go.Proofs.Ytknanaapaipoeaa.Dz
open Go.RowKit Go.Proofs.Ytknanaapaipoeaa.Mem Go.Proofs.Ytknanaapaipoeaa.Rw Go.Proofs.Ytknanaapaipoeaa.Bk Go.Proofs.Ytknanaapaipoeaa.Cx Go.Proofs.Ytknanaapaipoeaa.Cm Go.Proofs.Ytknanaapaipoeaa.Jt Go.Proofs.Ytknanaapaipoeaa.Pl Go.Proofs.Ytknanaapaipoeaa.Str Go.Proofs.Ytknanaapaipoeaa.Pw Go.Proofs.Ytknanaapaipoeaa.P2 Go.Proofs.Ytknanaapaipoeaa.Gs Go.Proofs.Ytknanaapaipoeaa.Wm Go.Proofs.Ytknanaapaipoeaa.Wi Go.Proofs.Ytknanaapaipoeaa.Wa Go.Proofs.Ytknanaapaipoeaa.Dw
open Go.Proofs.Ytknanaapaipoeaa.Draw (Cur Ready Got GotB u8s below once some_ odd pick cells_at new Fresh wf_of_small odds)
open Go.Proofs.Ytknanaapaipoeaa.Dr2 (wf l2Turns)
set_option linter.unusedVariables false
set_option linter.unusedSimpArgs false

theorem own_cap {w : World} {base g n c : Nat} {e : TypeId} {s : Nat} {xs : List Value} (h : w.ownsRow base e s (.slice (some ⟨g, 0, none⟩) n c) n xs) : n ≤ c := by
  rcases h.2 with ⟨h0, _⟩ | ⟨g', cap, cur, e1, _, _, hle, _⟩
  · cases h0
  · injection e1 with e1 e2 e3; omega
theorem own_cut {w : World} {base g n c m : Nat} {e : TypeId} {s : Nat} {xs : List Value} (h : w.ownsRow base e s (.slice (some ⟨g, 0, none⟩) n c) n xs) (hm : m ≤ n) : w.ownsRow base e s (.slice (some ⟨g, 0, none⟩) m c) m (xs.take (m * s)) := by
  rcases h.2 with ⟨h0, _⟩ | ⟨g', cap, cur, e1, h1, h2, hle, h4, h5, h6⟩
  · cases h0
  · injection e1 with e1 e2 e3
    injection e1 with e1
    injection e1 with e1
    subst e1 e3
    have hms : m * s ≤ n * s := Nat.mul_le_mul_right s hm
    refine ⟨by rw [List.length_take, h.1]; omega, .inr ⟨g, c, cur, rfl, h1, h2, by omega, h4, h5, ?_⟩⟩
    rw [← h6, List.take_take, Nat.min_eq_left hms]
theorem gls_take : ∀ (zs : List G) (m : Nat), (gls zs).take (m * 3) = gls (zs.take m)
  | [], m => by simp [gls]
  | z :: zs, 0 => by simp [gls]
  | z :: zs, m + 1 => by
    have := gls_take zs m
    show (.int .i64 z.1 :: .int .i64 z.2.1 :: .int .i64 z.2.2 :: gls zs : List Value).take ((m + 1) * 3) = .int .i64 z.1 :: .int .i64 z.2.1 :: .int .i64 z.2.2 :: gls (zs.take m)
    rw [show (m + 1) * 3 = m * 3 + 1 + 1 + 1 by omega, List.take_succ_cons, List.take_succ_cons, List.take_succ_cons, this]

/-- What the draw of a list of gusts leaves. -/
def GotY (w : World) (g : Nat) (A : Option Addr) (n c : Nat) (e : Ending) (w' : World) : Prop :=
  ∃ (zs : List G) (q gr cc : Nat), zs.length = q ∧ q ≤ 9 ∧ e = .returned (.slice (some ⟨gr, 0, none⟩) q cc) ∧ w'.ownsRow w.heap.size 57 3 (.slice (some ⟨gr, 0, none⟩) q cc) q (gls zs) ∧ Cur w' g A n c ∧ w.grownBy w' (some g)

def eights : List Int := [8, 9, -8, -9]
def ends : List Int := [8, 9]

set_option maxRecDepth 100000 in
set_option maxHeartbeats 4000000 in
theorem l4Any {w : World} {g n c : Nat} {A : Option Addr} {bs : List UInt8} (h : Ready w g A n c bs) :
    Calls Try.prog 61 #[.pointer (some ⟨g, 0, none⟩)] w (GotY w g A n c) := by
  obtain ⟨i0, hi, hz0, hz1, hz2⟩ := info_of infoGust
  have H0 := Lib.hid h
  have NE := Lib.hid h.cur.lt
  clear h
  go_enter Try.func61, Try.ntmps61
  go_wp2_with fail
  refine (l4Draw H0.out).mono ?_
  rintro e w1 ⟨zs, q, gr, cc, hw, hl, hq, rfl, ho, k1, k2⟩
  have H1 := Lib.hid (H0.out.next k2 k1)
  have G1 := Lib.hid k2
  have R1 := Lib.hid ho
  have ZL := Lib.hid hl
  clear k1 k2 ho hw hl H0
  go_wp2_with fail
  refine (below H1.out 12 (by decide) (by decide)).mono ?_
  rintro e w2 ⟨x, hx, rfl, k1, k2⟩
  have H2 := Lib.hid (H1.out.next k2 k1)
  have G2 := Lib.hid (Draw.grown_trans G1.out k2)
  have R2 := Lib.hid (row_next R1.out k2 NE.out)
  have hgr := own_base R2.out gr rfl
  have hrl := (R2.out.lt gr rfl).2
  clear k1 k2 H1 G1 R1
  have hc : x = 0 ∨ x = 1 ∨ x = 2 ∨ 2 < x := by omega
  rcases hc with rfl | rfl | rfl | hx2
  · clear hx
    go_wp2_with fail
    refine (odd H2.out).mono ?_
    rintro e w3 ⟨f, hf, rfl, k1, k2⟩
    have H3 := Lib.hid (H2.out.next k2 k1)
    have G3 := Lib.hid (Draw.grown_trans G2.out k2)
    have R3 := Lib.hid (row_next R2.out k2 NE.out)
    clear k1 k2 hf H2 G2 R2
    go_wp2_with fail
    refine (driftDraw H3.out).mono ?_
    rintro e w4 ⟨x, y, hxy, rfl, k1, k2⟩
    have H4 := Lib.hid (H3.out.next k2 k1)
    have G4 := Lib.hid (Draw.grown_trans G3.out k2)
    have R4 := Lib.hid (row_next R3.out k2 NE.out)
    clear k1 k2 hxy H3 G3 R3
    have R5 := R4.out.alloc (.cells #[.int .i64 f, .int .i64 x, .int .i64 y] 57)
    have hb3 : w.heap.size ≤ w4.heap.size := G4.out.size
    go_wp2_with (
      at_builtin
      refine wpList_append_own _ rfl _ _ 24 rfl w.heap.size 57 i0 (.agg #[.int .i64 0, .int .i64 0, .int .i64 0]) 3 24 Try.underlying24 hi hz0 hz1 hz2 rfl (by decide) _ _ _ rfl R5 ⟨w4.heap.size, 0, none⟩ 1 1 [.int .i64 f, .int .i64 x, .int .i64 y] rfl rfl (by intro j z hj; match j, hj with | 0, hj => (simp at hj; subst hj; simp [Addr.add]) | 1, hj => (simp at hj; subst hj; simp [Addr.add]) | 2, hj => (simp at hj; subst hj; simp [Addr.add])) (by intro z hz; simp at hz; rcases hz with rfl | rfl | rfl <;> rfl) (by unfold maxLen; omega) (by omega) (by simp; omega) ?_
      intro v' w9 hown hgrow hnil
      rw [show gls zs ++ [.int .i64 f, .int .i64 x, .int .i64 y] = gls (zs ++ [(f, x, y)]) from gls_snoc zs (f, x, y)] at hown
      obtain ⟨g5, c5, rfl⟩ := own_slice hown
      have R6 := Lib.hid hown
      have H6 := Lib.hid (ready_app (H4.out.alloc (.cells #[.int .i64 f, .int .i64 x, .int .i64 y] 57)) hgrow (Nat.lt_of_lt_of_le NE.out hgr))
      have G6 := Lib.hid (grown_app (Draw.grown_trans G4.out (World.grownBy_alloc _ (.cells #[.int .i64 f, .int .i64 x, .int .i64 y] 57) (some g))) hgrow hgr)
      clear hown hgrow hnil R5)
    go_wp2_with fail
    go_ret
    exact ⟨zs ++ [(f, x, y)], q + 1, g5, c5, by rw [List.length_append, ZL.out]; rfl, by omega, rfl, R6.out, H6.out.cur, G6.out⟩
  · clear hx
    have hlt2 := H2.out.cur.lt
    have P := pick (H2.out.alloc (.cells (ints eights).toArray 3)) w2.heap.size 0 4 eights (by omega) (by decide) (by decide) (cells_at w2 eights 3)
    have P := Lib.hid P
    clear hlt2
    go_wp2_with fail
    refine P.out.mono ?_
    rintro e w3 ⟨x, hx, rfl, k1, k2⟩
    have H3 := Lib.hid ((H2.out.alloc (.cells (ints eights).toArray 3)).next k2 k1)
    have G3 := Lib.hid (Draw.grown_trans (Draw.grown_trans G2.out (World.grownBy_alloc _ (.cells (ints eights).toArray 3) (some g))) k2)
    have R3 := Lib.hid (row_next (R2.out.alloc (.cells (ints eights).toArray 3)) k2 NE.out)
    clear k1 k2 hx H2 G2 R2 P
    have R5 := R3.out.alloc (.cells #[.int .i64 64, .int .i64 x, .int .i64 1] 57)
    have hb3 : w.heap.size ≤ w3.heap.size := G3.out.size
    go_wp2_with (
      at_builtin
      refine wpList_append_own _ rfl _ _ 24 rfl w.heap.size 57 i0 (.agg #[.int .i64 0, .int .i64 0, .int .i64 0]) 3 24 Try.underlying24 hi hz0 hz1 hz2 rfl (by decide) _ _ _ rfl R5 ⟨w3.heap.size, 0, none⟩ 1 1 [.int .i64 64, .int .i64 x, .int .i64 1] rfl rfl (by intro j z hj; match j, hj with | 0, hj => (simp at hj; subst hj; simp [Addr.add]) | 1, hj => (simp at hj; subst hj; simp [Addr.add]) | 2, hj => (simp at hj; subst hj; simp [Addr.add])) (by intro z hz; simp at hz; rcases hz with rfl | rfl | rfl <;> rfl) (by unfold maxLen; omega) (by omega) (by simp; omega) ?_
      intro v' w9 hown hgrow hnil
      rw [show gls zs ++ [.int .i64 64, .int .i64 x, .int .i64 1] = gls (zs ++ [(64, x, 1)]) from gls_snoc zs (64, x, 1)] at hown
      obtain ⟨g5, c5, rfl⟩ := own_slice hown
      have R6 := Lib.hid hown
      have H6 := Lib.hid (ready_app (H3.out.alloc (.cells #[.int .i64 64, .int .i64 x, .int .i64 1] 57)) hgrow (Nat.lt_of_lt_of_le NE.out hgr))
      have G6 := Lib.hid (grown_app (Draw.grown_trans G3.out (World.grownBy_alloc _ (.cells #[.int .i64 64, .int .i64 x, .int .i64 1] 57) (some g))) hgrow hgr)
      clear hown hgrow hnil R5)
    go_wp2_with fail
    go_ret
    exact ⟨zs ++ [(64, x, 1)], q + 1, g5, c5, by rw [List.length_append, ZL.out]; rfl, by omega, rfl, R6.out, H6.out.cur, G6.out⟩
  · clear hx
    go_wp2_with fail
    go_loopw [3, 4] (fun v iv wr => ∃ (zs : List G) (i : Nat), i ≤ 9 ∧ iv = .int .i64 i ∧ (∃ gr cc : Nat, v = .slice (some ⟨gr, 0, none⟩) i cc) ∧ Hid (zs.length = i) ∧ Hid (wr.ownsRow w.heap.size 57 3 v i (gls zs)) ∧ Hid (Ready wr g A n c bs) ∧ Hid (w.grownBy wr (some g))) (fun _ iv _ => 9 - (intOf iv).toNat)
    case atStart => exact ⟨zs, q, by omega, rfl, ⟨_, _, rfl⟩, ZL, R2, H2, G2⟩
    case round =>
      clear ZL R2 H2 G2 hgr hrl
      obtain ⟨zs, i, hi9, rfl, ⟨gr, cc, rfl⟩, ZL, RK, HK, GK⟩ := hrel
      have hgr := own_base RK.out gr rfl
      by_cases hlt : i < 9
      · have hlt' : (i : Int) < 9 := by omega
        have e1 : wrap64 (50 + (i : Int)) = 50 + (i : Int) := IntWalk.wrap64_in _ (by omega)
        go_wp2_with fail
        refine (driftDraw HK.out).mono ?_
        rintro e w4 ⟨x, y, hxy, rfl, k1, k2⟩
        have H4 := Lib.hid (HK.out.next k2 k1)
        have G4 := Lib.hid (Draw.grown_trans GK.out k2)
        have R4 := Lib.hid (row_next RK.out k2 NE.out)
        obtain ⟨f, hf⟩ : ∃ f, 50 + (i : Int) = f := ⟨_, rfl⟩
        rw [hf] at e1
        (try rw [hf])
        clear k1 k2 hxy HK GK RK
        have R5 := R4.out.alloc (.cells #[.int .i64 f, .int .i64 x, .int .i64 y] 57)
        have hb3 : w.heap.size ≤ w4.heap.size := G4.out.size
        go_wp2_with (
          at_builtin
          refine wpList_append_own _ rfl _ _ 24 rfl w.heap.size 57 i0 (.agg #[.int .i64 0, .int .i64 0, .int .i64 0]) 3 24 Try.underlying24 hi hz0 hz1 hz2 rfl (by decide) _ _ _ rfl R5 ⟨w4.heap.size, 0, none⟩ 1 1 [.int .i64 f, .int .i64 x, .int .i64 y] rfl rfl (by intro j z hj; match j, hj with | 0, hj => (simp at hj; subst hj; simp [Addr.add]) | 1, hj => (simp at hj; subst hj; simp [Addr.add]) | 2, hj => (simp at hj; subst hj; simp [Addr.add])) (by intro z hz; simp at hz; rcases hz with rfl | rfl | rfl <;> rfl) (by unfold maxLen; omega) (by omega) (by simp; omega) ?_
          intro v' w9 hown hgrow hnil
          rw [show gls zs ++ [.int .i64 f, .int .i64 x, .int .i64 y] = gls (zs ++ [(f, x, y)]) from gls_snoc zs (f, x, y)] at hown
          obtain ⟨g5, c5, rfl⟩ := own_slice hown
          have R6 := Lib.hid hown
          have H6 := Lib.hid (ready_app (H4.out.alloc (.cells #[.int .i64 f, .int .i64 x, .int .i64 y] 57)) hgrow (Nat.lt_of_lt_of_le NE.out hgr))
          have G6 := Lib.hid (grown_app (Draw.grown_trans G4.out (World.grownBy_alloc _ (.cells #[.int .i64 f, .int .i64 x, .int .i64 y] 57) (some g))) hgrow hgr)
          clear hown hgrow hnil R5)
        have ZN := Lib.hid (show (zs ++ [(f, x, y)]).length = i + 1 by rw [List.length_append, ZL.out]; rfl)
        clear e1 hf
        go_wp2_with fail
        go_roundw
        case rel => exact ⟨zs ++ [(f, x, y)], i + 1, by omega, by go_num, ⟨_, _, rfl⟩, ZN, R6, H6, G6⟩
        case measure => simp [intOf]; omega
      · obtain rfl : i = 9 := by omega
        have hcap := own_cap RK.out
        have hlt2 := HK.out.cur.lt
        have P := Lib.hid (pick (HK.out.alloc (.cells (ints ends).toArray 3)) wr.heap.size 0 2 ends (by omega) (by decide) (by decide) (cells_at wr ends 3))
        clear hlt2
        go_wp2_with fail
        refine P.out.mono ?_
        rintro e w3 ⟨x, hx, rfl, k1, k2⟩
        have H3 := Lib.hid ((HK.out.alloc (.cells (ints ends).toArray 3)).next k2 k1)
        have G3 := Lib.hid (Draw.grown_trans (Draw.grown_trans GK.out (World.grownBy_alloc _ (.cells (ints ends).toArray 3) (some g))) k2)
        have R3 := row_next (RK.out.alloc (.cells (ints ends).toArray 3)) k2 NE.out
        have hx' : x = 8 ∨ x = 9 := by
          unfold ends at hx
          simpa using hx
        have hc8 : (8 : Int) ≤ (cc : Int) := by omega
        have hc9 : (9 : Int) ≤ (cc : Int) := by omega
        clear k1 k2 HK GK RK P hx
        rcases hx' with rfl | rfl
        · have R8 := own_cut R3 (m := 8) (by omega)
          rw [gls_take] at R8
          have R8 := Lib.hid R8
          clear R3
          go_wp2_with fail
          go_ret
          exact ⟨zs.take 8, 8, gr, cc, by rw [List.length_take, ZL.out]; rfl, by omega, by rfl, R8.out, H3.out.cur, G3.out⟩
        · have R9 := Lib.hid R3
          clear R3
          go_wp2_with fail
          go_ret
          exact ⟨zs, 9, gr, cc, ZL.out, by omega, by rfl, R9.out, H3.out.cur, G3.out⟩
  · have e0 : (x == 0) = false := by simp; omega
    have e1 : (x == 1) = false := by simp; omega
    have e2 : (x == 2) = false := by simp; omega
    clear hx hx2
    go_wp2_with fail
    go_ret
    exact ⟨zs, q, gr, cc, ZL.out, by omega, rfl, R2.out, H2.out.cur, G2.out⟩

set_option maxHeartbeats 1000000 in
theorem l3Tick {w : World} {g n c : Nat} {A : Option Addr} {bs : List UInt8} (h : Ready w g A n c bs) :
    Calls Try.prog 68 #[.pointer (some ⟨g, 0, none⟩)] w (Got wf w g A n c) := by
  have H1 := Lib.hid h
  clear h
  go_enter Try.func68, Try.ntmps68
  go_wp2_with fail
  refine (once H1.out 8 (by decide) (by decide)).mono ?_
  rintro e w1 ⟨q, rfl, k1, k2⟩
  have R1 := Lib.hid (H1.out.next k2 k1)
  have G1 := Lib.hid k2
  clear k1 k2 H1
  cases q
  · go_wp2_with fail
    refine (below R1.out 36 (by decide) (by decide)).mono ?_
    rintro e w2 ⟨y, ⟨y1, y2⟩, rfl, k1, k2⟩
    have G2 := Lib.hid (And.intro k1 (Draw.grown_trans G1.out k2))
    have Y := Lib.hid (show wf y from wf_of_small (by omega) (by omega))
    clear k1 k2 y1 y2 R1 G1
    go_wp2_with fail
    go_returns
    exact ⟨_, Y.out, rfl, G2.out.1, G2.out.2⟩
  · go_wp2_with fail
    refine (odd R1.out).mono ?_
    rintro e w2 ⟨y, hy, rfl, k1, k2⟩
    have G2 := Lib.hid (And.intro k1 (Draw.grown_trans G1.out k2))
    have Y := Lib.hid hy
    clear k1 k2 hy R1 G1
    go_wp2_with fail
    go_returns
    exact ⟨_, Y.out, rfl, G2.out.1, G2.out.2⟩

/-- What the draw of a list of gusts and a number leaves for a law. -/
def DrawnY (w : World) (e : Ending) (w' : World) : Prop :=
  ∃ (zs : List G) (q gr cc : Nat) (t : Int), zs.length = q ∧ q ≤ 9 ∧ wf t ∧ e = .returned (.tuple #[.slice (some ⟨gr, 0, none⟩) q cc, .int .i64 t]) ∧ Rd w' w'.heap.size (some ⟨gr, 0, none⟩) (gls zs) ∧ Below w.heap.size w w'

set_option maxHeartbeats 2000000 in
theorem drawTurnWind (w : World) (A : Option Addr) (n c : Nat) (bs : List UInt8) (hn : bs.length = n) (hb : n ≤ 4096) (hr : Rd w w.heap.size A (u8s bs)) :
    Calls Try.prog 31 #[.slice A n c] w (DrawnY w) := by
  have N0 := Lib.hid (new w A n c bs hn hb hr)
  clear hn hb hr
  go_enter Try.func31, Try.ntmps31
  go_wp2_with fail
  refine N0.out.mono ?_
  rintro e w1 ⟨g, rfl, hg, hR, hB⟩
  have R1 := Lib.hid hR
  have B1 := Lib.hid hB
  clear hR hB N0
  go_wp2_with fail
  refine (l4Any R1.out).mono ?_
  rintro e w2 ⟨zs, q, gr, cc, hl, hq, rfl, ho, k1, k2⟩
  have R2 := Lib.hid (R1.out.next k2 k1)
  have NE := Lib.hid R1.out.cur.lt
  have B2 := Lib.hid (below_of B1.out hg k2)
  have O2 := Lib.hid ho
  have Z := Lib.hid hl
  clear k1 k2 ho hl R1 B1
  go_wp2_with fail
  refine (l2Turns R2.out).mono ?_
  rintro e w3 ⟨t, ht, rfl, k1, k2⟩
  have B3 := Lib.hid (below_of B2.out hg k2)
  have O3 := Lib.hid (row_next O2.out k2 NE.out)
  have T := Lib.hid ht
  clear k1 k2 R2 B2 O2 ht
  go_wp2_with fail
  (try simp only [Exit.inBlock, Exit.then])
  refine bodyPost_ret (v := .tuple #[.slice (some ⟨gr, 0, none⟩) q cc, .int .i64 t]) (by simp [results, Try.results31, go_sem]; try rfl) rfl ?_
  exact ⟨zs, q, gr, cc, t, Z.out, hq, T.out, rfl, Rd.own O3.out, B3.out⟩

set_option maxHeartbeats 2000000 in
theorem drawLaterWind (w : World) (A : Option Addr) (n c : Nat) (bs : List UInt8) (hn : bs.length = n) (hb : n ≤ 4096) (hr : Rd w w.heap.size A (u8s bs)) :
    Calls Try.prog 25 #[.slice A n c] w (DrawnY w) := by
  have N0 := Lib.hid (new w A n c bs hn hb hr)
  clear hn hb hr
  go_enter Try.func25, Try.ntmps25
  go_wp2_with fail
  refine N0.out.mono ?_
  rintro e w1 ⟨g, rfl, hg, hR, hB⟩
  have R1 := Lib.hid hR
  have B1 := Lib.hid hB
  clear hR hB N0
  go_wp2_with fail
  refine (l4Any R1.out).mono ?_
  rintro e w2 ⟨zs, q, gr, cc, hl, hq, rfl, ho, k1, k2⟩
  have R2 := Lib.hid (R1.out.next k2 k1)
  have NE := Lib.hid R1.out.cur.lt
  have B2 := Lib.hid (below_of B1.out hg k2)
  have O2 := Lib.hid ho
  have Z := Lib.hid hl
  clear k1 k2 ho hl R1 B1
  go_wp2_with fail
  refine (l3Tick R2.out).mono ?_
  rintro e w3 ⟨t, ht, rfl, k1, k2⟩
  have B3 := Lib.hid (below_of B2.out hg k2)
  have O3 := Lib.hid (row_next O2.out k2 NE.out)
  have T := Lib.hid ht
  clear k1 k2 R2 B2 O2 ht
  go_wp2_with fail
  (try simp only [Exit.inBlock, Exit.then])
  refine bodyPost_ret (v := .tuple #[.slice (some ⟨gr, 0, none⟩) q cc, .int .i64 t]) (by simp [results, Try.results25, go_sem]; try rfl) rfl ?_
  exact ⟨zs, q, gr, cc, t, Z.out, hq, T.out, rfl, Rd.own O3.out, B3.out⟩

/-- What the draw of two lists of gusts and a number leaves for a law. -/
def DrawnY2 (w : World) (e : Ending) (w' : World) : Prop :=
  ∃ (zs xs : List G) (q gr cc p hr dd : Nat) (t : Int), zs.length = q ∧ q ≤ 9 ∧ xs.length = p ∧ p ≤ 9 ∧ wf t ∧ e = .returned (.tuple #[.slice (some ⟨gr, 0, none⟩) q cc, .slice (some ⟨hr, 0, none⟩) p dd, .int .i64 t]) ∧ Rd w' w'.heap.size (some ⟨gr, 0, none⟩) (gls zs) ∧ Rd w' w'.heap.size (some ⟨hr, 0, none⟩) (gls xs) ∧ Below w.heap.size w w'

set_option maxHeartbeats 2000000 in
theorem drawJoinWinds (w : World) (A : Option Addr) (n c : Nat) (bs : List UInt8) (hn : bs.length = n) (hb : n ≤ 4096) (hr : Rd w w.heap.size A (u8s bs)) :
    Calls Try.prog 28 #[.slice A n c] w (DrawnY2 w) := by
  have N0 := Lib.hid (new w A n c bs hn hb hr)
  clear hn hb hr
  go_enter Try.func28, Try.ntmps28
  go_wp2_with fail
  refine N0.out.mono ?_
  rintro e w1 ⟨g, rfl, hg, hR, hB⟩
  have R1 := Lib.hid hR
  have B1 := Lib.hid hB
  clear hR hB N0
  go_wp2_with fail
  refine (l4Any R1.out).mono ?_
  rintro e w2 ⟨zs, q, gr, cc, hl, hq, rfl, ho, k1, k2⟩
  have R2 := Lib.hid (R1.out.next k2 k1)
  have NE := Lib.hid R1.out.cur.lt
  have B2 := Lib.hid (below_of B1.out hg k2)
  have O2 := Lib.hid ho
  have Z := Lib.hid hl
  clear k1 k2 ho hl B1
  go_wp2_with fail
  refine (l4Any R2.out).mono ?_
  rintro e w3 ⟨xs, p, hr, dd, hl, hp, rfl, ho, k1, k2⟩
  have R3 := Lib.hid (R2.out.next k2 k1)
  have NE2 := Lib.hid R2.out.cur.lt
  have B3 := Lib.hid (below_of B2.out hg k2)
  have O3 := Lib.hid (row_next O2.out k2 NE.out)
  have Q3 := Lib.hid ho
  have X := Lib.hid hl
  clear k1 k2 ho hl R2 B2 O2
  go_wp2_with fail
  refine (l3Tick R3.out).mono ?_
  rintro e w4 ⟨t, ht, rfl, k1, k2⟩
  have B4 := Lib.hid (below_of B3.out hg k2)
  have O4 := Lib.hid (row_next O3.out k2 NE.out)
  have Q4 := Lib.hid (row_next Q3.out k2 NE2.out)
  have T := Lib.hid ht
  clear k1 k2 R3 B3 O3 Q3 ht R1
  go_wp2_with fail
  (try simp only [Exit.inBlock, Exit.then])
  refine bodyPost_ret (v := .tuple #[.slice (some ⟨gr, 0, none⟩) q cc, .slice (some ⟨hr, 0, none⟩) p dd, .int .i64 t]) (by simp [results, Try.results28, go_sem]; try rfl) rfl ?_
  exact ⟨zs, xs, q, gr, cc, p, hr, dd, t, Z.out, hq, X.out, hp, T.out, rfl, Rd.own O4.out, Rd.own Q4.out, B4.out⟩

/-- What the draw of a list of gusts leaves for a law. -/
def DrawnN (w : World) (e : Ending) (w' : World) : Prop :=
  ∃ (zs : List G) (q gr cc : Nat), zs.length = q ∧ q ≤ 9 ∧ e = .returned (.slice (some ⟨gr, 0, none⟩) q cc) ∧ Rd w' w'.heap.size (some ⟨gr, 0, none⟩) (gls zs) ∧ Below w.heap.size w w'
theorem gls_put : ∀ (zs : List G) (k : Nat) (z : G) (p : Int × Int), zs[k]? = some z → ((gls zs).set (k * 3 + 1) (.int .i64 p.1)).set (k * 3 + 1 + 1) (.int .i64 p.2) = gls (zs.set k (z.1, p))
  | [], k, z, p, h => by simp at h
  | q :: zs, 0, z, p, h => by
    have : q = z := by simpa using h
    subst this; rfl
  | q :: zs, k + 1, z, p, h => by
    have h : zs[k]? = some z := by simpa using h
    have := gls_put zs k z p h
    show ((.int .i64 q.1 :: .int .i64 q.2.1 :: .int .i64 q.2.2 :: gls zs : List Value).set ((k + 1) * 3 + 1) (.int .i64 p.1)).set ((k + 1) * 3 + 1 + 1) (.int .i64 p.2) = .int .i64 q.1 :: .int .i64 q.2.1 :: .int .i64 q.2.2 :: gls (zs.set k (z.1, p))
    rw [show (k + 1) * 3 + 1 = k * 3 + 1 + 1 + 1 + 1 by omega]
    simp only [List.set_cons_succ]
    rw [this]

set_option maxRecDepth 100000 in
set_option maxHeartbeats 2000000 in
theorem drawNormalWind (w : World) (A : Option Addr) (n c : Nat) (bs : List UInt8) (hn : bs.length = n) (hb : n ≤ 4096) (hr : Rd w w.heap.size A (u8s bs)) :
    Calls Try.prog 20 #[.slice A n c] w (DrawnN w) := by
  have N0 := Lib.hid (new w A n c bs hn hb hr)
  clear hn hb hr
  go_enter Try.func20, Try.ntmps20
  go_wp2_with fail
  refine N0.out.mono ?_
  rintro e w1 ⟨g, rfl, hg, hR, hB⟩
  have R1 := Lib.hid hR
  have B1 := Lib.hid hB
  clear hR hB N0
  go_wp2_with fail
  refine (l4Any R1.out).mono ?_
  rintro e w2 ⟨zs, q, gr, cc, hl, hq, rfl, ho, k1, k2⟩
  have R2 := Lib.hid (R1.out.next k2 k1)
  have NE := Lib.hid R1.out.cur.lt
  have B2 := Lib.hid (below_of B1.out hg k2)
  have O2 := Lib.hid ho
  have Z := Lib.hid hl
  have hgr := own_base ho gr rfl
  clear k1 k2 ho hl R1
  go_wp2_with fail
  go_loopw [5] (fun iv wr => ∃ (zs : List G) (i : Nat), 1 ≤ i ∧ i ≤ q + 1 ∧ iv = .int .i64 i ∧ Hid (zs.length = q) ∧ Hid (wr.ownsRow w1.heap.size 57 3 (.slice (some ⟨gr, 0, none⟩) q cc) q (gls zs)) ∧ Hid (Ready wr g A n c bs) ∧ Hid (Below w.heap.size w wr)) (fun iv _ => q + 1 - (intOf iv).toNat)
  case atStart => exact ⟨zs, 1, by omega, by omega, rfl, Z, O2, R2, B2⟩
  case round =>
    clear Z O2 R2 B2
    obtain ⟨zs, i, hi1, hiq, rfl, ZL, RK, HK, BK⟩ := hrel
    by_cases hlt : i < q
    · have hlt' : (i : Int) < (q : Int) := by omega
      go_wp2_with fail
      refine (once HK.out 3 (by decide) (by decide)).mono ?_
      rintro e w3 ⟨r, rfl, k1, k2⟩
      have H3 := Lib.hid (HK.out.next k2 k1)
      have B3 := Lib.hid (below_of BK.out hg k2)
      have R3 := Lib.hid (row_next RK.out k2 NE.out)
      clear k1 k2 HK BK RK
      cases r
      · go_wp2_with fail
        go_roundw
        case rel => exact ⟨zs, i + 1, by omega, by omega, by go_num, ZL, R3, H3, B3⟩
        case measure => simp [intOf]; omega
      · obtain ⟨z, hz⟩ : ∃ z, zs[i]? = some z := ⟨_, List.getElem?_eq_getElem (by rw [ZL.out]; exact hlt)⟩
        obtain ⟨p, hp⟩ : ∃ p, zs[i - 1]? = some p := ⟨_, List.getElem?_eq_getElem (by rw [ZL.out]; omega)⟩
        obtain ⟨y0, y1, y2⟩ := gls_get hz
        obtain ⟨x0, x1, x2⟩ := gls_get hp
        obtain ⟨j, hj⟩ : ∃ j, i - 1 = j := ⟨_, rfl⟩
        rw [hj] at x1 x2
        have e1 : wrap64 ((i : Int) - 1) = (j : Int) := by rw [IntWalk.wrap64_in _ (by omega)]; omega
        have e2 : IntKind.i64.wrap ((i : Int) - 1) = (j : Int) := by rw [IntWalk.i64_in _ (by omega)]; omega
        have hjq : (j : Int) < (q : Int) := by omega
        have c1 := (R3.out.cellAt (j * 3 + 1) (by omega)).trans x1
        have c2 := (R3.out.cellAt (j * 3 + 2) (by omega)).trans x2
        have c3 := (R3.out.cellAt (i * 3 + 1) (by omega)).trans y1
        have c4 := (R3.out.cellAt (i * 3 + 2) (by omega)).trans y2
        have f1 := R3.out.frozenAt (i * 3 + 1)
        have f2 := R3.out.frozenAt (i * 3 + 2)
        obtain ⟨r1, g1⟩ := R3.out.stored (i * 3 + 1) (.int .i64 p.2.1)
        obtain ⟨r2, g2⟩ := r1.stored (i * 3 + 1 + 1) (.int .i64 p.2.2)
        rw [gls_put zs i z p.2 hz] at r2
        have RR := Lib.hid r2
        have hgl : g < gr := Nat.lt_of_lt_of_le NE.out hgr
        have HH := Lib.hid (ready_app (ready_app H3.out g1 hgl) g2 hgl)
        have wgr : w.heap.size ≤ gr := by omega
        have BB := Lib.hid ((B3.out.grown g1 B3.out.size (fun q hq => by cases hq; exact wgr)).grown g2 (Nat.le_trans B3.out.size g1.size) (fun q hq => by cases hq; exact wgr))
        have ZZ := Lib.hid (show (zs.set i (z.1, p.2)).length = q by rw [List.length_set]; exact ZL.out)
        obtain ⟨pf, px, py⟩ := p
        simp only at c1 c2
        clear r1 r2 g1 g2 hz hp y0 y1 y2 x0 x1 x2 R3 H3 B3 hj
        go_wp2_with fail
        go_roundw
        case rel => exact ⟨zs.set i (z.1, px, py), i + 1, by omega, by omega, by go_num, ZZ, RR, HH, BB⟩
        case measure => simp [intOf]; omega
    · have hlt' : ¬ (i : Int) < (q : Int) := by omega
      go_wp2_with fail
      go_ret
      exact ⟨zs, q, gr, cc, ZL.out, hq, rfl, Rd.own RK.out, BK.out⟩

end Go.Proofs.Ytknanaapaipoeaa.Dz
