/- The draws of demands and of a supply: some numbers; nothing but the cursor is written. -/
import Derived.Test.YthlcmcpfpblmaaaWp
import Derived.Test.YthlcmcpfpblmaaaDrawW
import Derived.IntWalk
namespace Go.Proofs.Ythlcmcpfpblmaaa.Dq
open Go.RowKit Go.Proofs.Ythlcmcpfpblmaaa.Mem Go.Proofs.Ythlcmcpfpblmaaa.Rw Go.Proofs.Ythlcmcpfpblmaaa.Wp
open Go.Proofs.Ythlcmcpfpblmaaa.Draw (Cur Ready Got GotB u8s below once odd pick cells_at new Fresh)
set_option linter.unusedVariables false
set_option linter.unusedSimpArgs false

theorem grown_app {w a b : World} {r : Option Nat} {gr : Nat} (h : w.grownBy a r) (k : a.grownBy b (some gr)) (hg : w.heap.size ≤ gr) : w.grownBy b r :=
  ⟨k.os.trans h.os, k.tape.trans h.tape, k.output.trans h.output, Nat.le_trans h.size k.size, fun i hi hr => (k.block i (Nat.lt_of_lt_of_le hi h.size) (fun e => by have e := Option.some.inj e; omega)).trans (h.block i hi hr)⟩
theorem ready_app {a b : World} {g n c gr : Nat} {A : Option Addr} {bs : List UInt8} (h : Ready a g A n c bs) (k : a.grownBy b (some gr)) (hg : g < gr) : Ready b g A n c bs :=
  ⟨h.len, h.max, rd_grown h.rd k (Nat.le_of_lt h.cur.lt) (fun q hq => by cases hq; omega), h.cur.kept (k.block g h.cur.lt (fun e => by have e := Option.some.inj e; omega))⟩
/-- A row is as it was where the cursor alone is written. -/
theorem row_next {a b : World} {base g gr q c : Nat} {e : TypeId} {s : Nat} {xs : List Value} (h : a.ownsRow base e s (.slice (some ⟨gr, 0, none⟩) q c) q xs) (k : a.grownBy b (some g)) (hg : g < base) : b.ownsRow base e s (.slice (some ⟨gr, 0, none⟩) q c) q xs :=
  owns_grown h k (fun i hi => by cases hi; intro e; have e : g = gr := Option.some.inj e; have h7 : base ≤ gr := (h.lt gr rfl).1; omega)
theorem own_slice {w : World} {base n : Nat} {e : TypeId} {s : Nat} {v : Value} {xs : List Value} (h : w.ownsRow base e s v (n + 1) xs) : ∃ g c, v = .slice (some ⟨g, 0, none⟩) (n + 1) c := by
  rcases h.2 with ⟨_, e⟩ | ⟨g, cap, cur, e, _⟩
  · omega
  · exact ⟨g, cap, e⟩
theorem below_of {w a b : World} {g : Nat} (h : Below w.heap.size w a) (hg : w.heap.size ≤ g) (k : a.grownBy b (some g)) : Below w.heap.size w b :=
  h.grown k h.size (fun q hq => by cases hq; exact hg)

/-- What the draw of a list leaves: a row of the call's own, at most so long. -/
def GotL (m : Nat) (w : World) (g : Nat) (A : Option Addr) (n c : Nat) (e : Ending) (w' : World) : Prop :=
  ∃ (zs : List Int) (q gr cc : Nat), zs.length = q ∧ q ≤ m ∧ e = .returned (.slice (some ⟨gr, 0, none⟩) q cc) ∧ w'.ownsRow w.heap.size 3 1 (.slice (some ⟨gr, 0, none⟩) q cc) q (ints zs) ∧ Cur w' g A n c ∧ w.grownBy w' (some g)

def wants : List Int := [0, 1, 2, 3, 5, 8, 13, 20, 32, 33, 64]
def limits : List Int := [-1, 512, 513, 9223372036854775807, -9223372036854775808]

set_option maxRecDepth 100000 in
set_option maxHeartbeats 2000000 in
theorem l5Draw {w : World} {g n c : Nat} {A : Option Addr} {bs : List UInt8} (h : Ready w g A n c bs) :
    Calls Try.prog 65 #[.pointer (some ⟨g, 0, none⟩)] w (GotL 8 w g A n c) := by
  have hlt := h.cur.lt
  obtain ⟨i0, hi, hz0, hz1, hz2⟩ := info_parts infoI
  have O1 := Lib.hid (World.ownsRow_lit (base := w.heap.size) (e := 3) (size := 1) w #[] 0 (Nat.le_refl _) (Nat.zero_le _) rfl)
  have H1 := Lib.hid (h.alloc (.cells #[] 3))
  have G1 := Lib.hid (World.grownBy_alloc w (.cells #[] 3) (some g))
  have NE := Lib.hid hlt
  clear h hlt
  go_enter Try.func65, Try.ntmps65
  go_wp2_with fail
  refine (below H1.out 9 (by decide) (by decide)).mono ?_
  rintro e w1 ⟨x, hx, rfl, k1, k2⟩
  obtain ⟨x, rfl⟩ : ∃ k : Nat, x = (k : Int) := ⟨x.toNat, by omega⟩
  have H2 := Lib.hid (H1.out.next k2 k1)
  have G2 := Lib.hid (Draw.grown_trans G1.out k2)
  have O2 := Lib.hid (row_next O1.out k2 NE.out)
  have hx8 : x ≤ 8 := by omega
  clear k1 k2 H1 G1 O1 hx
  go_wp2_with fail
  go_loopw [3, 4] (fun v mv wr => ∃ (zs : List Int) (q m : Nat), q + m ≤ 8 ∧ mv = .int .i64 m ∧ (∃ gr cc : Nat, v = .slice (some ⟨gr, 0, none⟩) q cc) ∧ Hid (zs.length = q) ∧ Hid (wr.ownsRow w.heap.size 3 1 v q (ints zs)) ∧ Hid (Ready wr g A n c bs) ∧ Hid (w.grownBy wr (some g))) (fun _ mv _ => (intOf mv).toNat)
  case atStart => exact ⟨[], 0, x, by omega, rfl, ⟨_, _, rfl⟩, Lib.hid rfl, O2, H2, G2⟩
  case round =>
    obtain ⟨zs, q, m, hqm, rfl, ⟨gr, cc, rfl⟩, ZK, OK, HK, GK⟩ := hrel
    by_cases hm0 : 0 < m
    · have hm0' : (0 : Int) < (m : Int) := by omega
      have hgr := own_base OK.out gr rfl
      have P := pick (HK.out.alloc (.cells (ints wants).toArray 3)) wr.heap.size 0 11 wants (by have := HK.out.cur.lt; omega) (by decide) (by decide) (cells_at wr wants 3)
      clear H2 G2 O2
      go_wp2_with fail
      refine P.mono ?_
      rintro e w3 ⟨y, _, rfl, k1, k2⟩
      have H3 := Lib.hid ((HK.out.alloc (.cells (ints wants).toArray 3)).next k2 k1)
      have G3 := Lib.hid (Draw.grown_trans (Draw.grown_trans GK.out (World.grownBy_alloc _ (.cells (ints wants).toArray 3) (some g))) k2)
      have O3 := Lib.hid (row_next (OK.out.alloc (.cells (ints wants).toArray 3)) k2 NE.out)
      clear k1 k2 P HK GK OK
      have hown := O3.out.alloc
      have HW := Lib.hid G3.out.size
      have HH := Lib.hid hgr
      clear hgr
      go_wp2_with (at_builtin; refine wpList_append_own _ rfl _ _ 22 rfl w.heap.size 3 i0 (.int .i64 0) 1 8 Try.underlying22 hi hz0 hz1 hz2 rfl (by decide) _ _ _ rfl (hown _) ⟨w3.heap.size, 0, none⟩ 1 1 [.int .i64 y] rfl rfl (by intro j u hj; match j, hj with | 0, hj => (simp at hj; subst hj; simp [Addr.add])) (by intro u hu; simp at hu; first | (subst hu; rfl) | (rcases hu with rfl | rfl | rfl <;> rfl)) (by unfold maxLen; omega) (by omega) (by have := HW.out; simp; omega) ?_; intro v' w5 hown' hgrow hnil)
      rw [ints_snoc] at hown'
      obtain ⟨g5, c5, rfl⟩ := own_slice hown'
      have O4 := Lib.hid hown'
      have H4 := Lib.hid (ready_app (H3.out.alloc (.cells #[.int .i64 y] 3)) hgrow (Nat.lt_of_lt_of_le NE.out HH.out))
      have G4 := Lib.hid (grown_app (Draw.grown_trans G3.out (World.grownBy_alloc _ (.cells #[.int .i64 y] 3) (some g))) hgrow HH.out)
      have Z4 := Lib.hid (show (zs ++ [y]).length = q + 1 by rw [List.length_append, ZK.out]; rfl)
      have e4 : (m : Int) - 1 = ((m - 1 : Nat) : Int) := by omega
      have E4 := Lib.hid e4
      clear hown' hgrow hnil hown O3 H3 G3 HW HH e4
      go_wp2_with fail
      go_roundw
      case rel => exact ⟨zs ++ [y], q + 1, m - 1, by omega, by first | rfl | (rw [E4.out]), ⟨_, _, rfl⟩, Z4, O4, H4, G4⟩
      case measure => simp [intOf]; omega
    · have hm0' : ¬ (0 : Int) < (m : Int) := by omega
      clear H2 G2 O2
      go_wp2_with fail
      go_ret
      exact ⟨zs, q, gr, cc, ZK.out, by omega, rfl, OK.out, HK.out.cur, GK.out⟩

set_option maxRecDepth 100000 in
set_option maxHeartbeats 2000000 in
theorem l5Any {w : World} {g n c : Nat} {A : Option Addr} {bs : List UInt8} (h : Ready w g A n c bs) :
    Calls Try.prog 56 #[.pointer (some ⟨g, 0, none⟩)] w (GotL 11 w g A n c) := by
  obtain ⟨i0, hi, hz0, hz1, hz2⟩ := info_parts infoI
  have H1 := Lib.hid h
  have NE := Lib.hid h.cur.lt
  clear h
  go_enter Try.func56, Try.ntmps56
  go_wp2_with fail
  refine (l5Draw H1.out).mono ?_
  rintro e w1 ⟨zs, q, gr, cc, hl, hq, rfl, ho, k1, k2⟩
  have H2 := Lib.hid (H1.out.next k2 k1)
  have G2 := Lib.hid k2
  have O2 := Lib.hid ho
  have ZL := Lib.hid hl
  clear k1 k2 ho hl H1
  go_wp2_with fail
  refine (below H2.out 12 (by decide) (by decide)).mono ?_
  rintro e w2 ⟨x, hx, rfl, k1, k2⟩
  have H3 := Lib.hid (H2.out.next k2 k1)
  have G3 := Lib.hid (Draw.grown_trans G2.out k2)
  have O3 := Lib.hid (row_next O2.out k2 NE.out)
  have hgr := Lib.hid (own_base O3.out gr rfl)
  clear k1 k2 H2 G2 O2 hx
  by_cases c0 : x = 0
  · subst c0
    go_wp2_with fail
    refine (odd H3.out).mono ?_
    rintro e w3 ⟨y, _, rfl, k1, k2⟩
    have H4 := Lib.hid (H3.out.next k2 k1)
    have G4 := Lib.hid (Draw.grown_trans G3.out k2)
    have O4 := Lib.hid (row_next O3.out k2 NE.out)
    clear k1 k2 H3 G3 O3
    have hown := O4.out.alloc
    have HW := Lib.hid G4.out.size
    go_wp2_with (at_builtin; refine wpList_append_own _ rfl _ _ 22 rfl w.heap.size 3 i0 (.int .i64 0) 1 8 Try.underlying22 hi hz0 hz1 hz2 rfl (by decide) _ _ _ rfl (hown _) ⟨w3.heap.size, 0, none⟩ 1 1 [.int .i64 y] rfl rfl (by intro j u hj; match j, hj with | 0, hj => (simp at hj; subst hj; simp [Addr.add])) (by intro u hu; simp at hu; first | (subst hu; rfl) | (rcases hu with rfl | rfl | rfl <;> rfl)) (by unfold maxLen; omega) (by omega) (by have := HW.out; simp; omega) ?_; intro v' w5 hown' hgrow hnil)
    rw [ints_snoc] at hown'
    obtain ⟨g5, c5, rfl⟩ := own_slice hown'
    have O5 := Lib.hid hown'
    have H5 := Lib.hid (ready_app (H4.out.alloc (.cells #[.int .i64 y] 3)) hgrow (Nat.lt_of_lt_of_le NE.out hgr.out))
    have G5 := Lib.hid (grown_app (Draw.grown_trans G4.out (World.grownBy_alloc _ (.cells #[.int .i64 y] 3) (some g))) hgrow hgr.out)
    have Z5 := Lib.hid (show (zs ++ [y]).length = q + 1 by rw [List.length_append, ZL.out]; rfl)
    clear hown' hgrow hnil hown O4 H4 G4 HW
    go_wp2_with fail
    go_ret
    exact ⟨zs ++ [y], q + 1, g5, c5, Z5.out, by omega, rfl, O5.out, H5.out.cur, G5.out⟩
  · have d0 : (x == 0) = false := by simpa using c0
    by_cases c1 : x = 1
    · subst c1
      have hown := O3.out.alloc
      have HW := Lib.hid G3.out.size
      clear c0
      go_wp2_with (at_builtin; refine wpList_append_own _ rfl _ _ 22 rfl w.heap.size 3 i0 (.int .i64 0) 1 8 Try.underlying22 hi hz0 hz1 hz2 rfl (by decide) _ _ _ rfl (hown _) ⟨w2.heap.size, 0, none⟩ 3 3 [.int .i64 1, .int .i64 2, .int .i64 3] rfl rfl (by intro j u hj; match j, hj with | 0, hj => (simp at hj; subst hj; simp [Addr.add]) | 1, hj => (simp at hj; subst hj; simp [Addr.add]) | 2, hj => (simp at hj; subst hj; simp [Addr.add])) (by intro u hu; simp at hu; first | (subst hu; rfl) | (rcases hu with rfl | rfl | rfl <;> rfl)) (by unfold maxLen; omega) (by omega) (by have := HW.out; simp; omega) ?_; intro v' w5 hown' hgrow hnil)
      have hs3 : ints zs ++ [.int .i64 1, .int .i64 2, .int .i64 3] = ints (zs ++ [1, 2, 3]) := by simp [ints]
      rw [hs3] at hown'
      obtain ⟨g5, c5, rfl⟩ := own_slice (n := q + 2) hown'
      have O5 := Lib.hid hown'
      have H5 := Lib.hid (ready_app (H3.out.alloc (.cells #[.int .i64 1, .int .i64 2, .int .i64 3] 3)) hgrow (Nat.lt_of_lt_of_le NE.out hgr.out))
      have G5 := Lib.hid (grown_app (Draw.grown_trans G3.out (World.grownBy_alloc _ (.cells #[.int .i64 1, .int .i64 2, .int .i64 3] 3) (some g))) hgrow hgr.out)
      have Z5 := Lib.hid (show (zs ++ [1, 2, 3]).length = q + 3 by rw [List.length_append, ZL.out]; rfl)
      clear hown' hgrow hnil hown O3 H3 G3 HW hs3
      go_wp2_with fail
      go_ret
      exact ⟨zs ++ [1, 2, 3], q + 3, g5, c5, Z5.out, by omega, rfl, O5.out, H5.out.cur, G5.out⟩
    · have d1 : (x == 1) = false := by simpa using c1
      clear c0 c1
      go_wp2_with fail
      go_ret
      exact ⟨zs, q, gr, cc, ZL.out, by omega, rfl, O3.out, H3.out.cur, G3.out⟩

theorem supplyDraw {w : World} {g n c : Nat} {A : Option Addr} {bs : List UInt8} (h : Ready w g A n c bs) :
    Calls Try.prog 55 #[.pointer (some ⟨g, 0, none⟩)] w (Got (fun _ => True) w g A n c) := by
  have H1 := Lib.hid h
  clear h
  go_enter Try.func55, Try.ntmps55
  go_wp2_with fail
  refine (once H1.out 10 (by decide) (by decide)).mono ?_
  rintro e w1 ⟨b, rfl, k1, k2⟩
  have H2 := Lib.hid (H1.out.next k2 k1)
  have G2 := Lib.hid k2
  clear k1 k2 H1
  cases b
  · go_wp2_with fail
    refine (below H2.out 140 (by decide) (by decide)).mono ?_
    rintro e w2 ⟨x, hx, rfl, k1, k2⟩
    have G3 := Lib.hid (And.intro k1 (Draw.grown_trans G2.out k2))
    clear k1 k2 H2 G2 hx
    go_wp2_with fail
    go_ret
    exact ⟨x, trivial, rfl, G3.out.1, G3.out.2⟩
  · have P := pick (H2.out.alloc (.cells (ints limits).toArray 3)) w1.heap.size 0 5 limits (by have := H2.out.cur.lt; omega) (by decide) (by decide) (cells_at w1 limits 3)
    go_wp2_with fail
    refine P.mono ?_
    rintro e w2 ⟨x, hx, rfl, k1, k2⟩
    have G3 := Lib.hid (And.intro k1 (Draw.grown_trans (Draw.grown_trans G2.out (World.grownBy_alloc _ (.cells (ints limits).toArray 3) (some g))) k2))
    clear k1 k2 H2 G2 hx P
    go_wp2_with fail
    go_ret
    exact ⟨x, trivial, rfl, G3.out.1, G3.out.2⟩

/-- What the draw of a supply and of demands leaves. -/
def Drawn (w : World) (e : Ending) (w' : World) : Prop :=
  ∃ (s : Int) (zs : List Int) (q gr cc : Nat), zs.length = q ∧ q ≤ 11 ∧ e = .returned (.tuple #[.int .i64 s, .slice (some ⟨gr, 0, none⟩) q cc]) ∧ w'.ownsRow w.heap.size 3 1 (.slice (some ⟨gr, 0, none⟩) q cc) q (ints zs) ∧ Below w.heap.size w w'

set_option maxHeartbeats 1000000 in
theorem drawLevel (w : World) (A : Option Addr) (n c : Nat) (bs : List UInt8) (hn : bs.length = n) (hb : n ≤ 4096) (hr : Rd w w.heap.size A (u8s bs)) :
    Calls Try.prog 53 #[.slice A n c] w (Drawn w) := by
  have N0 := Lib.hid (new w A n c bs hn hb hr)
  clear hn hb hr
  go_enter Try.func53, Try.ntmps53
  go_wp2_with fail
  refine N0.out.mono ?_
  rintro e w1 ⟨g, rfl, hg, hR, hB⟩
  have R1 := Lib.hid hR
  have B1 := Lib.hid hB
  have HG := Lib.hid hg
  clear hR hB N0 hg
  go_wp2_with fail
  refine (supplyDraw R1.out).mono ?_
  rintro e w2 ⟨s, _, rfl, k1, k2⟩
  have R2 := Lib.hid (R1.out.next k2 k1)
  have B2 := Lib.hid (below_of B1.out HG.out k2)
  clear k1 k2 R1 B1
  go_wp2_with fail
  refine (l5Any R2.out).mono ?_
  rintro e w3 ⟨zs, q, gr, cc, hl, hq, rfl, ho, k1, k2⟩
  have B3 := Lib.hid (below_of B2.out HG.out k2)
  have O3 := Lib.hid (owns_base ho (Nat.le_trans B2.out.size (own_base ho gr rfl)))
  have ZL := Lib.hid hl
  clear k1 k2 ho hl R2 B2
  go_wp2_with fail
  (try simp only [Exit.inBlock, Exit.then])
  refine bodyPost_ret (v := .tuple #[.int .i64 s, .slice (some ⟨gr, 0, none⟩) q cc]) (by simp [results, Try.results53, go_sem]; try rfl) rfl ?_
  exact ⟨s, zs, q, gr, cc, ZL.out, hq, rfl, O3.out, B3.out⟩

theorem drawShare (w : World) (A : Option Addr) (n c : Nat) (bs : List UInt8) (hn : bs.length = n) (hb : n ≤ 4096) (hr : Rd w w.heap.size A (u8s bs)) :
    Calls Try.prog 36 #[.slice A n c] w (Drawn w) := by
  have D := Lib.hid (drawLevel w A n c bs hn hb hr)
  clear hn hb hr
  go_enter Try.func36, Try.ntmps36
  go_wp2_with fail
  refine D.out.mono ?_
  rintro e w1 ⟨s, zs, q, gr, cc, hl, hq, rfl, ho, hb1⟩
  have K := Lib.hid (And.intro hl (And.intro ho hb1))
  clear hl ho hb1 D
  go_wp2_with fail
  (try simp only [Exit.inBlock, Exit.then])
  refine bodyPost_ret (v := .tuple #[.int .i64 s, .slice (some ⟨gr, 0, none⟩) q cc]) (by simp [results, Try.results36, go_sem]; try rfl) rfl ?_
  exact ⟨s, zs, q, gr, cc, K.out.1, hq, rfl, K.out.2.1, K.out.2.2⟩

theorem drawTurn (w : World) (A : Option Addr) (n c : Nat) (bs : List UInt8) (hn : bs.length = n) (hb : n ≤ 4096) (hr : Rd w w.heap.size A (u8s bs)) :
    Calls Try.prog 40 #[.slice A n c] w (Drawn w) := by
  have D := Lib.hid (drawLevel w A n c bs hn hb hr)
  clear hn hb hr
  go_enter Try.func40, Try.ntmps40
  go_wp2_with fail
  refine D.out.mono ?_
  rintro e w1 ⟨s, zs, q, gr, cc, hl, hq, rfl, ho, hb1⟩
  have K := Lib.hid (And.intro hl (And.intro ho hb1))
  clear hl ho hb1 D
  go_wp2_with fail
  (try simp only [Exit.inBlock, Exit.then])
  refine bodyPost_ret (v := .tuple #[.int .i64 s, .slice (some ⟨gr, 0, none⟩) q cc]) (by simp [results, Try.results40, go_sem]; try rfl) rfl ?_
  exact ⟨s, zs, q, gr, cc, K.out.1, hq, rfl, K.out.2.1, K.out.2.2⟩

end Go.Proofs.Ythlcmcpfpblmaaa.Dq
