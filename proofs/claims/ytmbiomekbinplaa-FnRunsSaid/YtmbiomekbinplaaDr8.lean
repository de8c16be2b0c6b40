/- The draws of tracks: some levels; nothing but the cursor is written. -/
import Derived.Test.YtmbiomekbinplaaDraw
import Derived.Test.YtmbiomekbinplaaRw
import Derived.Test.YtmbiomekbinplaaFw8
import Derived.IntWalk
import Derived.Handy
import Derived.StillTailTactics
namespace Go.Proofs.Ytmbiomekbinplaa.Dr8
open Go.RowKit Go.Proofs.Ytmbiomekbinplaa.Mem Go.Proofs.Ytmbiomekbinplaa.Rw Go.Proofs.Ytmbiomekbinplaa.Tk
set_option linter.unusedVariables false
set_option linter.unusedSimpArgs false
open Go.Proofs.Ytmbiomekbinplaa.Draw (Cur Ready Got GotB u8s below pick cells_at new Fresh once odd)
open Go.Proofs.Ytmbiomekbinplaa.Rw (owns_below owns_grown owns_base)
open Go.Proofs.Ytmbiomekbinplaa.Fw8 (own_mk own_base own_at infoI)

theorem ready_own {w w' : World} {g n c : Nat} {A : Option Addr} {bs : List UInt8} {r : Option Nat} (h : Ready w g A n c bs) (k : w.grownBy w' r) (hr : ∀ j, r = some j → g < j) : Ready w' g A n c bs := by
  refine ⟨h.len, h.max, ?_, h.cur.kept (k.block g h.cur.lt (fun e => absurd (hr g e.symm) (Nat.lt_irrefl _)))⟩
  rcases h.rd with h1 | ⟨b, o, e, hb, hx⟩
  · exact Or.inl h1
  · exact Or.inr ⟨b, o, e, hb, fun j v hv => k.cell (hx j v hv) (fun e2 => by have := hr b e2.symm; omega)⟩
theorem gr_own {a b c : World} {r r2 : Option Nat} (h : a.grownBy b r) (k : b.grownBy c r2) (hr : ∀ j, r2 = some j → a.heap.size ≤ j) : a.grownBy c r :=
  ⟨k.os.trans h.os, k.tape.trans h.tape, k.output.trans h.output, Nat.le_trans h.size k.size, fun i hi hne => (k.block i (Nat.lt_of_lt_of_le hi h.size) (fun e => absurd (hr i e.symm) (by omega))).trans (h.block i hi hne)⟩
/-- A row is as it was where the cursor alone is written. -/
theorem row_next {a b : World} {base g gr q c : Nat} {e : TypeId} {s : Nat} {xs : List Value} (h : a.ownsRow base e s (.slice (some ⟨gr, 0, none⟩) q c) q xs) (k : a.grownBy b (some g)) (hg : g < base) : b.ownsRow base e s (.slice (some ⟨gr, 0, none⟩) q c) q xs :=
  owns_grown h k (fun i hi => by cases hi; intro e; have e : g = gr := Option.some.inj e; have h7 : base ≤ gr := (h.lt gr rfl).1; omega)
theorem row_fewer {w : World} {base : Nat} {e : TypeId} {size g n cap : Nat} {xs : List Value} (h : w.ownsRow base e size (.slice (some ⟨g, 0, none⟩) n cap) n xs) {m : Nat} (hm : m ≤ n) : w.ownsRow base e size (.slice (some ⟨g, 0, none⟩) m cap) m (xs.take (m * size)) := by
  rcases h.2 with ⟨h', _⟩ | ⟨g', cap', cur, h', hb, hg, hnc, hcm, hcs, htake⟩
  · simp at h'
  · simp only [Value.slice.injEq, Option.some.injEq, Addr.mk.injEq, and_true, true_and] at h'
    obtain ⟨rfl, rfl⟩ := h'
    have hle : m * size ≤ n * size := Nat.mul_le_mul_right _ hm
    refine ⟨by rw [List.length_take, h.1]; omega, .inr ⟨g, cap, cur, rfl, hb, hg, by omega, hcm, hcs, ?_⟩⟩
    rw [← htake, List.take_take, Nat.min_eq_left hle]
theorem row_cap {w : World} {base : Nat} {e : TypeId} {size g n cap : Nat} {xs : List Value} (h : w.ownsRow base e size (.slice (some ⟨g, 0, none⟩) n cap) n xs) : n ≤ cap ∧ cap ≤ maxLen := by
  rcases h.2 with ⟨h', _⟩ | ⟨g', cap', cur, h', hb, hg, hnc, hcm, hcs, htake⟩
  · simp at h'
  · simp only [Value.slice.injEq, Option.some.injEq, Addr.mk.injEq, and_true, true_and] at h'
    obtain ⟨rfl, rfl⟩ := h'
    exact ⟨hnc, hcm⟩
theorem ints_snoc (zs : List Int) (z : Int) : ints zs ++ [.int .i64 z] = ints (zs ++ [z]) := by simp [ints]

/-- Lengths of a track that is drawn. -/
def lens : List Int := [0, 1, 7, 8, 9, 15, 16, 17, 20, 24]
theorem lens_in {x : Int} (h : x ∈ lens) : 0 ≤ x ∧ x ≤ 24 := by
  unfold lens at h
  simp only [List.mem_cons, List.not_mem_nil, or_false] at h
  omega
def ends : List Int := [64, 65]
theorem ends_in {x : Int} (h : x ∈ ends) : x = 64 ∨ x = 65 := by
  unfold ends at h
  simp only [List.mem_cons, List.not_mem_nil, or_false] at h
  exact h
theorem ok_snoc {zs : List Int} {z : Int} (h : okT zs) (hz : 0 ≤ z ∧ z ≤ 32) : okT (zs ++ [z]) := fun y hy => by
  rcases List.mem_append.1 hy with h1 | h1
  · exact h y h1
  · rw [List.mem_singleton.1 h1]; exact hz

/-- What the draw of levels leaves. -/
def GotL (P : List Int → Prop) (w : World) (g : Nat) (A : Option Addr) (n c : Nat) (e : Ending) (w' : World) : Prop :=
  ∃ (zs : List Int) (q gr cc : Nat), zs.length = q ∧ P zs ∧ e = .returned (.slice (some ⟨gr, 0, none⟩) q cc) ∧ w'.ownsRow w.heap.size 3 1 (.slice (some ⟨gr, 0, none⟩) q cc) q (ints zs) ∧ Cur w' g A n c ∧ w.grownBy w' (some g)
def PT (zs : List Int) : Prop := zs.length ≤ 24 ∧ okT zs
def PA (zs : List Int) : Prop := zs.length ≤ 65

set_option maxRecDepth 100000 in
set_option maxHeartbeats 2000000 in
theorem l8Draw {w : World} {g n c : Nat} {A : Option Addr} {bs : List UInt8} (h : Ready w g A n c bs) :
    Calls Try.prog 30 #[.pointer (some ⟨g, 0, none⟩)] w (GotL PT w g A n c) := by
  have hlt := h.cur.lt
  have O1 := Lib.hid (World.ownsRow_lit (base := w.heap.size) (e := 3) (size := 1) w #[] 0 (Nat.le_refl _) (Nat.zero_le _) rfl)
  have H1 := Lib.hid (h.alloc (.cells #[] 3))
  have G1 := Lib.hid (World.grownBy_alloc w (.cells #[] 3) (some g))
  have NE := Lib.hid hlt
  obtain ⟨i0, hi, hz0, hz1, hz2⟩ := info_of infoI
  clear h hlt
  go_enter Try.func30, Try.ntmps30
  go_wp2_with fail
  refine (below H1.out 33 (by decide) (by decide)).mono ?_
  rintro e w1 ⟨x, hx, rfl, k1, k2⟩
  have H2 := Lib.hid (H1.out.next k2 k1)
  have G2 := Lib.hid (Draw.grown_trans G1.out k2)
  have O2 := Lib.hid (row_next O1.out k2 NE.out)
  have X2 := Lib.hid hx
  have L2 := Lib.hid (pick (H2.out.alloc (.cells (ints lens).toArray 3)) w1.heap.size 0 10 lens (by have := H2.out.cur.lt; omega) (by decide) (by decide) (cells_at w1 lens 3))
  clear k1 k2 H1 G1 O1 hx
  go_wp2_with fail
  refine L2.out.mono ?_
  rintro e w2 ⟨m, hm, rfl, k1, k2⟩
  have H3 := Lib.hid ((H2.out.alloc (.cells (ints lens).toArray 3)).next k2 k1)
  have G3 := Lib.hid (Draw.grown_trans (Draw.grown_trans G2.out (World.grownBy_alloc w1 _ _)) k2)
  have O3 := Lib.hid (row_next (O2.out.alloc (.cells (ints lens).toArray 3)) k2 NE.out)
  have hm2 := lens_in hm
  obtain ⟨m, rfl⟩ : ∃ k : Nat, m = (k : Int) := ⟨m.toNat, by omega⟩
  have hm3 : m ≤ 24 := by omega
  clear k1 k2 H2 G2 O2 hm hm2 L2
  go_wp2_with fail
  go_loopw [3, 4, 5] (fun v xv mv wr => ∃ (zs : List Int) (q m : Nat) (x : Int), q + m ≤ 24 ∧ mv = .int .i64 m ∧ xv = .int .i64 x ∧ (∃ gr cc : Nat, v = .slice (some ⟨gr, 0, none⟩) q cc) ∧ Hid (zs.length = q) ∧ Hid (okT zs) ∧ Hid (0 ≤ x ∧ x < 33) ∧ Hid (wr.ownsRow w.heap.size 3 1 v q (ints zs)) ∧ Hid (Ready wr g A n c bs) ∧ Hid (w.grownBy wr (some g))) (fun _ _ mv _ => (intOf mv).toNat)
  case atStart => exact ⟨[], 0, m, x, by omega, rfl, rfl, ⟨_, _, rfl⟩, Lib.hid rfl, Lib.hid okT_nil, X2, O3, H3, G3⟩
  case round =>
    obtain ⟨zs, q, m, x, hqm, rfl, rfl, ⟨gr, cc, rfl⟩, ZK, SK, XK, OK, HK, GK⟩ := hrel
    clear O3 H3 G3 X2
    by_cases hm0 : 0 < m
    · have hm0' : (0 : Int) < (m : Int) := by omega
      have e4 : (m : Int) - 1 = ((m - 1 : Nat) : Int) := by omega
      have E4 := Lib.hid e4
      clear e4
      go_wp2_with fail
      refine (once HK.out 3 (by decide) (by decide)).mono ?_
      rintro e w3 ⟨b, rfl, k1, k2⟩
      have H3 := Lib.hid (HK.out.next k2 k1)
      have G3 := Lib.hid (Draw.grown_trans GK.out k2)
      have O3 := Lib.hid (row_next OK.out k2 NE.out)
      clear k1 k2 HK GK OK
      cases b
      · skip
        have hown := O3.out.alloc
        have HS := Lib.hid (own_base O3.out)
        go_wp2_with (at_builtin; refine wpList_append_own _ rfl _ _ 24 rfl w.heap.size 3 i0 (.int .i64 0) 1 8 Try.underlying24 hi hz0 hz1 hz2 rfl (by decide) _ _ _ rfl (hown _) ⟨w3.heap.size, 0, none⟩ 1 1 [.int .i64 x] rfl rfl (by intro j u hj; match j, hj with | 0, hj => (simp at hj; subst hj; simp [Addr.add])) (by intro u hu9; simp at hu9; rcases hu9 with rfl; rfl) (by unfold maxLen; omega) (by omega) (by have := G3.out.size; simp; omega) ?_)
        intro v' w5 hown' hgrow hnil
        rw [ints_snoc] at hown'
        obtain ⟨g5, c5, rfl⟩ := own_mk hown'
        have O6 := Lib.hid hown'
        have H6 := Lib.hid (ready_own (H3.out.alloc _) hgrow (fun j hj => Nat.lt_of_lt_of_le NE.out (HS.out j hj)))
        have G6 := Lib.hid (gr_own (Draw.grown_trans G3.out (World.grownBy_alloc _ _ _)) hgrow (fun j hj => HS.out j hj))
        clear hown' hgrow hnil hown HS O3 H3 G3
        go_wp2_with fail
        go_roundw
        case rel => first | exact ⟨zs ++ [x], q + 1, m - 1, x, by omega, by first | rfl | (rw [E4.out]), rfl, ⟨_, _, rfl⟩, Lib.hid (by rw [List.length_append, ZK.out]; rfl), Lib.hid (ok_snoc SK.out (by have := XK.out; omega)), XK, O6, H6, G6⟩
        case measure => simp [intOf]; omega
      · go_wp2_with fail
        refine (below H3.out 33 (by decide) (by decide)).mono ?_
        rintro e w4 ⟨y, hy, rfl, k1, k2⟩
        have H4 := Lib.hid (H3.out.next k2 k1)
        have G4 := Lib.hid (Draw.grown_trans G3.out k2)
        have O4 := Lib.hid (row_next O3.out k2 NE.out)
        have YK := Lib.hid hy
        clear k1 k2 H3 G3 O3 hy
        have hown := O4.out.alloc
        have HS := Lib.hid (own_base O4.out)
        go_wp2_with (at_builtin; refine wpList_append_own _ rfl _ _ 24 rfl w.heap.size 3 i0 (.int .i64 0) 1 8 Try.underlying24 hi hz0 hz1 hz2 rfl (by decide) _ _ _ rfl (hown _) ⟨w4.heap.size, 0, none⟩ 1 1 [.int .i64 y] rfl rfl (by intro j u hj; match j, hj with | 0, hj => (simp at hj; subst hj; simp [Addr.add])) (by intro u hu9; simp at hu9; rcases hu9 with rfl; rfl) (by unfold maxLen; omega) (by omega) (by have := G4.out.size; simp; omega) ?_)
        intro v' w5 hown' hgrow hnil
        rw [ints_snoc] at hown'
        obtain ⟨g5, c5, rfl⟩ := own_mk hown'
        have O6 := Lib.hid hown'
        have H6 := Lib.hid (ready_own (H4.out.alloc _) hgrow (fun j hj => Nat.lt_of_lt_of_le NE.out (HS.out j hj)))
        have G6 := Lib.hid (gr_own (Draw.grown_trans G4.out (World.grownBy_alloc _ _ _)) hgrow (fun j hj => HS.out j hj))
        clear hown' hgrow hnil hown HS O4 H4 G4
        go_wp2_with fail
        go_roundw
        case rel => first | exact ⟨zs ++ [y], q + 1, m - 1, y, by omega, by first | rfl | (rw [E4.out]), rfl, ⟨_, _, rfl⟩, Lib.hid (by rw [List.length_append, ZK.out]; rfl), Lib.hid (ok_snoc SK.out (by have := YK.out; omega)), YK, O6, H6, G6⟩
        case measure => simp [intOf]; omega
    · have hm0' : ¬ (0 : Int) < (m : Int) := by omega
      go_wp2_with fail
      go_ret
      exact ⟨zs, q, gr, cc, ZK.out, ⟨by rw [ZK.out]; omega, SK.out⟩, rfl, OK.out, HK.out.cur, GK.out⟩

set_option maxRecDepth 100000 in
set_option maxHeartbeats 2000000 in
theorem l8Any {w : World} {g n c : Nat} {A : Option Addr} {bs : List UInt8} (h : Ready w g A n c bs) :
    Calls Try.prog 40 #[.pointer (some ⟨g, 0, none⟩)] w (GotL PA w g A n c) := by
  have NE := Lib.hid h.cur.lt
  have H0 := Lib.hid h
  obtain ⟨i0, hi, hz0, hz1, hz2⟩ := info_of infoI
  clear h
  go_enter Try.func40, Try.ntmps40
  go_wp2_with fail
  refine (l8Draw H0.out).mono ?_
  rintro e w1 ⟨zs, q, gr, cc, hq, hp, rfl, ho, k1, k2⟩
  have H1 := Lib.hid (H0.out.next k2 k1)
  have G1 := Lib.hid k2
  have O1 := Lib.hid ho
  have ZQ := Lib.hid hq
  have hq24 : q ≤ 24 := by rw [← hq]; exact hp.1
  clear k1 k2 ho hq hp H0
  go_wp2_with fail
  refine (below H1.out 14 (by decide) (by decide)).mono ?_
  rintro e w2 ⟨x, hx, rfl, k1, k2⟩
  have H2 := Lib.hid (H1.out.next k2 k1)
  have G2 := Lib.hid (Draw.grown_trans G1.out k2)
  have O2 := Lib.hid (row_next O1.out k2 NE.out)
  clear k1 k2 H1 G1 O1
  by_cases hx0 : x = 0
  · subst hx0
    go_wp2_with fail
    refine (odd H2.out).mono ?_
    rintro e w3 ⟨y, hy, rfl, k1, k2⟩
    have H3 := Lib.hid (H2.out.next k2 k1)
    have G3 := Lib.hid (Draw.grown_trans G2.out k2)
    have O3 := Lib.hid (row_next O2.out k2 NE.out)
    clear k1 k2 H2 G2 O2 hy
    have hown := O3.out.alloc
    have HS := Lib.hid (own_base O3.out)
    go_wp2_with (at_builtin; refine wpList_append_own _ rfl _ _ 24 rfl w.heap.size 3 i0 (.int .i64 0) 1 8 Try.underlying24 hi hz0 hz1 hz2 rfl (by decide) _ _ _ rfl (hown _) ⟨w3.heap.size, 0, none⟩ 1 1 [.int .i64 y] rfl rfl (by intro j u hj; match j, hj with | 0, hj => (simp at hj; subst hj; simp [Addr.add])) (by intro u hu9; simp at hu9; rcases hu9 with rfl; rfl) (by unfold maxLen; omega) (by omega) (by have := G3.out.size; simp; omega) ?_)
    intro v' w5 hown' hgrow hnil
    rw [ints_snoc] at hown'
    obtain ⟨g5, c5, rfl⟩ := own_mk hown'
    have O6 := Lib.hid hown'
    have H6 := Lib.hid (ready_own (H3.out.alloc _) hgrow (fun j hj => Nat.lt_of_lt_of_le NE.out (HS.out j hj)))
    have G6 := Lib.hid (gr_own (Draw.grown_trans G3.out (World.grownBy_alloc _ _ _)) hgrow (fun j hj => HS.out j hj))
    clear hown' hgrow hnil hown HS O3 H3 G3
    go_wp2_with fail
    go_ret
    exact ⟨zs ++ [y], q + 1, g5, c5, by rw [List.length_append, ZQ.out]; rfl, by unfold PA; rw [List.length_append, ZQ.out]; simp; omega, rfl, O6.out, H6.out.cur, G6.out⟩
  by_cases hx1 : x = 1
  · subst hx1
    clear hx0
    go_wp2_with fail
    go_loopw [3] (fun v wr => ∃ (zs : List Int) (q : Nat), q ≤ 65 ∧ (∃ gr cc : Nat, v = .slice (some ⟨gr, 0, none⟩) q cc) ∧ Hid (zs.length = q) ∧ Hid (wr.ownsRow w.heap.size 3 1 v q (ints zs)) ∧ Hid (Ready wr g A n c bs) ∧ Hid (w.grownBy wr (some g))) (fun v _ => match v with | .slice _ q _ => 65 - q | _ => 0)
    case atStart => exact ⟨zs, q, by omega, ⟨_, _, rfl⟩, ZQ, O2, H2, G2⟩
    case round =>
      clear ZQ O2 H2 G2
      obtain ⟨zs, q, hq, ⟨gr, cc, rfl⟩, ZQ, OK, HK, GK⟩ := hrel
      by_cases hlt : q < 65
      · have hlt' : (q : Int) < 65 := by omega
        have hown := OK.out.alloc
        have HS := Lib.hid (own_base OK.out)
        go_wp2_with (at_builtin; refine wpList_append_own _ rfl _ _ 24 rfl w.heap.size 3 i0 (.int .i64 0) 1 8 Try.underlying24 hi hz0 hz1 hz2 rfl (by decide) _ _ _ rfl (hown _) ⟨wr.heap.size, 0, none⟩ 1 1 [.int .i64 3] rfl rfl (by intro j u hj; match j, hj with | 0, hj => (simp at hj; subst hj; simp [Addr.add])) (by intro u hu9; simp at hu9; rcases hu9 with rfl; rfl) (by unfold maxLen; omega) (by omega) (by have := GK.out.size; simp; omega) ?_)
        intro v' w5 hown' hgrow hnil
        rw [ints_snoc] at hown'
        obtain ⟨g5, c5, rfl⟩ := own_mk hown'
        have O6 := Lib.hid hown'
        have H6 := Lib.hid (ready_own (HK.out.alloc _) hgrow (fun j hj => Nat.lt_of_lt_of_le NE.out (HS.out j hj)))
        have G6 := Lib.hid (gr_own (Draw.grown_trans GK.out (World.grownBy_alloc _ _ _)) hgrow (fun j hj => HS.out j hj))
        clear hown' hgrow hnil hown HS OK HK GK
        go_wp2_with fail
        go_roundw
        case rel => exact ⟨zs ++ [3], q + 1, by omega, ⟨_, _, rfl⟩, Lib.hid (by rw [List.length_append, ZQ.out]; rfl), O6, H6, G6⟩
        case measure => (try simp only []); omega
      · obtain rfl : q = 65 := by omega
        have hcap := row_cap OK.out
        have L2 := Lib.hid (pick (HK.out.alloc (.cells (ints ends).toArray 3)) wr.heap.size 0 2 ends (by have := HK.out.cur.lt; omega) (by decide) (by decide) (cells_at wr ends 3))
        go_wp2_with fail
        refine L2.out.mono ?_
        rintro e w4 ⟨m, hm, rfl, k1, k2⟩
        have H3 := Lib.hid ((HK.out.alloc (.cells (ints ends).toArray 3)).next k2 k1)
        have G3 := Lib.hid (Draw.grown_trans (Draw.grown_trans GK.out (World.grownBy_alloc wr _ _)) k2)
        have O3 := Lib.hid (row_next (OK.out.alloc (.cells (ints ends).toArray 3)) k2 NE.out)
        have hm2 := ends_in hm
        clear k1 k2 HK GK OK hm L2
        rcases hm2 with rfl | rfl
        · have c1 : ¬ cc < 64 := by omega
          have O4 := Lib.hid (by have := row_fewer O3.out (m := 64) (by omega); rw [show (ints zs).take (64 * 1) = ints (zs.take 64) by unfold ints; rw [List.map_take]] at this; exact this)
          go_wp2_with fail
          go_ret
          exact ⟨zs.take 64, 64, gr, cc, by rw [List.length_take, ZQ.out]; rfl, by unfold PA; rw [List.length_take]; omega, rfl, O4.out, H3.out.cur, G3.out⟩
        · have c1 : ¬ cc < 65 := by omega
          go_wp2_with fail
          go_ret
          exact ⟨zs, 65, gr, cc, ZQ.out, by unfold PA; rw [ZQ.out]; exact Nat.le_refl _, rfl, O3.out, H3.out.cur, G3.out⟩
  · have b0 : (x == 0) = false := by simp [hx0]
    have b1 : (x == 1) = false := by simp [hx1]
    go_wp2_with fail
    go_ret
    exact ⟨zs, q, gr, cc, ZQ.out, by unfold PA; rw [ZQ.out]; omega, rfl, O2.out, H2.out.cur, G2.out⟩

/-- A track that is drawn for a law. -/
def DrawnT (w : World) (e : Ending) (w' : World) : Prop :=
  ∃ (zs : List Int) (q gr cc : Nat), zs.length = q ∧ q ≤ 24 ∧ tk zs = true ∧ e = .returned (.slice (some ⟨gr, 0, none⟩) q cc) ∧ w'.ownsRow w.heap.size 3 1 (.slice (some ⟨gr, 0, none⟩) q cc) q (ints zs) ∧ Below w.heap.size w w'

set_option maxRecDepth 100000 in
set_option maxHeartbeats 2000000 in
theorem drawT (w : World) (A : Option Addr) (n c : Nat) (bs : List UInt8) (hn : bs.length = n) (hb : n ≤ 4096) (hr : Rd w w.heap.size A (u8s bs)) :
    Calls Try.prog 9 #[.slice A n c] w (DrawnT w) := by
  have N0 := Lib.hid (new w A n c bs hn hb hr)
  clear hn hb hr
  go_enter Try.func9, Try.ntmps9
  go_wp2_with fail
  refine N0.out.mono ?_
  rintro e w1 ⟨g, rfl, hg, hR, hB⟩
  have R1 := Lib.hid hR
  have B1 := Lib.hid hB
  have HG := Lib.hid hg
  clear hg hR hB N0
  go_wp2_with fail
  refine (l8Draw R1.out).mono ?_
  rintro e w2 ⟨zs, q, gr, cc, hq, hs, rfl, ho, k1, k2⟩
  have B2 := Lib.hid (B1.out.grown k2 B1.out.size (fun j hj => by cases hj; exact HG.out))
  have O2 := Lib.hid (owns_base ho (Nat.le_trans B1.out.size (own_at ho)))
  have ZQ := Lib.hid hq
  have ZS := Lib.hid hs
  clear k1 k2 ho hq hs R1
  go_wp2_with fail
  go_ret
  exact ⟨zs, q, gr, cc, ZQ.out, by rw [← ZQ.out]; exact ZS.out.1, tk_yes (by have := ZS.out.1; omega) ZS.out.2, rfl, O2.out, B2.out⟩

/-- Two lists that are drawn. -/
def DrawnH (w : World) (e : Ending) (w' : World) : Prop :=
  ∃ (zs us : List Int) (q p gr gu cc cu : Nat), zs.length = q ∧ us.length = p ∧ q ≤ 65 ∧ p ≤ 65 ∧ e = .returned (.tuple #[.slice (some ⟨gr, 0, none⟩) q cc, .slice (some ⟨gu, 0, none⟩) p cu]) ∧ w'.ownsRow w.heap.size 3 1 (.slice (some ⟨gr, 0, none⟩) q cc) q (ints zs) ∧ w'.ownsRow w.heap.size 3 1 (.slice (some ⟨gu, 0, none⟩) p cu) p (ints us) ∧ Below w.heap.size w w'

set_option maxRecDepth 100000 in
set_option maxHeartbeats 2000000 in
theorem drawH (w : World) (A : Option Addr) (n c : Nat) (bs : List UInt8) (hn : bs.length = n) (hb : n ≤ 4096) (hr : Rd w w.heap.size A (u8s bs)) :
    Calls Try.prog 23 #[.slice A n c] w (DrawnH w) := by
  have N0 := Lib.hid (new w A n c bs hn hb hr)
  clear hn hb hr
  go_enter Try.func23, Try.ntmps23
  go_wp2_with fail
  refine N0.out.mono ?_
  rintro e w1 ⟨g, rfl, hg, hR, hB⟩
  have R1 := Lib.hid hR
  have B1 := Lib.hid hB
  have HG := Lib.hid hg
  clear hg hR hB N0
  go_wp2_with fail
  refine (l8Any R1.out).mono ?_
  rintro e w2 ⟨zs, q, gr, cc, hq, hs, rfl, ho, k1, k2⟩
  have R2 := Lib.hid (R1.out.next k2 k1)
  have B2 := Lib.hid (B1.out.grown k2 B1.out.size (fun j hj => by cases hj; exact HG.out))
  have LW := Lib.hid R1.out.cur.lt
  have O2 := Lib.hid ho
  have ZQ := Lib.hid hq
  have ZS := Lib.hid hs
  have SZ := Lib.hid k2.size
  clear k1 k2 ho hq hs R1
  go_wp2_with fail
  refine (l8Any R2.out).mono ?_
  rintro e w3 ⟨us, p, gu, cu, hp, hu, rfl, ho, k1, k2⟩
  have B3 := Lib.hid (B2.out.grown k2 B2.out.size (fun j hj => by cases hj; exact HG.out))
  have O3 := Lib.hid (owns_base (row_next O2.out k2 LW.out) (Nat.le_trans B1.out.size (own_at O2.out)))
  have U3 := Lib.hid (owns_base ho (Nat.le_trans B2.out.size (own_at ho)))
  have UQ := Lib.hid hp
  have US := Lib.hid hu
  clear k1 k2 ho hp hu R2 O2
  go_wp2_with fail
  go_returns
  exact ⟨zs, us, q, p, gr, gu, cc, cu, ZQ.out, UQ.out, by rw [← ZQ.out]; exact ZS.out, by rw [← UQ.out]; exact US.out, rfl, O3.out, U3.out, B3.out⟩

/-- A list and the ends of a window that are drawn. -/
def DrawnW (w : World) (e : Ending) (w' : World) : Prop :=
  ∃ (zs : List Int) (q gr cc : Nat) (a b : Int), zs.length = q ∧ q ≤ 65 ∧ (Lit.int .i64 a).wf = true ∧ (Lit.int .i64 b).wf = true ∧ e = .returned (.tuple #[.slice (some ⟨gr, 0, none⟩) q cc, .int .i64 a, .int .i64 b]) ∧ w'.ownsRow w.heap.size 3 1 (.slice (some ⟨gr, 0, none⟩) q cc) q (ints zs) ∧ Below w.heap.size w w'

set_option maxRecDepth 100000 in
set_option maxHeartbeats 2000000 in
theorem drawW (w : World) (A : Option Addr) (n c : Nat) (bs : List UInt8) (hn : bs.length = n) (hb : n ≤ 4096) (hr : Rd w w.heap.size A (u8s bs)) :
    Calls Try.prog 16 #[.slice A n c] w (DrawnW w) := by
  have N0 := Lib.hid (new w A n c bs hn hb hr)
  clear hn hb hr
  go_enter Try.func16, Try.ntmps16
  go_wp2_with fail
  refine N0.out.mono ?_
  rintro e w1 ⟨g, rfl, hg, hR, hB⟩
  have R1 := Lib.hid hR
  have B1 := Lib.hid hB
  have HG := Lib.hid hg
  clear hg hR hB N0
  go_wp2_with fail
  refine (l8Any R1.out).mono ?_
  rintro e w2 ⟨zs, q, gr, cc, hq, hs, rfl, ho, k1, k2⟩
  have R2 := Lib.hid (R1.out.next k2 k1)
  have B2 := Lib.hid (B1.out.grown k2 B1.out.size (fun j hj => by cases hj; exact HG.out))
  have LW := Lib.hid R1.out.cur.lt
  have O2 := Lib.hid ho
  have ZQ := Lib.hid hq
  have hq65 : q ≤ 65 := by rw [← hq]; exact hs
  clear k1 k2 ho hq hs R1
  go_wp2_with fail
  refine (once R2.out 6 (by decide) (by decide)).mono ?_
  rintro e w3 ⟨b, rfl, k1, k2⟩
  have R3 := Lib.hid (R2.out.next k2 k1)
  have B3 := Lib.hid (B2.out.grown k2 B2.out.size (fun j hj => by cases hj; exact HG.out))
  have O3 := Lib.hid (row_next O2.out k2 LW.out)
  clear k1 k2 R2 B2 O2
  cases b
  · go_wp2_with fail
    refine (below R3.out ((q : Int) + 1) (by omega) (by omega)).mono ?_
    rintro e w4 ⟨a, ha, rfl, k1, k2⟩
    have R4 := Lib.hid (R3.out.next k2 k1)
    have B4 := Lib.hid (B3.out.grown k2 B3.out.size (fun j hj => by cases hj; exact HG.out))
    have O4 := Lib.hid (row_next O3.out k2 LW.out)
    clear k1 k2 R3 B3 O3
    go_wp2_with fail
    refine (below R4.out ((q : Int) - a + 2) (by omega) (by omega)).mono ?_
    rintro e w5 ⟨d, hd, rfl, k1, k2⟩
    have R5 := Lib.hid (R4.out.next k2 k1)
    have B5 := Lib.hid (B4.out.grown k2 B4.out.size (fun j hj => by cases hj; exact HG.out))
    have O5 := Lib.hid (row_next O4.out k2 LW.out)
    clear k1 k2 R4 B4 O4
    go_wp2_with fail
    go_returns
    exact ⟨zs, q, gr, cc, a, a + d, ZQ.out, hq65, Draw.wf_of_small (by omega) (by omega), Draw.wf_of_small (by omega) (by omega), rfl, owns_base O5.out (Nat.le_trans B1.out.size (own_at O5.out)), B5.out⟩
  · go_wp2_with fail
    refine (odd R3.out).mono ?_
    rintro e w4 ⟨a, ha, rfl, k1, k2⟩
    have R4 := Lib.hid (R3.out.next k2 k1)
    have B4 := Lib.hid (B3.out.grown k2 B3.out.size (fun j hj => by cases hj; exact HG.out))
    have O4 := Lib.hid (row_next O3.out k2 LW.out)
    clear k1 k2 R3 B3 O3
    go_wp2_with fail
    refine (odd R4.out).mono ?_
    rintro e w5 ⟨d, hd, rfl, k1, k2⟩
    have R5 := Lib.hid (R4.out.next k2 k1)
    have B5 := Lib.hid (B4.out.grown k2 B4.out.size (fun j hj => by cases hj; exact HG.out))
    have O5 := Lib.hid (row_next O4.out k2 LW.out)
    clear k1 k2 R4 B4 O4
    go_wp2_with fail
    go_returns
    exact ⟨zs, q, gr, cc, a, d, ZQ.out, hq65, ha, hd, rfl, owns_base O5.out (Nat.le_trans B1.out.size (own_at O5.out)), B5.out⟩
end Go.Proofs.Ytmbiomekbinplaa.Dr8
