/- The draws of lists of cues that may be no scores. -/
import Derived.Test.YtgcheplneolonacDr7b
namespace Go.Proofs.Ytgcheplneolonac.Dr7
open Go.RowKit Go.ChangeShapes Go.WideShapes Go.WideElems Go.Deep Go.Proofs.Ytgcheplneolonac.Mem Go.Proofs.Ytgcheplneolonac.Rw Go.Proofs.Ytgcheplneolonac.P2 Go.Proofs.Ytgcheplneolonac.Cd Go.Proofs.Ytgcheplneolonac.Cv Go.Proofs.Ytgcheplneolonac.Cl Go.Proofs.Ytgcheplneolonac.Cs
set_option linter.unusedVariables false
set_option linter.unusedSimpArgs false
open Go.Proofs.Ytgcheplneolonac.Sd Go.Proofs.Ytgcheplneolonac.Oc Go.Proofs.Ytgcheplneolonac.Cr Go.Proofs.Ytgcheplneolonac.Ld Go.Proofs.Ytgcheplneolonac.Cq Go.Proofs.Ytgcheplneolonac.Ac Go.Proofs.Ytgcheplneolonac.Strs
open Go.Proofs.Ytgcheplneolonac.Draw (Cur Ready Got u8s below odd pick cells_at new Fresh)
open Go.Proofs.Ytgcheplneolonac.Rw (owns_below owns_grown owns_base)

/-- A list of cues lies there, apart from the cursor. -/
def Lies (w : World) (g gr og : Nat) (zs : List C) : Prop := gr ≠ g ∧ gr < w.heap.size ∧ ∀ j u, (dls zs)[j]? = some u → w.cell? ⟨gr, og + j, none⟩ = some u
theorem Lies.next {w w' : World} {g gr og : Nat} {zs : List C} (h : Lies w g gr og zs) (k : w.grownBy w' (some g)) : Lies w' g gr og zs :=
  ⟨h.1, Nat.lt_of_lt_of_le h.2.1 k.size, fun j u hu => k.cell (h.2.2 j u hu) (fun e => h.1 (Option.some.inj e))⟩
theorem Lies.rd {w : World} {g gr og : Nat} {zs : List C} (h : Lies w g gr og zs) : Rd w w.heap.size (some ⟨gr, og, none⟩) (dls zs) := Or.inr ⟨gr, og, rfl, h.2.1, h.2.2⟩
theorem lies_own {w : World} {base g gr q c : Nat} {zs : List C} (h : w.ownsRow base 26 4 (.slice (some ⟨gr, 0, none⟩) q c) q (dls zs)) (hg : g < base) : Lies w g gr 0 zs := by
  have hl := h.lt gr rfl
  refine ⟨by omega, hl.2, fun j u hu => ?_⟩
  obtain ⟨b, o, e, _, hc⟩ := (Rd.own h).get (List.getElem?_eq_some_iff.1 hu).1
  cases e
  exact hc j u hu
theorem lies_take {w : World} {g gr og : Nat} {zs : List C} (h : Lies w g gr og zs) (k : Nat) : Lies w g gr og (zs.take k) := by
  refine ⟨h.1, h.2.1, fun j u hu => h.2.2 j u ?_⟩
  have e : dls zs = dls (zs.take k) ++ dls (zs.drop k) := by unfold dls; rw [← List.flatMap_append, List.take_append_drop]
  rw [e, List.getElem?_append_left (List.getElem?_eq_some_iff.1 hu).1]; exact hu
theorem grown_widen {a b c : World} {g r : Nat} (h : a.grownBy b (some g)) (k : b.grownBy c (some r)) (hr : a.heap.size ≤ r) : a.grownBy c (some g) :=
  ⟨k.os.trans h.os, k.tape.trans h.tape, k.output.trans h.output, Nat.le_trans h.size k.size, fun j hj hg => (k.block j (Nat.lt_of_lt_of_le hj h.size) (fun e => by have e := Option.some.inj e; omega)).trans (h.block j hj hg)⟩
theorem ready_row {w w' : World} {g r n c : Nat} {A : Option Addr} {bs : List UInt8} (h : Ready w g A n c bs) (k : w.grownBy w' (some r)) (hr : g < r) : Ready w' g A n c bs := by
  refine ⟨h.len, h.max, ?_, h.cur.kept (k.block g h.cur.lt (fun e => by have e := Option.some.inj e; omega))⟩
  rcases h.rd with h1 | ⟨b, o, e, hb, hx⟩
  · exact Or.inl h1
  · exact Or.inr ⟨b, o, e, hb, fun j v hv => k.cell (hx j v hv) (fun e => by have e : b = r := Option.some.inj e; omega)⟩
def Short (zs : List C) : Prop := zs.length ≤ 16 ∧ ∀ z ∈ zs, z.nm.size ≤ 9
theorem short_of {zs : List C} {k : Nat} (h : Sn zs k) (hk : k ≤ 16) : Short zs := ⟨Nat.le_trans h.2.1 hk, fun z hz => Nat.le_trans (name_size (h.2.2 z hz).2.2) (by decide)⟩
theorem short_snoc {zs : List C} {d : C} (h : ∀ z ∈ zs, z.nm.size ≤ 9) (hd : d.nm.size ≤ 9) : ∀ z ∈ zs ++ [d], z.nm.size ≤ 9 := fun z hz => by
  rcases List.mem_append.1 hz with hz | hz
  · exact h z hz
  · rw [List.mem_singleton.1 hz]; exact hd
theorem Short.sizes {zs : List C} (h : Short zs) : ∀ z ∈ zs, z.nm.size ≤ 1048576 := fun z hz => Nat.le_trans (h.2 z hz) (by decide)
/-- What the draw of a list leaves. -/
def GotL (w : World) (g : Nat) (A : Option Addr) (n c : Nat) (e : Ending) (w' : World) : Prop :=
  ∃ (zs : List C) (q gr og cc : Nat), zs.length = q ∧ Short zs ∧ e = .returned (.slice (some ⟨gr, og, none⟩) q cc) ∧ Lies w' g gr og zs ∧ w.heap.size ≤ gr ∧ Cur w' g A n c ∧ w.grownBy w' (some g)
def ends : List Int := [12, 13]

set_option maxRecDepth 100000 in
set_option maxHeartbeats 8000000 in
theorem l7List {w : World} {g n c : Nat} {A : Option Addr} {bs : List UInt8} (hr : Ready w g A n c bs) :
    Calls Try.prog 17 #[.pointer (some ⟨g, 0, none⟩)] w (GotL w g A n c) := by
  have hlt := hr.cur.lt
  have LT := Lib.hid hlt
  have H1 := Lib.hid hr
  obtain ⟨i0, hi, hz0, hz1, hz2⟩ := info_of infoD
  clear hr hlt
  go_enter Try.func17, Try.ntmps17
  go_wp2_with fail
  refine (l7Draw H1.out).mono ?_
  rintro e w1 ⟨zs, q, gr, cc, hq, hs, rfl, ho, k1, k2⟩
  have R1 := Lib.hid (H1.out.next k2 k1)
  have G1 := Lib.hid k2
  have O1 := Lib.hid ho
  have ZQ := Lib.hid hq
  have ZS := Lib.hid (short_of hs (by decide))
  have hq8 : q ≤ 7 := by have := hs.2.1; omega
  clear k1 k2 ho hq hs H1
  go_wp2_with fail
  refine (below R1.out 14 (by decide) (by decide)).mono ?_
  rintro e w2 ⟨i, ⟨i1, i2⟩, rfl, k1, k2⟩
  have R2 := Lib.hid (R1.out.next k2 k1)
  have G2 := Lib.hid (Draw.grown_trans G1.out k2)
  have O2 := Lib.hid (row_next O1.out k2 LT.out)
  clear k1 k2 R1 G1 O1
  rcases (by omega : i = 0 ∨ i = 1 ∨ 2 ≤ i) with rfl | rfl | h3
  · clear i1 i2
    go_wp2_with fail
    refine (l7Any R2.out).mono ?_
    rintro e w3 ⟨tt, ss, ll, rr, hd, rfl, k1, k2⟩
    have R3 := Lib.hid (R2.out.next k2 k1)
    have G3 := Lib.hid (Draw.grown_trans G2.out k2)
    have O3 := Lib.hid (row_next O2.out k2 LT.out)
    have DA := Lib.hid hd
    have hown := O3.out.alloc
    have hsz3 : w.heap.size ≤ w3.heap.size := G3.out.size
    have hg0 : w.heap.size ≤ gr := (O3.out.lt gr rfl).1
    clear k1 k2 hd R2 G2 O2
    go_wp2_with (at_builtin; refine wpList_append_own _ rfl _ _ 24 rfl w.heap.size 26 i0 (.agg #[.int .i64 0, .string ⟨#[]⟩, .int .i64 0, .int .i64 0]) 4 40 Try.underlying24 hi hz0 hz1 hz2 rfl (by decide) _ _ _ rfl (hown _) ⟨w3.heap.size, 0, none⟩ 1 1 [.int .i64 tt, .string ss, .int .i64 ll, .int .i64 rr] rfl rfl (by intro j u hj; match j, hj with | 0, hj => (simp at hj; subst hj; simp [Addr.add]) | 1, hj => (simp at hj; subst hj; simp [Addr.add]) | 2, hj => (simp at hj; subst hj; simp [Addr.add]) | 3, hj => (simp at hj; subst hj; simp [Addr.add])) (by intro u hu9; simp at hu9; rcases hu9 with rfl | rfl | rfl | rfl <;> rfl) (by unfold maxLen; omega) (by omega) (by simp; omega) ?_)
    intro v' w5 hown' hgrow hnil
    rw [show dls zs ++ [.int .i64 tt, .string ss, .int .i64 ll, .int .i64 rr] = dls (zs ++ [⟨tt, ss, ll, rr⟩]) from dls_snoc _ ⟨tt, ss, ll, rr⟩] at hown'
    have hg9 : ∃ g c, v' = .slice (some ⟨g, 0, none⟩) (q + 1) c := by
      rcases hown'.2 with ⟨x1, x2⟩ | ⟨g, cap, cur, x1, _⟩
      · omega
      · exact ⟨g, cap, x1⟩
    obtain ⟨g5, cq5, rfl⟩ := hg9
    have L6 := Lib.hid (lies_own hown' LT.out)
    have G5 := Lib.hid (hown'.lt g5 rfl).1
    have LL := Lib.hid (show (zs ++ [(⟨tt, ss, ll, rr⟩ : C)]).length = q + 1 by rw [List.length_append, ZQ.out]; rfl)
    have SS := Lib.hid (show Short (zs ++ [(⟨tt, ss, ll, rr⟩ : C)]) from ⟨by rw [LL.out]; omega, short_snoc ZS.out.2 DA.out⟩)
    have G6 := Lib.hid (show w.grownBy w5 (some g) from grown_widen (Draw.grown_trans G3.out (World.grownBy_alloc _ _ (some g))) hgrow hg0)
    have C6 := Lib.hid (ready_row (R3.out.alloc _) hgrow (Nat.lt_of_lt_of_le LT.out hg0)).cur
    clear hown' hgrow hnil hown O3 R3 G3
    go_wp2_with fail
    go_ret
    exact ⟨_, q + 1, g5, 0, cq5, LL.out, SS.out, rfl, L6.out, G5.out, C6.out, G6.out⟩
  · clear i1 i2
    go_wp2_with fail
    go_loopw [3, 4] (fun lv iv wr => ∃ (k q2 : Nat) (ys : List C), q2 ≤ 13 ∧ q2 = q + k ∧ iv = .int .i64 k ∧ (∃ gr cc : Nat, lv = .slice (some ⟨gr, 0, none⟩) q2 cc) ∧ Hid (ys.length = q2) ∧ Hid (∀ z ∈ ys, z.nm.size ≤ 9) ∧ Hid (wr.ownsRow w.heap.size 26 4 lv q2 (dls ys)) ∧ Hid (Ready wr g A n c bs) ∧ Hid (w.grownBy wr (some g))) (fun _ i _ => 13 - (intOf i).toNat)
    case atStart => exact ⟨0, q, zs, by omega, rfl, rfl, ⟨_, _, rfl⟩, ZQ, Lib.hid ZS.out.2, O2, R2, G2⟩
    case round =>
      clear R2 G2 O2
      obtain ⟨k, q2, ys, hq13, hq2, rfl, ⟨g4, c4, rfl⟩, YL, YS, OK, RK, GK⟩ := hrel
      have HQ2 := Lib.hid hq2
      have hk13 : k ≤ 13 := by omega
      clear hq2
      by_cases hlt : q2 < 13
      · have hlti : (q2 : Int) < 13 := by omega
        have HG0 := Lib.hid (OK.out.lt g4 rfl)
        have hszr : w.heap.size ≤ wr.heap.size := GK.out.size
        have hown := OK.out.alloc
        go_wp2_with (at_builtin; refine wpList_append_own _ rfl _ _ 24 rfl w.heap.size 26 i0 (.agg #[.int .i64 0, .string ⟨#[]⟩, .int .i64 0, .int .i64 0]) 4 40 Try.underlying24 hi hz0 hz1 hz2 rfl (by decide) _ _ _ rfl (hown _) ⟨wr.heap.size, 0, none⟩ 1 1 [.int .i64 (30 + (k : Int)), .string ⟨#[97]⟩, .int .i64 k, .int .i64 0] rfl rfl (by intro j u hj; match j, hj with | 0, hj => (simp at hj; subst hj; simp [Addr.add]) | 1, hj => (simp at hj; subst hj; simp [Addr.add]) | 2, hj => (simp at hj; subst hj; simp [Addr.add]) | 3, hj => (simp at hj; subst hj; simp [Addr.add])) (by intro u hu9; simp at hu9; rcases hu9 with rfl | rfl | rfl | rfl <;> rfl) (by unfold maxLen; omega) (by omega) (by simp; omega) ?_)
        intro v' w5 hown' hgrow hnil
        rw [show dls ys ++ [.int .i64 (30 + (k : Int)), .string ⟨#[97]⟩, .int .i64 k, .int .i64 0] = dls (ys ++ [⟨30 + (k : Int), ⟨#[97]⟩, k, 0⟩]) from dls_snoc _ ⟨30 + (k : Int), ⟨#[97]⟩, k, 0⟩] at hown'
        have hg9 : ∃ g c, v' = .slice (some ⟨g, 0, none⟩) (q2 + 1) c := by
          rcases hown'.2 with ⟨x1, x2⟩ | ⟨g, cap, cur, x1, _⟩
          · omega
          · exact ⟨g, cap, x1⟩
        obtain ⟨g5, cq5, rfl⟩ := hg9
        have O6 := Lib.hid hown'
        have LL := Lib.hid (show (ys ++ [(⟨30 + (k : Int), ⟨#[97]⟩, k, 0⟩ : C)]).length = q2 + 1 by rw [List.length_append, YL.out]; rfl)
        have S6 := Lib.hid (short_snoc (d := ⟨30 + (k : Int), ⟨#[97]⟩, k, 0⟩) YS.out (show (⟨#[97]⟩ : ByteArray).size ≤ 9 by decide))
        have G6 := Lib.hid (grown_widen (Draw.grown_trans GK.out (World.grownBy_alloc _ _ (some g))) hgrow HG0.out.1)
        have R6 := Lib.hid (ready_row (RK.out.alloc _) hgrow (Nat.lt_of_lt_of_le LT.out HG0.out.1))
        clear hown' hgrow hnil hown OK RK GK
        go_wp2_with fail
        go_roundw
        case rel => exact ⟨k + 1, q2 + 1, _, by omega, by have := HQ2.out; omega, by go_num, ⟨_, _, rfl⟩, LL, S6, O6, R6, G6⟩
        case measure => simp [intOf]; have := HQ2.out; omega
      · obtain rfl : q2 = 13 := by omega
        have hlt3 := RK.out.cur.lt
        have R7 := Lib.hid (RK.out.alloc (.cells (ints ends).toArray 3))
        have G7 := Lib.hid (Draw.grown_trans GK.out (World.grownBy_alloc wr (.cells (ints ends).toArray 3) (some g)))
        have L7 := Lib.hid (lies_own (OK.out.alloc (.cells (ints ends).toArray 3)) LT.out)
        have hcap := owns_cap OK.out
        have GE := Lib.hid (OK.out.lt g4 rfl).1
        have P := Lib.hid (pick R7.out wr.heap.size 0 2 ends (by omega) (by decide) (by decide) (cells_at wr ends 3))
        clear hlt3 OK RK GK
        go_wp2_with fail
        refine P.out.mono ?_
        rintro e w8 ⟨v, hv, rfl, k1, k2⟩
        have L8 := Lib.hid (L7.out.next k2)
        have G8 := Lib.hid (Draw.grown_trans G7.out k2)
        have C8 := Lib.hid k1
        clear k1 k2 P L7 G7 R7
        have hv2 : v = 12 ∨ v = 13 := by unfold ends at hv; simp at hv; exact hv
        have HT := Lib.hid (show Short (ys.take 12) from ⟨by rw [List.length_take]; omega, fun z hz => YS.out z (List.mem_of_mem_take hz)⟩)
        have T12 := Lib.hid (show (ys.take 12).length = 12 by rw [List.length_take, YL.out]; rfl)
        clear hv
        rcases hv2 with rfl | rfl
        · go_wp2_with fail
          go_ret
          exact ⟨ys.take 12, 12, g4, 0, c4, T12.out, HT.out, rfl, lies_take L8.out 12, GE.out, C8.out, G8.out⟩
        · go_wp2_with fail
          go_ret
          exact ⟨ys, 13, g4, 0, c4, YL.out, ⟨by rw [YL.out]; decide, YS.out⟩, rfl, L8.out, GE.out, C8.out, G8.out⟩
  · have e0 : (i == 0) = false := by simp; omega
    have e1 : (i == 1) = false := by simp; omega
    have L2 := Lib.hid (lies_own O2.out LT.out)
    clear i1 i2 h3
    go_wp2_with fail
    go_ret
    exact ⟨zs, q, gr, 0, cc, ZQ.out, ZS.out, rfl, L2.out, (O2.out.lt gr rfl).1, R2.out.cur, G2.out⟩

def DrawnA (w : World) (e : Ending) (w' : World) : Prop :=
  ∃ (zs : List C) (q gr og cc : Nat) (t : Int) (s : ByteArray) (l r : Int), zs.length = q ∧ Short zs ∧ s.size ≤ 9 ∧ e = .returned (.tuple #[.slice (some ⟨gr, og, none⟩) q cc, va t s l r]) ∧ Rd w' w'.heap.size (some ⟨gr, og, none⟩) (dls zs) ∧ Below w.heap.size w w'
def DrawnM (w : World) (e : Ending) (w' : World) : Prop :=
  ∃ (zs : List C) (q gr og cc : Nat) (xs : List C) (p hr oh ch : Nat), zs.length = q ∧ Short zs ∧ xs.length = p ∧ Short xs ∧ e = .returned (.tuple #[.slice (some ⟨gr, og, none⟩) q cc, .slice (some ⟨hr, oh, none⟩) p ch]) ∧ Rd w' w'.heap.size (some ⟨gr, og, none⟩) (dls zs) ∧ Rd w' w'.heap.size (some ⟨hr, oh, none⟩) (dls xs) ∧ Below w.heap.size w w'
theorem put4_block {w : World} {b j : Nat} (h : j ≠ b) (d : C) : (put4 w b d).heap[j]? = w.heap[j]? :=
  (Below.heap_setCell _ _ _ _ h).trans ((Below.heap_setCell _ _ _ _ h).trans ((Below.heap_setCell _ _ _ _ h).trans (Below.heap_setCell _ _ _ _ h)))
theorem put4_size (w : World) (b : Nat) (d : C) : (put4 w b d).heap.size = w.heap.size := by simp [World.setCell]
theorem put4_cell {w : World} {b : Nat} {p : Addr} {v : Value} (h : w.cell? p = some v) (hp : p.block ≠ b) (d : C) : (put4 w b d).cell? p = some v := (World.cell?_of_block (put4_block hp d)).trans h
theorem Lies.put {w : World} {g gr og b : Nat} {zs : List C} (h : Lies w g gr og zs) (hb : gr ≠ b) (d : C) : Lies (put4 w b d) g gr og zs :=
  ⟨h.1, Nat.lt_of_lt_of_eq h.2.1 (put4_size w b d).symm, fun j u hu => put4_cell (p := ⟨gr, og + j, none⟩) (h.2.2 j u hu) hb d⟩
theorem put4_below {w0 w : World} (h : Below w0.heap.size w0 w) {b : Nat} (hb : w0.heap.size ≤ b) (d : C) : Below w0.heap.size w0 (put4 w b d) :=
  ⟨h.os, h.tape, h.output, Nat.le_trans h.size (Nat.le_of_eq (put4_size w b d).symm), fun j hj => (put4_block (by omega) d).trans (h.block j hj)⟩

set_option maxRecDepth 100000 in
set_option maxHeartbeats 2000000 in
theorem drawAdd (w : World) (A : Option Addr) (n c : Nat) (bs : List UInt8) (hn : bs.length = n) (hb : n ≤ 4096) (hr : Rd w w.heap.size A (u8s bs)) :
    Calls Try.prog 6 #[.slice A n c] w (DrawnA w) := by
  have f0 : Below w.heap.size w (w.alloc (.cells (ca 0 ⟨#[]⟩ 0 0) 26)) := by go_grown
  have FB := Lib.hid f0
  have X0 := Lib.hid (Bc.new w 0 ⟨#[]⟩ 0 0)
  have N0 := Lib.hid (new (w.alloc (.cells (ca 0 ⟨#[]⟩ 0 0) 26)) A n c bs hn hb ((hr.below f0).more f0.size))
  clear hn hb hr
  go_enter Try.func6, Try.ntmps6
  go_wp2_with fail
  refine N0.out.mono ?_
  rintro e w1 ⟨g, rfl, hg, hR, hB⟩
  have R1 := Lib.hid hR
  have B1 := Lib.hid hB
  have HG := Lib.hid hg
  have NE := Lib.hid (show w.heap.size ≠ g by have := hg; simp at this; omega)
  have SZ := Lib.hid (show w.heap.size < w1.heap.size by have := hB.size; simp at this; omega)
  have X1 := Lib.hid (X0.out.below hB (by simp))
  clear hg hR hB N0
  go_wp2_with fail
  refine (l7List R1.out).mono ?_
  rintro e w2 ⟨zs, q, gr, og, cc, hq, hs, rfl, ho, hge, k1, k2⟩
  have R2 := Lib.hid (R1.out.next k2 k1)
  have B2 := Lib.hid (B1.out.grown k2 B1.out.size (fun j hj => by cases hj; exact HG.out))
  have L2 := Lib.hid ho
  have ZQ := Lib.hid (And.intro hq hs)
  have GE := Lib.hid hge
  have X2 := Lib.hid (X1.out.grown k2 (fun e => NE.out (Option.some.inj e)))
  clear k1 k2 ho hq hs hge R1
  go_wp2_with fail
  refine (l7Any R2.out).mono ?_
  rintro e w3 ⟨t, s, l, r, hd, rfl, k1, k2⟩
  have B3 := Lib.hid (B2.out.grown k2 B2.out.size (fun j hj => by cases hj; exact HG.out))
  have L3 := Lib.hid (L2.out.next k2)
  have X3 := Lib.hid (X2.out.grown k2 (fun e => NE.out (Option.some.inj e)))
  have DA := Lib.hid hd
  clear k1 k2 hd B2 L2 R2 X2
  obtain ⟨b0, b1, b2, b3⟩ := X3.out.c
  have gz := X3.out.f
  go_wp2_with fail
  obtain ⟨s0, s1, s2, s3⟩ := (bc_put X3.out ⟨t, s, l, r⟩).c
  have L4 := Lib.hid (L3.out.put (by have := GE.out; have := SZ.out; omega : gr ≠ w.heap.size) ⟨t, s, l, r⟩)
  have B4 := Lib.hid (put4_below (FB.out.trans (B3.out.mono (by simp))) (Nat.le_refl _) ⟨t, s, l, r⟩)
  (try simp only [Exit.inBlock, Exit.then])
  refine bodyPost_ret (v := .tuple #[.slice (some ⟨gr, og, none⟩) q cc, va t s l r]) (by simp only [results, Try.results6, s0, s1, s2, s3]; simp [go_sem, s0, s1, s2, s3]; try rfl) rfl ?_
  exact ⟨zs, q, gr, og, cc, t, s, l, r, ZQ.out.1, ZQ.out.2, DA.out, rfl, L4.out.rd, B4.out⟩

set_option maxRecDepth 100000 in
set_option maxHeartbeats 2000000 in
theorem drawMerge (w : World) (A : Option Addr) (n c : Nat) (bs : List UInt8) (hn : bs.length = n) (hb : n ≤ 4096) (hr : Rd w w.heap.size A (u8s bs)) :
    Calls Try.prog 14 #[.slice A n c] w (DrawnM w) := by
  have N0 := Lib.hid (new w A n c bs hn hb hr)
  clear hn hb hr
  go_enter Try.func14, Try.ntmps14
  go_wp2_with fail
  refine N0.out.mono ?_
  rintro e w1 ⟨g, rfl, hg, hR, hB⟩
  have R1 := Lib.hid hR
  have B1 := Lib.hid hB
  have HG := Lib.hid hg
  clear hg hR hB N0
  go_wp2_with fail
  refine (l7List R1.out).mono ?_
  rintro e w2 ⟨zs, q, gr, og, cc, hq, hs, rfl, ho, hge, k1, k2⟩
  have R2 := Lib.hid (R1.out.next k2 k1)
  have B2 := Lib.hid (B1.out.grown k2 B1.out.size (fun j hj => by cases hj; exact HG.out))
  have L2 := Lib.hid ho
  have ZQ := Lib.hid (And.intro hq hs)
  have GE := Lib.hid hge
  clear k1 k2 ho hq hs hge R1
  go_wp2_with fail
  refine (l7List R2.out).mono ?_
  rintro e w3 ⟨xs, p, hr, oh, ch, hp, hs, rfl, ho, _, k1, k2⟩
  have B3 := Lib.hid (B2.out.grown k2 B2.out.size (fun j hj => by cases hj; exact HG.out))
  have L3 := Lib.hid (L2.out.next k2)
  have L4 := Lib.hid ho
  have XQ := Lib.hid (And.intro hp hs)
  clear k1 k2 hp hs ho B2 L2 R2
  go_wp2_with fail
  go_returns
  exact ⟨zs, q, gr, og, cc, xs, p, hr, oh, ch, ZQ.out.1, ZQ.out.2, XQ.out.1, XQ.out.2, rfl, L3.out.rd, L4.out.rd, B3.out⟩

end Go.Proofs.Ytgcheplneolonac.Dr7
