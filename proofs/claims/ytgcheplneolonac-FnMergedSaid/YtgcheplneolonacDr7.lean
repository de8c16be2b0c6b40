/- The draw of a score: some score, its names from a few; nothing but the cursor is written. -/
import Derived.Test.YtgcheplneolonacDraw
import Derived.Test.YtgcheplneolonacAm8
import Derived.IntWalk
namespace Go.Proofs.Ytgcheplneolonac.Dr7
open Go.RowKit Go.ChangeShapes Go.WideShapes Go.WideElems Go.Deep Go.Proofs.Ytgcheplneolonac.Mem Go.Proofs.Ytgcheplneolonac.Rw Go.Proofs.Ytgcheplneolonac.P2 Go.Proofs.Ytgcheplneolonac.Cd Go.Proofs.Ytgcheplneolonac.Cv Go.Proofs.Ytgcheplneolonac.Cl Go.Proofs.Ytgcheplneolonac.Cs
set_option linter.unusedVariables false
set_option linter.unusedSimpArgs false
open Go.Proofs.Ytgcheplneolonac.Sd Go.Proofs.Ytgcheplneolonac.Oc Go.Proofs.Ytgcheplneolonac.Cr Go.Proofs.Ytgcheplneolonac.Ld Go.Proofs.Ytgcheplneolonac.Hc Go.Proofs.Ytgcheplneolonac.Cq Go.Proofs.Ytgcheplneolonac.Ac Go.Proofs.Ytgcheplneolonac.Am8 Go.Proofs.Ytgcheplneolonac.Strs
open Go.Proofs.Ytgcheplneolonac.Draw (Cur Ready Got GotB u8s below pick cells_at new Fresh)
open Go.Proofs.Ytgcheplneolonac.Rw (owns_below owns_grown owns_base)

theorem ready_below {w w' : World} {g n c : Nat} {A : Option Addr} {bs : List UInt8} (h : Ready w g A n c bs) (k : Below w.heap.size w w') : Ready w' g A n c bs := by
  refine ⟨h.len, h.max, ?_, h.cur.kept (k.block g h.cur.lt)⟩
  rcases h.rd with h1 | ⟨b, o, e, hb, hx⟩
  · exact Or.inl h1
  · exact Or.inr ⟨b, o, e, hb, fun j v hv => (k.cell (p := ⟨b, o + j, none⟩) (Nat.lt_trans hb h.cur.lt)).trans (hx j v hv)⟩
theorem gr_below {w w' : World} {r : Option Nat} (h : Below w.heap.size w w') : w.grownBy w' r := ⟨h.os, h.tape, h.output, h.size, fun j hj _ => h.block j hj⟩
/-- A row is as it was where the cursor alone is written. -/
theorem row_next {a b : World} {base g gr q c : Nat} {e : TypeId} {s : Nat} {xs : List Value} (h : a.ownsRow base e s (.slice (some ⟨gr, 0, none⟩) q c) q xs) (k : a.grownBy b (some g)) (hg : g < base) : b.ownsRow base e s (.slice (some ⟨gr, 0, none⟩) q c) q xs :=
  owns_grown h k (fun i hi => by cases hi; intro e; have e : g = gr := Option.some.inj e; have h7 : base ≤ gr := (h.lt gr rfl).1; omega)
theorem cells_str (w : World) (zs : List ByteArray) (t : TypeId) : ∀ j z, zs[j]? = some z → (w.alloc (.cells (Strs.strs zs).toArray t)).cell? ⟨w.heap.size, 0 + j, none⟩ = some (.string z) := by
  intro j z h
  rw [Nat.zero_add, cell_of_row (w.alloc (.cells (Strs.strs zs).toArray t)) w.heap.size j _ _ _ (heap_alloc_new w _)]
  unfold Strs.strs
  rw [List.getElem?_toArray, List.getElem?_map, h]
  rfl

/-- What the draw of a text leaves: one of these. -/
def GotN (zs : List ByteArray) (w : World) (g : Nat) (A : Option Addr) (n c : Nat) (e : Ending) (w' : World) : Prop :=
  ∃ x : ByteArray, x ∈ zs ∧ e = .returned (.string x) ∧ Cur w' g A n c ∧ w.grownBy w' (some g)

/-- A text of a list that lies apart from the cursor. -/
theorem pickS {w : World} {g n c : Nat} {A : Option Addr} {bs : List UInt8} (h : Ready w g A n c bs) (lb lo lc : Nat) (zs : List ByteArray) (hb : lb ≠ g) (h1 : 1 ≤ zs.length) (h2 : zs.length ≤ 1000) (hl : ∀ j z, zs[j]? = some z → w.cell? ⟨lb, lo + j, none⟩ = some (.string z)) :
    Calls Try.prog 42 #[.pointer (some ⟨g, 0, none⟩), .slice (some ⟨lb, lo, none⟩) zs.length lc] w (GotN zs w g A n c) := by
  have H := Lib.hid h
  have HL := Lib.hid hl
  obtain ⟨m, hm⟩ : ∃ m, zs.length = m := ⟨_, rfl⟩
  rw [hm] at h1 h2 ⊢
  have HM := Lib.hid hm
  clear h hl hm
  go_enter Try.func42, Try.ntmps42
  go_wp2_with fail
  refine (below H.out m (by omega) (by omega)).mono ?_
  rintro e w1 ⟨x, ⟨x1, x2⟩, rfl, k1, k2⟩
  obtain ⟨k, rfl⟩ : ∃ k : Nat, x = k := ⟨x.toNat, by omega⟩
  have hk : k < zs.length := by rw [HM.out]; omega
  obtain ⟨z, hz⟩ : ∃ z, zs[k]? = some z := ⟨_, List.getElem?_eq_getElem hk⟩
  have c1 : w1.cell? ⟨lb, lo + k, none⟩ = some (.string z) := k2.cell (HL.out k z hz) (fun e => hb (Option.some.inj e))
  have K := Lib.hid (And.intro k1 k2)
  have Z := Lib.hid (List.mem_of_getElem? hz)
  clear k1 k2 hk hz hb
  go_wp2_with fail
  go_ret
  exact ⟨z, Z.out, rfl, K.out.1, K.out.2⟩

def names : List ByteArray := [⟨#[97]⟩, ⟨#[97]⟩, ⟨#[98]⟩, ⟨#[99]⟩, ⟨#[114]⟩, ⟨#[110, 111]⟩]
def ramps : List Int := [0, 0, 1, 2, 3, 5, 8, 16]
theorem name_size {x : ByteArray} (h : x ∈ names) : x.size ≤ 8 := by
  unfold names at h
  simp only [List.mem_cons, List.not_mem_nil, or_false] at h
  rcases h with h | h | h | h | h | h <;> subst h <;> decide

set_option maxRecDepth 100000 in
set_option maxHeartbeats 1000000 in
theorem l7Name {w : World} {g n c : Nat} {A : Option Addr} {bs : List UInt8} (h : Ready w g A n c bs) :
    Calls Try.prog 25 #[.pointer (some ⟨g, 0, none⟩)] w (GotN names w g A n c) := by
  have hlt := h.cur.lt
  have P := Lib.hid (pickS (h.alloc (.cells (Strs.strs names).toArray 9)) w.heap.size 0 6 names (by omega) (by decide) (by decide) (cells_str w names 9))
  have G0 := Lib.hid (World.grownBy_alloc w (.cells (Strs.strs names).toArray 9) (some g))
  clear h hlt
  go_enter Try.func25, Try.ntmps25
  go_wp2_with fail
  refine P.out.mono ?_
  rintro e w1 ⟨x, hx, rfl, k1, k2⟩
  have K := Lib.hid k1
  have G1 := Lib.hid (Draw.grown_trans G0.out k2)
  have X := Lib.hid hx
  clear k1 k2 hx P
  go_wp2_with fail
  go_ret
  exact ⟨x, X.out, rfl, K.out, G1.out⟩

/-- What is known of a cue that was drawn. -/
def Dn (d : C) : Prop := 0 ≤ d.tk ∧ d.tk ≤ 13 ∧ d.nm ∈ names
/-- What the draw of a cue leaves. -/
def GotC (w : World) (g : Nat) (A : Option Addr) (n c : Nat) (e : Ending) (w' : World) : Prop :=
  ∃ (t : Int) (s : ByteArray) (l r : Int), Dn ⟨t, s, l, r⟩ ∧ e = .returned (va t s l r) ∧ Cur w' g A n c ∧ w.grownBy w' (some g)

set_option maxRecDepth 100000 in
set_option maxHeartbeats 2000000 in
theorem l7Cue {w : World} {g n c : Nat} {A : Option Addr} {bs : List UInt8} (h : Ready w g A n c bs) :
    Calls Try.prog 33 #[.pointer (some ⟨g, 0, none⟩)] w (GotC w g A n c) := by
  have hlt := h.cur.lt
  have H1 := Lib.hid (h.alloc (.cells (ca 0 ⟨#[]⟩ 0 0) 26))
  have G1 := Lib.hid (World.grownBy_alloc w (.cells (ca 0 ⟨#[]⟩ 0 0) 26) (some g))
  have X1 := Lib.hid (R4.new w (.int .i64 0) (.string ⟨#[]⟩) (.int .i64 0) (.int .i64 0) 26)
  have NE := Lib.hid (show w.heap.size ≠ g by omega)
  have N2 := Lib.hid (show (some g : Option Nat) ≠ some w.heap.size from fun e => by have e := Option.some.inj e; omega)
  clear h hlt
  go_enter Try.func33, Try.ntmps33
  go_wp2_with fail
  refine (below H1.out 14 (by decide) (by decide)).mono ?_
  rintro e w1 ⟨t, ht, rfl, k1, k2⟩
  have H2 := Lib.hid (H1.out.next k2 k1)
  have G2 := Lib.hid (Draw.grown_trans G1.out k2)
  have X2 := Lib.hid (X1.out.grown k2 N2.out)
  have HT := Lib.hid ht
  clear k1 k2 ht H1 G1 X1
  go_wp2_with fail
  refine (l7Name H2.out).mono ?_
  rintro e w2 ⟨s, hs, rfl, k1, k2⟩
  have H3 := Lib.hid (H2.out.next k2 k1)
  have G3 := Lib.hid (Draw.grown_trans G2.out k2)
  have X3 := Lib.hid (X2.out.grown k2 N2.out)
  have HS := Lib.hid hs
  clear k1 k2 hs H2 G2 X2
  go_wp2_with fail
  refine (below H3.out 33 (by decide) (by decide)).mono ?_
  rintro e w3 ⟨l, hl, rfl, k1, k2⟩
  have H4 := Lib.hid (H3.out.next k2 k1)
  have G4 := Lib.hid (Draw.grown_trans G3.out k2)
  have X4 := Lib.hid (X3.out.grown k2 N2.out)
  clear k1 k2 hl H3 G3 X3
  have hlt := H4.out.cur.lt
  have P := Lib.hid (pick (H4.out.alloc (.cells (ints ramps).toArray 3)) w3.heap.size 0 8 ramps (by omega) (by decide) (by decide) (cells_at w3 ramps 3))
  clear hlt
  go_wp2_with fail
  refine P.out.mono ?_
  rintro e w4 ⟨r, _, rfl, k1, k2⟩
  have C5 := Lib.hid k1
  have G5 := Lib.hid (Draw.grown_trans (Draw.grown_trans G4.out (World.grownBy_alloc _ (.cells (ints ramps).toArray 3) (some g))) k2)
  have x5 := (X4.out.alloc (.cells (ints ramps).toArray 3)).grown k2 N2.out
  have X5 := Lib.hid x5
  have d0 := x5.c0
  have d1 := x5.c1
  have d2 := x5.c2
  have d3 := x5.c3
  have e0 := x5.f0
  have e1 := x5.f1
  have e2 := x5.f2
  have e3 := x5.f3
  clear k1 k2 H4 G4 X4 P x5
  go_wp2_with fail
  have z := X5.out.put (.int .i64 t) (.string s) (.int .i64 l) (.int .i64 r)
  have s0 := z.c0
  have s1 := z.c1
  have s2 := z.c2
  have s3 := z.c3
  clear z
  (try simp only [Exit.inBlock, Exit.then])
  refine bodyPost_ret (by simp [results, Try.results33, go_sem, s0, s1, s2, s3]; try rfl) rfl ?_
  have h1 := HT.out
  refine ⟨t, s, l, r, ⟨by simpa using h1.1, by have := h1.2; simp; omega, HS.out⟩, rfl, ?_, ?_⟩
  · refine C5.out.kept ?_
    rw [Below.heap_setCell _ _ _ _ NE.out.symm, Below.heap_setCell _ _ _ _ NE.out.symm, Below.heap_setCell _ _ _ _ NE.out.symm, Below.heap_setCell _ _ _ _ NE.out.symm]
  · have hp := put_grown w4 w.heap.size (.int .i64 t) (.string s) (.int .i64 l) (.int .i64 r)
    exact ⟨hp.os.trans G5.out.os, hp.tape.trans G5.out.tape, hp.output.trans G5.out.output, Nat.le_trans G5.out.size hp.size, fun i hi hr => (hp.block i (Nat.lt_of_lt_of_le hi G5.out.size) (fun e => by have e := Option.some.inj e; omega)).trans (G5.out.block i hi hr)⟩

/-- What is known of a score that was drawn. -/
def Sn (zs : List C) (k : Nat) : Prop := score zs = true ∧ zs.length ≤ k ∧ ∀ d ∈ zs, Dn d
theorem Sn.zero : Sn [] 0 := ⟨score_yes (score_set.2 ⟨by simp, List.Pairwise.nil, fun d hd => by cases hd⟩), Nat.le_refl _, fun d hd => by cases hd⟩
theorem Sn.next {zs : List C} {k : Nat} {x : C} (h : Sn zs k) (hx : Dn x) : Sn (addL zs x) (k + 1) :=
  ⟨add_score h.1, Nat.le_trans (addL_len zs x) (Nat.succ_le_succ h.2.1), fun d hd => by rcases add_mem hd with rfl | hd; exact hx; exact h.2.2 d hd⟩
theorem Sn.sizes {zs : List C} {k : Nat} (h : Sn zs k) : ∀ z ∈ zs, z.nm.size ≤ 1048576 := fun z hz => Nat.le_trans (name_size (h.2.2 z hz).2.2) (by decide)

/-- What the draw of a score leaves. -/
def GotZ (m : Nat) (w : World) (g : Nat) (A : Option Addr) (n c : Nat) (e : Ending) (w' : World) : Prop :=
  ∃ (zs : List C) (q gr cc : Nat), zs.length = q ∧ Sn zs m ∧ e = .returned (.slice (some ⟨gr, 0, none⟩) q cc) ∧ w'.ownsRow w.heap.size 26 4 (.slice (some ⟨gr, 0, none⟩) q cc) q (dls zs) ∧ Cur w' g A n c ∧ w.grownBy w' (some g)

set_option maxRecDepth 100000 in
set_option maxHeartbeats 2000000 in
theorem l7Draw {w : World} {g n c : Nat} {A : Option Addr} {bs : List UInt8} (h : Ready w g A n c bs) :
    Calls Try.prog 24 #[.pointer (some ⟨g, 0, none⟩), .int .i64 7] w (GotZ 7 w g A n c) := by
  have hlt := h.cur.lt
  have O1 := Lib.hid (World.ownsRow_lit (base := w.heap.size) (e := 26) (size := 4) w #[] 0 (Nat.le_refl _) (Nat.zero_le _) rfl)
  have H1 := Lib.hid (h.alloc (.cells #[] 26))
  have G1 := Lib.hid (World.grownBy_alloc w (.cells #[] 26) (some g))
  have NE := Lib.hid hlt
  clear h hlt
  go_enter Try.func24, Try.ntmps24
  go_wp2_with fail
  refine (below H1.out 8 (by decide) (by decide)).mono ?_
  rintro e w1 ⟨x, hx, rfl, k1, k2⟩
  obtain ⟨x, rfl⟩ : ∃ k : Nat, x = (k : Int) := ⟨x.toNat, by omega⟩
  have H2 := Lib.hid (H1.out.next k2 k1)
  have G2 := Lib.hid (Draw.grown_trans G1.out k2)
  have O2 := Lib.hid (row_next O1.out k2 NE.out)
  have hx8 : x ≤ 7 := by omega
  clear k1 k2 H1 G1 O1 hx
  go_wp2_with fail
  go_loopw [5, 6] (fun v mv wr => ∃ (zs : List C) (q m k : Nat), k + m ≤ 7 ∧ q ≤ k ∧ mv = .int .i64 m ∧ (∃ gr cc : Nat, v = .slice (some ⟨gr, 0, none⟩) q cc) ∧ Hid (zs.length = q) ∧ Hid (Sn zs k) ∧ Hid (wr.ownsRow w.heap.size 26 4 v q (dls zs)) ∧ Hid (Ready wr g A n c bs) ∧ Hid (w.grownBy wr (some g))) (fun _ mv _ => (intOf mv).toNat)
  case atStart => exact ⟨[], 0, x, 0, by omega, Nat.le_refl _, rfl, ⟨_, _, rfl⟩, Lib.hid rfl, Lib.hid Sn.zero, O2, H2, G2⟩
  case round =>
    obtain ⟨zs, q, m, k, hqm, hqk, rfl, ⟨gr, cc, rfl⟩, ZK, SK, OK, HK, GK⟩ := hrel
    by_cases hm0 : 0 < m
    · have hm0' : (0 : Int) < (m : Int) := by omega
      clear H2 G2 O2
      go_wp2_with fail
      refine (l7Cue HK.out).mono ?_
      rintro e w3 ⟨t, s, l, r, hd, rfl, k1, k2⟩
      have H3 := Lib.hid (HK.out.next k2 k1)
      have G3 := Lib.hid (Draw.grown_trans GK.out k2)
      have o3 := row_next OK.out k2 NE.out
      have O3 := Lib.hid o3
      have D3 := Lib.hid hd
      have hcap := owns_cap o3
      have HSX := Lib.hid (show s.size ≤ 1048576 from Nat.le_trans (name_size hd.2.2) (by decide))
      have RR := Lib.hid (show Rd w3 w3.heap.size (some ⟨gr, 0, none⟩) (dls zs) from Rd.own O3.out)
      have AD := Lib.hid (addS gr 0 q cc zs t s l r w3 ZK.out (by omega) hcap.1 hcap.2 SK.out.sizes HSX.out RR.out)
      obtain ⟨L, hL⟩ : ∃ L, addL zs ⟨t, s, l, r⟩ = L := ⟨_, rfl⟩
      have SL := Lib.hid (show Sn L (k + 1) by rw [← hL]; exact SK.out.next hd)
      rw [hL] at AD
      obtain ⟨ag, hag⟩ : ∃ b, addG zs ⟨t, s, l, r⟩ = b := ⟨_, rfl⟩
      rw [hag] at AD
      obtain ⟨q2, hq2⟩ : ∃ q2, L.length = q2 := ⟨_, rfl⟩
      unfold RowB at AD
      rw [hq2] at AD
      have HQ2 := Lib.hid hq2
      have hq2k : q2 ≤ k + 1 := by have := SL.out.2.1; omega
      clear k1 k2 HK GK OK hd o3 hcap hL hag hq2 RR
      go_wp2_with fail
      refine AD.out.mono ?_
      rintro e w4 ⟨g4, c4, rfl, ho, hb⟩
      have O4 := Lib.hid (owns_base ho (Nat.le_trans G3.out.size (ho.lt g4 rfl).1))
      have H4 := Lib.hid (ready_below H3.out hb)
      have G4 := Lib.hid (Draw.grown_trans G3.out (gr_below hb))
      have e4 : (m : Int) - 1 = ((m - 1 : Nat) : Int) := by omega
      have E4 := Lib.hid e4
      clear ho hb O3 H3 G3 AD e4
      go_wp2_with fail
      go_roundw
      case rel => exact ⟨L, q2, m - 1, k + 1, by omega, hq2k, by first | rfl | (rw [E4.out]), ⟨_, _, rfl⟩, HQ2, SL, O4, H4, G4⟩
      case measure => simp [intOf]; omega
    · have hm0' : ¬ (0 : Int) < (m : Int) := by omega
      have SN := Lib.hid (show Sn zs 7 from ⟨SK.out.1, by have := SK.out.2.1; omega, SK.out.2.2⟩)
      clear H2 G2 O2
      go_wp2_with fail
      go_ret
      exact ⟨zs, q, gr, cc, ZK.out, SN.out, rfl, OK.out, HK.out.cur, GK.out⟩

/-- What the draw of a score for a law leaves. -/
def DrawnZ (w : World) (e : Ending) (w' : World) : Prop :=
  ∃ (zs : List C) (q gr cc : Nat) (s : ByteArray), zs.length = q ∧ Sn zs 7 ∧ s ∈ names ∧ e = .returned (.tuple #[.slice (some ⟨gr, 0, none⟩) q cc, .string s]) ∧ w'.ownsRow w.heap.size 26 4 (.slice (some ⟨gr, 0, none⟩) q cc) q (dls zs) ∧ Below w.heap.size w w'

set_option maxRecDepth 100000 in
set_option maxHeartbeats 2000000 in
theorem drawZ (w : World) (A : Option Addr) (n c : Nat) (bs : List UInt8) (hn : bs.length = n) (hb : n ≤ 4096) (hr : Rd w w.heap.size A (u8s bs)) :
    Calls Try.prog 11 #[.slice A n c] w (DrawnZ w) := by
  have N0 := Lib.hid (new w A n c bs hn hb hr)
  clear hn hb hr
  go_enter Try.func11, Try.ntmps11
  go_wp2_with fail
  refine N0.out.mono ?_
  rintro e w1 ⟨g, rfl, hg, hR, hB⟩
  have R1 := Lib.hid hR
  have B1 := Lib.hid hB
  have HG := Lib.hid hg
  clear hg hR hB N0
  go_wp2_with fail
  refine (l7Draw R1.out).mono ?_
  rintro e w2 ⟨zs, q, gr, cc, hq, hs, rfl, ho, k1, k2⟩
  have R2 := Lib.hid (R1.out.next k2 k1)
  have B2 := Lib.hid (B1.out.grown k2 B1.out.size (fun j hj => by cases hj; exact HG.out))
  have LW := Lib.hid R1.out.cur.lt
  have O2 := Lib.hid ho
  have ZQ := Lib.hid hq
  have ZS := Lib.hid hs
  clear k1 k2 ho hq hs R1 
  go_wp2_with fail
  refine (l7Name R2.out).mono ?_
  rintro e w3 ⟨s, hs, rfl, k1, k2⟩
  have B3 := Lib.hid (B2.out.grown k2 B2.out.size (fun j hj => by cases hj; exact HG.out))
  have o3 := row_next O2.out k2 LW.out
  have O3 := Lib.hid (owns_base o3 (Nat.le_trans B1.out.size (o3.lt gr rfl).1))
  have HS := Lib.hid hs
  clear k1 k2 hs o3 O2 B2 R2
  go_wp2_with fail
  go_returns
  exact ⟨zs, q, gr, cc, s, ZQ.out, ZS.out, HS.out, rfl, O3.out, B3.out⟩
end Go.Proofs.Ytgcheplneolonac.Dr7
