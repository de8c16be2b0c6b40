/- The higher of two tracks, of the program and of the model. -/
import Derived.Test.YtmbiomekbinplaaFx8
import Derived.Laws.CopyOwn
import Derived.Laws.OwnMore
import Derived.OwnWalk
namespace Go.Proofs.Ytmbiomekbinplaa.Hi8
open Go.RowKit Go.Proofs.Ytmbiomekbinplaa.Mem Go.Proofs.Ytmbiomekbinplaa.Tk Go.Proofs.Ytmbiomekbinplaa.Ti8 Go.Proofs.Ytmbiomekbinplaa.Rw Go.Proofs.Ytmbiomekbinplaa.Meas Go.Proofs.Ytmbiomekbinplaa.Fw8
set_option linter.unusedVariables false
set_option linter.unusedSimpArgs false

open Go.Proofs.Ytmbiomekbinplaa.Fx8 Go.ChangeShapes Go.WideShapes Go.WideElems
theorem row_heap {w : World} {base g n : Nat} {e : TypeId} {xs : List Value} (h : w.ownsRow base e 1 (.slice (some ⟨g, 0, none⟩) n n) n xs) : w.heap[g]? = some (.cells xs.toArray e (0, 0)) := by
  rcases h.2 with ⟨e1, _⟩ | ⟨g', cap, cur, e1, _, e3, _, _, e6, e7⟩
  · cases e1
  · injection e1 with e1 e2 e4; injection e1 with e1; injection e1 with e1; subst e1 e4
    rw [e3]
    congr 2
    rw [← e7, List.take_of_length_le (by simp; omega)]
theorem row_of {w : World} {base g n : Nat} {e : TypeId} {xs : List Value} (h : w.heap[g]? = some (.cells xs.toArray e (0, 0))) (hl : xs.length = n) (hm : n ≤ maxLen) (hg : base ≤ g) : w.ownsRow base e 1 (.slice (some ⟨g, 0, none⟩) n n) n xs :=
  ⟨by omega, Or.inr ⟨g, n, xs.toArray, rfl, hg, h, Nat.le_refl _, hm, by simp; omega, by rw [List.take_of_length_le (by simp; omega)]⟩⟩
/-- What stands from an address on. -/
def Reads (w : World) (a : Addr) (xs : List Value) : Prop := ∀ j v, xs[j]? = some v → w.cell? (a.add j) = some v
theorem oneF : (Try.prog.info? 58).map (·.size) = some 1 := by kernel_rfl
theorem fls_rep (K : Nat) : List.replicate K (.float .f32 0) = fls (List.replicate K 0) := by
  unfold fls; rw [List.map_replicate, show f32 0 = 0 by decide]
def bse (zs : List Int) (K : Nat) : List Int := zs ++ List.replicate (K - zs.length) 0
theorem bse_len {zs : List Int} {K : Nat} (h : zs.length ≤ K) : (bse zs K).length = K := by unfold bse; simp; omega
theorem bse_get {zs : List Int} {K k : Nat} (h : k < K) (hz : zs.length ≤ K) : (bse zs K)[k]? = some (zs.getD k 0) := by
  unfold bse
  rw [List.getD_eq_getElem?_getD]
  by_cases hk : k < zs.length
  · rw [List.getElem?_append_left hk, List.getElem?_eq_getElem hk]; rfl
  · rw [List.getElem?_append_right (by omega), List.getElem?_replicate, if_pos (by omega), List.getElem?_eq_none (by omega)]; rfl
theorem splice_bse (zs : List Int) (K : Nat) : splice (fls (List.replicate K 0)) 0 (fls zs) = fls (bse zs K) := by
  unfold splice bse fls; simp
theorem hi_end {zs xs : List Int} (hz : okT zs) (K : Nat) (hK : K = max zs.length xs.length) : mixed (fls (hi zs xs)) (fls (bse zs K)) xs.length = fls (hi zs xs) := by
  apply List.ext_getElem?
  intro j
  unfold mixed
  by_cases hj : j < xs.length
  · rw [List.getElem?_append_left (by rw [List.length_take, fls_len, hi_len]; omega), List.getElem?_take_of_lt hj]
  · rw [List.getElem?_append_right (by rw [List.length_take]; omega), List.length_take, fls_len, hi_len, Nat.min_eq_left (by omega), List.getElem?_drop, show xs.length + (j - xs.length) = j by omega]
    by_cases h : j < K
    · rw [fls_get (bse_get h (by omega)), fls_get (hi_get (by omega))]
      have := okT_getD hz j
      have e : xs.getD j 0 = 0 := by rw [List.getD_eq_getElem?_getD, List.getElem?_eq_none (by omega)]; rfl
      rw [e, show max (zs.getD j 0) 0 = zs.getD j 0 by omega]
    · rw [List.getElem?_eq_none (by rw [fls_len, bse_len (by omega)]; omega), List.getElem?_eq_none (by rw [fls_len, hi_len]; omega)]

set_option maxHeartbeats 2000000 in
theorem higherI (A : Option Addr) (n c : Nat) (zs : List Int) (A2 : Option Addr) (m c2 : Nat) (xs : List Int) (w : World) (hn : zs.length = n) (hb : n ≤ 1048576) (hm : xs.length = m) (hb2 : m ≤ 1048576) (hr : Rd w w.heap.size A (ints zs)) (hx : Rd w w.heap.size A2 (ints xs)) :
    Calls Try.prog 24 #[.slice A n c, .slice A2 m c2] w (RowI w (hiV zs xs)) := by
  have N := Lib.hid hn
  have M := Lib.hid hm
  have C1N := Lib.hid (fun h => whole_no A n c zs w.heap.size w hn hb hr h)
  have C1Y := Lib.hid (fun h => whole_yes A n c zs w hn hb hr h)
  have C2N := Lib.hid (fun (W : World) (hW : Below w.heap.size w W) h => whole_no A2 m c2 xs W.heap.size W hm hb2 ((hx.below hW).more hW.size) h)
  have C2Y := Lib.hid (fun (W : World) (hW : Below w.heap.size w W) h => whole_yes A2 m c2 xs W hm hb2 ((hx.below hW).more hW.size) h)
  cases h1 : tk zs
  · have FG := Lib.hid (hiV_no (a := zs) (b := xs) (by rw [h1]; intro h; cases h.1))
    have D1 := Lib.hid (C1N.out h1)
    cases h2 : tk xs
    · have D2 := Lib.hid (C2N.out w (Below.refl _ _) h2)
      clear hn hm hr hx h1 h2 C1N C1Y C2N C2Y
      go_enter Try.func24, Try.ntmps24
      go_wp2_with fail
      refine D1.out.mono ?_
      rintro e w' ⟨rfl, rfl⟩
      go_wp2_with fail
      refine D2.out.mono ?_
      rintro e w' ⟨rfl, rfl⟩
      go_wp2_with fail
      go_ret
      rw [FG.out]; exact row_nil w
    · have D2 := Lib.hid (C2Y.out w (Below.refl _ _) h2)
      clear hn hm hr hx h1 h2 C1N C1Y C2N C2Y
      go_enter Try.func24, Try.ntmps24
      go_wp2_with fail
      refine D1.out.mono ?_
      rintro e w' ⟨rfl, rfl⟩
      go_wp2_with fail
      refine D2.out.mono ?_
      rintro e w1 ⟨g, rfl, ho, hb1⟩
      rw [M.out]
      have BB := Lib.hid hb1
      clear ho hb1
      go_wp2_with fail
      go_ret
      rw [FG.out]; exact RowI.from (row_nil w1) BB.out
  have D1 := Lib.hid (C1Y.out h1)
  cases h2 : tk xs
  · have FG := Lib.hid (hiV_no (a := zs) (b := xs) (by rw [h2]; intro h; cases h.2))
    have D2 := Lib.hid (fun W hW => C2N.out W hW h2)
    clear hn hm hr hx h1 h2 C1N C1Y C2N C2Y
    go_enter Try.func24, Try.ntmps24
    go_wp2_with fail
    refine D1.out.mono ?_
    rintro e w1 ⟨g, rfl, ho, hb1⟩
    rw [N.out]
    have BB := Lib.hid hb1
    clear ho hb1
    go_wp2_with fail
    refine (D2.out _ BB.out).mono ?_
    rintro e w' ⟨rfl, rfl⟩
    go_wp2_with fail
    go_ret
    rw [FG.out]; exact RowI.from (row_nil w1) BB.out
  have D2 := Lib.hid (fun W hW => C2Y.out W hW h2)
  have FL := Lib.hid (hiV_yes h1 h2)
  have Z := Lib.hid (tk_iff.1 h1).2
  have X := Lib.hid (tk_iff.1 h2).2
  have OK := Lib.hid (okM (hi_ok Z.out X.out))
  obtain ⟨i0, hi0, hz0, hz1, hz2⟩ := info_of infoF
  by_cases hnm : n < m
  · have HK : n ≤ m ∧ m ≤ m := by omega
    have KM := Lib.hid (show m = max zs.length xs.length by rw [hn, hm]; omega)
    have HL := Lib.hid (show (fls (bse zs m)).length = (fls (hi zs xs)).length by rw [fls_len, fls_len, hi_len, bse_len (by omega), ← KM.out])
    have HN := Lib.hid (show (hi zs xs).length = m by rw [hi_len, ← KM.out])
    have HE := Lib.hid (hi_end (zs := zs) (xs := xs) Z.out m KM.out)
    obtain ⟨HK1, HK2⟩ := HK
    clear hn hm hr hx h1 h2 C1N C1Y C2N C2Y
    go_enter Try.func24, Try.ntmps24
    go_wp2_with fail
    refine D1.out.mono ?_
    rintro e w1 ⟨g, rfl, ho, hb1⟩
    rw [N.out] at ho
    rw [N.out]
    have O1 := Lib.hid ho
    have B1 := Lib.hid hb1
    clear ho hb1
    go_wp2_with fail
    refine (D2.out _ B1.out).mono ?_
    rintro e w2 ⟨g2, rfl, ho, hb2⟩
    rw [M.out] at ho
    rw [M.out]
    have O2 := Lib.hid ho
    have P1 := Lib.hid (owns_below O1.out hb2)
    have B2 := Lib.hid (B1.out.trans (hb2.mono B1.out.size))
    clear ho hb2 O1 B1 D1 D2
    have H1 := Lib.hid (Rd.own P1.out)
    have H2 := Lib.hid (Rd.own O2.out)
    clear P1 O2
    go_wp2_with (at_make; refine wpList_make_full _ rfl _ _ 51 rfl w2.heap.size 58 i0 (.float .f32 0) 1 Try.underlying51 hi0 hz0 hz1 .i64 .i64 m m m rfl rfl rfl rfl (by rw [hz2]; omega) (by unfold maxLen; omega) (Nat.le_refl _) ?_; intro w3 hown hgrow; clear hi0 hz0 hz1 hz2)
    have HG := Lib.hid (show w3.heap[w2.heap.size]? = some (.cells (fls (List.replicate m 0)).toArray 58 (0, 0)) by rw [made_one _ rfl, fls_rep] at hown; exact row_heap hown)
    have B3 := Lib.hid (show Below w2.heap.size w2 w3 from (Below.refl _ _).grown hgrow (Nat.le_refl _) (fun k hk => by cases hk))
    clear hown hgrow
    have H3 := Lib.hid (H1.out.below B3.out)
    have CP := Lib.hid (show Reads w3 ⟨g, 0, none⟩ (fls zs) from fun j v hv => by
      obtain ⟨b, o, e, hbl, hc⟩ := H3.out.get (List.getElem?_eq_some_iff.1 hv).1
      injection e with e; injection e with e1 e2; subst e1 e2
      rw [add_plain]; exact hc j v hv)
    have CE := run_copy_row (P := Try.prog) w3 51 51 3 58 w2.heap.size 0 m m ⟨g, 0, none⟩ n n (fls (List.replicate m 0)).toArray 58 (fls zs) Try.underlying51 oneF HG.out (by rw [fls_len, N.out]; exact (Nat.min_eq_left HK1).symm) CP.out (by simp [fls]; rw [N.out]; exact HK1) (fun u hu => by obtain ⟨z, _, rfl⟩ := List.mem_map.1 hu; rfl)
    obtain ⟨w4, hw4⟩ : ∃ w4, w3.setRow w2.heap.size (splice (fls (List.replicate m 0)) 0 (fls zs)).toArray = w4 := ⟨_, rfl⟩
    have HG4 := Lib.hid (show w4.heap[w2.heap.size]? = some (.cells (splice (fls (List.replicate m 0)) 0 (fls zs)).toArray 58 (0, 0)) by rw [← hw4]; exact setRow_heap w3 w2.heap.size _ _ 58 _ HG.out)
    have hB4 := below_setRow B3.out (Nat.le_refl _) (splice (fls (List.replicate m 0)) 0 (fls zs)).toArray
    rw [hw4] at hB4
    change _ = Result.ok (goInt _) (w3.setRow w2.heap.size (splice (fls (List.replicate m 0)) 0 (fls zs)).toArray) at CE
    rw [hw4, fls_len, N.out] at CE
    rw [splice_bse] at HG4
    clear hw4
    have R0 := Lib.hid (show w4.ownsRow w2.heap.size 58 1 (.slice (some ⟨w2.heap.size, 0, none⟩) m m) m (mixed (fls (hi zs xs)) (fls (bse zs m)) 0) by
      rw [mixed_zero]; exact row_of HG4.out (by rw [fls_len, bse_len (by rw [N.out]; exact HK1)]) (by unfold maxLen; omega) (Nat.le_refl _))
    have B4 := Lib.hid hB4
    clear HG4 hB4 HG B3 H3 CP
    go_wp2_with fail
    rw [CE]
    clear CE
    go_wp2_with fail
    go_loopw [40] (fun i wr => ∃ k : Nat, k ≤ m ∧ i = .int .i64 k ∧ Hid (wr.ownsRow w2.heap.size 58 1 (.slice (some ⟨w2.heap.size, 0, none⟩) m m) m (mixed (fls (hi zs xs)) (fls (bse zs m)) k)) ∧ Hid (Below w2.heap.size w2 wr)) (fun i _ => m - (intOf i).toNat)
    case atStart => exact ⟨0, Nat.zero_le _, rfl, R0, B4⟩
    case round =>
      obtain ⟨k, hk, rfl, RK, BK⟩ := hrel
      clear R0 B4
      by_cases hlt : k < m
      · obtain ⟨x, hx⟩ : ∃ z, xs[k]? = some z := ⟨_, List.getElem?_eq_getElem (by rw [M.out]; exact hlt)⟩
        obtain ⟨b1, o1, eA, hb1, c1⟩ := rd_f (H2.out.below BK.out) hx
        injection eA with eA; injection eA with e1 e2; subst e1 e2
        rw [Nat.zero_add] at c1
        obtain ⟨y, hy⟩ : ∃ y, zs.getD k 0 = y := ⟨_, rfl⟩
        have hy3 := okT_getD Z.out k
        have hx3 := okT_get X.out hx
        have g1 := bse_get (zs := zs) (K := m) (k := k) (by omega) (by rw [N.out]; exact HK1)
        have g2' := hi_get (a := zs) (b := xs) (k := k) (by rw [← KM.out]; omega)
        have hx4 : xs.getD k 0 = x := by rw [List.getD_eq_getElem?_getD, hx]; rfl
        rw [hy] at hy3 g1 g2'
        rw [hx4] at g2'
        have cc := (RK.out.cellAt k (by omega)).trans (mixed_at HL.out (Nat.le_refl _) (fls_get g1))
        have ff := RK.out.frozenAt k
        have MX := max32 Try.prog y x (by omega) (by omega)
        obtain ⟨r1, r2⟩ := RK.out.stored k (.float .f32 (f32 (max y x)))
        rw [mixed_put HL.out (fls_get g2')] at r1
        have R1 := Lib.hid r1
        have BB := Lib.hid (BK.out.grown r2 BK.out.size (fun q hq => by cases hq; exact Nat.le_refl _))
        have k2 : k < m := by omega
        generalize max y x = mz at *
        clear r1 r2 hx hy hy3 hx3 g1 g2' hx4 RK BK
        go_wp2_with fail
        go_roundw
        case rel => exact ⟨k + 1, by omega, by go_num, R1, BB⟩
        case measure => simp [intOf]; omega
      · obtain ⟨hkm, hq⟩ : k = m ∧ True := ⟨by omega, trivial⟩
        have HKM := Lib.hid hkm
        clear hkm
        have OF := Lib.hid (show wr.ownsRow w2.heap.size 58 1 (.slice (some ⟨w2.heap.size, 0, none⟩) m m) m (fls (hi zs xs)) by have := RK.out; rw [HKM.out] at this; have h9 := HE.out; rw [M.out] at h9; rw [h9] at this; exact this)
        have BF := Lib.hid (B2.out.trans (BK.out.mono B2.out.size))
        clear RK BK hq
        go_wp2_with fail
        refine (toldTrack _ _ _ (hi zs xs) _ HN.out (by omega) (Rd.own OF.out) OK.out).mono ?_
        rintro e w5 ⟨g5, c5, rfl, ho, hb5⟩
        rw [HN.out] at ho
        rw [HN.out]
        have K := Lib.hid (And.intro ho hb5)
        clear ho hb5
        go_wp2_with fail
        go_ret
        rw [FL.out]
        exact RowI.from ⟨g5, c5, by rw [HN.out]; rfl, by rw [HN.out]; exact K.out.1, K.out.2⟩ BF.out
  · have HK : n ≤ n ∧ m ≤ n := by omega
    have KM := Lib.hid (show n = max zs.length xs.length by rw [hn, hm]; omega)
    have HL := Lib.hid (show (fls (bse zs n)).length = (fls (hi zs xs)).length by rw [fls_len, fls_len, hi_len, bse_len (by omega), ← KM.out])
    have HN := Lib.hid (show (hi zs xs).length = n by rw [hi_len, ← KM.out])
    have HE := Lib.hid (hi_end (zs := zs) (xs := xs) Z.out n KM.out)
    obtain ⟨HK1, HK2⟩ := HK
    clear hn hm hr hx h1 h2 C1N C1Y C2N C2Y
    go_enter Try.func24, Try.ntmps24
    go_wp2_with fail
    refine D1.out.mono ?_
    rintro e w1 ⟨g, rfl, ho, hb1⟩
    rw [N.out] at ho
    rw [N.out]
    have O1 := Lib.hid ho
    have B1 := Lib.hid hb1
    clear ho hb1
    go_wp2_with fail
    refine (D2.out _ B1.out).mono ?_
    rintro e w2 ⟨g2, rfl, ho, hb2⟩
    rw [M.out] at ho
    rw [M.out]
    have O2 := Lib.hid ho
    have P1 := Lib.hid (owns_below O1.out hb2)
    have B2 := Lib.hid (B1.out.trans (hb2.mono B1.out.size))
    clear ho hb2 O1 B1 D1 D2
    have H1 := Lib.hid (Rd.own P1.out)
    have H2 := Lib.hid (Rd.own O2.out)
    clear P1 O2
    go_wp2_with (at_make; refine wpList_make_full _ rfl _ _ 51 rfl w2.heap.size 58 i0 (.float .f32 0) 1 Try.underlying51 hi0 hz0 hz1 .i64 .i64 n n n rfl rfl rfl rfl (by rw [hz2]; omega) (by unfold maxLen; omega) (Nat.le_refl _) ?_; intro w3 hown hgrow; clear hi0 hz0 hz1 hz2)
    have HG := Lib.hid (show w3.heap[w2.heap.size]? = some (.cells (fls (List.replicate n 0)).toArray 58 (0, 0)) by rw [made_one _ rfl, fls_rep] at hown; exact row_heap hown)
    have B3 := Lib.hid (show Below w2.heap.size w2 w3 from (Below.refl _ _).grown hgrow (Nat.le_refl _) (fun k hk => by cases hk))
    clear hown hgrow
    have H3 := Lib.hid (H1.out.below B3.out)
    have CP := Lib.hid (show Reads w3 ⟨g, 0, none⟩ (fls zs) from fun j v hv => by
      obtain ⟨b, o, e, hbl, hc⟩ := H3.out.get (List.getElem?_eq_some_iff.1 hv).1
      injection e with e; injection e with e1 e2; subst e1 e2
      rw [add_plain]; exact hc j v hv)
    have CE := run_copy_row (P := Try.prog) w3 51 51 3 58 w2.heap.size 0 n n ⟨g, 0, none⟩ n n (fls (List.replicate n 0)).toArray 58 (fls zs) Try.underlying51 oneF HG.out (by rw [fls_len, N.out]; exact (Nat.min_eq_left HK1).symm) CP.out (by simp [fls]; rw [N.out]; exact HK1) (fun u hu => by obtain ⟨z, _, rfl⟩ := List.mem_map.1 hu; rfl)
    obtain ⟨w4, hw4⟩ : ∃ w4, w3.setRow w2.heap.size (splice (fls (List.replicate n 0)) 0 (fls zs)).toArray = w4 := ⟨_, rfl⟩
    have HG4 := Lib.hid (show w4.heap[w2.heap.size]? = some (.cells (splice (fls (List.replicate n 0)) 0 (fls zs)).toArray 58 (0, 0)) by rw [← hw4]; exact setRow_heap w3 w2.heap.size _ _ 58 _ HG.out)
    have hB4 := below_setRow B3.out (Nat.le_refl _) (splice (fls (List.replicate n 0)) 0 (fls zs)).toArray
    rw [hw4] at hB4
    change _ = Result.ok (goInt _) (w3.setRow w2.heap.size (splice (fls (List.replicate n 0)) 0 (fls zs)).toArray) at CE
    rw [hw4, fls_len, N.out] at CE
    rw [splice_bse] at HG4
    clear hw4
    have R0 := Lib.hid (show w4.ownsRow w2.heap.size 58 1 (.slice (some ⟨w2.heap.size, 0, none⟩) n n) n (mixed (fls (hi zs xs)) (fls (bse zs n)) 0) by
      rw [mixed_zero]; exact row_of HG4.out (by rw [fls_len, bse_len (by rw [N.out]; exact HK1)]) (by unfold maxLen; omega) (Nat.le_refl _))
    have B4 := Lib.hid hB4
    clear HG4 hB4 HG B3 H3 CP
    go_wp2_with fail
    rw [CE]
    clear CE
    go_wp2_with fail
    go_loopw [40] (fun i wr => ∃ k : Nat, k ≤ m ∧ i = .int .i64 k ∧ Hid (wr.ownsRow w2.heap.size 58 1 (.slice (some ⟨w2.heap.size, 0, none⟩) n n) n (mixed (fls (hi zs xs)) (fls (bse zs n)) k)) ∧ Hid (Below w2.heap.size w2 wr)) (fun i _ => m - (intOf i).toNat)
    case atStart => exact ⟨0, Nat.zero_le _, rfl, R0, B4⟩
    case round =>
      obtain ⟨k, hk, rfl, RK, BK⟩ := hrel
      clear R0 B4
      by_cases hlt : k < m
      · obtain ⟨x, hx⟩ : ∃ z, xs[k]? = some z := ⟨_, List.getElem?_eq_getElem (by rw [M.out]; exact hlt)⟩
        obtain ⟨b1, o1, eA, hb1, c1⟩ := rd_f (H2.out.below BK.out) hx
        injection eA with eA; injection eA with e1 e2; subst e1 e2
        rw [Nat.zero_add] at c1
        obtain ⟨y, hy⟩ : ∃ y, zs.getD k 0 = y := ⟨_, rfl⟩
        have hy3 := okT_getD Z.out k
        have hx3 := okT_get X.out hx
        have g1 := bse_get (zs := zs) (K := n) (k := k) (by omega) (by rw [N.out]; exact HK1)
        have g2' := hi_get (a := zs) (b := xs) (k := k) (by rw [← KM.out]; omega)
        have hx4 : xs.getD k 0 = x := by rw [List.getD_eq_getElem?_getD, hx]; rfl
        rw [hy] at hy3 g1 g2'
        rw [hx4] at g2'
        have cc := (RK.out.cellAt k (by omega)).trans (mixed_at HL.out (Nat.le_refl _) (fls_get g1))
        have ff := RK.out.frozenAt k
        have MX := max32 Try.prog y x (by omega) (by omega)
        obtain ⟨r1, r2⟩ := RK.out.stored k (.float .f32 (f32 (max y x)))
        rw [mixed_put HL.out (fls_get g2')] at r1
        have R1 := Lib.hid r1
        have BB := Lib.hid (BK.out.grown r2 BK.out.size (fun q hq => by cases hq; exact Nat.le_refl _))
        have k2 : k < n := by omega
        generalize max y x = mz at *
        clear r1 r2 hx hy hy3 hx3 g1 g2' hx4 RK BK
        go_wp2_with fail
        go_roundw
        case rel => exact ⟨k + 1, by omega, by go_num, R1, BB⟩
        case measure => simp [intOf]; omega
      · obtain ⟨hkm, hq⟩ : k = m ∧ True := ⟨by omega, trivial⟩
        have HKM := Lib.hid hkm
        clear hkm
        have OF := Lib.hid (show wr.ownsRow w2.heap.size 58 1 (.slice (some ⟨w2.heap.size, 0, none⟩) n n) n (fls (hi zs xs)) by have := RK.out; rw [HKM.out] at this; have h9 := HE.out; rw [M.out] at h9; rw [h9] at this; exact this)
        have BF := Lib.hid (B2.out.trans (BK.out.mono B2.out.size))
        clear RK BK hq
        go_wp2_with fail
        refine (toldTrack _ _ _ (hi zs xs) _ HN.out (by omega) (Rd.own OF.out) OK.out).mono ?_
        rintro e w5 ⟨g5, c5, rfl, ho, hb5⟩
        rw [HN.out] at ho
        rw [HN.out]
        have K := Lib.hid (And.intro ho hb5)
        clear ho hb5
        go_wp2_with fail
        go_ret
        rw [FL.out]
        exact RowI.from ⟨g5, c5, by rw [HN.out]; rfl, by rw [HN.out]; exact K.out.1, K.out.2⟩ BF.out


set_option maxHeartbeats 2000000 in
theorem higherS (A : Option Addr) (n c : Nat) (zs : List Int) (A2 : Option Addr) (m c2 : Nat) (xs : List Int) (w : World) (hn : zs.length = n) (hb : n ≤ 1048576) (hm : xs.length = m) (hb2 : m ≤ 1048576) (hr : Rd w w.heap.size A (ints zs)) (hx : Rd w w.heap.size A2 (ints xs)) :
    Calls Try.prog 25 #[.slice A n c, .slice A2 m c2] w (RowI w (hiV zs xs)) := by
  obtain ⟨i0, hi0, hz0, hz1, hz2⟩ := info_of infoI
  have N := Lib.hid hn
  have M := Lib.hid hm
  have RZ := Lib.hid hr
  have RX := Lib.hid hx
  have CT1 := Lib.hid (fun (W : World) (hW : Below w.heap.size w W) => trkS A n c zs w.heap.size W hn hb (hr.below hW))
  have CT2 := Lib.hid (fun (W : World) (hW : Below w.heap.size w W) => trkS A2 m c2 xs w.heap.size W hm hb2 (hx.below hW))
  have O1 := Lib.hid (World.ownsRow_lit (base := w.heap.size) (e := 3) (size := 1) w #[] 0 (Nat.le_refl _) (Nat.zero_le _) rfl)
  have B1 := Lib.hid (show Below w.heap.size w (w.alloc (.cells #[] 3)) from (Below.refl _ _).alloc (Nat.le_refl _) _)
  by_cases hg : tk zs = true ∧ tk xs = true
  case neg =>
    have FG := Lib.hid (hiV_no hg)
    have D1 := Lib.hid (CT1.out _ B1.out)
    have D2 := Lib.hid (CT2.out _ B1.out)
    obtain ⟨r1, hr1⟩ : ∃ r, tk zs = r := ⟨_, rfl⟩
    obtain ⟨r2, hr2⟩ : ∃ r, tk xs = r := ⟨_, rfl⟩
    have h3 : r1 = false ∨ r1 = true ∧ r2 = false := by
      rw [hr1, hr2] at hg
      cases r1 <;> cases r2 <;> simp at hg ⊢
    rw [hr1] at D1
    rw [hr2] at D2
    have RN := Lib.hid (row_nil w)
    clear hn hm hr hx hg hr1 hr2 CT1 CT2
    have h4 : (0 < n) ∨ (n = 0 ∧ 0 < m) ∨ (n = 0 ∧ m = 0) := by omega
    rcases h3 with rfl | ⟨rfl, rfl⟩
    all_goals
      go_enter Try.func25, Try.ntmps25
      go_wp2_with fail
      go_loopw [5, 6] (fun v i wr => i = .int .i64 0 ∧ v = .slice (some ⟨w.heap.size, 0, none⟩) 0 0 ∧ wr = w.alloc (.cells #[] 3)) (fun _ _ _ => 0)
      case atStart => exact ⟨rfl, rfl, by first | rfl | trivial⟩
      case round =>
        obtain ⟨rfl, rfl, rfl⟩ := hrel
        rcases h4 with h4 | ⟨rfl, h4⟩ | ⟨rfl, rfl⟩
        all_goals
          go_wp2_with fail
          first
            | (refine D1.out.mono ?_
               rintro e w' ⟨rfl, rfl⟩
               go_wp2_with fail
               first
                 | (refine D2.out.mono ?_
                    rintro e w' ⟨rfl, rfl⟩
                    go_wp2_with fail
                    go_ret
                    rw [FG.out]; exact RN.out)
                 | (go_ret
                    rw [FG.out]; exact RN.out))
            | (go_ret
               rw [FG.out]; exact RN.out)
  obtain ⟨h1, h2⟩ := hg
  rw [h1] at CT1
  rw [h2] at CT2
  have FL := Lib.hid (hiV_yes h1 h2)
  have Z := Lib.hid (tk_iff.1 h1).2
  have X := Lib.hid (tk_iff.1 h2).2
  clear hn hm hr hx h1 h2
  go_enter Try.func25, Try.ntmps25
  go_wp2_with fail
  go_loopw [5, 6] (fun v i wr => ∃ k : Nat, k ≤ max n m ∧ i = .int .i64 k ∧ (∃ b d, v = .slice (some ⟨b, 0, none⟩) k d) ∧ Hid (wr.ownsRow w.heap.size 3 1 v k (ints ((hi zs xs).take k))) ∧ Hid (Below w.heap.size w wr)) (fun _ i _ => max n m - (intOf i).toNat)
  case atStart => exact ⟨0, Nat.zero_le _, rfl, ⟨_, _, rfl⟩, O1, B1⟩
  case round =>
    obtain ⟨k, hk, rfl, ⟨bb, dd, rfl⟩, OK, BK⟩ := hrel
    by_cases hkn : k < n
    · by_cases hkm : k < m
      · obtain ⟨a, ha⟩ : ∃ z, zs[k]? = some z := ⟨_, List.getElem?_eq_getElem (by rw [N.out]; exact hkn)⟩
        obtain ⟨b1, o1, eA, hb1, c1⟩ := rd_i (RZ.out.below BK.out) ha
        have ga : zs.getD k 0 = a := by rw [List.getD_eq_getElem?_getD, ha]; rfl
        subst eA
        obtain ⟨b, hb9⟩ : ∃ z, xs[k]? = some z := ⟨_, List.getElem?_eq_getElem (by rw [M.out]; exact hkm)⟩
        obtain ⟨b2, o2, eB, hb3, c2'⟩ := rd_i (RX.out.below BK.out) hb9
        have gb : xs.getD k 0 = b := by rw [List.getD_eq_getElem?_getD, hb9]; rfl
        subst eB
        have za := okT_getD Z.out k
        rw [ga] at za
        obtain ⟨x, hx9⟩ : ∃ x, max (zs.getD k 0) (xs.getD k 0) = x := ⟨_, rfl⟩
        have E := Lib.hid (show ints ((hi zs xs).take k) ++ [.int .i64 x] = ints ((hi zs xs).take (k + 1)) by
          rw [← hx9]
          obtain ⟨hk9, e9⟩ := List.getElem?_eq_some_iff.1 (hi_get (a := zs) (b := xs) (k := k) (by rw [N.out, M.out]; omega))
          rw [List.take_succ_eq_append_getElem hk9, e9]; simp [ints])
        rw [ga, gb] at hx9
        have CK1 := Lib.hid (CT1.out wr BK.out)
        have CK2 := Lib.hid (CT2.out wr BK.out)
        have hown := OK.out.alloc
        have HS := Lib.hid (own_base OK.out)
        have HW := Lib.hid BK.out.size
        have C := Lib.hid (fun v => hx9 ▸ l1Max a b v)
        clear ga gb za O1 B1 ha hb1 hb9 hb3 hx9
        go_wp2_with fail
        refine CK1.out.mono ?_
        rintro e w' ⟨rfl, rfl⟩
        go_wp2_with fail
        refine CK2.out.mono ?_
        rintro e w' ⟨rfl, rfl⟩
        go_wp2_with fail
        refine (C.out _).mono ?_
        rintro e w' ⟨rfl, rfl⟩
        go_wp2_with (at_builtin; refine wpList_append_own _ rfl _ _ 24 rfl w.heap.size 3 i0 (.int .i64 0) 1 8 Try.underlying24 hi0 hz0 hz1 hz2 rfl (by decide) _ _ _ rfl (hown _) ⟨wr.heap.size, 0, none⟩ 1 1 [.int .i64 x] rfl rfl (by intro j u hj; match j, hj with | 0, hj => simp at hj; subst hj; simp [Addr.add]) (by intro u hu; simp at hu; subst hu; rfl) (by unfold maxLen; omega) (by omega) (by have := HW.out; simp; omega) ?_)
        intro v' w5 hown' hgrow hnil
        rw [E.out] at hown'
        have hsh := own_mk hown'
        have OO := Lib.hid hown'
        have BB := Lib.hid ((BK.out.alloc BK.out.size _).grown hgrow (by have := HW.out; simp; omega) (fun j hj => HS.out j hj))
        clear hown' hgrow hnil OK BK HS HW hown E CK1 CK2
        go_wp2_with fail
        go_roundw
        case rel => exact ⟨k + 1, by omega, by go_num, hsh, OO, BB⟩
        case measure => simp [intOf]; omega
      · obtain ⟨a, ha⟩ : ∃ z, zs[k]? = some z := ⟨_, List.getElem?_eq_getElem (by rw [N.out]; exact hkn)⟩
        obtain ⟨b1, o1, eA, hb1, c1⟩ := rd_i (RZ.out.below BK.out) ha
        have ga : zs.getD k 0 = a := by rw [List.getD_eq_getElem?_getD, ha]; rfl
        subst eA
        have gb : xs.getD k 0 = 0 := by rw [List.getD_eq_getElem?_getD, List.getElem?_eq_none (by rw [M.out]; omega)]; rfl
        have za := okT_getD Z.out k
        rw [ga] at za
        obtain ⟨x, hx9⟩ : ∃ x, max (zs.getD k 0) (xs.getD k 0) = x := ⟨_, rfl⟩
        have E := Lib.hid (show ints ((hi zs xs).take k) ++ [.int .i64 x] = ints ((hi zs xs).take (k + 1)) by
          rw [← hx9]
          obtain ⟨hk9, e9⟩ := List.getElem?_eq_some_iff.1 (hi_get (a := zs) (b := xs) (k := k) (by rw [N.out, M.out]; omega))
          rw [List.take_succ_eq_append_getElem hk9, e9]; simp [ints])
        rw [ga, gb] at hx9
        have CK1 := Lib.hid (CT1.out wr BK.out)
        have CK2 := Lib.hid (CT2.out wr BK.out)
        have hown := OK.out.alloc
        have HS := Lib.hid (own_base OK.out)
        have HW := Lib.hid BK.out.size
        have hxa : a = x := by omega
        subst hxa
        clear ga gb za O1 B1 ha hb1 hx9
        go_wp2_with fail
        refine CK1.out.mono ?_
        rintro e w' ⟨rfl, rfl⟩
        go_wp2_with fail
        refine CK2.out.mono ?_
        rintro e w' ⟨rfl, rfl⟩
        go_wp2_with (at_builtin; refine wpList_append_own _ rfl _ _ 24 rfl w.heap.size 3 i0 (.int .i64 0) 1 8 Try.underlying24 hi0 hz0 hz1 hz2 rfl (by decide) _ _ _ rfl (hown _) ⟨wr.heap.size, 0, none⟩ 1 1 [.int .i64 a] rfl rfl (by intro j u hj; match j, hj with | 0, hj => simp at hj; subst hj; simp [Addr.add]) (by intro u hu; simp at hu; subst hu; rfl) (by unfold maxLen; omega) (by omega) (by have := HW.out; simp; omega) ?_)
        intro v' w5 hown' hgrow hnil
        rw [E.out] at hown'
        have hsh := own_mk hown'
        have OO := Lib.hid hown'
        have BB := Lib.hid ((BK.out.alloc BK.out.size _).grown hgrow (by have := HW.out; simp; omega) (fun j hj => HS.out j hj))
        clear hown' hgrow hnil OK BK HS HW hown E CK1 CK2
        go_wp2_with fail
        go_roundw
        case rel => exact ⟨k + 1, by omega, by go_num, hsh, OO, BB⟩
        case measure => simp [intOf]; omega
    · by_cases hkm : k < m
      · have ga : zs.getD k 0 = 0 := by rw [List.getD_eq_getElem?_getD, List.getElem?_eq_none (by rw [N.out]; omega)]; rfl
        obtain ⟨b, hb9⟩ : ∃ z, xs[k]? = some z := ⟨_, List.getElem?_eq_getElem (by rw [M.out]; exact hkm)⟩
        obtain ⟨b2, o2, eB, hb3, c2'⟩ := rd_i (RX.out.below BK.out) hb9
        have gb : xs.getD k 0 = b := by rw [List.getD_eq_getElem?_getD, hb9]; rfl
        subst eB
        have za := okT_getD Z.out k
        rw [ga] at za
        obtain ⟨x, hx9⟩ : ∃ x, max (zs.getD k 0) (xs.getD k 0) = x := ⟨_, rfl⟩
        have E := Lib.hid (show ints ((hi zs xs).take k) ++ [.int .i64 x] = ints ((hi zs xs).take (k + 1)) by
          rw [← hx9]
          obtain ⟨hk9, e9⟩ := List.getElem?_eq_some_iff.1 (hi_get (a := zs) (b := xs) (k := k) (by rw [N.out, M.out]; omega))
          rw [List.take_succ_eq_append_getElem hk9, e9]; simp [ints])
        rw [ga, gb] at hx9
        have CK1 := Lib.hid (CT1.out wr BK.out)
        have CK2 := Lib.hid (CT2.out wr BK.out)
        have hown := OK.out.alloc
        have HS := Lib.hid (own_base OK.out)
        have HW := Lib.hid BK.out.size
        have C := Lib.hid (fun v => hx9 ▸ l1Max 0 b v)
        clear ga gb za O1 B1 hb9 hb3 hx9
        go_wp2_with fail
        refine CK1.out.mono ?_
        rintro e w' ⟨rfl, rfl⟩
        go_wp2_with fail
        refine CK2.out.mono ?_
        rintro e w' ⟨rfl, rfl⟩
        go_wp2_with fail
        refine (C.out _).mono ?_
        rintro e w' ⟨rfl, rfl⟩
        go_wp2_with (at_builtin; refine wpList_append_own _ rfl _ _ 24 rfl w.heap.size 3 i0 (.int .i64 0) 1 8 Try.underlying24 hi0 hz0 hz1 hz2 rfl (by decide) _ _ _ rfl (hown _) ⟨wr.heap.size, 0, none⟩ 1 1 [.int .i64 x] rfl rfl (by intro j u hj; match j, hj with | 0, hj => simp at hj; subst hj; simp [Addr.add]) (by intro u hu; simp at hu; subst hu; rfl) (by unfold maxLen; omega) (by omega) (by have := HW.out; simp; omega) ?_)
        intro v' w5 hown' hgrow hnil
        rw [E.out] at hown'
        have hsh := own_mk hown'
        have OO := Lib.hid hown'
        have BB := Lib.hid ((BK.out.alloc BK.out.size _).grown hgrow (by have := HW.out; simp; omega) (fun j hj => HS.out j hj))
        clear hown' hgrow hnil OK BK HS HW hown E CK1 CK2
        go_wp2_with fail
        go_roundw
        case rel => exact ⟨k + 1, by omega, by go_num, hsh, OO, BB⟩
        case measure => simp [intOf]; omega
      · have hl : (hi zs xs).length = k := by rw [hi_len, N.out, M.out]; omega
        have OF := Lib.hid (show wr.ownsRow w.heap.size 3 1 (.slice (some ⟨bb, 0, none⟩) k dd) k (ints (hi zs xs)) by have := OK.out; rwa [← hl, List.take_length, hl] at this)
        have HL := Lib.hid hl
        clear hl OK O1 B1
        go_wp2_with fail
        go_ret
        rw [FL.out]
        refine ⟨bb, dd, ?_, ?_, BK.out⟩
        · rw [HL.out]; rfl
        · rw [HL.out]; exact OF.out
end Go.Proofs.Ytmbiomekbinplaa.Hi8
