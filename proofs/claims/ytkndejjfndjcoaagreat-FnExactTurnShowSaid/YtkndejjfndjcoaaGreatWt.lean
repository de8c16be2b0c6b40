/- A wind turned, of the program and of the model. -/
import Derived.Test.YtkndejjfndjcoaaGreatM23
import Derived.Deep.AppendLies
import Derived.Deep.RegionHeld3
namespace Go.Proofs.YtkndejjfndjcoaaGreat.Wt
open Go.RowKit Go.Proofs.YtkndejjfndjcoaaGreat.Mem Go.Proofs.YtkndejjfndjcoaaGreat.Rw Go.Proofs.YtkndejjfndjcoaaGreat.Bk Go.Proofs.YtkndejjfndjcoaaGreat.Cx Go.Proofs.YtkndejjfndjcoaaGreat.Cm Go.Proofs.YtkndejjfndjcoaaGreat.Jt Go.Proofs.YtkndejjfndjcoaaGreat.Pl Go.Proofs.YtkndejjfndjcoaaGreat.Str Go.Proofs.YtkndejjfndjcoaaGreat.Pw Go.Proofs.YtkndejjfndjcoaaGreat.P2 Go.Proofs.YtkndejjfndjcoaaGreat.Tp Go.Proofs.YtkndejjfndjcoaaGreat.Gs Go.Proofs.YtkndejjfndjcoaaGreat.Wm Go.Proofs.YtkndejjfndjcoaaGreat.Wi Go.Proofs.YtkndejjfndjcoaaGreat.Wa Go.Proofs.YtkndejjfndjcoaaGreat.Wb Go.Proofs.YtkndejjfndjcoaaGreat.Wc Go.Proofs.YtkndejjfndjcoaaGreat.We Go.Proofs.YtkndejjfndjcoaaGreat.Wg
set_option linter.unusedVariables false
set_option linter.unusedSimpArgs false

theorem gls_set : ∀ (zs : List G) (k : Nat) (z : G) (p : Int × Int), zs[k]? = some z → ((gls zs).set (k * 3 + 1) (.int .i64 p.1)).set (k * 3 + 1 + 1) (.int .i64 p.2) = gls (zs.set k (z.1, p))
  | [], k, z, p, h => by simp at h
  | q :: zs, 0, z, p, h => by
    have : q = z := by simpa using h
    subst this; rfl
  | q :: zs, k + 1, z, p, h => by
    have h : zs[k]? = some z := by simpa using h
    have := gls_set zs k z p h
    show ((.int .i64 q.1 :: .int .i64 q.2.1 :: .int .i64 q.2.2 :: gls zs : List Value).set ((k + 1) * 3 + 1) (.int .i64 p.1)).set ((k + 1) * 3 + 1 + 1) (.int .i64 p.2) = .int .i64 q.1 :: .int .i64 q.2.1 :: .int .i64 q.2.2 :: gls (zs.set k (z.1, p))
    rw [show (k + 1) * 3 + 1 = k * 3 + 1 + 1 + 1 + 1 by omega]
    simp only [List.set_cons_succ]
    rw [this]

/-- A gust turned. -/
def tg (t : Int) (z : G) : G := (z.1, tx (t % 4).toNat z.2.1 z.2.2, ty (t % 4).toNat z.2.1 z.2.2)
theorem own_ltR {w : World} {base g n c : Nat} {e : TypeId} {s : Nat} {xs : List Value} (h : w.ownsRow base e s (.slice (some ⟨g, 0, none⟩) n c) n xs) : g < w.heap.size := (h.lt g rfl).2
def tws (zs : List G) (t : Int) : List G := if wd zs = true then zs.map (tg t) else []
theorem tws_no {zs : List G} {t : Int} (h : wd zs = false) : tws zs t = [] := by unfold tws; rw [h]; rfl
theorem tws_yes {zs : List G} {t : Int} (h : wd zs = true) : tws zs t = zs.map (tg t) := by unfold tws; rw [h]; rfl
theorem tws_len (zs : List G) (t : Int) : (tws zs t).length ≤ zs.length := by unfold tws; split <;> simp
/-- The first k gusts turned, the others as they were. -/
def mt (zs : List G) (t : Int) (k : Nat) : List G := (zs.take k).map (tg t) ++ zs.drop k
theorem mt_zero (zs : List G) (t : Int) : mt zs t 0 = zs := by simp [mt]
theorem mt_all (zs : List G) (t : Int) {k : Nat} (h : zs.length = k) : mt zs t k = zs.map (tg t) := by subst h; simp [mt]
theorem mt_len (zs : List G) (t : Int) (k : Nat) : (mt zs t k).length = zs.length := by
  unfold mt; rw [List.length_append, List.length_map, List.length_take, List.length_drop]; omega
theorem mt_get {zs : List G} {t : Int} {k : Nat} {z : G} (h : zs[k]? = some z) : (mt zs t k)[k]? = some z := by
  obtain ⟨hk, _⟩ := List.getElem?_eq_some_iff.1 h
  unfold mt; rw [List.getElem?_append_right (by simp; omega), List.length_map, List.length_take, Nat.min_eq_left (by omega), Nat.sub_self, List.getElem?_drop, Nat.add_zero]; exact h
theorem mt_set {zs : List G} {t : Int} {k : Nat} {z : G} (h : zs[k]? = some z) : (mt zs t k).set k (tg t z) = mt zs t (k + 1) := by
  obtain ⟨hk, e⟩ := List.getElem?_eq_some_iff.1 h
  unfold mt
  rw [List.set_append, if_neg (by simp; omega), List.length_map, List.length_take, Nat.min_eq_left (by omega), Nat.sub_self, List.drop_eq_getElem_cons hk, List.set_cons_zero, List.take_succ_eq_append_getElem hk, e]
  simp
theorem take_map {zs : List G} {t : Int} {k : Nat} {z : G} (h : zs[k]? = some z) : (zs.map (tg t)).take k ++ [tg t z] = (zs.map (tg t)).take (k + 1) := by
  obtain ⟨hk, e⟩ := List.getElem?_eq_some_iff.1 h
  rw [List.take_succ_eq_append_getElem (by simp; exact hk), List.getElem_map, e]

set_option maxRecDepth 100000 in
set_option maxHeartbeats 1000000 in
theorem clone (a : Addr) (n c : Nat) (zs : List G) (w : World) (hn : zs.length = n) (hb : n ≤ 1048576) (hr : Rd w w.heap.size (some a) (gls zs)) :
    Calls Tryz.prog 59 #[.slice (some a) n c] w (Row3 w zs) := by
  obtain ⟨i0, hi, hz0, hz1, hz2⟩ := info_of infoGust
  have HN := Lib.hid hn
  have R0 := Lib.hid (World.ownsRow_lit (base := w.heap.size) (e := 82) (size := 3) w #[] 0 (Nat.le_refl _) (Nat.zero_le _) rfl)
  have HC : ∀ j u, (gls zs)[j]? = some u → w.cell? (a.add j) = some u := by
    intro j u hj
    obtain ⟨hl, _⟩ := List.getElem?_eq_some_iff.1 hj
    obtain ⟨b, o, e, _, hc⟩ := hr.get hl
    injection e with e
    subst e
    rw [Addr.add_lit]; exact hc j u hj
  have HC2 := Lib.hid (show ∀ j u, (gls zs)[j]? = some u → (w.alloc (.cells #[] 82)).cell? (a.add j) = some u from fun j u hj => cell_alloc (HC j u hj))
  have H1 : ∀ u ∈ gls zs, u.oneCell' = true := by
    intro u hu
    obtain ⟨z, _, hz⟩ := List.mem_flatMap.1 hu
    simp [gc] at hz
    rcases hz with rfl | rfl | rfl <;> rfl
  have H2 := Lib.hid H1
  have NE : ∀ (W : World), (binOp .eql 32 (.slice (some a) n c) (.slice none 0 0)).run Tryz.prog W = .ok (.bool false) W := by intro W; rfl
  clear hr hn HC H1
  go_enter Tryz.func59, Tryz.ntmps59
  go_wp2_with (
    at_builtin
    refine wpList_append_own _ rfl _ _ 32 rfl w.heap.size 82 i0 (.agg #[.int .i64 0, .int .i64 0, .int .i64 0]) 3 24 Tryz.underlying32 hi hz0 hz1 hz2 rfl (by decide) _ _ _ rfl R0.out a n c (gls zs) rfl (by rw [gls_len, HN.out]) HC2.out H2.out (by unfold maxLen; omega) (by omega) (by simp) ?_
    intro v' w1 hown hgrow hnil
    rw [Nat.zero_add] at hown
    have hv : ∃ g c', v' = .slice (some ⟨g, 0, none⟩) n c' := by
      rcases hown.2 with ⟨h0, _⟩ | ⟨g', cap, cur, e, _⟩
      · exact absurd (hnil.1 h0).1 (by intro h; cases h)
      · exact ⟨g', cap, e⟩
    obtain ⟨g, c', rfl⟩ := hv
    have O := Lib.hid hown
    have B := Lib.hid (((Below.refl w.heap.size w).alloc (Nat.le_refl _) (.cells #[] 82)).grown hgrow (by simp) (fun z hz => by cases hz; exact Nat.le_refl _))
    clear hown hgrow hnil R0 HC2 H2)
  go_wp2_with fail
  go_ret
  exact ⟨g, c', by rw [HN.out]; rfl, by rw [HN.out]; exact O.out, B.out⟩

set_option maxRecDepth 100000 in
set_option maxHeartbeats 2000000 in
theorem turnWindI (a : Addr) (n c : Nat) (zs : List G) (t : Int) (w : World) (hn : zs.length = n) (hb : n ≤ 1048576) (hr : Rd w w.heap.size (some a) (gls zs)) :
    Calls Tryz.prog 52 #[.slice (some a) n c, .int .i64 t] w (Row3 w (tws zs t)) := by
  have HR := Lib.hid hr
  cases hw : wd zs
  · rw [tws_no hw]
    have C := Lib.hid (windI (A := some a) (c := c) (H := w.heap.size) hn hb hw)
    clear hw hr hn
    go_enter Tryz.func52, Tryz.ntmps52
    go_wp2_with fail
    refine (C.out _ (Nat.le_refl _) HR.out).mono ?_
    rintro e u ⟨rfl, b1⟩
    have B1 := Lib.hid b1
    clear b1
    go_wp2_with fail
    go_ret
    exact row_none B1.out
  · rw [tws_yes hw]
    have C := Lib.hid (windI (A := some a) (c := c) (H := w.heap.size) hn hb hw)
    have W := Lib.hid (fun (k : Nat) (z : G) hz => (wd_each hw (k := k) (z := z) hz).2)
    have HN := Lib.hid hn
    clear hw hr hn
    go_enter Tryz.func52, Tryz.ntmps52
    go_wp2_with fail
    refine (C.out _ (Nat.le_refl _) HR.out).mono ?_
    rintro e u ⟨rfl, b1⟩
    have HR1 := Lib.hid ((HR.out.below b1).more b1.size)
    have B1 := Lib.hid b1
    clear b1 C
    go_wp2_with fail
    refine (clone a n c zs _ HN.out hb HR1.out).mono ?_
    rintro e v ⟨g, c2, rfl, o2, b2⟩
    rw [HN.out] at o2 ⊢
    have wg := Nat.le_trans B1.out.size (own_base o2 g rfl)
    have R0 := Lib.hid (show v.ownsRow w.heap.size 82 3 (.slice (some ⟨g, 0, none⟩) n c2) n (gls (mt zs t 0)) by rw [mt_zero]; exact owns_base o2 wg)
    have B2 := Lib.hid (below_in B1.out b2)
    clear o2 b2 B1 HR HR1
    go_wp2_with fail
    go_loopw [16] (fun i wr => ∃ k : Nat, k ≤ n ∧ i = .int .i64 k ∧ Hid (wr.ownsRow w.heap.size 82 3 (.slice (some ⟨g, 0, none⟩) n c2) n (gls (mt zs t k))) ∧ Hid (Below w.heap.size w wr)) (fun i _ => n - (intOf i).toNat)
    case atStart => exact ⟨0, Nat.zero_le _, rfl, R0, B2⟩
    case round =>
      obtain ⟨k, hk, rfl, RK, BK⟩ := hrel
      have hbs := BK.out.size
      by_cases hlt : k < n
      · have hkz : k < zs.length := by rw [HN.out]; exact hlt
        obtain ⟨z, hz⟩ : ∃ z, zs[k]? = some z := ⟨_, List.getElem?_eq_getElem hkz⟩
        obtain ⟨z0, z1, z2⟩ := gls_get (mt_get (t := t) hz)
        have E := Lib.hid (mt_set (t := t) hz)
        have GS := Lib.hid (gls_set (mt zs t k) k z (tg t z).2 (mt_get hz))
        obtain ⟨hx, hy⟩ := W.out k z hz
        obtain ⟨f, x, y⟩ := z
        simp only at hx hy
        have T := Lib.hid (turnI t (pl_mk (x := x) (y := y) (by omega) (by omega)))
        have c1 := (RK.out.cellAt (k * 3) (by omega)).trans z0
        have c2' := (RK.out.cellAt (k * 3 + 1) (by omega)).trans z1
        have c3 := (RK.out.cellAt (k * 3 + 2) (by omega)).trans z2
        have lg : g < wr.heap.size := World.block_lt_of_cell? wr _ c1
        have lg2 : ∀ j, g < wr.heap.size + j := fun j => by omega
        have TE := Lib.hid (show tg t (f, x, y) = (f, tx (t % 4).toNat x y, ty (t % 4).toNat x y) from rfl)
        obtain ⟨X, hX⟩ : ∃ X, tx (t % 4).toNat x y = X := ⟨_, rfl⟩
        obtain ⟨Y, hY⟩ : ∃ Y, ty (t % 4).toNat x y = Y := ⟨_, rfl⟩
        rw [hX, hY] at T TE
        rw [TE.out] at GS E
        clear hz hkz z0 z1 z2 hx hy hX hY R0
        simp only at c1 c2' c3
        go_wp2_with fail
        refine (T.out _).mono ?_
        rintro e u1 ⟨rfl, hb1⟩
        have HB1 : Below wr.heap.size wr u1 := Below.trans (by go_grown) (hb1.mono (by first | (simp; done) | (simp; omega)))
        have R1 := owns_below RK.out HB1
        have B4 := below_in BK.out HB1
        have s2 := (R1.cellAt (k * 3 + 1) (by omega))
        have s3 := (R1.cellAt (k * 3 + 2) (by omega))
        have ll : (gls (mt zs t k)).length = n * 3 := by rw [gls_len, mt_len, HN.out]
        rw [List.getElem?_eq_getElem (by omega)] at s2 s3
        have f2 := R1.frozenAt (k * 3 + 1)
        have f3 := R1.frozenAt (k * 3 + 2)
        obtain ⟨r1, g1⟩ := R1.stored (k * 3 + 1) (.int .i64 X)
        obtain ⟨r2, g2⟩ := r1.stored (k * 3 + 1 + 1) (.int .i64 Y)
        rw [GS.out, E.out] at r2
        have RR := Lib.hid r2
        have BB := Lib.hid ((B4.grown g1 B4.size (fun q hq => by cases hq; exact wg)).grown g2 (Nat.le_trans B4.size g1.size) (fun q hq => by cases hq; exact wg))
        clear r1 r2 g1 g2 R1 B4 hb1 HB1 RK BK c1 c2' c3 lg lg2
        go_wp2_with fail
        go_roundw
        case rel => exact ⟨k + 1, by omega, by go_num, RR, BB⟩
        case measure => simp [intOf]; omega
      · obtain rfl : k = n := by omega
        have F := Lib.hid (mt_all zs t HN.out)
        have FL := Lib.hid (show (zs.map (tg t)).length = k by rw [List.length_map]; exact HN.out)
        go_wp2_with fail
        go_ret
        exact ⟨g, c2, by rw [FL.out]; rfl, by rw [FL.out, ← F.out]; exact RK.out, BK.out⟩

set_option maxRecDepth 100000 in
set_option maxHeartbeats 2000000 in
theorem turnWindS (A : Option Addr) (n c : Nat) (zs : List G) (H : Nat) (t : Int) (w : World) (hn : zs.length = n) (hb : n ≤ 1048576) (hH : H ≤ w.heap.size) (hr : Rd w H A (gls zs)) :
    Calls Tryz.prog 49 #[.slice A n c, .int .i64 t] w (Row3 w (tws zs t)) := by
  have HR := Lib.hid hr
  have HN := Lib.hid hn
  cases hw : wd zs
  · rw [tws_no hw]
    have C := Lib.hid (windS (A := A) (c := c) (H := H) hn hb hw)
    clear hw hr hn
    go_enter Tryz.func49, Tryz.ntmps49
    go_wp2_with fail
    go_loopw [5, 11] (fun v i wr => ∃ k : Nat, k ≤ n ∧ i = .int .i64 k ∧ v = .slice (some ⟨w.heap.size, 0, none⟩) 0 0 ∧ Hid (wr.ownsRow w.heap.size 82 3 (.slice (some ⟨w.heap.size, 0, none⟩) 0 0) 0 (gls [])) ∧ Hid (Below w.heap.size w wr)) (fun _ i _ => n - (intOf i).toNat)
    case atStart => exact ⟨0, Nat.zero_le _, rfl, rfl, Lib.hid (World.ownsRow_lit w #[] 0 (Nat.le_refl _) (Nat.zero_le _) rfl), Lib.hid (by go_grown)⟩
    case round =>
      obtain ⟨k, hk, rfl, rfl, RK, BK⟩ := hrel
      have hbs := BK.out.size
      by_cases hlt : k < n
      · have hkz : k < zs.length := by rw [HN.out]; exact hlt
        have hl : k * 3 < (gls zs).length := by rw [gls_len]; omega
        obtain ⟨z, hz⟩ : ∃ z, zs[k]? = some z := ⟨_, List.getElem?_eq_getElem hkz⟩
        have HK := Lib.hid (HR.out.below (BK.out.mono hH))
        obtain ⟨b, o, eA, hbl, hcell⟩ := HK.out.get hl
        obtain ⟨z0, z1, z2⟩ := gls_get hz
        obtain ⟨f, x, y⟩ := z
        have c1 : wr.cell? ⟨b, o + k * 3, none⟩ = some (.int .i64 f) := hcell _ _ z0
        have c2 : wr.cell? ⟨b, o + k * 3 + 1, none⟩ = some (.int .i64 x) := hcell _ _ z1
        have c3 : wr.cell? ⟨b, o + k * 3 + 2, none⟩ = some (.int .i64 y) := hcell _ _ z2
        have HK2 := Lib.hid (rd_alloc (o := .cells #[.int .i64 f, .int .i64 x, .int .i64 y] 82) HK.out (Nat.le_trans hH hbs))
        have p1 : b < wr.heap.size := World.block_lt_of_cell? wr _ c1
        have p2 : ∀ j, b < wr.heap.size + j := fun j => by omega
        clear hcell hz hl hkz z0 z1 z2 hbl
        subst eA
        go_wp2_with fail
        refine (C.out _ (by simp; omega) HK2.out).mono ?_
        rintro e u ⟨rfl, hb1⟩
        have HB1 : Below wr.heap.size wr u := Below.trans (by go_grown) (hb1.mono (by first | (simp; done) | (simp; omega)))
        have R1 := Lib.hid (owns_below RK.out HB1)
        have B1 := Lib.hid (below_in BK.out HB1)
        clear hb1 HB1 c1 c2 c3 p1 p2 RK BK HK2
        go_wp2_with fail
        go_roundw
        case rel => exact ⟨k + 1, by omega, by go_num, rfl, R1, B1⟩
        case measure => simp [intOf]; omega
      · obtain rfl : k = n := by omega
        go_wp2_with fail
        go_ret
        exact ⟨w.heap.size, 0, rfl, RK.out, BK.out⟩
  · rw [tws_yes hw]
    obtain ⟨i0, hi, hz0, hz1, hz2⟩ := info_of infoGust
    have C := Lib.hid (windS (A := A) (c := c) (H := H) hn hb hw)
    have W := Lib.hid (fun (k : Nat) (z : G) hz => (wd_each hw (k := k) (z := z) hz).2)
    clear hw hr hn
    go_enter Tryz.func49, Tryz.ntmps49
    go_wp2_with fail
    go_loopw [5, 11] (fun v i wr => ∃ k : Nat, k ≤ n ∧ i = .int .i64 k ∧ (∃ g c' : Nat, v = .slice (some ⟨g, 0, none⟩) k c') ∧ Hid (wr.ownsRow w.heap.size 82 3 v k (gls ((zs.map (tg t)).take k))) ∧ Hid (Below w.heap.size w wr)) (fun _ i _ => n - (intOf i).toNat)
    case atStart => exact ⟨0, Nat.zero_le _, rfl, ⟨_, _, rfl⟩, Lib.hid (World.ownsRow_lit w #[] 0 (Nat.le_refl _) (Nat.zero_le _) rfl), Lib.hid (by go_grown)⟩
    case round =>
      obtain ⟨k, hk, rfl, ⟨g, c', rfl⟩, RK, BK⟩ := hrel
      have hbs := BK.out.size
      by_cases hlt : k < n
      · have hkz : k < zs.length := by rw [HN.out]; exact hlt
        have hl : k * 3 < (gls zs).length := by rw [gls_len]; omega
        obtain ⟨z, hz⟩ : ∃ z, zs[k]? = some z := ⟨_, List.getElem?_eq_getElem hkz⟩
        have HK := Lib.hid (HR.out.below (BK.out.mono hH))
        obtain ⟨b, o, eA, hbl, hcell⟩ := HK.out.get hl
        obtain ⟨z0, z1, z2⟩ := gls_get hz
        have TM := Lib.hid (take_map (t := t) hz)
        obtain ⟨hx, hy⟩ := W.out k z hz
        have hg := own_base RK.out g rfl
        obtain ⟨f, x, y⟩ := z
        simp only at hx hy
        have c1 : wr.cell? ⟨b, o + k * 3, none⟩ = some (.int .i64 f) := hcell _ _ z0
        have c2 : wr.cell? ⟨b, o + k * 3 + 1, none⟩ = some (.int .i64 x) := hcell _ _ z1
        have c3 : wr.cell? ⟨b, o + k * 3 + 2, none⟩ = some (.int .i64 y) := hcell _ _ z2
        have HK2 := Lib.hid (rd_alloc (o := .cells #[.int .i64 f, .int .i64 x, .int .i64 y] 82) HK.out (Nat.le_trans hH hbs))
        have p1 : b < wr.heap.size := World.block_lt_of_cell? wr _ c1
        have p2 : ∀ j, b < wr.heap.size + j := fun j => by omega
        have T := Lib.hid (l2Turn (x := x) (y := y) t (by omega) (by omega))
        have TE := Lib.hid (show tg t (f, x, y) = (f, tx (t % 4).toNat x y, ty (t % 4).toNat x y) from rfl)
        obtain ⟨X, hX⟩ : ∃ X, tx (t % 4).toNat x y = X := ⟨_, rfl⟩
        obtain ⟨Y, hY⟩ : ∃ Y, ty (t % 4).toNat x y = Y := ⟨_, rfl⟩
        rw [hX, hY] at T TE
        have SN := Lib.hid (show gls ((zs.map (tg t)).take k) ++ [.int .i64 f, .int .i64 X, .int .i64 Y] = gls ((zs.map (tg t)).take (k + 1)) by rw [← TM.out, TE.out]; exact gls_snoc _ (f, X, Y))
        clear hcell hz hl hkz z0 z1 z2 hbl hx hy hX hY TM TE
        subst eA
        go_wp2_with fail
        refine (C.out _ (by simp; omega) HK2.out).mono ?_
        rintro e u ⟨rfl, hb1⟩
        have HB1 : Below wr.heap.size wr u := Below.trans (by go_grown) (hb1.mono (by first | (simp; done) | (simp; omega)))
        have P1 := Lib.hid ((Bk.new wr #[.int .i64 f, .int .i64 x, .int .i64 y] 82).below hb1)
        have R0 := RK
        have R1 := Lib.hid (owns_below RK.out HB1)
        have B1 := Lib.hid (below_in BK.out HB1)
        clear hb1 HB1 c1 c2 c3 p1 p2 RK BK HK2
        have d0 := P1.out.cell (i := 0) rfl
        have d1 := P1.out.cell (i := 1) rfl
        have d2 := P1.out.cell (i := 2) rfl
        have lu := P1.out.lt
        have lu2 : ∀ j, wr.heap.size < u.heap.size + j := fun j => by omega
        have hne : (Value.slice (some ⟨g, 0, none⟩) k c').ownBlock ≠ some wr.heap.size := by
          intro h; have := own_ltR R0.out; cases h; exact absurd this (Nat.lt_irrefl _)
        have hk1 : k + 1 ≤ maxLen := by unfold maxLen; omega
        have hk2 : (k + 1) * 24 ≤ 140737488355328 := by omega
        have hb9 := B1.out.size
        have R9 := Lib.hid ((((R1.out.alloc (.cells #[.int .i64 X, .int .i64 Y] 46)).alloc (.cells #[.int .i64 X, .int .i64 Y] 46)).alloc (.cells #[.int .i64 f, .int .i64 X, .int .i64 Y] 82)).drew)
        have hheap : ((((u.alloc (.cells #[.int .i64 X, .int .i64 Y] 46)).alloc (.cells #[.int .i64 X, .int .i64 Y] 46)).alloc (.cells #[.int .i64 f, .int .i64 X, .int .i64 Y] 82)).drew).heap[u.heap.size + 1 + 1]? = some (.cells #[.int .i64 f, .int .i64 X, .int .i64 Y] 82 (0, 0)) := by
          have := heap_alloc_new ((u.alloc (.cells #[.int .i64 X, .int .i64 Y] 46)).alloc (.cells #[.int .i64 X, .int .i64 Y] 46)) (.cells #[.int .i64 f, .int .i64 X, .int .i64 Y] 82)
          have h8 : (((u.alloc (.cells #[.int .i64 X, .int .i64 Y] 46)).alloc (.cells #[.int .i64 X, .int .i64 Y] 46)).alloc (.cells #[.int .i64 f, .int .i64 X, .int .i64 Y] 82)).heap[u.heap.size + 1 + 1]? = some (.cells #[.int .i64 f, .int .i64 X, .int .i64 Y] 82 (0, 0)) := by simpa using this
          exact h8
        go_wp2_with fail
        go_region_held3 (fun w' => w'.cell? ⟨wr.heap.size, 0, none⟩ = some (.int .i64 f) ∧ w'.cell? ⟨wr.heap.size, 1, none⟩ = some (.int .i64 x) ∧ w'.cell? ⟨wr.heap.size, 2, none⟩ = some (.int .i64 y))
          (first
            | (simp [go_sem, *]; done)
            | go_keep
            | (go_split_ands
               refine ⟨?_, ?_, ?_⟩
               · (rw [hgrow.cell_far _ (by simp; omega) (Ne.symm hne)]; assumption)
               · (rw [hgrow.cell_far _ (by simp; omega) (Ne.symm hne)]; assumption)
               · (rw [hgrow.cell_far _ (by simp; omega) (Ne.symm hne)]; assumption)))
          (first
            | (go_at_call 88; ((with_reducible refine (T.out _).mono ?_); rintro e w' ⟨rfl, rfl⟩))
            | (refine step_append_lies _ (by rfl) _ _ _ (by rfl) w.heap.size 82 i0 _ 3 24 Tryz.underlying32 hi hz0 hz1 hz2 rfl (by omega) _ k _ (by rfl) R9.out
                ⟨u.heap.size + 1 + 1, 0, none⟩ 1 1 [.int .i64 f, .int .i64 X, .int .i64 Y] (by rfl) (by rfl) (World.news_of_block (cs := #[.int .i64 f, .int .i64 X, .int .i64 Y]) (t := 82) (fr := (0, 0)) hheap) (by simp [Value.oneCell'])
                (by omega) hk1 hk2 (by simp; omega) (u.heap.size + 1 + 1 + 1) (by simp) ?_; intro gg cap w1 hown1 hgrow hat hlt1))
        rw [SN.out] at hown1
        have R10 := Lib.hid hown1
        have B10 := Lib.hid (((((B1.out.alloc hb9 (.cells #[.int .i64 X, .int .i64 Y] 46)).alloc (by simp; omega) (.cells #[.int .i64 X, .int .i64 Y] 46)).alloc (by simp; omega) (.cells #[.int .i64 f, .int .i64 X, .int .i64 Y] 82)).drew).grown hgrow (by simp; omega) (fun z hz => by cases hz; exact hg))
        clear hown1 hgrow hat hlt1 R9 R1 R0 hheap d0 d1 d2 lu lu2 hne
        go_wp2_with fail
        go_roundw
        case rel => exact ⟨k + 1, by omega, by go_num, ⟨_, _, rfl⟩, R10, B10⟩
        case measure => simp [intOf]; omega
      · obtain rfl : k = n := by omega
        have FL := Lib.hid (show (zs.map (tg t)).length = k by rw [List.length_map]; exact HN.out)
        have FT := Lib.hid (show (zs.map (tg t)).take k = zs.map (tg t) by rw [← FL.out]; exact List.take_length)
        go_wp2_with fail
        go_ret
        exact ⟨g, c', by rw [FL.out]; rfl, by rw [FL.out, ← FT.out]; exact RK.out, BK.out⟩

end Go.Proofs.YtkndejjfndjcoaaGreat.Wt
