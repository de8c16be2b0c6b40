/- The winds that are told from later ticks on, of the program and of the model. -/
import Derived.Test.YtejeikfgmiadhabGreatM27
import Derived.ArgAppend
import Derived.ProofKit
import Derived.Test.YtejeikfgmiadhabGreatM25
import Derived.Test.YtejeikfgmiadhabGreatM4
import Derived.Deep.AppendLies
import Derived.Deep.RegionHeld3
set_option linter.unusedVariables false
set_option linter.unusedSimpArgs false
namespace Go.Proofs.YtejeikfgmiadhabGreat.Wg
open Go.RowKit Go.Proofs.YtejeikfgmiadhabGreat.Mem Go.Proofs.YtejeikfgmiadhabGreat.Rw Go.Proofs.YtejeikfgmiadhabGreat.Bk Go.Proofs.YtejeikfgmiadhabGreat.Cx Go.Proofs.YtejeikfgmiadhabGreat.Cm Go.Proofs.YtejeikfgmiadhabGreat.Jt Go.Proofs.YtejeikfgmiadhabGreat.Pl Go.Proofs.YtejeikfgmiadhabGreat.Str Go.Proofs.YtejeikfgmiadhabGreat.Pw Go.Proofs.YtejeikfgmiadhabGreat.P2 Go.Proofs.YtejeikfgmiadhabGreat.Gs Go.Proofs.YtejeikfgmiadhabGreat.Wm Go.Proofs.YtejeikfgmiadhabGreat.Wi Go.Proofs.YtejeikfgmiadhabGreat.Wa Go.Proofs.YtejeikfgmiadhabGreat.Wb Go.Proofs.YtejeikfgmiadhabGreat.Wc Go.Proofs.YtejeikfgmiadhabGreat.We
set_option linter.unusedVariables false
set_option linter.unusedSimpArgs false

/-- The changes up to k speak of the first k places only. -/
theorem chgs_pre {l m : List (Int × Int)} {k : Nat} (h : ∀ j, j < k → l[j]? = m[j]?) : chgs l k = chgs m k := by
  induction k with
  | zero => rfl
  | succ k ih =>
    have ih := ih (fun j hj => h j (by omega))
    have hk := h k (by omega)
    have hw : was l k = was m k := by
      cases k with
      | zero => rfl
      | succ k => unfold was; rw [if_neg (by omega), if_neg (by omega), Nat.add_sub_cancel, List.getD_eq_getElem?_getD, List.getD_eq_getElem?_getD, h k (by omega)]
    have hd : l.getD k (0, 0) = m.getD k (0, 0) := by rw [List.getD_eq_getElem?_getD, List.getD_eq_getElem?_getD, hk]
    unfold chgs at ih ⊢
    rw [List.range_succ, List.filter_append, List.filter_append, List.map_append, List.map_append, ih]
    simp only [List.filter_cons, List.filter_nil, hd, hw]
    split <;> simp [hk]
/-- Behind the last tick there is no change. -/
theorem later_cut {zs : List G} (h : wd zs = true) {n : Nat} (hn : n ≤ 64) : chg (drs zs n 65) = chg (drs zs n (65 - n)) := by
  have key : ∀ j, 65 - n + j ≤ 65 → chgs (drs zs n 65) (65 - n + j) = chgs (drs zs n 65) (65 - n) := by
    intro j
    induction j with
    | zero => intro _; rfl
    | succ j ih =>
      intro hj
      rw [← Nat.add_assoc, chgs_no (p := dr zs ((n + (65 - n + j) : Nat) : Int)) (drs_get (by omega)), ih (by omega)]
      have e : was (drs zs n 65) (65 - n + j) = dr zs ((n + (65 - n + j - 1) : Nat) : Int) := by
        unfold was; rw [if_neg (by omega), List.getD_eq_getElem?_getD, drs_get (by omega)]; rfl
      rw [e, dr_late h (by omega), dr_late h (t := ((n + (65 - n + j - 1) : Nat) : Int)) (by omega)]
  unfold chg
  rw [drs_len, drs_len]
  have k0 := key n (by omega)
  rw [show 65 - n + n = 65 by omega] at k0
  rw [k0]
  exact chgs_pre fun j hj => by rw [drs_get (by omega), drs_get (by omega)]

/-- The wind that is told from a tick on. -/
def lat (zs : List G) (t : Int) : List G := if wd zs = true ∧ 0 ≤ t ∧ t ≤ 64 then chg (drs zs t.toNat 65) else []
theorem lat_no {zs : List G} {t : Int} (h : wd zs = false ∨ t < 0 ∨ 64 < t) : lat zs t = [] := by
  unfold lat; rw [if_neg]; rintro ⟨a, b, c⟩
  rcases h with h | h | h
  · rw [h] at a; cases a
  · omega
  · omega
theorem lat_yes {zs : List G} (h : wd zs = true) {k : Nat} (hk : k ≤ 64) : lat zs (k : Int) = chg (drs zs k 65) := by
  unfold lat; rw [if_pos ⟨h, by omega, by omega⟩]; rfl
theorem row_none {w u : World} (h : Below w.heap.size w u) : Row3 w [] (.returned (.slice (some ⟨u.heap.size, 0, none⟩) 0 0)) (u.alloc (.cells #[] 96)) :=
  ⟨u.heap.size, 0, rfl, World.ownsRow_lit u #[] 0 h.size (Nat.zero_le _) rfl, h.alloc h.size _⟩
theorem row_in {w u v : World} {zs : List G} {e : Ending} (h : Below w.heap.size w u) (r : Row3 u zs e v) : Row3 w zs e v := by
  obtain ⟨g, c, rfl, o, b⟩ := r
  exact ⟨g, c, rfl, owns_base o (Nat.le_trans h.size (own_base o g rfl)), below_in h b⟩

theorem windows {A : Option Addr} {n c : Nat} {zs : List G} {H a : Nat} (hn : zs.length = n) (hb : n ≤ 1048576) (ha : a ≤ 64) (hw : wd zs = true) (W : World) (hH : H ≤ W.heap.size) (hr : Rd W H A (gls zs)) :
    Calls Tryz.prog 142 #[.slice A n c, .int .i64 a, .int .i64 65] W (Win W (drs zs a (65 - a))) := by
  have := driftsIn A n c zs H a (65 - a) W hn hb hH hr hw (by omega)
  rw [show (a : Int) + ((65 - a : Nat) : Int) = 65 by omega] at this
  exact this

set_option maxHeartbeats 1000000 in
theorem laterI (A : Option Addr) (n c : Nat) (zs : List G) (H : Nat) (t : Int) (w : World) (hn : zs.length = n) (hb : n ≤ 1048576) (hH : H ≤ w.heap.size) (hr : Rd w H A (gls zs)) :
    Calls Tryz.prog 106 #[.slice A n c, .int .i64 t] w (Row3 w (lat zs t)) := by
  have HR := Lib.hid hr
  have hbad : wd zs = false ∨ wd zs = true ∧ (t < 0 ∨ 64 < t) ∨ wd zs = true ∧ 0 ≤ t ∧ t ≤ 64 := by
    cases wd zs
    · exact Or.inl rfl
    · right
      by_cases h : t < 0 ∨ 64 < t
      · exact Or.inl ⟨rfl, h⟩
      · exact Or.inr ⟨rfl, by omega, by omega⟩
  rcases hbad with hw | ⟨hw, ht⟩ | ⟨hw, ht, ht2⟩
  · rw [lat_no (Or.inl hw)]
    have C := Lib.hid (windI (A := A) (c := c) (H := H) hn hb hw)
    clear hw hr hn
    go_enter Tryz.func106, Tryz.ntmps106
    go_wp2_with fail
    refine (C.out _ hH HR.out).mono ?_
    rintro e u ⟨rfl, b1⟩
    have B1 := Lib.hid b1
    clear b1
    go_wp2_with fail
    go_ret
    exact row_none B1.out
  · rw [lat_no (Or.inr ht)]
    have C := Lib.hid (windI (A := A) (c := c) (H := H) hn hb hw)
    have I := Lib.hid (isWithin_of (iw_no ht))
    clear hw hr hn ht
    go_enter Tryz.func106, Tryz.ntmps106
    go_wp2_with fail
    refine (C.out _ hH HR.out).mono ?_
    rintro e u ⟨rfl, b1⟩
    have B1 := Lib.hid b1
    clear b1
    go_wp2_with fail
    refine (I.out _).mono ?_
    rintro e v ⟨rfl, rfl⟩
    go_wp2_with fail
    go_ret
    exact row_none B1.out
  · obtain ⟨k, rfl⟩ : ∃ k : Nat, t = (k : Int) := ⟨t.toNat, by omega⟩
    have hk : k ≤ 64 := by omega
    rw [lat_yes hw hk, later_cut hw hk]
    have C := Lib.hid (windI (A := A) (c := c) (H := H) hn hb hw)
    have I := Lib.hid (isWithin_of (iw_yes ⟨ht, ht2⟩))
    have D := Lib.hid (windows (A := A) (c := c) (zs := zs) (H := H) (a := k) hn hb hk hw)
    have N := Lib.hid (near_drs hw k (65 - k))
    have HH := Lib.hid hH
    clear hw hr hn ht ht2 hH
    go_enter Tryz.func106, Tryz.ntmps106
    go_wp2_with fail
    refine (C.out _ HH.out HR.out).mono ?_
    rintro e u ⟨rfl, b1⟩
    have HR1 := Lib.hid (HR.out.below (b1.mono HH.out))
    have B1 := Lib.hid b1
    clear b1
    go_wp2_with fail
    refine (I.out _).mono ?_
    rintro e v ⟨rfl, rfl⟩
    go_wp2_with fail
    refine (D.out _ (Nat.le_trans HH.out B1.out.size) HR1.out).mono ?_
    rintro e v ⟨g, o, rfl, o2, b2⟩
    rw [drs_len] at ⊢
    have B2 := Lib.hid (below_in B1.out b2)
    have O2 := Lib.hid o2
    clear b2 o2
    go_wp2_with fail
    refine (changesOf _ (65 - k) _ _ _ _ (drs_len ..) (by omega) (Nat.le_refl _) O2.out N.out).mono ?_
    rintro e x ⟨g3, c3, rfl, o3, b3⟩
    have R3 := Lib.hid (row_in B2.out ⟨g3, c3, rfl, o3, b3⟩)
    clear o3 b3
    go_wp2_with fail
    go_ret
    exact R3.out

set_option maxHeartbeats 1000000 in
theorem normalI (A : Option Addr) (n c : Nat) (zs : List G) (H : Nat) (w : World) (hn : zs.length = n) (hb : n ≤ 1048576) (hH : H ≤ w.heap.size) (hr : Rd w H A (gls zs)) :
    Calls Tryz.prog 55 #[.slice A n c] w (Row3 w (lat zs 0)) := by
  have L := Lib.hid (laterI A n c zs H 0 w hn hb hH hr)
  clear hr hn hH
  go_enter Tryz.func55, Tryz.ntmps55
  go_wp2_with fail
  refine L.out.mono ?_
  rintro e u ⟨g, c2, rfl, o, b⟩
  have R := Lib.hid (show Row3 w (lat zs 0) _ _ from ⟨g, c2, rfl, o, b⟩)
  clear o b
  go_wp2_with fail
  go_ret
  exact R.out

end Go.Proofs.YtejeikfgmiadhabGreat.Wg

namespace Go.Proofs.YtejeikfgmiadhabGreat.Wt
open Go.RowKit Go.Proofs.YtejeikfgmiadhabGreat.Mem Go.Proofs.YtejeikfgmiadhabGreat.Rw Go.Proofs.YtejeikfgmiadhabGreat.Bk Go.Proofs.YtejeikfgmiadhabGreat.Cx Go.Proofs.YtejeikfgmiadhabGreat.Cm Go.Proofs.YtejeikfgmiadhabGreat.Jt Go.Proofs.YtejeikfgmiadhabGreat.Pl Go.Proofs.YtejeikfgmiadhabGreat.Str Go.Proofs.YtejeikfgmiadhabGreat.Pw Go.Proofs.YtejeikfgmiadhabGreat.P2 Go.Proofs.YtejeikfgmiadhabGreat.Tp Go.Proofs.YtejeikfgmiadhabGreat.Gs Go.Proofs.YtejeikfgmiadhabGreat.Wm Go.Proofs.YtejeikfgmiadhabGreat.Wi Go.Proofs.YtejeikfgmiadhabGreat.Wa Go.Proofs.YtejeikfgmiadhabGreat.Wb Go.Proofs.YtejeikfgmiadhabGreat.Wc Go.Proofs.YtejeikfgmiadhabGreat.We Go.Proofs.YtejeikfgmiadhabGreat.Wg
set_option linter.unusedVariables false
set_option linter.unusedSimpArgs false

end Go.Proofs.YtejeikfgmiadhabGreat.Wt
