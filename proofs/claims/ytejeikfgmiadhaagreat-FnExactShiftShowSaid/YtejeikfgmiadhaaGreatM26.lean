/- TurnRig of the program. -/
import Derived.Test.YtejeikfgmiadhaaGreatM22
import Derived.Test.YtejeikfgmiadhaaGreatM25
import Derived.ArgAppend
import Derived.ProofKit
import Derived.Test.YtejeikfgmiadhaaGreatM2
import Derived.Deep.AppendLies
import Derived.Deep.RegionHeld3
import Derived.Test.YtejeikfgmiadhaaGreatM12
import Derived.Lib.SliceRun
import Derived.Deep.RegionLaw
import Derived.Deep.DeepCutAuto
namespace Go.Proofs.YtejeikfgmiadhaaGreat.Tq
open Go.RowKit Go.ChangeShapes Go.WideShapes Go.WideElems Go.Deep Go.Proofs.YtejeikfgmiadhaaGreat.Mem Go.Proofs.YtejeikfgmiadhaaGreat.Rw Go.Proofs.YtejeikfgmiadhaaGreat.Pw Go.Proofs.YtejeikfgmiadhaaGreat.P2 Go.Proofs.YtejeikfgmiadhaaGreat.Dd Go.Proofs.YtejeikfgmiadhaaGreat.Dv Go.Proofs.YtejeikfgmiadhaaGreat.Dl Go.Proofs.YtejeikfgmiadhaaGreat.Ds Go.Proofs.YtejeikfgmiadhaaGreat.Fd Go.Proofs.YtejeikfgmiadhaaGreat.Ch Go.Proofs.YtejeikfgmiadhaaGreat.Hn Go.Proofs.YtejeikfgmiadhaaGreat.Po
set_option linter.unusedVariables false
set_option linter.unusedSimpArgs false
open Go.Proofs.YtejeikfgmiadhaaGreat.Cm Go.Proofs.YtejeikfgmiadhaaGreat.Pl Go.Proofs.YtejeikfgmiadhaaGreat.Str Go.Proofs.YtejeikfgmiadhaaGreat.Hd Go.Proofs.YtejeikfgmiadhaaGreat.Jt Go.Proofs.YtejeikfgmiadhaaGreat.Ho Go.Proofs.YtejeikfgmiadhaaGreat.Pa Go.Proofs.YtejeikfgmiadhaaGreat.Di Go.Proofs.YtejeikfgmiadhaaGreat.Ig Go.Proofs.YtejeikfgmiadhaaGreat.Ir Go.Proofs.YtejeikfgmiadhaaGreat.Iq Go.Proofs.YtejeikfgmiadhaaGreat.IsName Go.Proofs.YtejeikfgmiadhaaGreat.Mo Go.Proofs.YtejeikfgmiadhaaGreat.Tr
open Go.Proofs.YtejeikfgmiadhaaGreat.Rw (owns_below owns_grown)

theorem ne_own {w : World} {base base2 n n2 g c2 g2 c3 : Nat} {xs ys : List Value} (h : w.ownsRow base 117 8 (.slice (some ⟨g2, 0, none⟩) n c3) n xs) (k : w.ownsRow base2 149 1 (.slice (some ⟨g, 0, none⟩) n2 c2) n2 ys) : g2 ≠ g := by
  intro hb
  subst hb
  rcases h.2 with ⟨e1, _⟩ | ⟨g', cap, cur, e1, _, e3, _⟩
  · cases e1
  · rcases k.2 with ⟨f1, _⟩ | ⟨g9, cap2, cur2, f1, _, f3, _⟩
    · cases f1
    · injection f1 with f1; injection f1 with f1; injection f1 with f1
      injection e1 with e1; injection e1 with e1; injection e1 with e1
      subst f1 e1
      rw [e3] at f3
      injection f3 with f3
      injection f3 with _ f3
      exact absurd f3 (by decide)

end Go.Proofs.YtejeikfgmiadhaaGreat.Tq
namespace Go.Proofs.YtejeikfgmiadhaaGreat.Wg
open Go.RowKit Go.Proofs.YtejeikfgmiadhaaGreat.Mem Go.Proofs.YtejeikfgmiadhaaGreat.Rw Go.Proofs.YtejeikfgmiadhaaGreat.Bk Go.Proofs.YtejeikfgmiadhaaGreat.Cx Go.Proofs.YtejeikfgmiadhaaGreat.Cm Go.Proofs.YtejeikfgmiadhaaGreat.Jt Go.Proofs.YtejeikfgmiadhaaGreat.Pl Go.Proofs.YtejeikfgmiadhaaGreat.Str Go.Proofs.YtejeikfgmiadhaaGreat.Pw Go.Proofs.YtejeikfgmiadhaaGreat.P2 Go.Proofs.YtejeikfgmiadhaaGreat.Gs Go.Proofs.YtejeikfgmiadhaaGreat.Wm Go.Proofs.YtejeikfgmiadhaaGreat.Wi Go.Proofs.YtejeikfgmiadhaaGreat.Wa Go.Proofs.YtejeikfgmiadhaaGreat.Wb Go.Proofs.YtejeikfgmiadhaaGreat.Wc Go.Proofs.YtejeikfgmiadhaaGreat.We
set_option linter.unusedVariables false
set_option linter.unusedSimpArgs false

/-- The changes up to k speak of the first k places only. -/
theorem chgs_pre {l m : List (Int × Int)} {k : Nat} (h : ∀ j, j < k → l[j]? = m[j]?) : chgs l k = chgs m k := by
  induction k with
  | zero => rfl
  | succ k ih =>
    have ih := ih (fun j hj => h j (by omega))
    have hk := h k (by omega)
    have hw : was l k = was m k := by
      cases k with
      | zero => rfl
      | succ k => unfold was; rw [if_neg (by omega), if_neg (by omega), Nat.add_sub_cancel, List.getD_eq_getElem?_getD, List.getD_eq_getElem?_getD, h k (by omega)]
    have hd : l.getD k (0, 0) = m.getD k (0, 0) := by rw [List.getD_eq_getElem?_getD, List.getD_eq_getElem?_getD, hk]
    unfold chgs at ih ⊢
    rw [List.range_succ, List.filter_append, List.filter_append, List.map_append, List.map_append, ih]
    simp only [List.filter_cons, List.filter_nil, hd, hw]
    split <;> simp [hk]
/-- Behind the last tick there is no change. -/
theorem later_cut {zs : List G} (h : wd zs = true) {n : Nat} (hn : n ≤ 64) : chg (drs zs n 65) = chg (drs zs n (65 - n)) := by
  have key : ∀ j, 65 - n + j ≤ 65 → chgs (drs zs n 65) (65 - n + j) = chgs (drs zs n 65) (65 - n) := by
    intro j
    induction j with
    | zero => intro _; rfl
    | succ j ih =>
      intro hj
      rw [← Nat.add_assoc, chgs_no (p := dr zs ((n + (65 - n + j) : Nat) : Int)) (drs_get (by omega)), ih (by omega)]
      have e : was (drs zs n 65) (65 - n + j) = dr zs ((n + (65 - n + j - 1) : Nat) : Int) := by
        unfold was; rw [if_neg (by omega), List.getD_eq_getElem?_getD, drs_get (by omega)]; rfl
      rw [e, dr_late h (by omega), dr_late h (t := ((n + (65 - n + j - 1) : Nat) : Int)) (by omega)]
  unfold chg
  rw [drs_len, drs_len]
  have k0 := key n (by omega)
  rw [show 65 - n + n = 65 by omega] at k0
  rw [k0]
  exact chgs_pre fun j hj => by rw [drs_get (by omega), drs_get (by omega)]

/-- The wind that is told from a tick on. -/
def lat (zs : List G) (t : Int) : List G := if wd zs = true ∧ 0 ≤ t ∧ t ≤ 64 then chg (drs zs t.toNat 65) else []
theorem lat_no {zs : List G} {t : Int} (h : wd zs = false ∨ t < 0 ∨ 64 < t) : lat zs t = [] := by
  unfold lat; rw [if_neg]; rintro ⟨a, b, c⟩
  rcases h with h | h | h
  · rw [h] at a; cases a
  · omega
  · omega
theorem lat_yes {zs : List G} (h : wd zs = true) {k : Nat} (hk : k ≤ 64) : lat zs (k : Int) = chg (drs zs k 65) := by
  unfold lat; rw [if_pos ⟨h, by omega, by omega⟩]; rfl
theorem lat_len (zs : List G) (t : Int) : (lat zs t).length ≤ 65 := by
  unfold lat; split
  · have := chgs_len (drs zs t.toNat 65) (drs zs t.toNat 65).length
    unfold chg
    rw [drs_len] at this ⊢
    exact this
  · simp

theorem row_none {w u : World} (h : Below w.heap.size w u) : Row3 w [] (.returned (.slice (some ⟨u.heap.size, 0, none⟩) 0 0)) (u.alloc (.cells #[] 100)) :=
  ⟨u.heap.size, 0, rfl, World.ownsRow_lit u #[] 0 h.size (Nat.zero_le _) rfl, h.alloc h.size _⟩
theorem row_in {w u v : World} {zs : List G} {e : Ending} (h : Below w.heap.size w u) (r : Row3 u zs e v) : Row3 w zs e v := by
  obtain ⟨g, c, rfl, o, b⟩ := r
  exact ⟨g, c, rfl, owns_base o (Nat.le_trans h.size (own_base o g rfl)), below_in h b⟩

theorem windows {A : Option Addr} {n c : Nat} {zs : List G} {H a : Nat} (hn : zs.length = n) (hb : n ≤ 1048576) (ha : a ≤ 64) (hw : wd zs = true) (W : World) (hH : H ≤ W.heap.size) (hr : Rd W H A (gls zs)) :
    Calls Tryz.prog 116 #[.slice A n c, .int .i64 a, .int .i64 65] W (Win W (drs zs a (65 - a))) := by
  have := driftsIn A n c zs H a (65 - a) W hn hb hH hr hw (by omega)
  rw [show (a : Int) + ((65 - a : Nat) : Int) = 65 by omega] at this
  exact this

end Go.Proofs.YtejeikfgmiadhaaGreat.Wg

namespace Go.Proofs.YtejeikfgmiadhaaGreat.Wt
open Go.RowKit Go.Proofs.YtejeikfgmiadhaaGreat.Mem Go.Proofs.YtejeikfgmiadhaaGreat.Rw Go.Proofs.YtejeikfgmiadhaaGreat.Bk Go.Proofs.YtejeikfgmiadhaaGreat.Cx Go.Proofs.YtejeikfgmiadhaaGreat.Cm Go.Proofs.YtejeikfgmiadhaaGreat.Jt Go.Proofs.YtejeikfgmiadhaaGreat.Pl Go.Proofs.YtejeikfgmiadhaaGreat.Str Go.Proofs.YtejeikfgmiadhaaGreat.Pw Go.Proofs.YtejeikfgmiadhaaGreat.P2 Go.Proofs.YtejeikfgmiadhaaGreat.Tp Go.Proofs.YtejeikfgmiadhaaGreat.Gs Go.Proofs.YtejeikfgmiadhaaGreat.Wm Go.Proofs.YtejeikfgmiadhaaGreat.Wi Go.Proofs.YtejeikfgmiadhaaGreat.Wa Go.Proofs.YtejeikfgmiadhaaGreat.Wb Go.Proofs.YtejeikfgmiadhaaGreat.Wc Go.Proofs.YtejeikfgmiadhaaGreat.We Go.Proofs.YtejeikfgmiadhaaGreat.Wg
set_option linter.unusedVariables false
set_option linter.unusedSimpArgs false

theorem gls_set : ∀ (zs : List G) (k : Nat) (z : G) (p : Int × Int), zs[k]? = some z → ((gls zs).set (k * 3 + 1) (.int .i64 p.1)).set (k * 3 + 1 + 1) (.int .i64 p.2) = gls (zs.set k (z.1, p))
  | [], k, z, p, h => by simp at h
  | q :: zs, 0, z, p, h => by
    have : q = z := by simpa using h
    subst this; rfl
  | q :: zs, k + 1, z, p, h => by
    have h : zs[k]? = some z := by simpa using h
    have := gls_set zs k z p h
    show ((.int .i64 q.1 :: .int .i64 q.2.1 :: .int .i64 q.2.2 :: gls zs : List Value).set ((k + 1) * 3 + 1) (.int .i64 p.1)).set ((k + 1) * 3 + 1 + 1) (.int .i64 p.2) = .int .i64 q.1 :: .int .i64 q.2.1 :: .int .i64 q.2.2 :: gls (zs.set k (z.1, p))
    rw [show (k + 1) * 3 + 1 = k * 3 + 1 + 1 + 1 + 1 by omega]
    simp only [List.set_cons_succ]
    rw [this]

/-- A gust turned. -/
def tg (t : Int) (z : G) : G := (z.1, tx (t % 4).toNat z.2.1 z.2.2, ty (t % 4).toNat z.2.1 z.2.2)
theorem own_ltR {w : World} {base g n c : Nat} {e : TypeId} {s : Nat} {xs : List Value} (h : w.ownsRow base e s (.slice (some ⟨g, 0, none⟩) n c) n xs) : g < w.heap.size := (h.lt g rfl).2
def tws (zs : List G) (t : Int) : List G := if wd zs = true then zs.map (tg t) else []
theorem tws_no {zs : List G} {t : Int} (h : wd zs = false) : tws zs t = [] := by unfold tws; rw [h]; rfl
theorem tws_yes {zs : List G} {t : Int} (h : wd zs = true) : tws zs t = zs.map (tg t) := by unfold tws; rw [h]; rfl
theorem tws_len (zs : List G) (t : Int) : (tws zs t).length ≤ zs.length := by unfold tws; split <;> simp
/-- The first k gusts turned, the others as they were. -/
def mt (zs : List G) (t : Int) (k : Nat) : List G := (zs.take k).map (tg t) ++ zs.drop k
theorem mt_zero (zs : List G) (t : Int) : mt zs t 0 = zs := by simp [mt]
theorem mt_all (zs : List G) (t : Int) {k : Nat} (h : zs.length = k) : mt zs t k = zs.map (tg t) := by subst h; simp [mt]
theorem mt_len (zs : List G) (t : Int) (k : Nat) : (mt zs t k).length = zs.length := by
  unfold mt; rw [List.length_append, List.length_map, List.length_take, List.length_drop]; omega
theorem mt_get {zs : List G} {t : Int} {k : Nat} {z : G} (h : zs[k]? = some z) : (mt zs t k)[k]? = some z := by
  obtain ⟨hk, _⟩ := List.getElem?_eq_some_iff.1 h
  unfold mt; rw [List.getElem?_append_right (by simp; omega), List.length_map, List.length_take, Nat.min_eq_left (by omega), Nat.sub_self, List.getElem?_drop, Nat.add_zero]; exact h
theorem mt_set {zs : List G} {t : Int} {k : Nat} {z : G} (h : zs[k]? = some z) : (mt zs t k).set k (tg t z) = mt zs t (k + 1) := by
  obtain ⟨hk, e⟩ := List.getElem?_eq_some_iff.1 h
  unfold mt
  rw [List.set_append, if_neg (by simp; omega), List.length_map, List.length_take, Nat.min_eq_left (by omega), Nat.sub_self, List.drop_eq_getElem_cons hk, List.set_cons_zero, List.take_succ_eq_append_getElem hk, e]
  simp
theorem take_map {zs : List G} {t : Int} {k : Nat} {z : G} (h : zs[k]? = some z) : (zs.map (tg t)).take k ++ [tg t z] = (zs.map (tg t)).take (k + 1) := by
  obtain ⟨hk, e⟩ := List.getElem?_eq_some_iff.1 h
  rw [List.take_succ_eq_append_getElem (by simp; exact hk), List.getElem_map, e]

set_option maxRecDepth 100000 in
set_option maxHeartbeats 1000000 in
theorem clone (a : Addr) (n c : Nat) (zs : List G) (w : World) (hn : zs.length = n) (hb : n ≤ 1048576) (hr : Rd w w.heap.size (some a) (gls zs)) :
    Calls Tryz.prog 56 #[.slice (some a) n c] w (Row3 w zs) := by
  obtain ⟨i0, hi, hz0, hz1, hz2⟩ := info_of infoGust
  have HN := Lib.hid hn
  have R0 := Lib.hid (World.ownsRow_lit (base := w.heap.size) (e := 100) (size := 3) w #[] 0 (Nat.le_refl _) (Nat.zero_le _) rfl)
  have HC : ∀ j u, (gls zs)[j]? = some u → w.cell? (a.add j) = some u := by
    intro j u hj
    obtain ⟨hl, _⟩ := List.getElem?_eq_some_iff.1 hj
    obtain ⟨b, o, e, _, hc⟩ := hr.get hl
    injection e with e
    subst e
    rw [Addr.add_lit]; exact hc j u hj
  have HC2 := Lib.hid (show ∀ j u, (gls zs)[j]? = some u → (w.alloc (.cells #[] 100)).cell? (a.add j) = some u from fun j u hj => cell_alloc (HC j u hj))
  have H1 : ∀ u ∈ gls zs, u.oneCell' = true := by
    intro u hu
    obtain ⟨z, _, hz⟩ := List.mem_flatMap.1 hu
    simp [gc] at hz
    rcases hz with rfl | rfl | rfl <;> rfl
  have H2 := Lib.hid H1
  have NE : ∀ (W : World), (binOp .eql 32 (.slice (some a) n c) (.slice none 0 0)).run Tryz.prog W = .ok (.bool false) W := by intro W; rfl
  clear hr hn HC H1
  go_enter Tryz.func56, Tryz.ntmps56
  go_wp2_with (
    at_builtin
    refine wpList_append_own _ rfl _ _ 32 rfl w.heap.size 100 i0 (.agg #[.int .i64 0, .int .i64 0, .int .i64 0]) 3 24 Tryz.underlying32 hi hz0 hz1 hz2 rfl (by decide) _ _ _ rfl R0.out a n c (gls zs) rfl (by rw [gls_len, HN.out]) HC2.out H2.out (by unfold maxLen; omega) (by omega) (by simp) ?_
    intro v' w1 hown hgrow hnil
    rw [Nat.zero_add] at hown
    have hv : ∃ g c', v' = .slice (some ⟨g, 0, none⟩) n c' := by
      rcases hown.2 with ⟨h0, _⟩ | ⟨g', cap, cur, e, _⟩
      · exact absurd (hnil.1 h0).1 (by intro h; cases h)
      · exact ⟨g', cap, e⟩
    obtain ⟨g, c', rfl⟩ := hv
    have O := Lib.hid hown
    have B := Lib.hid (((Below.refl w.heap.size w).alloc (Nat.le_refl _) (.cells #[] 100)).grown hgrow (by simp) (fun z hz => by cases hz; exact Nat.le_refl _))
    clear hown hgrow hnil R0 HC2 H2)
  go_wp2_with fail
  go_ret
  exact ⟨g, c', by rw [HN.out]; rfl, by rw [HN.out]; exact O.out, B.out⟩

end Go.Proofs.YtejeikfgmiadhaaGreat.Wt
namespace Go.Proofs.YtejeikfgmiadhaaGreat.Cr
open Go.RowKit Go.ChangeShapes Go.WideShapes Go.WideElems Go.Deep Go.Proofs.YtejeikfgmiadhaaGreat.Mem Go.Proofs.YtejeikfgmiadhaaGreat.Rw Go.Proofs.YtejeikfgmiadhaaGreat.P2 Go.Proofs.YtejeikfgmiadhaaGreat.Cd Go.Proofs.YtejeikfgmiadhaaGreat.Cv Go.Proofs.YtejeikfgmiadhaaGreat.Cl Go.Proofs.YtejeikfgmiadhaaGreat.Cs
set_option linter.unusedVariables false
set_option linter.unusedSimpArgs false
open Go.Proofs.YtejeikfgmiadhaaGreat.Sd Go.Proofs.YtejeikfgmiadhaaGreat.Oc
open Go.Proofs.YtejeikfgmiadhaaGreat.Rw (owns_below owns_grown)

theorem dls_cell {zs : List C} {v : Value} (h : v ∈ dls zs) : v.oneCell' = true := by
  unfold dls at h
  obtain ⟨d, _, hd⟩ := List.mem_flatMap.1 h
  unfold dc at hd
  simp at hd
  rcases hd with rfl | rfl | rfl | rfl <;> rfl

set_option maxRecDepth 100000 in
set_option maxHeartbeats 400000 in
theorem cloneC (a : Addr) (n0 c9 : Nat) (zs : List C) (w : World) (hn : zs.length = n0) (hb : n0 ≤ 1048576) (hr : Rd w w.heap.size (some a) (dls zs)) :
    Calls Tryz.prog 55 #[.slice (some a) n0 c9] w (RowC w zs) := by
  obtain ⟨i0, hi, hz0, hz1, hz2⟩ := info_of infoD
  have qT : ∀ (w : World) (a : Option Addr) (n c n' c' : Nat), (binOp .eql 31 (.slice a n c) (.slice none n' c')).run Tryz.prog w = .ok (.bool a.isNone) w := fun w a n c n' c' => Lib.run_eql_slice_nil w _ _ a n c n' c' Tryz.underlying31
  have R0 := Lib.hid (World.ownsRow_lit (base := w.heap.size) (e := 97) (size := 4) w #[] 0 (Nat.le_refl _) (Nat.zero_le _) rfl)
  have HC := Lib.hid (show ∀ j u, (dls zs)[j]? = some u → (w.alloc (.cells #[] 97)).cell? (a.add j) = some u by
    intro j u hj
    have hl := (List.getElem?_eq_some_iff.1 hj).1
    obtain ⟨b, o, e, hbl, hc⟩ := hr.get hl
    injection e with e
    subst e
    have := hc j u hj
    rw [show (⟨b, o, none⟩ : Addr).add j = ⟨b, o + j, none⟩ by simp [Addr.add]]
    exact cell_alloc this)
  have HN := Lib.hid hn
  have HW := Lib.hid (show w.heap.size ≤ (w.alloc (.cells #[] 97)).heap.size by simp)
  clear hr hn
  go_enter Tryz.func55, Tryz.ntmps55
  go_wp2_with (at_builtin; refine wpList_append_own _ rfl _ _ 31 rfl w.heap.size 97 i0 (.agg #[.int .i64 0, .string ⟨#[]⟩, .int .i64 0, .int .i64 0]) 4 40 Tryz.underlying31 hi hz0 hz1 hz2 rfl (by decide) _ _ _ rfl R0.out a n0 _ (dls zs) rfl (by rw [dls_len, HN.out]) HC.out (fun u hu => dls_cell hu) (by unfold maxLen; omega) (by omega) HW.out ?_; intro v' w5 hown' hgrow hnil)
  have hg : ∃ g c, v' = .slice (some ⟨g, 0, none⟩) n0 c := by
    rcases hown'.2 with ⟨e1, _⟩ | ⟨g, cap, cur, e1, _⟩
    · exact absurd (hnil.1 e1).1 (by intro h; cases h)
    · exact ⟨g, cap, by rw [e1, Nat.zero_add]⟩
  obtain ⟨g, c, rfl⟩ := hg
  have RO := Lib.hid (show w5.ownsRow w.heap.size 97 4 (.slice (some ⟨g, 0, none⟩) n0 c) n0 (dls zs) by
    have := hown'; rw [Nat.zero_add] at this; exact this)
  have B5 := Lib.hid (show Below w.heap.size w w5 from Below.grown (by go_grown) hgrow (by simp) (fun j hj => by cases hj; exact Nat.le_refl _))
  clear hown' hgrow hnil R0 HC
  go_wp2_with fail
  go_ret
  exact ⟨g, c, by rw [HN.out]; rfl, by rw [HN.out]; exact RO.out, B5.out⟩

/-- Cells written over a list, one after another. -/
def layL : List Value → Nat → List Value → List Value
  | xs, _, [] => xs
  | xs, o, u :: r => layL (xs.set o u) (o + 1) r
theorem layL_len : ∀ (r xs : List Value) (o : Nat), (layL xs o r).length = xs.length
  | [], _, _ => rfl
  | u :: r, xs, o => by rw [layL, layL_len r]; simp
theorem layL_get : ∀ (r xs : List Value) (o : Nat), o + r.length ≤ xs.length → ∀ t, (layL xs o r)[t]? = if t < o then xs[t]? else if t < o + r.length then r[t - o]? else xs[t]?
  | [], xs, o, _, t => by
    rw [layL]
    split
    · rfl
    · rw [if_neg (by simp only [List.length_nil]; omega)]
  | u :: r, xs, o, h, t => by
    simp only [List.length_cons] at h
    rw [layL, layL_get r (xs.set o u) (o + 1) (by rw [List.length_set]; omega) t]
    by_cases c1 : t < o
    · rw [if_pos (by omega), if_pos c1, List.getElem?_set_ne (by omega)]
    · rw [if_neg c1]
      by_cases c2 : t = o
      · subst c2
        rw [if_pos (by omega), if_pos (by simp only [List.length_cons]; omega), Nat.sub_self, List.getElem?_set_self (by omega)]; rfl
      · rw [if_neg (by omega)]
        by_cases c3 : t < o + (r.length + 1)
        · rw [if_pos (by omega), if_pos (by simp only [List.length_cons]; exact c3), show t - o = (t - (o + 1)) + 1 by omega, List.getElem?_cons_succ]
        · rw [if_neg (by omega), if_neg (by simp only [List.length_cons]; exact c3), List.getElem?_set_ne (by omega)]
theorem gtrans {a b c : World} {row : Option Nat} (h : a.grownBy b row) (k : b.grownBy c row) : a.grownBy c row :=
  ⟨k.os.trans h.os, k.tape.trans h.tape, k.output.trans h.output, Nat.le_trans h.size k.size, fun i hi hne => (k.block i (Nat.lt_of_lt_of_le hi h.size) hne).trans (h.block i hi hne)⟩
theorem owns_lay {base : Nat} {e : TypeId} {size g n cap : Nat} : ∀ (r : List Value) (o : Nat) (w : World) (xs : List Value), w.ownsRow base e size (.slice (some ⟨g, 0, none⟩) n cap) n xs → (w.setCells g o r).ownsRow base e size (.slice (some ⟨g, 0, none⟩) n cap) n (layL xs o r) ∧ w.grownBy (w.setCells g o r) (some g)
  | [], _, w, _, h => ⟨h, World.grownBy.refl _ _⟩
  | u :: r, o, w, xs, h => by
    obtain ⟨h1, g1⟩ := h.stored o u
    obtain ⟨h2, g2⟩ := owns_lay r (o + 1) _ _ h1
    exact ⟨h2, gtrans g1 g2⟩
theorem owns_fewer {w : World} {base : Nat} {e : TypeId} {size g n cap : Nat} {xs : List Value} (h : w.ownsRow base e size (.slice (some ⟨g, 0, none⟩) n cap) n xs) {m : Nat} (hm : m ≤ n) : w.ownsRow base e size (.slice (some ⟨g, 0, none⟩) m cap) m (xs.take (m * size)) := by
  rcases h.2 with ⟨h', _⟩ | ⟨g', cap', cur, h', hb, hg, hnc, hcm, hcs, htake⟩
  · simp at h'
  · simp only [Value.slice.injEq, Option.some.injEq, Addr.mk.injEq, and_true, true_and] at h'
    obtain ⟨rfl, rfl⟩ := h'
    have hle : m * size ≤ n * size := Nat.mul_le_mul_right _ hm
    refine ⟨by rw [List.length_take, h.1]; omega, .inr ⟨g, cap, cur, rfl, hb, hg, by omega, hcm, hcs, ?_⟩⟩
    rw [← htake, List.take_take, Nat.min_eq_left hle]
theorem owns_cap {w : World} {base : Nat} {e : TypeId} {size g n cap : Nat} {xs : List Value} (h : w.ownsRow base e size (.slice (some ⟨g, 0, none⟩) n cap) n xs) : n ≤ cap ∧ cap ≤ maxLen := by
  rcases h.2 with ⟨h', _⟩ | ⟨g', cap', cur, h', hb, hg, hnc, hcm, hcs, htake⟩
  · simp at h'
  · simp only [Value.slice.injEq, Option.some.injEq, Addr.mk.injEq, and_true, true_and] at h'
    obtain ⟨rfl, rfl⟩ := h'
    exact ⟨hnc, hcm⟩
theorem rd_take {w : World} {B : Nat} {A : Option Addr} {xs : List Value} (h : Rd w B A xs) (k : Nat) : Rd w B A (xs.take k) := by
  rcases h with h | ⟨b, o, e, hb, hc⟩
  · exact Or.inl (by rw [h]; simp)
  · exact Or.inr ⟨b, o, e, hb, fun j u hj => hc j u (by rw [List.getElem?_take] at hj; split at hj; exact hj; cases hj)⟩

theorem dls_app (xs ys : List C) : dls (xs ++ ys) = dls xs ++ dls ys := by unfold dls; rw [List.flatMap_append]
theorem dls_part {zs : List C} {k : Nat} (h : k ≤ zs.length) : dls (zs.take k) = (dls zs).take (k * 4) ∧ dls (zs.drop k) = (dls zs).drop (k * 4) := by
  have e : dls zs = dls (zs.take k) ++ dls (zs.drop k) := by rw [← dls_app, List.take_append_drop]
  have l : (dls (zs.take k)).length = k * 4 := by rw [dls_len, List.length_take]; omega
  rw [e, ← l]
  exact ⟨(List.take_left).symm, (List.drop_left).symm⟩
/-- The list without its j-th. -/
def cut (zs : List C) (j : Nat) : List C := zs.take j ++ zs.drop (j + 1)
theorem cut_len {zs : List C} {j : Nat} (h : j < zs.length) : (cut zs j).length = zs.length - 1 := by unfold cut; simp; omega
theorem cut_lay {zs : List C} {j : Nat} (h : j < zs.length) {z : List Value} (hz : z.length = 4) : (layL (layL (dls zs) (j * 4) (dls (zs.drop (j + 1)))) ((zs.length - 1) * 4) z).take ((zs.length - 1) * 4) = dls (cut zs j) := by
  have l0 := dls_len zs
  have l1 : (dls (zs.drop (j + 1))).length = (zs.length - (j + 1)) * 4 := by rw [dls_len, List.length_drop]
  have l2 : (dls (zs.take j)).length = j * 4 := by rw [dls_len, List.length_take]; omega
  unfold cut
  rw [dls_app]
  apply List.ext_getElem?
  intro t
  rw [List.getElem?_take]
  by_cases c : t < (zs.length - 1) * 4
  · rw [if_pos c, layL_get _ _ _ (by rw [layL_len, hz, l0]; omega), if_pos c, layL_get _ _ _ (by rw [l1, l0]; omega)]
    by_cases c1 : t < j * 4
    · rw [if_pos c1, List.getElem?_append_left (by omega), (dls_part (Nat.le_of_lt h)).1, List.getElem?_take, if_pos c1]
    · rw [if_neg c1, if_pos (by omega), List.getElem?_append_right (by omega), l2]
  · rw [if_neg c, List.getElem?_eq_none (by rw [List.length_append, l1, l2]; omega)]

set_option maxRecDepth 100000 in
set_option maxHeartbeats 400000 in
theorem copiesC (a : Addr) (n0 c9 : Nat) (zs : List C) (w : World) (hn : zs.length = n0) (hb : n0 ≤ 1048576) (hr : Rd w w.heap.size (some a) (dls zs)) :
    Calls Tryz.prog 95 #[.slice (some a) n0 c9] w (RowC w zs) := by
  obtain ⟨i0, hi, hz0, hz1, hz2⟩ := info_of infoD
  have R0 := Lib.hid (World.ownsRow_lit (base := w.heap.size) (e := 97) (size := 4) w #[] 0 (Nat.le_refl _) (Nat.zero_le _) rfl)
  have HC := Lib.hid (show ∀ j u, (dls zs)[j]? = some u → (w.alloc (.cells #[] 97)).cell? (a.add j) = some u by
    intro j u hj
    have hl := (List.getElem?_eq_some_iff.1 hj).1
    obtain ⟨b, o, e, hbl, hc⟩ := hr.get hl
    injection e with e
    subst e
    have := hc j u hj
    rw [show (⟨b, o, none⟩ : Addr).add j = ⟨b, o + j, none⟩ by simp [Addr.add]]
    exact cell_alloc this)
  have HN := Lib.hid hn
  have HW := Lib.hid (show w.heap.size ≤ (w.alloc (.cells #[] 97)).heap.size by simp)
  clear hr hn
  go_enter Tryz.func95, Tryz.ntmps95
  go_wp2_with (at_builtin; refine wpList_append_own _ rfl _ _ 31 rfl w.heap.size 97 i0 (.agg #[.int .i64 0, .string ⟨#[]⟩, .int .i64 0, .int .i64 0]) 4 40 Tryz.underlying31 hi hz0 hz1 hz2 rfl (by decide) _ _ _ rfl R0.out a n0 _ (dls zs) rfl (by rw [dls_len, HN.out]) HC.out (fun u hu => dls_cell hu) (by unfold maxLen; omega) (by omega) HW.out ?_; intro v' w5 hown' hgrow hnil)
  have hg : ∃ g c, v' = .slice (some ⟨g, 0, none⟩) n0 c := by
    rcases hown'.2 with ⟨e1, _⟩ | ⟨g, cap, cur, e1, _⟩
    · exact absurd (hnil.1 e1).1 (by intro h; cases h)
    · exact ⟨g, cap, by rw [e1, Nat.zero_add]⟩
  obtain ⟨g, c, rfl⟩ := hg
  have RO := Lib.hid (show w5.ownsRow w.heap.size 97 4 (.slice (some ⟨g, 0, none⟩) n0 c) n0 (dls zs) by
    have := hown'; rw [Nat.zero_add] at this; exact this)
  have B5 := Lib.hid (show Below w.heap.size w w5 from Below.grown (by go_grown) hgrow (by simp) (fun j hj => by cases hj; exact Nat.le_refl _))
  clear hown' hgrow hnil R0 HC
  go_wp2_with fail
  go_ret
  exact ⟨g, c, by rw [HN.out]; rfl, by rw [HN.out]; exact RO.out, B5.out⟩

end Go.Proofs.YtejeikfgmiadhaaGreat.Cr
