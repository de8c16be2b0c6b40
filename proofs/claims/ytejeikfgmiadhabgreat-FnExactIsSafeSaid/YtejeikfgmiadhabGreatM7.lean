/- Lists of cues: how much of what is left one takes, the laws' copy of one, and their comparison. -/
import Derived.Test.YtejeikfgmiadhabGreatM6
import Derived.Deep.RegionHeld3
import Derived.Test.YtejeikfgmiadhabGreatM1
import Derived.Test.YtejeikfgmiadhabGreatM4
namespace Go.Proofs.YtejeikfgmiadhabGreat.Cl
open Go.RowKit Go.ChangeShapes Go.WideShapes Go.WideElems Go.Deep Go.Proofs.YtejeikfgmiadhabGreat.Mem Go.Proofs.YtejeikfgmiadhabGreat.Rw Go.Proofs.YtejeikfgmiadhabGreat.P2 Go.Proofs.YtejeikfgmiadhabGreat.Cd Go.Proofs.YtejeikfgmiadhabGreat.Cv
set_option linter.unusedVariables false
set_option linter.unusedSimpArgs false

/-- How long the texts of these cues are. -/
def bulk : List C → Nat
  | [] => 0
  | d :: r => d.nm.size + bulk r
theorem bulk_app : ∀ (a b : List C), bulk (a ++ b) = bulk a + bulk b
  | [], b => by simp [bulk]
  | d :: r, b => by simp only [List.cons_append, bulk, bulk_app r b]; omega
theorem bulk_take {zs : List C} {k : Nat} {d : C} (h : zs[k]? = some d) : bulk (zs.take (k + 1)) = bulk (zs.take k) + d.nm.size := by
  obtain ⟨hk, rfl⟩ := List.getElem?_eq_some_iff.1 h
  rw [List.take_succ_eq_append_getElem hk, bulk_app]; simp [bulk]
theorem bulk_le (zs : List C) (k : Nat) : bulk (zs.take k) ≤ bulk zs := by
  have := bulk_app (zs.take k) (zs.drop k)
  rw [List.take_append_drop] at this
  omega
theorem mem_at {α : Type} {zs : List α} {k : Nat} {d : α} (h : zs[k]? = some d) : d ∈ zs := List.mem_of_getElem? h
/-- How much is left behind these, of so much. -/
def szW (L : Int) (n : Nat) (zs : List C) : Int := if L - n - bulk zs < 0 then -1 else L - n - bulk zs
/-- How much is left behind these. -/
def szV (n : Nat) (zs : List C) : Int := szW 1048576 n zs

/-- The first k of one list, then the other one's. -/
def mixed (xs ys : List Value) (k : Nat) : List Value := xs.take k ++ ys.drop k
theorem mixed_zero (xs ys : List Value) : mixed xs ys 0 = ys := by simp [mixed]
theorem mixed_all {xs ys : List Value} (h : ys.length = xs.length) : mixed xs ys xs.length = xs := by
  unfold mixed; rw [List.take_of_length_le (Nat.le_refl _), List.drop_of_length_le (by omega), List.append_nil]
theorem mixed_at {xs ys : List Value} {k j : Nat} {v : Value} (h : ys.length = xs.length) (hk : k ≤ j) (hv : ys[j]? = some v) : (mixed xs ys k)[j]? = some v := by
  have hj := (List.getElem?_eq_some_iff.1 hv).1
  unfold mixed
  rw [List.getElem?_append_right (by rw [List.length_take]; omega), List.length_take, Nat.min_eq_left (by omega), List.getElem?_drop, show k + (j - k) = j by omega]
  exact hv
theorem mixed_put {xs ys : List Value} {k : Nat} {v : Value} (h : ys.length = xs.length) (hv : xs[k]? = some v) : (mixed xs ys k).set k v = mixed xs ys (k + 1) := by
  obtain ⟨hk, rfl⟩ := List.getElem?_eq_some_iff.1 hv
  unfold mixed
  rw [List.set_append_right _ _ (by rw [List.length_take]; omega), List.length_take, Nat.min_eq_left (by omega), Nat.sub_self, List.drop_eq_getElem_cons (by omega), List.set_cons_zero, List.take_succ_eq_append_getElem hk, List.append_assoc]
  rfl
/-- A cue of nothing. -/
def d0 : C := ⟨0, ⟨#[]⟩, 0, 0⟩
theorem dls_made (n : Nat) : (madeCells #[.int .i64 0, .string ⟨#[]⟩, .int .i64 0, .int .i64 0] (n * 4)).toList = dls (List.replicate n d0) := by
  apply List.ext_getElem?
  intro j
  by_cases h : j < n * 4
  · have hm : j % 4 < 4 := Nat.mod_lt _ (by omega)
    have hd : j / 4 < n := by omega
    have hg := flat_get dc_len (zs := List.replicate n d0) (k := j / 4) (z := d0) (by rw [List.getElem?_replicate, if_pos hd]) (j % 4) hm
    rw [show j / 4 * 4 + j % 4 = j by omega] at hg
    unfold dls
    rw [hg, Array.getElem?_toList]
    simp only [madeCells]
    simp [h]
    generalize j % 4 = r at hm
    match r, hm with
    | 0, _ => rfl
    | 1, _ => rfl
    | 2, _ => rfl
    | 3, _ => rfl
  · rw [List.getElem?_eq_none (l := dls _) (by rw [dls_len, List.length_replicate]; omega), Array.getElem?_toList]
    simp [madeCells, h]

theorem infoD : (Tryz.prog.info? 127).map (fun i => (i.zero, i.size, i.bytes)) = some (some (.agg #[.int .i64 0, .string ⟨#[]⟩, .int .i64 0, .int .i64 0]), 4, 40) := by kernel_rfl

set_option maxHeartbeats 2000000 in
theorem szCueW (A : Option Addr) (n c : Nat) (zs : List C) (L0 : Int) (w : World) (hL0 : 0 ≤ L0) (hL1 : L0 ≤ 1048576) (hn : zs.length = n) (hm : n ≤ maxLen) (hr : Rd w w.heap.size A (dls zs)) (hok : ∀ z ∈ zs, Dok z) :
    Calls Tryz.prog 30 #[.slice A n c, .int .i64 L0] w fun e w' => e = .returned (.int .i64 (szW L0 n zs)) ∧ Below w.heap.size w w' := by
  unfold maxLen at hm
  have HN := Lib.hid hn
  by_cases hb : L0 - (n : Int) < 0
  · have HV := Lib.hid (show szW L0 n zs = -1 by unfold szW; rw [if_pos (by omega)])
    have h1 : L0 < (n : Int) := by omega
    have h2 : ¬ (n : Int) ≤ L0 := by omega
    clear hn hr hok
    go_enter Tryz.func30, Tryz.ntmps30
    go_wp2
    all_goals go_returns
    all_goals first | exact ⟨by rw [HV.out]; rfl, Below.refl _ _⟩ | (exfalso; omega)
  have hb1 : (n : Int) ≤ L0 := by omega
  have hb2 : 0 ≤ L0 - (n : Int) := by omega
  have HR := Lib.hid hr
  have HO := Lib.hid hok
  clear hr hok hn
  go_enter Tryz.func30, Tryz.ntmps30
  go_wp2
  go_loopw [1, 5] (fun L i wr => ∃ (k : Nat) (u : Int), k ≤ n ∧ i = .int .i64 k ∧ L = .int .i64 u ∧ Hid (u = L0 - (n : Int) - (bulk (zs.take k) : Nat) ∧ 0 ≤ u ∧ u ≤ 1048576) ∧ Hid (Below w.heap.size w wr)) (fun _ i _ => n - (intOf i).toNat)
  case atStart => exact ⟨0, L0 - (n : Int), Nat.zero_le _, rfl, rfl, Lib.hid ⟨by simp [bulk], by omega, by omega⟩, Lib.hid (Below.refl _ _)⟩
  case round =>
    obtain ⟨k, u, hk, rfl, rfl, UK, BK⟩ := hrel
    by_cases hlt : k < n
    · obtain ⟨b, o, eA, hbl, hcell⟩ := HR.out.get (k := k * 4) (by rw [dls_len, HN.out]; omega)
      obtain ⟨z, hz⟩ : ∃ z, zs[k]? = some z := ⟨_, List.getElem?_eq_getElem (by rw [HN.out]; exact hlt)⟩
      have hd := HO.out z (mem_at hz)
      have ht := bulk_take hz
      have hle := bulk_le zs (k + 1)
      obtain ⟨t_, n_, l_, r_⟩ := z
      obtain ⟨z0, z1, z2, z3⟩ := dls_get hz
      simp only [Dok] at hd
      simp only [] at ht
      have c0 : wr.cell? ⟨b, o + k * 4, none⟩ = some (.int .i64 t_) := (BK.out.cell (p := ⟨b, o + k * 4, none⟩) hbl).trans (hcell _ _ z0)
      have c1 : wr.cell? ⟨b, o + k * 4 + 1, none⟩ = some (.string n_) := by
        rw [Nat.add_assoc]; exact (BK.out.cell (p := ⟨b, o + (k * 4 + 1), none⟩) hbl).trans (hcell _ _ z1)
      have c2 : wr.cell? ⟨b, o + k * 4 + 2, none⟩ = some (.int .i64 l_) := by
        rw [Nat.add_assoc]; exact (BK.out.cell (p := ⟨b, o + (k * 4 + 2), none⟩) hbl).trans (hcell _ _ z2)
      have c3 : wr.cell? ⟨b, o + k * 4 + 3, none⟩ = some (.int .i64 r_) := by
        rw [Nat.add_assoc]; exact (BK.out.cell (p := ⟨b, o + (k * 4 + 3), none⟩) hbl).trans (hcell _ _ z3)
      have U := UK.out
      clear hbl hcell z0 z1 z2 z3 hz
      subst eA
      by_cases hR : u - (n_.size : Int) < 0
      · have C := Lib.hid (fun W => szNo t_ n_ l_ r_ u U.2.1 U.2.2 hd.1 hR W)
        have HV := Lib.hid (show szW L0 n zs = -1 by unfold szW; rw [if_pos (by omega)])
        clear hR U ht hle hd
        go_wp2_with fail
        refine (C.out _).mono ?_
        rintro e w' ⟨rfl, rfl⟩
        go_wp2_with fail
        go_ret
        exact ⟨by rw [HV.out]; rfl, BK.out.alloc BK.out.size _⟩
      · obtain ⟨R, hRR⟩ : ∃ R : Int, u - (n_.size : Int) = R := ⟨_, rfl⟩
        have C := Lib.hid (fun W => szYes t_ n_ l_ r_ u R U.2.2 hRR (by omega) W)
        have hp : ¬ R < 0 := by omega
        have HU := Lib.hid (show R = L0 - (n : Int) - (bulk (zs.take (k + 1)) : Nat) ∧ 0 ≤ R ∧ R ≤ 1048576 by omega)
        clear hR U ht hle hd hRR
        go_wp2_with fail
        refine (C.out _).mono ?_
        rintro e w' ⟨rfl, rfl⟩
        go_wp2_with fail
        go_roundw
        case rel => exact ⟨k + 1, R, by omega, by go_num, rfl, HU, Lib.hid (BK.out.alloc BK.out.size _)⟩
        case measure => simp [intOf]; omega
    · obtain rfl : k = n := by omega
      have HV := Lib.hid (show u = szW L0 k zs by
        have U := UK.out
        rw [List.take_of_length_le (by rw [HN.out]; exact Nat.le_refl _)] at U
        unfold szW; rw [if_neg (by omega)]; exact U.1)
      go_wp2
      go_ret
      exact ⟨by rw [← HV.out]; rfl, BK.out⟩
theorem szCueS (A : Option Addr) (n c : Nat) (zs : List C) (w : World) (hn : zs.length = n) (hm : n ≤ maxLen) (hr : Rd w w.heap.size A (dls zs)) (hok : ∀ z ∈ zs, Dok z) :
    Calls Tryz.prog 30 #[.slice A n c, .int .i64 1048576] w fun e w' => e = .returned (.int .i64 (szV n zs)) ∧ Below w.heap.size w w' :=
  szCueW A n c zs 1048576 w (by omega) (by omega) hn hm hr hok

/-- What the copy leaves: a row of its own with these cues; what was there is as it was. -/
def Copied (w : World) (n : Nat) (zs : List C) (e : Ending) (w' : World) : Prop :=
  ∃ g, e = .returned (.slice (some ⟨g, 0, none⟩) n n) ∧ w.heap.size ≤ g ∧ w'.ownsRow w.heap.size 127 4 (.slice (some ⟨g, 0, none⟩) n n) n (dls zs) ∧ Below w.heap.size w w'

set_option maxHeartbeats 4000000 in
theorem toCueS (A : Option Addr) (n c : Nat) (zs : List C) (w : World) (hn : zs.length = n) (hb : n ≤ 1048576) (hr : Rd w w.heap.size A (dls zs)) :
    Calls Tryz.prog 38 #[.slice A n c] w (Copied w n zs) := by
  obtain ⟨i0, hi, hz0, hz1, hz2⟩ := info_of infoD
  have HR := Lib.hid hr
  have HN := Lib.hid hn
  have HL := Lib.hid (show (dls (List.replicate n d0)).length = (dls zs).length by rw [dls_len, dls_len, List.length_replicate, hn])
  clear hr hn
  go_enter Tryz.func38, Tryz.ntmps38
  go_wp2_with (at_make; refine wpList_make_full _ rfl _ _ 37 rfl w.heap.size 127 i0 (.agg #[.int .i64 0, .string ⟨#[]⟩, .int .i64 0, .int .i64 0]) 4 Tryz.underlying37 hi hz0 hz1 .i64 .i64 n n n rfl rfl rfl rfl (by rw [hz2]; omega) (by unfold maxLen; omega) (Nat.le_refl _) ?_; intro w1 hown hgrow; clear hi hz0 hz1 hz2)
  have R0 := Lib.hid (show w1.ownsRow w.heap.size 127 4 (.slice (some ⟨w.heap.size, 0, none⟩) n n) n (mixed (dls zs) (dls (List.replicate n d0)) 0) by
    rw [mixed_zero, ← dls_made]; exact hown)
  have B0 := Lib.hid (show Below w.heap.size w w1 from (Below.refl _ _).grown hgrow (Nat.le_refl _) (fun k hk => by cases hk))
  clear hown hgrow
  go_loopw [4] (fun i wr => ∃ k : Nat, k ≤ n ∧ i = .int .i64 k ∧ Hid (wr.ownsRow w.heap.size 127 4 (.slice (some ⟨w.heap.size, 0, none⟩) n n) n (mixed (dls zs) (dls (List.replicate n d0)) (k * 4))) ∧ Hid (Below w.heap.size w wr)) (fun i _ => n - (intOf i).toNat)
  case atStart => exact ⟨0, Nat.zero_le _, rfl, R0, B0⟩
  case round =>
    obtain ⟨k, hk, rfl, RK, BK⟩ := hrel
    by_cases hlt : k < n
    · obtain ⟨b, o, eA, hbl, hcell⟩ := HR.out.get (k := k * 4) (by rw [dls_len, HN.out]; omega)
      obtain ⟨z, hz⟩ : ∃ z, zs[k]? = some z := ⟨_, List.getElem?_eq_getElem (by rw [HN.out]; exact hlt)⟩
      obtain ⟨y0, y1, y2, y3⟩ := dls_get (zs := List.replicate n d0) (k := k) (by rw [List.getElem?_replicate, if_pos hlt])
      obtain ⟨t_, n_, l_, r_⟩ := z
      obtain ⟨z0, z1, z2, z3⟩ := dls_get hz
      have c0 : wr.cell? ⟨b, o + k * 4, none⟩ = some (.int .i64 t_) := (BK.out.cell (p := ⟨b, o + k * 4, none⟩) hbl).trans (hcell _ _ z0)
      have c1 : wr.cell? ⟨b, o + k * 4 + 1, none⟩ = some (.string n_) := by
        rw [Nat.add_assoc]; exact (BK.out.cell (p := ⟨b, o + (k * 4 + 1), none⟩) hbl).trans (hcell _ _ z1)
      have c2 : wr.cell? ⟨b, o + k * 4 + 2, none⟩ = some (.int .i64 l_) := by
        rw [Nat.add_assoc]; exact (BK.out.cell (p := ⟨b, o + (k * 4 + 2), none⟩) hbl).trans (hcell _ _ z2)
      have c3 : wr.cell? ⟨b, o + k * 4 + 3, none⟩ = some (.int .i64 r_) := by
        rw [Nat.add_assoc]; exact (BK.out.cell (p := ⟨b, o + (k * 4 + 3), none⟩) hbl).trans (hcell _ _ z3)
      have Z0 := Lib.hid (mixed_put HL.out z0)
      have Z1 := Lib.hid (mixed_put HL.out z1)
      have Z2 := Lib.hid (mixed_put HL.out z2)
      have Z3 := Lib.hid (mixed_put HL.out z3)
      clear hbl hcell hz R0 B0 z0 z1 z2 z3
      have HY := Lib.hid (⟨y0, y1, y2, y3⟩ : _ ∧ _ ∧ _ ∧ _)
      clear y0 y1 y2 y3
      subst eA
      go_wp2_with fail
      refine (toCue _ _ _ _ _).mono ?_
      rintro e u ⟨rfl, hb1⟩
      have R1 := owns_below RK.out hb1
      have B1 := BK.out.trans (hb1.mono BK.out.size)
      have hL := HL.out
      have hl8 : (dls zs).length = n * 4 := by rw [dls_len, HN.out]
      have e0 : u.cell? ⟨w.heap.size, k * 4, none⟩ = some (.int .i64 0) := (R1.cellAt (k * 4) (by omega)).trans (mixed_at hL (by omega) HY.out.1)
      have f0 := R1.frozenAt (k * 4)
      have e1 : u.cell? ⟨w.heap.size, k * 4 + 1, none⟩ = some (.string ⟨#[]⟩) := (R1.cellAt (k * 4 + 1) (by omega)).trans (mixed_at hL (by omega) HY.out.2.1)
      have f1 := R1.frozenAt (k * 4 + 1)
      have e2 : u.cell? ⟨w.heap.size, k * 4 + 2, none⟩ = some (.int .i64 0) := (R1.cellAt (k * 4 + 2) (by omega)).trans (mixed_at hL (by omega) HY.out.2.2.1)
      have f2 := R1.frozenAt (k * 4 + 2)
      have e3 : u.cell? ⟨w.heap.size, k * 4 + 3, none⟩ = some (.int .i64 0) := (R1.cellAt (k * 4 + 3) (by omega)).trans (mixed_at hL (by omega) HY.out.2.2.2)
      have f3 := R1.frozenAt (k * 4 + 3)
      obtain ⟨r0, g0⟩ := R1.stored (k * 4) (.int .i64 t_)
      rw [Z0.out] at r0
      obtain ⟨r1, g1⟩ := r0.stored (k * 4 + 1) (.string n_)
      rw [Z1.out] at r1
      obtain ⟨r2, g2⟩ := r1.stored (k * 4 + 1 + 1) (.int .i64 l_)
      rw [Z2.out] at r2
      obtain ⟨r3, g3⟩ := r2.stored (k * 4 + 1 + 1 + 1) (.int .i64 r_)
      rw [Z3.out] at r3
      have RR := Lib.hid r3
      have b0 := B1.grown g0 B1.size (fun g hg => by cases hg; exact Nat.le_refl _)
      have b1 := b0.grown g1 b0.size (fun g hg => by cases hg; exact Nat.le_refl _)
      have b2 := b1.grown g2 b1.size (fun g hg => by cases hg; exact Nat.le_refl _)
      have b3 := b2.grown g3 b2.size (fun g hg => by cases hg; exact Nat.le_refl _)
      have BB := Lib.hid b3
      clear r0 g0 b0 c0 Z0 r1 g1 b1 c1 Z1 r2 g2 b2 c2 Z2 r3 g3 b3 c3 Z3 hb1 RK BK R1 B1 hL hl8 HY
      go_wp2_with fail
      go_roundw
      case rel => exact ⟨k + 1, by omega, by go_num, by rw [show (k + 1) * 4 = k * 4 + 1 + 1 + 1 + 1 by omega]; exact RR, BB⟩
      case measure => simp [intOf]; omega
    · obtain rfl : k = n := by omega
      go_wp2
      go_ret
      refine ⟨w.heap.size, rfl, Nat.le_refl _, ?_, BK.out⟩
      have := RK.out
      rw [show k * 4 = (dls zs).length by rw [dls_len, HN.out], mixed_all HL.out] at this
      exact this

set_option maxHeartbeats 4000000 in
theorem eqCueS (A B : Option Addr) (n c d : Nat) (zs : List C) (H : Nat) (w : World) (hn : zs.length = n) (hb : n ≤ 1048576) (hH : H ≤ w.heap.size) (hr : Rd w H A (dls zs)) (hs : Rd w H B (dls zs)) :
    Calls Tryz.prog 47 #[.slice A n c, .slice B n d] w fun e w' => e = .returned (.bool true) ∧ Below w.heap.size w w' := by
  have HR := Lib.hid (hr.more hH)
  have HS := Lib.hid (hs.more hH)
  have HN := Lib.hid hn
  clear hr hs hn hH
  go_enter Tryz.func47, Tryz.ntmps47
  go_wp2
  go_loopw [5] (fun i wr => ∃ k : Nat, k ≤ n ∧ i = .int .i64 k ∧ Hid (Below w.heap.size w wr)) (fun i _ => n - (intOf i).toNat)
  case atStart => exact ⟨0, Nat.zero_le _, rfl, Lib.hid (Below.refl _ _)⟩
  case round =>
    obtain ⟨k, hk, rfl, BK⟩ := hrel
    by_cases hlt : k < n
    · have hl : k * 4 < (dls zs).length := by rw [dls_len, HN.out]; omega
      obtain ⟨z, hz⟩ : ∃ z, zs[k]? = some z := ⟨_, List.getElem?_eq_getElem (by rw [HN.out]; exact hlt)⟩
      obtain ⟨t_, n_, l_, r_⟩ := z
      obtain ⟨z0, z1, z2, z3⟩ := dls_get hz
      obtain ⟨b1, o1, eA, _, g1⟩ := (HR.out.below BK.out).get hl
      obtain ⟨b2, o2, eB, _, g2⟩ := (HS.out.below BK.out).get hl
      have c0 : wr.cell? ⟨b1, o1 + k * 4, none⟩ = some (.int .i64 t_) := g1 _ _ z0
      have c1 : wr.cell? ⟨b1, o1 + k * 4 + 1, none⟩ = some (.string n_) := g1 _ _ z1
      have c2 : wr.cell? ⟨b1, o1 + k * 4 + 2, none⟩ = some (.int .i64 l_) := g1 _ _ z2
      have c3 : wr.cell? ⟨b1, o1 + k * 4 + 3, none⟩ = some (.int .i64 r_) := g1 _ _ z3
      have e0 : wr.cell? ⟨b2, o2 + k * 4, none⟩ = some (.int .i64 t_) := g2 _ _ z0
      have e1 : wr.cell? ⟨b2, o2 + k * 4 + 1, none⟩ = some (.string n_) := g2 _ _ z1
      have e2 : wr.cell? ⟨b2, o2 + k * 4 + 2, none⟩ = some (.int .i64 l_) := g2 _ _ z2
      have e3 : wr.cell? ⟨b2, o2 + k * 4 + 3, none⟩ = some (.int .i64 r_) := g2 _ _ z3
      clear g1 g2 hz hl z0 z1 z2 z3
      subst eA eB
      have hlt' : (k : Int) < (n : Int) := by omega
      have hk0 : (0 : Int) ≤ (k : Int) := by omega
      have p1 : b1 < wr.heap.size := World.block_lt_of_cell? wr _ c1
      have p2 : ∀ j, b1 < wr.heap.size + j := fun j => by omega
      have p3 : b2 < wr.heap.size := World.block_lt_of_cell? wr _ e1
      have p4 : ∀ j, b2 < wr.heap.size + j := fun j => by omega
      go_wp2_with fail
      go_region_held3 (fun w' => w'.cell? ⟨b1, o1 + k * 4, none⟩ = some (.int .i64 t_) ∧ w'.cell? ⟨b1, o1 + k * 4 + 1, none⟩ = some (.string n_) ∧ w'.cell? ⟨b1, o1 + k * 4 + 2, none⟩ = some (.int .i64 l_) ∧ w'.cell? ⟨b1, o1 + k * 4 + 3, none⟩ = some (.int .i64 r_) ∧ w'.cell? ⟨b2, o2 + k * 4, none⟩ = some (.int .i64 t_) ∧ w'.cell? ⟨b2, o2 + k * 4 + 1, none⟩ = some (.string n_) ∧ w'.cell? ⟨b2, o2 + k * 4 + 2, none⟩ = some (.int .i64 l_) ∧ w'.cell? ⟨b2, o2 + k * 4 + 3, none⟩ = some (.int .i64 r_)) (simp [go_sem, *])
        (first | (go_at_call 97; ((with_reducible refine (eqCue _ _ _ _ _).mono ?_); rintro e w' ⟨rfl, rfl⟩)))
      all_goals go_wp2_with fail
      all_goals go_roundw
      case rel => exact ⟨k + 1, by omega, by go_num, Lib.hid (BK.out.trans (Below.mono (by go_grown) BK.out.size))⟩
      case measure => simp [intOf]; omega
    · obtain rfl : k = n := by omega
      go_wp2
      go_ret
      exact ⟨rfl, BK.out⟩

end Go.Proofs.YtejeikfgmiadhabGreat.Cl
namespace Go.Proofs.YtejeikfgmiadhabGreat.SzG
open Go.RowKit
set_option linter.unusedVariables false
set_option linter.unusedSimpArgs false

theorem yes (A : Option Addr) (n c : Nat) (L R : Int) (h1 : L ≤ 1048576) (hp : 0 ≤ R) (hR : L - (n : Int) = R) (w : World) :
    Calls Tryz.prog 31 #[.slice A n c, .int .i64 L] w fun e w' => e = .returned (.int .i64 R) ∧ w = w' := by
  have h2 : (n : Int) ≤ L := by omega
  have HR := Lib.hid hR
  have hn : n ≤ 1048576 := by omega
  have h0 : 0 ≤ L := by omega
  have h3 : ¬ L < 0 := by omega
  have h4 : ¬ L - (n : Int) < 0 := by omega
  have h5 : ¬ L < (n : Int) := by omega
  clear hR hp
  go_enter Tryz.func31, Tryz.ntmps31
  go_wp2
  go_ret
  exact ⟨by rw [HR.out]; rfl, rfl⟩

theorem no (A : Option Addr) (n c : Nat) (L : Int) (h0 : 0 ≤ L) (h1 : L ≤ 1048576) (hm : n ≤ maxLen) (h : L - (n : Int) < 0) (w : World) :
    Calls Tryz.prog 31 #[.slice A n c, .int .i64 L] w fun e w' => e = .returned (.int .i64 (-1)) ∧ w = w' := by
  unfold maxLen at hm
  have h2 : ¬ (n : Int) ≤ L := by omega
  have h3 : ¬ L < 0 := by omega
  have h5 : L < (n : Int) := by omega
  go_enter Tryz.func31, Tryz.ntmps31
  go_wp2
  go_ret
  exact ⟨rfl, rfl⟩

end Go.Proofs.YtejeikfgmiadhabGreat.SzG
namespace Go.Proofs.YtejeikfgmiadhabGreat.Bk
open Go.RowKit Go.Proofs.YtejeikfgmiadhabGreat.Mem Go.Proofs.YtejeikfgmiadhabGreat.P2
set_option linter.unusedVariables false

/-- Block b holds these cells. -/
def Bk (w : World) (b : Nat) (c : Array Value) (T : TypeId) : Prop := w.heap[b]? = some (.cells c T (0, 0))
section
variable {w w' : World} {b b' i : Nat} {c : Array Value} {T : TypeId} {v : Value}
theorem Bk.cell (k : Bk w b c T) (h : c[i]? = some v) : w.cell? ⟨b, i, none⟩ = some v := by simp [World.cell?, show w.heap[b]? = _ from k, h]
theorem Bk.frozen (k : Bk w b c T) (i : Nat) : w.frozen? ⟨b, i, none⟩ = false := by simp [World.frozen?, show w.heap[b]? = _ from k]
theorem Bk.lt (k : Bk w b c T) : b < w.heap.size := (Array.getElem?_eq_some_iff.1 k).1
theorem Bk.drew (k : Bk w b c T) : Bk w.drew b c T := k
theorem Bk.drewN (k : Bk w b c T) : ∀ n, Bk (w.drewN n) b c T
  | 0 => k
  | n + 1 => Bk.drewN k n
theorem Bk.new (w : World) (c : Array Value) (T : TypeId) : Bk (w.alloc (.cells c T)) w.heap.size c T := heap_alloc_new w _
theorem Bk.below (k : Bk w b c T) (hb : Below w.heap.size w w') : Bk w' b c T := (hb.block b k.lt).trans k
theorem Bk.alloc {o : Obj} (k : Bk w b c T) : Bk (w.alloc o) b c T := k.below ((Below.refl _ _).alloc (Nat.le_refl _) _)
theorem Bk.grown {r : Option Nat} (k : Bk w b c T) (g : w.grownBy w' r) (hr : r ≠ some b) : Bk w' b c T := (g.block b k.lt (fun e => hr e.symm)).trans k
theorem Bk.set (k : Bk w b c T) : Bk (w.setCell ⟨b, i, none⟩ v) b (c.setIfInBounds i v) T := by
  obtain ⟨hlt, hk⟩ := Array.getElem?_eq_some_iff.1 k
  show (w.heap.modify b _)[b]? = _
  rw [Array.getElem?_eq_getElem (by rw [Array.size_modify]; exact hlt), Array.getElem_modify_self, hk]
  rfl
theorem Bk.far (e : b' ≠ b) (k : Bk w b c T) : Bk (w.setCell ⟨b', i, none⟩ v) b c T := by
  show (w.heap.modify b' _)[b]? = _
  rw [Array.getElem?_modify, if_neg e]; exact k
end

theorem Bk.setG (w : World) (b i : Nat) (v : Value) : w.grownBy (w.setCell ⟨b, i, none⟩ v) (some b) :=
  ⟨rfl, rfl, rfl, by simp [World.setCell], fun k _ hr => Below.heap_setCell _ _ _ _ (by show k ≠ b; exact fun e => hr (by rw [e]))⟩
theorem rd_drew {w : World} {B : Nat} {A : Option Addr} {xs : List Value} (h : Rd w B A xs) : Rd w.drew B A xs := h
theorem rd_alloc {w : World} {B : Nat} {A : Option Addr} {xs : List Value} {o : Obj} (h : Rd w B A xs) (hB : B ≤ w.heap.size) : Rd (w.alloc o) B A xs := h.below ((Below.refl _ _).alloc hB _)
/-- A call's own memory, left to the caller. -/
theorem below_in {w a b : World} (h : Below w.heap.size w a) (k : Below a.heap.size a b) : Below w.heap.size w b := h.trans (k.mono h.size)

/-- A row of one's own is no block of another type. -/
theorem own_ne {w : World} {base g n c : Nat} {e T : TypeId} {s : Nat} {xs : List Value} {b : Nat} {cs : Array Value} (h : w.ownsRow base e s (.slice (some ⟨g, 0, none⟩) n c) n xs) (k : Bk w b cs T) (hT : e ≠ T) : (Value.slice (some ⟨g, 0, none⟩) n c).ownBlock ≠ some b := by
  intro hb
  have hb : g = b := by injection hb
  subst hb
  rcases h.2 with ⟨e1, _⟩ | ⟨g', cap, cur, e1, _, e3, _⟩
  · cases e1
  · injection e1 with e1; injection e1 with e1; injection e1 with e1
    subst e1
    rw [show w.heap[g]? = some (.cells cs T (0, 0)) from k] at e3
    injection e3 with e3
    injection e3 with _ e3
    exact hT e3.symm
theorem own_slice {w : World} {base n : Nat} {e : TypeId} {s : Nat} {v : Value} {xs : List Value} (h : w.ownsRow base e s v (n + 1) xs) : ∃ g c, v = .slice (some ⟨g, 0, none⟩) (n + 1) c := by
  rcases h.2 with ⟨_, e⟩ | ⟨g, cap, cur, e, _⟩
  · omega
  · exact ⟨g, cap, e⟩

end Go.Proofs.YtejeikfgmiadhabGreat.Bk
