/- Lists of devices: how much of what is left one takes, the laws' copy of one, and their comparison. -/
import Derived.Test.YtejeikfgmiadhabGreatM5
import Derived.Deep.RegionHeld3
import Derived.Test.YtejeikfgmiadhabGreatM4
import Derived.Handy
import Derived.StillTailTactics
import Derived.Deep.SlicePairs
import Derived.Test.YtejeikfgmiadhabGreatM2
namespace Go.Proofs.YtejeikfgmiadhabGreat.Dl
open Go.RowKit Go.ChangeShapes Go.WideShapes Go.WideElems Go.Deep Go.Proofs.YtejeikfgmiadhabGreat.Mem Go.Proofs.YtejeikfgmiadhabGreat.Rw Go.Proofs.YtejeikfgmiadhabGreat.Pw Go.Proofs.YtejeikfgmiadhabGreat.P2 Go.Proofs.YtejeikfgmiadhabGreat.Dd Go.Proofs.YtejeikfgmiadhabGreat.Dv
set_option linter.unusedVariables false
set_option linter.unusedSimpArgs false

/-- How long the texts of these devices are. -/
def bulk : List D → Nat
  | [] => 0
  | d :: r => d.nm.size + d.ln.size + bulk r
theorem bulk_app : ∀ (a b : List D), bulk (a ++ b) = bulk a + bulk b
  | [], b => by simp [bulk]
  | d :: r, b => by simp only [List.cons_append, bulk, bulk_app r b]; omega
theorem bulk_take {zs : List D} {k : Nat} {d : D} (h : zs[k]? = some d) : bulk (zs.take (k + 1)) = bulk (zs.take k) + (d.nm.size + d.ln.size) := by
  obtain ⟨hk, rfl⟩ := List.getElem?_eq_some_iff.1 h
  rw [List.take_succ_eq_append_getElem hk, bulk_app]; simp [bulk]
theorem bulk_le (zs : List D) (k : Nat) : bulk (zs.take k) ≤ bulk zs := by
  have := bulk_app (zs.take k) (zs.drop k)
  rw [List.take_append_drop] at this
  omega
theorem mem_at {α : Type} {zs : List α} {k : Nat} {d : α} (h : zs[k]? = some d) : d ∈ zs := List.mem_of_getElem? h
/-- How much is left behind these. -/
def szV (n : Nat) (zs : List D) : Int := if (1048576 : Int) - n - bulk zs < 0 then -1 else 1048576 - n - bulk zs

/-- The first k of one list, then the other one's. -/
def mixed (xs ys : List Value) (k : Nat) : List Value := xs.take k ++ ys.drop k
theorem mixed_zero (xs ys : List Value) : mixed xs ys 0 = ys := by simp [mixed]
theorem mixed_all {xs ys : List Value} (h : ys.length = xs.length) : mixed xs ys xs.length = xs := by
  unfold mixed; rw [List.take_of_length_le (Nat.le_refl _), List.drop_of_length_le (by omega), List.append_nil]
theorem mixed_at {xs ys : List Value} {k j : Nat} {v : Value} (h : ys.length = xs.length) (hk : k ≤ j) (hv : ys[j]? = some v) : (mixed xs ys k)[j]? = some v := by
  have hj := (List.getElem?_eq_some_iff.1 hv).1
  unfold mixed
  rw [List.getElem?_append_right (by rw [List.length_take]; omega), List.length_take, Nat.min_eq_left (by omega), List.getElem?_drop, show k + (j - k) = j by omega]
  exact hv
theorem mixed_put {xs ys : List Value} {k : Nat} {v : Value} (h : ys.length = xs.length) (hv : xs[k]? = some v) : (mixed xs ys k).set k v = mixed xs ys (k + 1) := by
  obtain ⟨hk, rfl⟩ := List.getElem?_eq_some_iff.1 hv
  unfold mixed
  rw [List.set_append_right _ _ (by rw [List.length_take]; omega), List.length_take, Nat.min_eq_left (by omega), Nat.sub_self, List.drop_eq_getElem_cons (by omega), List.set_cons_zero, List.take_succ_eq_append_getElem hk, List.append_assoc]
  rfl
/-- A device of nothing. -/
def d0 : D := ⟨⟨#[]⟩, 0, ⟨#[]⟩, 0, 0, 0, 0, 0⟩
theorem dls_made (n : Nat) : (madeCells #[.string ⟨#[]⟩, .int .i64 0, .string ⟨#[]⟩, .int .i64 0, .int .i64 0, .int .i64 0, .int .i64 0, .int .i64 0] (n * 8)).toList = dls (List.replicate n d0) := by
  apply List.ext_getElem?
  intro j
  by_cases h : j < n * 8
  · have hm : j % 8 < 8 := Nat.mod_lt _ (by omega)
    have hd : j / 8 < n := by omega
    have hg := flat_get dc_len (zs := List.replicate n d0) (k := j / 8) (z := d0) (by rw [List.getElem?_replicate, if_pos hd]) (j % 8) hm
    rw [show j / 8 * 8 + j % 8 = j by omega] at hg
    unfold dls
    rw [hg, Array.getElem?_toList]
    simp only [madeCells]
    simp [h]
    generalize j % 8 = r at hm
    match r, hm with
    | 0, _ => rfl
    | 1, _ => rfl
    | 2, _ => rfl
    | 3, _ => rfl
    | 4, _ => rfl
    | 5, _ => rfl
    | 6, _ => rfl
    | 7, _ => rfl
  · rw [List.getElem?_eq_none (l := dls _) (by rw [dls_len, List.length_replicate]; omega), Array.getElem?_toList]
    simp [madeCells, h]

theorem infoD : (Tryz.prog.info? 102).map (fun i => (i.zero, i.size, i.bytes)) = some (some (.agg #[.string ⟨#[]⟩, .int .i64 0, .string ⟨#[]⟩, .int .i64 0, .int .i64 0, .int .i64 0, .int .i64 0, .int .i64 0]), 8, 80) := by kernel_rfl

set_option maxHeartbeats 2000000 in
theorem szDeviceS (A : Option Addr) (n c : Nat) (zs : List D) (w : World) (hn : zs.length = n) (hm : n ≤ maxLen) (hr : Rd w w.heap.size A (dls zs)) (hok : ∀ z ∈ zs, Dok z) :
    Calls Tryz.prog 29 #[.slice A n c, .int .i64 1048576] w fun e w' => e = .returned (.int .i64 (szV n zs)) ∧ Below w.heap.size w w' := by
  unfold maxLen at hm
  have HN := Lib.hid hn
  by_cases hb : (1048576 : Int) - (n : Int) < 0
  · have HV := Lib.hid (show szV n zs = -1 by unfold szV; rw [if_pos (by omega)])
    have h1 : (1048576 : Int) < (n : Int) := by omega
    have h2 : ¬ (n : Int) ≤ 1048576 := by omega
    clear hn hr hok
    go_enter Tryz.func29, Tryz.ntmps29
    go_wp2
    all_goals go_returns
    all_goals first | exact ⟨by rw [HV.out]; rfl, Below.refl _ _⟩ | (exfalso; omega)
  have hb1 : (n : Int) ≤ 1048576 := by omega
  have hb2 : 0 ≤ (1048576 : Int) - (n : Int) := by omega
  have HR := Lib.hid hr
  have HO := Lib.hid hok
  clear hr hok hn
  go_enter Tryz.func29, Tryz.ntmps29
  go_wp2
  go_loopw [1, 5] (fun L i wr => ∃ (k : Nat) (u : Int), k ≤ n ∧ i = .int .i64 k ∧ L = .int .i64 u ∧ Hid (u = 1048576 - (n : Int) - (bulk (zs.take k) : Nat) ∧ 0 ≤ u ∧ u ≤ 1048576) ∧ Hid (Below w.heap.size w wr)) (fun _ i _ => n - (intOf i).toNat)
  case atStart => exact ⟨0, 1048576 - (n : Int), Nat.zero_le _, rfl, rfl, Lib.hid ⟨by simp [bulk], by omega, by omega⟩, Lib.hid (Below.refl _ _)⟩
  case round =>
    obtain ⟨k, u, hk, rfl, rfl, UK, BK⟩ := hrel
    by_cases hlt : k < n
    · obtain ⟨b, o, eA, hbl, hcell⟩ := HR.out.get (k := k * 8) (by rw [dls_len, HN.out]; omega)
      obtain ⟨z, hz⟩ : ∃ z, zs[k]? = some z := ⟨_, List.getElem?_eq_getElem (by rw [HN.out]; exact hlt)⟩
      have hd := HO.out z (mem_at hz)
      have ht := bulk_take hz
      have hle := bulk_le zs (k + 1)
      obtain ⟨n_, q, l, x, y, h, t, m⟩ := z
      obtain ⟨z0, z1, z2, z3, z4, z5, z6, z7⟩ := dls_get hz
      simp only [Dok] at hd
      simp only [] at ht
      have c0 : wr.cell? ⟨b, o + k * 8, none⟩ = some (.string n_) := (BK.out.cell (p := ⟨b, o + k * 8, none⟩) hbl).trans (hcell _ _ z0)
      have c1 : wr.cell? ⟨b, o + k * 8 + 1, none⟩ = some (.int .i64 q) := by
        rw [Nat.add_assoc]; exact (BK.out.cell (p := ⟨b, o + (k * 8 + 1), none⟩) hbl).trans (hcell _ _ z1)
      have c2 : wr.cell? ⟨b, o + k * 8 + 2, none⟩ = some (.string l) := by
        rw [Nat.add_assoc]; exact (BK.out.cell (p := ⟨b, o + (k * 8 + 2), none⟩) hbl).trans (hcell _ _ z2)
      have c3 : wr.cell? ⟨b, o + k * 8 + 3, none⟩ = some (.int .i64 x) := by
        rw [Nat.add_assoc]; exact (BK.out.cell (p := ⟨b, o + (k * 8 + 3), none⟩) hbl).trans (hcell _ _ z3)
      have c4 : wr.cell? ⟨b, o + k * 8 + 4, none⟩ = some (.int .i64 y) := by
        rw [Nat.add_assoc]; exact (BK.out.cell (p := ⟨b, o + (k * 8 + 4), none⟩) hbl).trans (hcell _ _ z4)
      have c5 : wr.cell? ⟨b, o + k * 8 + 5, none⟩ = some (.int .i64 h) := by
        rw [Nat.add_assoc]; exact (BK.out.cell (p := ⟨b, o + (k * 8 + 5), none⟩) hbl).trans (hcell _ _ z5)
      have c6 : wr.cell? ⟨b, o + k * 8 + 6, none⟩ = some (.int .i64 t) := by
        rw [Nat.add_assoc]; exact (BK.out.cell (p := ⟨b, o + (k * 8 + 6), none⟩) hbl).trans (hcell _ _ z6)
      have c7 : wr.cell? ⟨b, o + k * 8 + 7, none⟩ = some (.int .i64 m) := by
        rw [Nat.add_assoc]; exact (BK.out.cell (p := ⟨b, o + (k * 8 + 7), none⟩) hbl).trans (hcell _ _ z7)
      have U := UK.out
      clear hbl hcell z0 z1 z2 z3 z4 z5 z6 z7 hz
      subst eA
      by_cases hR : u - (n_.size : Int) - (l.size : Int) < 0
      · have C := Lib.hid (fun W => szNo n_ q l x y h t m u U.2.1 U.2.2 hd.1 hd.2.1 hR W)
        have HV := Lib.hid (show szV n zs = -1 by unfold szV; rw [if_pos (by omega)])
        clear hR U ht hle hd
        go_wp2_with fail
        refine (C.out _).mono ?_
        rintro e w' ⟨rfl, rfl⟩
        go_wp2_with fail
        go_ret
        exact ⟨by rw [HV.out]; rfl, BK.out.alloc BK.out.size _⟩
      · obtain ⟨R, hRR⟩ : ∃ R : Int, u - (n_.size : Int) - (l.size : Int) = R := ⟨_, rfl⟩
        have C := Lib.hid (fun W => szYes n_ q l x y h t m u R U.2.2 hRR (by omega) W)
        have hp : ¬ R < 0 := by omega
        have HU := Lib.hid (show R = 1048576 - (n : Int) - (bulk (zs.take (k + 1)) : Nat) ∧ 0 ≤ R ∧ R ≤ 1048576 by omega)
        clear hR U ht hle hd hRR
        go_wp2_with fail
        refine (C.out _).mono ?_
        rintro e w' ⟨rfl, rfl⟩
        go_wp2_with fail
        go_roundw
        case rel => exact ⟨k + 1, R, by omega, by go_num, rfl, HU, Lib.hid (BK.out.alloc BK.out.size _)⟩
        case measure => simp [intOf]; omega
    · obtain rfl : k = n := by omega
      have HV := Lib.hid (show u = szV k zs by
        have U := UK.out
        rw [List.take_of_length_le (by rw [HN.out]; exact Nat.le_refl _)] at U
        unfold szV; rw [if_neg (by omega)]; exact U.1)
      go_wp2
      go_ret
      exact ⟨by rw [← HV.out]; rfl, BK.out⟩

/-- What the copy leaves: a row of its own with these devices; what was there is as it was. -/
def Copied (w : World) (n : Nat) (zs : List D) (e : Ending) (w' : World) : Prop :=
  ∃ g, e = .returned (.slice (some ⟨g, 0, none⟩) n n) ∧ w.heap.size ≤ g ∧ w'.ownsRow w.heap.size 102 8 (.slice (some ⟨g, 0, none⟩) n n) n (dls zs) ∧ Below w.heap.size w w'

set_option maxHeartbeats 4000000 in
theorem toDeviceS (A : Option Addr) (n c : Nat) (zs : List D) (w : World) (hn : zs.length = n) (hb : n ≤ 1048576) (hr : Rd w w.heap.size A (dls zs)) :
    Calls Tryz.prog 37 #[.slice A n c] w (Copied w n zs) := by
  obtain ⟨i0, hi, hz0, hz1, hz2⟩ := info_of infoD
  have HR := Lib.hid hr
  have HN := Lib.hid hn
  have HL := Lib.hid (show (dls (List.replicate n d0)).length = (dls zs).length by rw [dls_len, dls_len, List.length_replicate, hn])
  clear hr hn
  go_enter Tryz.func37, Tryz.ntmps37
  go_wp2_with (at_make; refine wpList_make_full _ rfl _ _ 36 rfl w.heap.size 102 i0 (.agg #[.string ⟨#[]⟩, .int .i64 0, .string ⟨#[]⟩, .int .i64 0, .int .i64 0, .int .i64 0, .int .i64 0, .int .i64 0]) 8 Tryz.underlying36 hi hz0 hz1 .i64 .i64 n n n rfl rfl rfl rfl (by rw [hz2]; omega) (by unfold maxLen; omega) (Nat.le_refl _) ?_; intro w1 hown hgrow; clear hi hz0 hz1 hz2)
  have R0 := Lib.hid (show w1.ownsRow w.heap.size 102 8 (.slice (some ⟨w.heap.size, 0, none⟩) n n) n (mixed (dls zs) (dls (List.replicate n d0)) 0) by
    rw [mixed_zero, ← dls_made]; exact hown)
  have B0 := Lib.hid (show Below w.heap.size w w1 from (Below.refl _ _).grown hgrow (Nat.le_refl _) (fun k hk => by cases hk))
  clear hown hgrow
  go_loopw [4] (fun i wr => ∃ k : Nat, k ≤ n ∧ i = .int .i64 k ∧ Hid (wr.ownsRow w.heap.size 102 8 (.slice (some ⟨w.heap.size, 0, none⟩) n n) n (mixed (dls zs) (dls (List.replicate n d0)) (k * 8))) ∧ Hid (Below w.heap.size w wr)) (fun i _ => n - (intOf i).toNat)
  case atStart => exact ⟨0, Nat.zero_le _, rfl, R0, B0⟩
  case round =>
    obtain ⟨k, hk, rfl, RK, BK⟩ := hrel
    by_cases hlt : k < n
    · obtain ⟨b, o, eA, hbl, hcell⟩ := HR.out.get (k := k * 8) (by rw [dls_len, HN.out]; omega)
      obtain ⟨z, hz⟩ : ∃ z, zs[k]? = some z := ⟨_, List.getElem?_eq_getElem (by rw [HN.out]; exact hlt)⟩
      obtain ⟨y0, y1, y2, y3, y4, y5, y6, y7⟩ := dls_get (zs := List.replicate n d0) (k := k) (by rw [List.getElem?_replicate, if_pos hlt])
      obtain ⟨n_, q, l, x, y, h, t, m⟩ := z
      obtain ⟨z0, z1, z2, z3, z4, z5, z6, z7⟩ := dls_get hz
      have c0 : wr.cell? ⟨b, o + k * 8, none⟩ = some (.string n_) := (BK.out.cell (p := ⟨b, o + k * 8, none⟩) hbl).trans (hcell _ _ z0)
      have c1 : wr.cell? ⟨b, o + k * 8 + 1, none⟩ = some (.int .i64 q) := by
        rw [Nat.add_assoc]; exact (BK.out.cell (p := ⟨b, o + (k * 8 + 1), none⟩) hbl).trans (hcell _ _ z1)
      have c2 : wr.cell? ⟨b, o + k * 8 + 2, none⟩ = some (.string l) := by
        rw [Nat.add_assoc]; exact (BK.out.cell (p := ⟨b, o + (k * 8 + 2), none⟩) hbl).trans (hcell _ _ z2)
      have c3 : wr.cell? ⟨b, o + k * 8 + 3, none⟩ = some (.int .i64 x) := by
        rw [Nat.add_assoc]; exact (BK.out.cell (p := ⟨b, o + (k * 8 + 3), none⟩) hbl).trans (hcell _ _ z3)
      have c4 : wr.cell? ⟨b, o + k * 8 + 4, none⟩ = some (.int .i64 y) := by
        rw [Nat.add_assoc]; exact (BK.out.cell (p := ⟨b, o + (k * 8 + 4), none⟩) hbl).trans (hcell _ _ z4)
      have c5 : wr.cell? ⟨b, o + k * 8 + 5, none⟩ = some (.int .i64 h) := by
        rw [Nat.add_assoc]; exact (BK.out.cell (p := ⟨b, o + (k * 8 + 5), none⟩) hbl).trans (hcell _ _ z5)
      have c6 : wr.cell? ⟨b, o + k * 8 + 6, none⟩ = some (.int .i64 t) := by
        rw [Nat.add_assoc]; exact (BK.out.cell (p := ⟨b, o + (k * 8 + 6), none⟩) hbl).trans (hcell _ _ z6)
      have c7 : wr.cell? ⟨b, o + k * 8 + 7, none⟩ = some (.int .i64 m) := by
        rw [Nat.add_assoc]; exact (BK.out.cell (p := ⟨b, o + (k * 8 + 7), none⟩) hbl).trans (hcell _ _ z7)
      have Z0 := Lib.hid (mixed_put HL.out z0)
      have Z1 := Lib.hid (mixed_put HL.out z1)
      have Z2 := Lib.hid (mixed_put HL.out z2)
      have Z3 := Lib.hid (mixed_put HL.out z3)
      have Z4 := Lib.hid (mixed_put HL.out z4)
      have Z5 := Lib.hid (mixed_put HL.out z5)
      have Z6 := Lib.hid (mixed_put HL.out z6)
      have Z7 := Lib.hid (mixed_put HL.out z7)
      clear hbl hcell hz R0 B0 z0 z1 z2 z3 z4 z5 z6 z7
      have HY := Lib.hid (⟨y0, y1, y2, y3, y4, y5, y6, y7⟩ : _ ∧ _ ∧ _ ∧ _ ∧ _ ∧ _ ∧ _ ∧ _)
      clear y0 y1 y2 y3 y4 y5 y6 y7
      subst eA
      go_wp2_with fail
      refine (toDevice _ _ _ _ _ _ _ _ _).mono ?_
      rintro e u ⟨rfl, hb1⟩
      have R1 := owns_below RK.out hb1
      have B1 := BK.out.trans (hb1.mono BK.out.size)
      have hL := HL.out
      have hl8 : (dls zs).length = n * 8 := by rw [dls_len, HN.out]
      have e0 : u.cell? ⟨w.heap.size, k * 8, none⟩ = some (.string ⟨#[]⟩) := (R1.cellAt (k * 8) (by omega)).trans (mixed_at hL (by omega) HY.out.1)
      have f0 := R1.frozenAt (k * 8)
      have e1 : u.cell? ⟨w.heap.size, k * 8 + 1, none⟩ = some (.int .i64 0) := (R1.cellAt (k * 8 + 1) (by omega)).trans (mixed_at hL (by omega) HY.out.2.1)
      have f1 := R1.frozenAt (k * 8 + 1)
      have e2 : u.cell? ⟨w.heap.size, k * 8 + 2, none⟩ = some (.string ⟨#[]⟩) := (R1.cellAt (k * 8 + 2) (by omega)).trans (mixed_at hL (by omega) HY.out.2.2.1)
      have f2 := R1.frozenAt (k * 8 + 2)
      have e3 : u.cell? ⟨w.heap.size, k * 8 + 3, none⟩ = some (.int .i64 0) := (R1.cellAt (k * 8 + 3) (by omega)).trans (mixed_at hL (by omega) HY.out.2.2.2.1)
      have f3 := R1.frozenAt (k * 8 + 3)
      have e4 : u.cell? ⟨w.heap.size, k * 8 + 4, none⟩ = some (.int .i64 0) := (R1.cellAt (k * 8 + 4) (by omega)).trans (mixed_at hL (by omega) HY.out.2.2.2.2.1)
      have f4 := R1.frozenAt (k * 8 + 4)
      have e5 : u.cell? ⟨w.heap.size, k * 8 + 5, none⟩ = some (.int .i64 0) := (R1.cellAt (k * 8 + 5) (by omega)).trans (mixed_at hL (by omega) HY.out.2.2.2.2.2.1)
      have f5 := R1.frozenAt (k * 8 + 5)
      have e6 : u.cell? ⟨w.heap.size, k * 8 + 6, none⟩ = some (.int .i64 0) := (R1.cellAt (k * 8 + 6) (by omega)).trans (mixed_at hL (by omega) HY.out.2.2.2.2.2.2.1)
      have f6 := R1.frozenAt (k * 8 + 6)
      have e7 : u.cell? ⟨w.heap.size, k * 8 + 7, none⟩ = some (.int .i64 0) := (R1.cellAt (k * 8 + 7) (by omega)).trans (mixed_at hL (by omega) HY.out.2.2.2.2.2.2.2)
      have f7 := R1.frozenAt (k * 8 + 7)
      obtain ⟨r0, g0⟩ := R1.stored (k * 8) (.string n_)
      rw [Z0.out] at r0
      obtain ⟨r1, g1⟩ := r0.stored (k * 8 + 1) (.int .i64 q)
      rw [Z1.out] at r1
      obtain ⟨r2, g2⟩ := r1.stored (k * 8 + 1 + 1) (.string l)
      rw [Z2.out] at r2
      obtain ⟨r3, g3⟩ := r2.stored (k * 8 + 1 + 1 + 1) (.int .i64 x)
      rw [Z3.out] at r3
      obtain ⟨r4, g4⟩ := r3.stored (k * 8 + 1 + 1 + 1 + 1) (.int .i64 y)
      rw [Z4.out] at r4
      obtain ⟨r5, g5⟩ := r4.stored (k * 8 + 1 + 1 + 1 + 1 + 1) (.int .i64 h)
      rw [Z5.out] at r5
      obtain ⟨r6, g6⟩ := r5.stored (k * 8 + 1 + 1 + 1 + 1 + 1 + 1) (.int .i64 t)
      rw [Z6.out] at r6
      obtain ⟨r7, g7⟩ := r6.stored (k * 8 + 1 + 1 + 1 + 1 + 1 + 1 + 1) (.int .i64 m)
      rw [Z7.out] at r7
      have RR := Lib.hid r7
      have b0 := B1.grown g0 B1.size (fun g hg => by cases hg; exact Nat.le_refl _)
      have b1 := b0.grown g1 b0.size (fun g hg => by cases hg; exact Nat.le_refl _)
      have b2 := b1.grown g2 b1.size (fun g hg => by cases hg; exact Nat.le_refl _)
      have b3 := b2.grown g3 b2.size (fun g hg => by cases hg; exact Nat.le_refl _)
      have b4 := b3.grown g4 b3.size (fun g hg => by cases hg; exact Nat.le_refl _)
      have b5 := b4.grown g5 b4.size (fun g hg => by cases hg; exact Nat.le_refl _)
      have b6 := b5.grown g6 b5.size (fun g hg => by cases hg; exact Nat.le_refl _)
      have b7 := b6.grown g7 b6.size (fun g hg => by cases hg; exact Nat.le_refl _)
      have BB := Lib.hid b7
      clear r0 g0 b0 c0 Z0 r1 g1 b1 c1 Z1 r2 g2 b2 c2 Z2 r3 g3 b3 c3 Z3 r4 g4 b4 c4 Z4 r5 g5 b5 c5 Z5 r6 g6 b6 c6 Z6 r7 g7 b7 c7 Z7 hb1 RK BK R1 B1 hL hl8 HY
      go_wp2_with fail
      go_roundw
      case rel => exact ⟨k + 1, by omega, by go_num, by rw [show (k + 1) * 8 = k * 8 + 1 + 1 + 1 + 1 + 1 + 1 + 1 + 1 by omega]; exact RR, BB⟩
      case measure => simp [intOf]; omega
    · obtain rfl : k = n := by omega
      go_wp2
      go_ret
      refine ⟨w.heap.size, rfl, Nat.le_refl _, ?_, BK.out⟩
      have := RK.out
      rw [show k * 8 = (dls zs).length by rw [dls_len, HN.out], mixed_all HL.out] at this
      exact this

set_option maxHeartbeats 4000000 in
theorem eqDeviceS (A B : Option Addr) (n c d : Nat) (zs : List D) (H : Nat) (w : World) (hn : zs.length = n) (hb : n ≤ 1048576) (hH : H ≤ w.heap.size) (hr : Rd w H A (dls zs)) (hs : Rd w H B (dls zs)) :
    Calls Tryz.prog 46 #[.slice A n c, .slice B n d] w fun e w' => e = .returned (.bool true) ∧ Below w.heap.size w w' := by
  have HR := Lib.hid (hr.more hH)
  have HS := Lib.hid (hs.more hH)
  have HN := Lib.hid hn
  clear hr hs hn hH
  go_enter Tryz.func46, Tryz.ntmps46
  go_wp2
  go_loopw [5] (fun i wr => ∃ k : Nat, k ≤ n ∧ i = .int .i64 k ∧ Hid (Below w.heap.size w wr)) (fun i _ => n - (intOf i).toNat)
  case atStart => exact ⟨0, Nat.zero_le _, rfl, Lib.hid (Below.refl _ _)⟩
  case round =>
    obtain ⟨k, hk, rfl, BK⟩ := hrel
    by_cases hlt : k < n
    · have hl : k * 8 < (dls zs).length := by rw [dls_len, HN.out]; omega
      obtain ⟨z, hz⟩ : ∃ z, zs[k]? = some z := ⟨_, List.getElem?_eq_getElem (by rw [HN.out]; exact hlt)⟩
      obtain ⟨n_, q, l, x, y, h, t, m⟩ := z
      obtain ⟨z0, z1, z2, z3, z4, z5, z6, z7⟩ := dls_get hz
      obtain ⟨b1, o1, eA, _, g1⟩ := (HR.out.below BK.out).get hl
      obtain ⟨b2, o2, eB, _, g2⟩ := (HS.out.below BK.out).get hl
      have c0 : wr.cell? ⟨b1, o1 + k * 8, none⟩ = some (.string n_) := g1 _ _ z0
      have c1 : wr.cell? ⟨b1, o1 + k * 8 + 1, none⟩ = some (.int .i64 q) := g1 _ _ z1
      have c2 : wr.cell? ⟨b1, o1 + k * 8 + 2, none⟩ = some (.string l) := g1 _ _ z2
      have c3 : wr.cell? ⟨b1, o1 + k * 8 + 3, none⟩ = some (.int .i64 x) := g1 _ _ z3
      have c4 : wr.cell? ⟨b1, o1 + k * 8 + 4, none⟩ = some (.int .i64 y) := g1 _ _ z4
      have c5 : wr.cell? ⟨b1, o1 + k * 8 + 5, none⟩ = some (.int .i64 h) := g1 _ _ z5
      have c6 : wr.cell? ⟨b1, o1 + k * 8 + 6, none⟩ = some (.int .i64 t) := g1 _ _ z6
      have c7 : wr.cell? ⟨b1, o1 + k * 8 + 7, none⟩ = some (.int .i64 m) := g1 _ _ z7
      have e0 : wr.cell? ⟨b2, o2 + k * 8, none⟩ = some (.string n_) := g2 _ _ z0
      have e1 : wr.cell? ⟨b2, o2 + k * 8 + 1, none⟩ = some (.int .i64 q) := g2 _ _ z1
      have e2 : wr.cell? ⟨b2, o2 + k * 8 + 2, none⟩ = some (.string l) := g2 _ _ z2
      have e3 : wr.cell? ⟨b2, o2 + k * 8 + 3, none⟩ = some (.int .i64 x) := g2 _ _ z3
      have e4 : wr.cell? ⟨b2, o2 + k * 8 + 4, none⟩ = some (.int .i64 y) := g2 _ _ z4
      have e5 : wr.cell? ⟨b2, o2 + k * 8 + 5, none⟩ = some (.int .i64 h) := g2 _ _ z5
      have e6 : wr.cell? ⟨b2, o2 + k * 8 + 6, none⟩ = some (.int .i64 t) := g2 _ _ z6
      have e7 : wr.cell? ⟨b2, o2 + k * 8 + 7, none⟩ = some (.int .i64 m) := g2 _ _ z7
      clear g1 g2 hz hl z0 z1 z2 z3 z4 z5 z6 z7
      subst eA eB
      have hlt' : (k : Int) < (n : Int) := by omega
      have hk0 : (0 : Int) ≤ (k : Int) := by omega
      have p1 : b1 < wr.heap.size := World.block_lt_of_cell? wr _ c1
      have p2 : ∀ j, b1 < wr.heap.size + j := fun j => by omega
      have p3 : b2 < wr.heap.size := World.block_lt_of_cell? wr _ e1
      have p4 : ∀ j, b2 < wr.heap.size + j := fun j => by omega
      go_wp2_with fail
      go_region_held3 (fun w' => w'.cell? ⟨b1, o1 + k * 8, none⟩ = some (.string n_) ∧ w'.cell? ⟨b1, o1 + k * 8 + 1, none⟩ = some (.int .i64 q) ∧ w'.cell? ⟨b1, o1 + k * 8 + 2, none⟩ = some (.string l) ∧ w'.cell? ⟨b1, o1 + k * 8 + 3, none⟩ = some (.int .i64 x) ∧ w'.cell? ⟨b1, o1 + k * 8 + 4, none⟩ = some (.int .i64 y) ∧ w'.cell? ⟨b1, o1 + k * 8 + 5, none⟩ = some (.int .i64 h) ∧ w'.cell? ⟨b1, o1 + k * 8 + 6, none⟩ = some (.int .i64 t) ∧ w'.cell? ⟨b1, o1 + k * 8 + 7, none⟩ = some (.int .i64 m) ∧ w'.cell? ⟨b2, o2 + k * 8, none⟩ = some (.string n_) ∧ w'.cell? ⟨b2, o2 + k * 8 + 1, none⟩ = some (.int .i64 q) ∧ w'.cell? ⟨b2, o2 + k * 8 + 2, none⟩ = some (.string l) ∧ w'.cell? ⟨b2, o2 + k * 8 + 3, none⟩ = some (.int .i64 x) ∧ w'.cell? ⟨b2, o2 + k * 8 + 4, none⟩ = some (.int .i64 y) ∧ w'.cell? ⟨b2, o2 + k * 8 + 5, none⟩ = some (.int .i64 h) ∧ w'.cell? ⟨b2, o2 + k * 8 + 6, none⟩ = some (.int .i64 t) ∧ w'.cell? ⟨b2, o2 + k * 8 + 7, none⟩ = some (.int .i64 m)) (simp [go_sem, *])
        (first | (go_at_call 96; ((with_reducible refine (eqDevice _ _ _ _ _ _ _ _ _).mono ?_); rintro e w' ⟨rfl, rfl⟩)))
      all_goals go_wp2_with fail
      all_goals go_roundw
      case rel => exact ⟨k + 1, by omega, by go_num, Lib.hid (BK.out.trans (Below.mono (by go_grown) BK.out.size))⟩
      case measure => simp [intOf]; omega
    · obtain rfl : k = n := by omega
      go_wp2
      go_ret
      exact ⟨rfl, BK.out⟩

end Go.Proofs.YtejeikfgmiadhabGreat.Dl

namespace Go.Proofs.YtejeikfgmiadhabGreat.Cv
open Go.RowKit Go.Proofs.YtejeikfgmiadhabGreat.Cd
set_option linter.unusedVariables false
set_option linter.unusedSimpArgs false

set_option maxHeartbeats 1000000 in
theorem toCue (t : Int) (n : ByteArray) (l r : Int) (w : World) : Calls Tryz.prog 84 #[va t n l r] w fun e w' => e = .returned (va t n l r) ∧ Below w.heap.size w w' := by
  go_enter Tryz.func84, Tryz.ntmps84
  go_wp2_with fail
  go_returns
  exact ⟨rfl, by go_grown⟩

set_option maxHeartbeats 1000000 in
theorem eqCue (t : Int) (n : ByteArray) (l r : Int) (w : World) : Calls Tryz.prog 97 #[va t n l r, va t n l r] w fun e w' => e = .returned (.bool true) ∧ w' = (w.alloc (.cells (ca t n l r) 127)).alloc (.cells (ca t n l r) 127) := by
  have h1 : (n.toList == n.toList) = true := by simp
  go_enter Tryz.func97, Tryz.ntmps97
  go_wp2_with fail
  all_goals go_returns
  all_goals exact ⟨rfl, rfl⟩

theorem szYes (t : Int) (n : ByteArray) (l r : Int) (L R : Int) (h1 : L ≤ 1048576) (hR : L - (n.size : Int) = R) (hp : 0 ≤ R) (w : World) :
    Calls Tryz.prog 67 #[va t n l r, .int .i64 L] w fun e w' => e = .returned (.int .i64 R) ∧ w' = w.alloc (.cells (ca t n l r) 110) := by
  have HR := Lib.hid hR
  have a1 : (n.size : Int) ≤ L := by omega
  have a3 : ¬ L - (n.size : Int) < 0 := by omega
  have a5 : 0 ≤ L := by omega
  clear hR hp
  go_enter Tryz.func67, Tryz.ntmps67
  go_wp2
  all_goals go_returns
  all_goals first | exact ⟨rfl, rfl⟩ | exact ⟨by show Ending.returned (.int .i64 _) = _; rw [HR.out], rfl⟩ | (exfalso; omega)

theorem szNo (t : Int) (n : ByteArray) (l r : Int) (L : Int) (h0 : 0 ≤ L) (h1 : L ≤ 1048576) (hn : n.size ≤ maxLen) (hR : L - (n.size : Int) < 0) (w : World) :
    Calls Tryz.prog 67 #[va t n l r, .int .i64 L] w fun e w' => e = .returned (.int .i64 (-1)) ∧ w' = w.alloc (.cells (ca t n l r) 110) := by
  unfold maxLen at hn
  have a1 : ¬ (n.size : Int) ≤ L := by omega
  go_enter Tryz.func67, Tryz.ntmps67
  go_wp2
  all_goals go_returns
  all_goals first | exact ⟨rfl, rfl⟩ | (exfalso; omega)

end Go.Proofs.YtejeikfgmiadhabGreat.Cv
