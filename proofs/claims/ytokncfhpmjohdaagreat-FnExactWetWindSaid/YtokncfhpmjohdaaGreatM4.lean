/- Lists of devices: how much of what is left one takes, the laws' copy of one, and their comparison. -/
import Derived.Test.YtokncfhpmjohdaaGreatM3
import Derived.Deep.RegionHeld3
import Derived.Handy
import Derived.StillTailTactics
import Derived.Deep.SlicePairs
import Derived.Test.YtokncfhpmjohdaaGreatM1
set_option linter.unusedVariables false
set_option linter.unusedSimpArgs false
namespace Go.Proofs.YtokncfhpmjohdaaGreat.Dl
open Go.RowKit Go.ChangeShapes Go.WideShapes Go.WideElems Go.Deep Go.Proofs.YtokncfhpmjohdaaGreat.Mem Go.Proofs.YtokncfhpmjohdaaGreat.Rw Go.Proofs.YtokncfhpmjohdaaGreat.Pw Go.Proofs.YtokncfhpmjohdaaGreat.P2 Go.Proofs.YtokncfhpmjohdaaGreat.Dd Go.Proofs.YtokncfhpmjohdaaGreat.Dv
set_option linter.unusedVariables false
set_option linter.unusedSimpArgs false

/-- How long the texts of these devices are. -/
def bulk : List D → Nat
  | [] => 0
  | d :: r => d.nm.size + d.ln.size + bulk r
theorem bulk_app : ∀ (a b : List D), bulk (a ++ b) = bulk a + bulk b
  | [], b => by simp [bulk]
  | d :: r, b => by simp only [List.cons_append, bulk, bulk_app r b]; omega
theorem bulk_take {zs : List D} {k : Nat} {d : D} (h : zs[k]? = some d) : bulk (zs.take (k + 1)) = bulk (zs.take k) + (d.nm.size + d.ln.size) := by
  obtain ⟨hk, rfl⟩ := List.getElem?_eq_some_iff.1 h
  rw [List.take_succ_eq_append_getElem hk, bulk_app]; simp [bulk]
theorem bulk_le (zs : List D) (k : Nat) : bulk (zs.take k) ≤ bulk zs := by
  have := bulk_app (zs.take k) (zs.drop k)
  rw [List.take_append_drop] at this
  omega
theorem mem_at {α : Type} {zs : List α} {k : Nat} {d : α} (h : zs[k]? = some d) : d ∈ zs := List.mem_of_getElem? h
/-- How much is left behind these. -/
def szV (n : Nat) (zs : List D) : Int := if (1048576 : Int) - n - bulk zs < 0 then -1 else 1048576 - n - bulk zs

/-- The first k of one list, then the other one's. -/
def mixed (xs ys : List Value) (k : Nat) : List Value := xs.take k ++ ys.drop k
theorem mixed_zero (xs ys : List Value) : mixed xs ys 0 = ys := by simp [mixed]
theorem mixed_all {xs ys : List Value} (h : ys.length = xs.length) : mixed xs ys xs.length = xs := by
  unfold mixed; rw [List.take_of_length_le (Nat.le_refl _), List.drop_of_length_le (by omega), List.append_nil]
theorem mixed_at {xs ys : List Value} {k j : Nat} {v : Value} (h : ys.length = xs.length) (hk : k ≤ j) (hv : ys[j]? = some v) : (mixed xs ys k)[j]? = some v := by
  have hj := (List.getElem?_eq_some_iff.1 hv).1
  unfold mixed
  rw [List.getElem?_append_right (by rw [List.length_take]; omega), List.length_take, Nat.min_eq_left (by omega), List.getElem?_drop, show k + (j - k) = j by omega]
  exact hv
theorem mixed_put {xs ys : List Value} {k : Nat} {v : Value} (h : ys.length = xs.length) (hv : xs[k]? = some v) : (mixed xs ys k).set k v = mixed xs ys (k + 1) := by
  obtain ⟨hk, rfl⟩ := List.getElem?_eq_some_iff.1 hv
  unfold mixed
  rw [List.set_append_right _ _ (by rw [List.length_take]; omega), List.length_take, Nat.min_eq_left (by omega), Nat.sub_self, List.drop_eq_getElem_cons (by omega), List.set_cons_zero, List.take_succ_eq_append_getElem hk, List.append_assoc]
  rfl
/-- A device of nothing. -/
def d0 : D := ⟨⟨#[]⟩, 0, ⟨#[]⟩, 0, 0, 0, 0, 0⟩
theorem dls_made (n : Nat) : (madeCells #[.string ⟨#[]⟩, .int .i64 0, .string ⟨#[]⟩, .int .i64 0, .int .i64 0, .int .i64 0, .int .i64 0, .int .i64 0] (n * 8)).toList = dls (List.replicate n d0) := by
  apply List.ext_getElem?
  intro j
  by_cases h : j < n * 8
  · have hm : j % 8 < 8 := Nat.mod_lt _ (by omega)
    have hd : j / 8 < n := by omega
    have hg := flat_get dc_len (zs := List.replicate n d0) (k := j / 8) (z := d0) (by rw [List.getElem?_replicate, if_pos hd]) (j % 8) hm
    rw [show j / 8 * 8 + j % 8 = j by omega] at hg
    unfold dls
    rw [hg, Array.getElem?_toList]
    simp only [madeCells]
    simp [h]
    generalize j % 8 = r at hm
    match r, hm with
    | 0, _ => rfl
    | 1, _ => rfl
    | 2, _ => rfl
    | 3, _ => rfl
    | 4, _ => rfl
    | 5, _ => rfl
    | 6, _ => rfl
    | 7, _ => rfl
  · rw [List.getElem?_eq_none (l := dls _) (by rw [dls_len, List.length_replicate]; omega), Array.getElem?_toList]
    simp [madeCells, h]

theorem infoD : (Tryz.prog.info? 98).map (fun i => (i.zero, i.size, i.bytes)) = some (some (.agg #[.string ⟨#[]⟩, .int .i64 0, .string ⟨#[]⟩, .int .i64 0, .int .i64 0, .int .i64 0, .int .i64 0, .int .i64 0]), 8, 80) := by kernel_rfl

set_option maxHeartbeats 2000000 in
theorem szDeviceS (A : Option Addr) (n c : Nat) (zs : List D) (w : World) (hn : zs.length = n) (hm : n ≤ maxLen) (hr : Rd w w.heap.size A (dls zs)) (hok : ∀ z ∈ zs, Dok z) :
    Calls Tryz.prog 29 #[.slice A n c, .int .i64 1048576] w fun e w' => e = .returned (.int .i64 (szV n zs)) ∧ Below w.heap.size w w' := by
  unfold maxLen at hm
  have HN := Lib.hid hn
  by_cases hb : (1048576 : Int) - (n : Int) < 0
  · have HV := Lib.hid (show szV n zs = -1 by unfold szV; rw [if_pos (by omega)])
    have h1 : (1048576 : Int) < (n : Int) := by omega
    have h2 : ¬ (n : Int) ≤ 1048576 := by omega
    clear hn hr hok
    go_enter Tryz.func29, Tryz.ntmps29
    go_wp2
    all_goals go_returns
    all_goals first | exact ⟨by rw [HV.out]; rfl, Below.refl _ _⟩ | (exfalso; omega)
  have hb1 : (n : Int) ≤ 1048576 := by omega
  have hb2 : 0 ≤ (1048576 : Int) - (n : Int) := by omega
  have HR := Lib.hid hr
  have HO := Lib.hid hok
  clear hr hok hn
  go_enter Tryz.func29, Tryz.ntmps29
  go_wp2
  go_loopw [1, 5] (fun L i wr => ∃ (k : Nat) (u : Int), k ≤ n ∧ i = .int .i64 k ∧ L = .int .i64 u ∧ Hid (u = 1048576 - (n : Int) - (bulk (zs.take k) : Nat) ∧ 0 ≤ u ∧ u ≤ 1048576) ∧ Hid (Below w.heap.size w wr)) (fun _ i _ => n - (intOf i).toNat)
  case atStart => exact ⟨0, 1048576 - (n : Int), Nat.zero_le _, rfl, rfl, Lib.hid ⟨by simp [bulk], by omega, by omega⟩, Lib.hid (Below.refl _ _)⟩
  case round =>
    obtain ⟨k, u, hk, rfl, rfl, UK, BK⟩ := hrel
    by_cases hlt : k < n
    · obtain ⟨b, o, eA, hbl, hcell⟩ := HR.out.get (k := k * 8) (by rw [dls_len, HN.out]; omega)
      obtain ⟨z, hz⟩ : ∃ z, zs[k]? = some z := ⟨_, List.getElem?_eq_getElem (by rw [HN.out]; exact hlt)⟩
      have hd := HO.out z (mem_at hz)
      have ht := bulk_take hz
      have hle := bulk_le zs (k + 1)
      obtain ⟨n_, q, l, x, y, h, t, m⟩ := z
      obtain ⟨z0, z1, z2, z3, z4, z5, z6, z7⟩ := dls_get hz
      simp only [Dok] at hd
      simp only [] at ht
      have c0 : wr.cell? ⟨b, o + k * 8, none⟩ = some (.string n_) := (BK.out.cell (p := ⟨b, o + k * 8, none⟩) hbl).trans (hcell _ _ z0)
      have c1 : wr.cell? ⟨b, o + k * 8 + 1, none⟩ = some (.int .i64 q) := by
        rw [Nat.add_assoc]; exact (BK.out.cell (p := ⟨b, o + (k * 8 + 1), none⟩) hbl).trans (hcell _ _ z1)
      have c2 : wr.cell? ⟨b, o + k * 8 + 2, none⟩ = some (.string l) := by
        rw [Nat.add_assoc]; exact (BK.out.cell (p := ⟨b, o + (k * 8 + 2), none⟩) hbl).trans (hcell _ _ z2)
      have c3 : wr.cell? ⟨b, o + k * 8 + 3, none⟩ = some (.int .i64 x) := by
        rw [Nat.add_assoc]; exact (BK.out.cell (p := ⟨b, o + (k * 8 + 3), none⟩) hbl).trans (hcell _ _ z3)
      have c4 : wr.cell? ⟨b, o + k * 8 + 4, none⟩ = some (.int .i64 y) := by
        rw [Nat.add_assoc]; exact (BK.out.cell (p := ⟨b, o + (k * 8 + 4), none⟩) hbl).trans (hcell _ _ z4)
      have c5 : wr.cell? ⟨b, o + k * 8 + 5, none⟩ = some (.int .i64 h) := by
        rw [Nat.add_assoc]; exact (BK.out.cell (p := ⟨b, o + (k * 8 + 5), none⟩) hbl).trans (hcell _ _ z5)
      have c6 : wr.cell? ⟨b, o + k * 8 + 6, none⟩ = some (.int .i64 t) := by
        rw [Nat.add_assoc]; exact (BK.out.cell (p := ⟨b, o + (k * 8 + 6), none⟩) hbl).trans (hcell _ _ z6)
      have c7 : wr.cell? ⟨b, o + k * 8 + 7, none⟩ = some (.int .i64 m) := by
        rw [Nat.add_assoc]; exact (BK.out.cell (p := ⟨b, o + (k * 8 + 7), none⟩) hbl).trans (hcell _ _ z7)
      have U := UK.out
      clear hbl hcell z0 z1 z2 z3 z4 z5 z6 z7 hz
      subst eA
      by_cases hR : u - (n_.size : Int) - (l.size : Int) < 0
      · have C := Lib.hid (fun W => szNo n_ q l x y h t m u U.2.1 U.2.2 hd.1 hd.2.1 hR W)
        have HV := Lib.hid (show szV n zs = -1 by unfold szV; rw [if_pos (by omega)])
        clear hR U ht hle hd
        go_wp2_with fail
        refine (C.out _).mono ?_
        rintro e w' ⟨rfl, rfl⟩
        go_wp2_with fail
        go_ret
        exact ⟨by rw [HV.out]; rfl, BK.out.alloc BK.out.size _⟩
      · obtain ⟨R, hRR⟩ : ∃ R : Int, u - (n_.size : Int) - (l.size : Int) = R := ⟨_, rfl⟩
        have C := Lib.hid (fun W => szYes n_ q l x y h t m u R U.2.2 hRR (by omega) W)
        have hp : ¬ R < 0 := by omega
        have HU := Lib.hid (show R = 1048576 - (n : Int) - (bulk (zs.take (k + 1)) : Nat) ∧ 0 ≤ R ∧ R ≤ 1048576 by omega)
        clear hR U ht hle hd hRR
        go_wp2_with fail
        refine (C.out _).mono ?_
        rintro e w' ⟨rfl, rfl⟩
        go_wp2_with fail
        go_roundw
        case rel => exact ⟨k + 1, R, by omega, by go_num, rfl, HU, Lib.hid (BK.out.alloc BK.out.size _)⟩
        case measure => simp [intOf]; omega
    · obtain rfl : k = n := by omega
      have HV := Lib.hid (show u = szV k zs by
        have U := UK.out
        rw [List.take_of_length_le (by rw [HN.out]; exact Nat.le_refl _)] at U
        unfold szV; rw [if_neg (by omega)]; exact U.1)
      go_wp2
      go_ret
      exact ⟨by rw [← HV.out]; rfl, BK.out⟩

/-- What the copy leaves: a row of its own with these devices; what was there is as it was. -/
def Copied (w : World) (n : Nat) (zs : List D) (e : Ending) (w' : World) : Prop :=
  ∃ g, e = .returned (.slice (some ⟨g, 0, none⟩) n n) ∧ w.heap.size ≤ g ∧ w'.ownsRow w.heap.size 98 8 (.slice (some ⟨g, 0, none⟩) n n) n (dls zs) ∧ Below w.heap.size w w'

set_option maxHeartbeats 4000000 in
theorem toDeviceS (A : Option Addr) (n c : Nat) (zs : List D) (w : World) (hn : zs.length = n) (hb : n ≤ 1048576) (hr : Rd w w.heap.size A (dls zs)) :
    Calls Tryz.prog 38 #[.slice A n c] w (Copied w n zs) := by
  obtain ⟨i0, hi, hz0, hz1, hz2⟩ := info_of infoD
  have HR := Lib.hid hr
  have HN := Lib.hid hn
  have HL := Lib.hid (show (dls (List.replicate n d0)).length = (dls zs).length by rw [dls_len, dls_len, List.length_replicate, hn])
  clear hr hn
  go_enter Tryz.func38, Tryz.ntmps38
  go_wp2_with (at_make; refine wpList_make_full _ rfl _ _ 37 rfl w.heap.size 98 i0 (.agg #[.string ⟨#[]⟩, .int .i64 0, .string ⟨#[]⟩, .int .i64 0, .int .i64 0, .int .i64 0, .int .i64 0, .int .i64 0]) 8 Tryz.underlying37 hi hz0 hz1 .i64 .i64 n n n rfl rfl rfl rfl (by rw [hz2]; omega) (by unfold maxLen; omega) (Nat.le_refl _) ?_; intro w1 hown hgrow; clear hi hz0 hz1 hz2)
  have R0 := Lib.hid (show w1.ownsRow w.heap.size 98 8 (.slice (some ⟨w.heap.size, 0, none⟩) n n) n (mixed (dls zs) (dls (List.replicate n d0)) 0) by
    rw [mixed_zero, ← dls_made]; exact hown)
  have B0 := Lib.hid (show Below w.heap.size w w1 from (Below.refl _ _).grown hgrow (Nat.le_refl _) (fun k hk => by cases hk))
  clear hown hgrow
  go_loopw [4] (fun i wr => ∃ k : Nat, k ≤ n ∧ i = .int .i64 k ∧ Hid (wr.ownsRow w.heap.size 98 8 (.slice (some ⟨w.heap.size, 0, none⟩) n n) n (mixed (dls zs) (dls (List.replicate n d0)) (k * 8))) ∧ Hid (Below w.heap.size w wr)) (fun i _ => n - (intOf i).toNat)
  case atStart => exact ⟨0, Nat.zero_le _, rfl, R0, B0⟩
  case round =>
    obtain ⟨k, hk, rfl, RK, BK⟩ := hrel
    by_cases hlt : k < n
    · obtain ⟨b, o, eA, hbl, hcell⟩ := HR.out.get (k := k * 8) (by rw [dls_len, HN.out]; omega)
      obtain ⟨z, hz⟩ : ∃ z, zs[k]? = some z := ⟨_, List.getElem?_eq_getElem (by rw [HN.out]; exact hlt)⟩
      obtain ⟨y0, y1, y2, y3, y4, y5, y6, y7⟩ := dls_get (zs := List.replicate n d0) (k := k) (by rw [List.getElem?_replicate, if_pos hlt])
      obtain ⟨n_, q, l, x, y, h, t, m⟩ := z
      obtain ⟨z0, z1, z2, z3, z4, z5, z6, z7⟩ := dls_get hz
      have c0 : wr.cell? ⟨b, o + k * 8, none⟩ = some (.string n_) := (BK.out.cell (p := ⟨b, o + k * 8, none⟩) hbl).trans (hcell _ _ z0)
      have c1 : wr.cell? ⟨b, o + k * 8 + 1, none⟩ = some (.int .i64 q) := by
        rw [Nat.add_assoc]; exact (BK.out.cell (p := ⟨b, o + (k * 8 + 1), none⟩) hbl).trans (hcell _ _ z1)
      have c2 : wr.cell? ⟨b, o + k * 8 + 2, none⟩ = some (.string l) := by
        rw [Nat.add_assoc]; exact (BK.out.cell (p := ⟨b, o + (k * 8 + 2), none⟩) hbl).trans (hcell _ _ z2)
      have c3 : wr.cell? ⟨b, o + k * 8 + 3, none⟩ = some (.int .i64 x) := by
        rw [Nat.add_assoc]; exact (BK.out.cell (p := ⟨b, o + (k * 8 + 3), none⟩) hbl).trans (hcell _ _ z3)
      have c4 : wr.cell? ⟨b, o + k * 8 + 4, none⟩ = some (.int .i64 y) := by
        rw [Nat.add_assoc]; exact (BK.out.cell (p := ⟨b, o + (k * 8 + 4), none⟩) hbl).trans (hcell _ _ z4)
      have c5 : wr.cell? ⟨b, o + k * 8 + 5, none⟩ = some (.int .i64 h) := by
        rw [Nat.add_assoc]; exact (BK.out.cell (p := ⟨b, o + (k * 8 + 5), none⟩) hbl).trans (hcell _ _ z5)
      have c6 : wr.cell? ⟨b, o + k * 8 + 6, none⟩ = some (.int .i64 t) := by
        rw [Nat.add_assoc]; exact (BK.out.cell (p := ⟨b, o + (k * 8 + 6), none⟩) hbl).trans (hcell _ _ z6)
      have c7 : wr.cell? ⟨b, o + k * 8 + 7, none⟩ = some (.int .i64 m) := by
        rw [Nat.add_assoc]; exact (BK.out.cell (p := ⟨b, o + (k * 8 + 7), none⟩) hbl).trans (hcell _ _ z7)
      have Z0 := Lib.hid (mixed_put HL.out z0)
      have Z1 := Lib.hid (mixed_put HL.out z1)
      have Z2 := Lib.hid (mixed_put HL.out z2)
      have Z3 := Lib.hid (mixed_put HL.out z3)
      have Z4 := Lib.hid (mixed_put HL.out z4)
      have Z5 := Lib.hid (mixed_put HL.out z5)
      have Z6 := Lib.hid (mixed_put HL.out z6)
      have Z7 := Lib.hid (mixed_put HL.out z7)
      clear hbl hcell hz R0 B0 z0 z1 z2 z3 z4 z5 z6 z7
      have HY := Lib.hid (⟨y0, y1, y2, y3, y4, y5, y6, y7⟩ : _ ∧ _ ∧ _ ∧ _ ∧ _ ∧ _ ∧ _ ∧ _)
      clear y0 y1 y2 y3 y4 y5 y6 y7
      subst eA
      go_wp2_with fail
      refine (toDevice _ _ _ _ _ _ _ _ _).mono ?_
      rintro e u ⟨rfl, hb1⟩
      have R1 := owns_below RK.out hb1
      have B1 := BK.out.trans (hb1.mono BK.out.size)
      have hL := HL.out
      have hl8 : (dls zs).length = n * 8 := by rw [dls_len, HN.out]
      have e0 : u.cell? ⟨w.heap.size, k * 8, none⟩ = some (.string ⟨#[]⟩) := (R1.cellAt (k * 8) (by omega)).trans (mixed_at hL (by omega) HY.out.1)
      have f0 := R1.frozenAt (k * 8)
      have e1 : u.cell? ⟨w.heap.size, k * 8 + 1, none⟩ = some (.int .i64 0) := (R1.cellAt (k * 8 + 1) (by omega)).trans (mixed_at hL (by omega) HY.out.2.1)
      have f1 := R1.frozenAt (k * 8 + 1)
      have e2 : u.cell? ⟨w.heap.size, k * 8 + 2, none⟩ = some (.string ⟨#[]⟩) := (R1.cellAt (k * 8 + 2) (by omega)).trans (mixed_at hL (by omega) HY.out.2.2.1)
      have f2 := R1.frozenAt (k * 8 + 2)
      have e3 : u.cell? ⟨w.heap.size, k * 8 + 3, none⟩ = some (.int .i64 0) := (R1.cellAt (k * 8 + 3) (by omega)).trans (mixed_at hL (by omega) HY.out.2.2.2.1)
      have f3 := R1.frozenAt (k * 8 + 3)
      have e4 : u.cell? ⟨w.heap.size, k * 8 + 4, none⟩ = some (.int .i64 0) := (R1.cellAt (k * 8 + 4) (by omega)).trans (mixed_at hL (by omega) HY.out.2.2.2.2.1)
      have f4 := R1.frozenAt (k * 8 + 4)
      have e5 : u.cell? ⟨w.heap.size, k * 8 + 5, none⟩ = some (.int .i64 0) := (R1.cellAt (k * 8 + 5) (by omega)).trans (mixed_at hL (by omega) HY.out.2.2.2.2.2.1)
      have f5 := R1.frozenAt (k * 8 + 5)
      have e6 : u.cell? ⟨w.heap.size, k * 8 + 6, none⟩ = some (.int .i64 0) := (R1.cellAt (k * 8 + 6) (by omega)).trans (mixed_at hL (by omega) HY.out.2.2.2.2.2.2.1)
      have f6 := R1.frozenAt (k * 8 + 6)
      have e7 : u.cell? ⟨w.heap.size, k * 8 + 7, none⟩ = some (.int .i64 0) := (R1.cellAt (k * 8 + 7) (by omega)).trans (mixed_at hL (by omega) HY.out.2.2.2.2.2.2.2)
      have f7 := R1.frozenAt (k * 8 + 7)
      obtain ⟨r0, g0⟩ := R1.stored (k * 8) (.string n_)
      rw [Z0.out] at r0
      obtain ⟨r1, g1⟩ := r0.stored (k * 8 + 1) (.int .i64 q)
      rw [Z1.out] at r1
      obtain ⟨r2, g2⟩ := r1.stored (k * 8 + 1 + 1) (.string l)
      rw [Z2.out] at r2
      obtain ⟨r3, g3⟩ := r2.stored (k * 8 + 1 + 1 + 1) (.int .i64 x)
      rw [Z3.out] at r3
      obtain ⟨r4, g4⟩ := r3.stored (k * 8 + 1 + 1 + 1 + 1) (.int .i64 y)
      rw [Z4.out] at r4
      obtain ⟨r5, g5⟩ := r4.stored (k * 8 + 1 + 1 + 1 + 1 + 1) (.int .i64 h)
      rw [Z5.out] at r5
      obtain ⟨r6, g6⟩ := r5.stored (k * 8 + 1 + 1 + 1 + 1 + 1 + 1) (.int .i64 t)
      rw [Z6.out] at r6
      obtain ⟨r7, g7⟩ := r6.stored (k * 8 + 1 + 1 + 1 + 1 + 1 + 1 + 1) (.int .i64 m)
      rw [Z7.out] at r7
      have RR := Lib.hid r7
      have b0 := B1.grown g0 B1.size (fun g hg => by cases hg; exact Nat.le_refl _)
      have b1 := b0.grown g1 b0.size (fun g hg => by cases hg; exact Nat.le_refl _)
      have b2 := b1.grown g2 b1.size (fun g hg => by cases hg; exact Nat.le_refl _)
      have b3 := b2.grown g3 b2.size (fun g hg => by cases hg; exact Nat.le_refl _)
      have b4 := b3.grown g4 b3.size (fun g hg => by cases hg; exact Nat.le_refl _)
      have b5 := b4.grown g5 b4.size (fun g hg => by cases hg; exact Nat.le_refl _)
      have b6 := b5.grown g6 b5.size (fun g hg => by cases hg; exact Nat.le_refl _)
      have b7 := b6.grown g7 b6.size (fun g hg => by cases hg; exact Nat.le_refl _)
      have BB := Lib.hid b7
      clear r0 g0 b0 c0 Z0 r1 g1 b1 c1 Z1 r2 g2 b2 c2 Z2 r3 g3 b3 c3 Z3 r4 g4 b4 c4 Z4 r5 g5 b5 c5 Z5 r6 g6 b6 c6 Z6 r7 g7 b7 c7 Z7 hb1 RK BK R1 B1 hL hl8 HY
      go_wp2_with fail
      go_roundw
      case rel => exact ⟨k + 1, by omega, by go_num, by rw [show (k + 1) * 8 = k * 8 + 1 + 1 + 1 + 1 + 1 + 1 + 1 + 1 by omega]; exact RR, BB⟩
      case measure => simp [intOf]; omega
    · obtain rfl : k = n := by omega
      go_wp2
      go_ret
      refine ⟨w.heap.size, rfl, Nat.le_refl _, ?_, BK.out⟩
      have := RK.out
      rw [show k * 8 = (dls zs).length by rw [dls_len, HN.out], mixed_all HL.out] at this
      exact this

set_option maxHeartbeats 4000000 in
theorem eqDeviceS (A B : Option Addr) (n c d : Nat) (zs : List D) (H : Nat) (w : World) (hn : zs.length = n) (hb : n ≤ 1048576) (hH : H ≤ w.heap.size) (hr : Rd w H A (dls zs)) (hs : Rd w H B (dls zs)) :
    Calls Tryz.prog 48 #[.slice A n c, .slice B n d] w fun e w' => e = .returned (.bool true) ∧ Below w.heap.size w w' := by
  have HR := Lib.hid (hr.more hH)
  have HS := Lib.hid (hs.more hH)
  have HN := Lib.hid hn
  clear hr hs hn hH
  go_enter Tryz.func48, Tryz.ntmps48
  go_wp2
  go_loopw [5] (fun i wr => ∃ k : Nat, k ≤ n ∧ i = .int .i64 k ∧ Hid (Below w.heap.size w wr)) (fun i _ => n - (intOf i).toNat)
  case atStart => exact ⟨0, Nat.zero_le _, rfl, Lib.hid (Below.refl _ _)⟩
  case round =>
    obtain ⟨k, hk, rfl, BK⟩ := hrel
    by_cases hlt : k < n
    · have hl : k * 8 < (dls zs).length := by rw [dls_len, HN.out]; omega
      obtain ⟨z, hz⟩ : ∃ z, zs[k]? = some z := ⟨_, List.getElem?_eq_getElem (by rw [HN.out]; exact hlt)⟩
      obtain ⟨n_, q, l, x, y, h, t, m⟩ := z
      obtain ⟨z0, z1, z2, z3, z4, z5, z6, z7⟩ := dls_get hz
      obtain ⟨b1, o1, eA, _, g1⟩ := (HR.out.below BK.out).get hl
      obtain ⟨b2, o2, eB, _, g2⟩ := (HS.out.below BK.out).get hl
      have c0 : wr.cell? ⟨b1, o1 + k * 8, none⟩ = some (.string n_) := g1 _ _ z0
      have c1 : wr.cell? ⟨b1, o1 + k * 8 + 1, none⟩ = some (.int .i64 q) := g1 _ _ z1
      have c2 : wr.cell? ⟨b1, o1 + k * 8 + 2, none⟩ = some (.string l) := g1 _ _ z2
      have c3 : wr.cell? ⟨b1, o1 + k * 8 + 3, none⟩ = some (.int .i64 x) := g1 _ _ z3
      have c4 : wr.cell? ⟨b1, o1 + k * 8 + 4, none⟩ = some (.int .i64 y) := g1 _ _ z4
      have c5 : wr.cell? ⟨b1, o1 + k * 8 + 5, none⟩ = some (.int .i64 h) := g1 _ _ z5
      have c6 : wr.cell? ⟨b1, o1 + k * 8 + 6, none⟩ = some (.int .i64 t) := g1 _ _ z6
      have c7 : wr.cell? ⟨b1, o1 + k * 8 + 7, none⟩ = some (.int .i64 m) := g1 _ _ z7
      have e0 : wr.cell? ⟨b2, o2 + k * 8, none⟩ = some (.string n_) := g2 _ _ z0
      have e1 : wr.cell? ⟨b2, o2 + k * 8 + 1, none⟩ = some (.int .i64 q) := g2 _ _ z1
      have e2 : wr.cell? ⟨b2, o2 + k * 8 + 2, none⟩ = some (.string l) := g2 _ _ z2
      have e3 : wr.cell? ⟨b2, o2 + k * 8 + 3, none⟩ = some (.int .i64 x) := g2 _ _ z3
      have e4 : wr.cell? ⟨b2, o2 + k * 8 + 4, none⟩ = some (.int .i64 y) := g2 _ _ z4
      have e5 : wr.cell? ⟨b2, o2 + k * 8 + 5, none⟩ = some (.int .i64 h) := g2 _ _ z5
      have e6 : wr.cell? ⟨b2, o2 + k * 8 + 6, none⟩ = some (.int .i64 t) := g2 _ _ z6
      have e7 : wr.cell? ⟨b2, o2 + k * 8 + 7, none⟩ = some (.int .i64 m) := g2 _ _ z7
      clear g1 g2 hz hl z0 z1 z2 z3 z4 z5 z6 z7
      subst eA eB
      have hlt' : (k : Int) < (n : Int) := by omega
      have hk0 : (0 : Int) ≤ (k : Int) := by omega
      have p1 : b1 < wr.heap.size := World.block_lt_of_cell? wr _ c1
      have p2 : ∀ j, b1 < wr.heap.size + j := fun j => by omega
      have p3 : b2 < wr.heap.size := World.block_lt_of_cell? wr _ e1
      have p4 : ∀ j, b2 < wr.heap.size + j := fun j => by omega
      go_wp2_with fail
      go_region_held3 (fun w' => w'.cell? ⟨b1, o1 + k * 8, none⟩ = some (.string n_) ∧ w'.cell? ⟨b1, o1 + k * 8 + 1, none⟩ = some (.int .i64 q) ∧ w'.cell? ⟨b1, o1 + k * 8 + 2, none⟩ = some (.string l) ∧ w'.cell? ⟨b1, o1 + k * 8 + 3, none⟩ = some (.int .i64 x) ∧ w'.cell? ⟨b1, o1 + k * 8 + 4, none⟩ = some (.int .i64 y) ∧ w'.cell? ⟨b1, o1 + k * 8 + 5, none⟩ = some (.int .i64 h) ∧ w'.cell? ⟨b1, o1 + k * 8 + 6, none⟩ = some (.int .i64 t) ∧ w'.cell? ⟨b1, o1 + k * 8 + 7, none⟩ = some (.int .i64 m) ∧ w'.cell? ⟨b2, o2 + k * 8, none⟩ = some (.string n_) ∧ w'.cell? ⟨b2, o2 + k * 8 + 1, none⟩ = some (.int .i64 q) ∧ w'.cell? ⟨b2, o2 + k * 8 + 2, none⟩ = some (.string l) ∧ w'.cell? ⟨b2, o2 + k * 8 + 3, none⟩ = some (.int .i64 x) ∧ w'.cell? ⟨b2, o2 + k * 8 + 4, none⟩ = some (.int .i64 y) ∧ w'.cell? ⟨b2, o2 + k * 8 + 5, none⟩ = some (.int .i64 h) ∧ w'.cell? ⟨b2, o2 + k * 8 + 6, none⟩ = some (.int .i64 t) ∧ w'.cell? ⟨b2, o2 + k * 8 + 7, none⟩ = some (.int .i64 m)) (simp [go_sem, *])
        (first | (go_at_call 95; ((with_reducible refine (eqDevice _ _ _ _ _ _ _ _ _).mono ?_); rintro e w' ⟨rfl, rfl⟩)))
      all_goals go_wp2_with fail
      all_goals go_roundw
      case rel => exact ⟨k + 1, by omega, by go_num, Lib.hid (BK.out.trans (Below.mono (by go_grown) BK.out.size))⟩
      case measure => simp [intOf]; omega
    · obtain rfl : k = n := by omega
      go_wp2
      go_ret
      exact ⟨rfl, BK.out⟩

end Go.Proofs.YtokncfhpmjohdaaGreat.Dl

namespace Go.Proofs.YtokncfhpmjohdaaGreat.Cv
open Go.RowKit Go.Proofs.YtokncfhpmjohdaaGreat.Cd
set_option linter.unusedVariables false
set_option linter.unusedSimpArgs false

set_option maxHeartbeats 1000000 in
theorem toCue (t : Int) (n : ByteArray) (l r : Int) (w : World) : Calls Tryz.prog 83 #[va t n l r] w fun e w' => e = .returned (va t n l r) ∧ Below w.heap.size w w' := by
  go_enter Tryz.func83, Tryz.ntmps83
  go_wp2_with fail
  go_returns
  exact ⟨rfl, by go_grown⟩

set_option maxHeartbeats 1000000 in
theorem eqCue (t : Int) (n : ByteArray) (l r : Int) (w : World) : Calls Tryz.prog 96 #[va t n l r, va t n l r] w fun e w' => e = .returned (.bool true) ∧ w' = (w.alloc (.cells (ca t n l r) 126)).alloc (.cells (ca t n l r) 126) := by
  have h1 : (n.toList == n.toList) = true := by simp
  go_enter Tryz.func96, Tryz.ntmps96
  go_wp2_with fail
  all_goals go_returns
  all_goals exact ⟨rfl, rfl⟩

theorem szYes (t : Int) (n : ByteArray) (l r : Int) (L R : Int) (h1 : L ≤ 1048576) (hR : L - (n.size : Int) = R) (hp : 0 ≤ R) (w : World) :
    Calls Tryz.prog 67 #[va t n l r, .int .i64 L] w fun e w' => e = .returned (.int .i64 R) ∧ w' = w.alloc (.cells (ca t n l r) 110) := by
  have HR := Lib.hid hR
  have a1 : (n.size : Int) ≤ L := by omega
  have a3 : ¬ L - (n.size : Int) < 0 := by omega
  have a5 : 0 ≤ L := by omega
  clear hR hp
  go_enter Tryz.func67, Tryz.ntmps67
  go_wp2
  all_goals go_returns
  all_goals first | exact ⟨rfl, rfl⟩ | exact ⟨by show Ending.returned (.int .i64 _) = _; rw [HR.out], rfl⟩ | (exfalso; omega)

theorem szNo (t : Int) (n : ByteArray) (l r : Int) (L : Int) (h0 : 0 ≤ L) (h1 : L ≤ 1048576) (hn : n.size ≤ maxLen) (hR : L - (n.size : Int) < 0) (w : World) :
    Calls Tryz.prog 67 #[va t n l r, .int .i64 L] w fun e w' => e = .returned (.int .i64 (-1)) ∧ w' = w.alloc (.cells (ca t n l r) 110) := by
  unfold maxLen at hn
  have a1 : ¬ (n.size : Int) ≤ L := by omega
  go_enter Tryz.func67, Tryz.ntmps67
  go_wp2
  all_goals go_returns
  all_goals first | exact ⟨rfl, rfl⟩ | (exfalso; omega)

end Go.Proofs.YtokncfhpmjohdaaGreat.Cv
namespace Go.Proofs.YtokncfhpmjohdaaGreat.Cl
open Go.RowKit Go.ChangeShapes Go.WideShapes Go.WideElems Go.Deep Go.Proofs.YtokncfhpmjohdaaGreat.Mem Go.Proofs.YtokncfhpmjohdaaGreat.Rw Go.Proofs.YtokncfhpmjohdaaGreat.P2 Go.Proofs.YtokncfhpmjohdaaGreat.Cd Go.Proofs.YtokncfhpmjohdaaGreat.Cv
set_option linter.unusedVariables false
set_option linter.unusedSimpArgs false

/-- How long the texts of these cues are. -/
def bulk : List C → Nat
  | [] => 0
  | d :: r => d.nm.size + bulk r
theorem bulk_app : ∀ (a b : List C), bulk (a ++ b) = bulk a + bulk b
  | [], b => by simp [bulk]
  | d :: r, b => by simp only [List.cons_append, bulk, bulk_app r b]; omega
theorem bulk_take {zs : List C} {k : Nat} {d : C} (h : zs[k]? = some d) : bulk (zs.take (k + 1)) = bulk (zs.take k) + d.nm.size := by
  obtain ⟨hk, rfl⟩ := List.getElem?_eq_some_iff.1 h
  rw [List.take_succ_eq_append_getElem hk, bulk_app]; simp [bulk]
theorem bulk_le (zs : List C) (k : Nat) : bulk (zs.take k) ≤ bulk zs := by
  have := bulk_app (zs.take k) (zs.drop k)
  rw [List.take_append_drop] at this
  omega
theorem mem_at {α : Type} {zs : List α} {k : Nat} {d : α} (h : zs[k]? = some d) : d ∈ zs := List.mem_of_getElem? h
/-- How much is left behind these, of so much. -/
def szW (L : Int) (n : Nat) (zs : List C) : Int := if L - n - bulk zs < 0 then -1 else L - n - bulk zs
/-- How much is left behind these. -/
def szV (n : Nat) (zs : List C) : Int := szW 1048576 n zs

/-- The first k of one list, then the other one's. -/
def mixed (xs ys : List Value) (k : Nat) : List Value := xs.take k ++ ys.drop k
theorem mixed_zero (xs ys : List Value) : mixed xs ys 0 = ys := by simp [mixed]
theorem mixed_all {xs ys : List Value} (h : ys.length = xs.length) : mixed xs ys xs.length = xs := by
  unfold mixed; rw [List.take_of_length_le (Nat.le_refl _), List.drop_of_length_le (by omega), List.append_nil]
theorem mixed_at {xs ys : List Value} {k j : Nat} {v : Value} (h : ys.length = xs.length) (hk : k ≤ j) (hv : ys[j]? = some v) : (mixed xs ys k)[j]? = some v := by
  have hj := (List.getElem?_eq_some_iff.1 hv).1
  unfold mixed
  rw [List.getElem?_append_right (by rw [List.length_take]; omega), List.length_take, Nat.min_eq_left (by omega), List.getElem?_drop, show k + (j - k) = j by omega]
  exact hv
theorem mixed_put {xs ys : List Value} {k : Nat} {v : Value} (h : ys.length = xs.length) (hv : xs[k]? = some v) : (mixed xs ys k).set k v = mixed xs ys (k + 1) := by
  obtain ⟨hk, rfl⟩ := List.getElem?_eq_some_iff.1 hv
  unfold mixed
  rw [List.set_append_right _ _ (by rw [List.length_take]; omega), List.length_take, Nat.min_eq_left (by omega), Nat.sub_self, List.drop_eq_getElem_cons (by omega), List.set_cons_zero, List.take_succ_eq_append_getElem hk, List.append_assoc]
  rfl
/-- A cue of nothing. -/
def d0 : C := ⟨0, ⟨#[]⟩, 0, 0⟩
theorem dls_made (n : Nat) : (madeCells #[.int .i64 0, .string ⟨#[]⟩, .int .i64 0, .int .i64 0] (n * 4)).toList = dls (List.replicate n d0) := by
  apply List.ext_getElem?
  intro j
  by_cases h : j < n * 4
  · have hm : j % 4 < 4 := Nat.mod_lt _ (by omega)
    have hd : j / 4 < n := by omega
    have hg := flat_get dc_len (zs := List.replicate n d0) (k := j / 4) (z := d0) (by rw [List.getElem?_replicate, if_pos hd]) (j % 4) hm
    rw [show j / 4 * 4 + j % 4 = j by omega] at hg
    unfold dls
    rw [hg, Array.getElem?_toList]
    simp only [madeCells]
    simp [h]
    generalize j % 4 = r at hm
    match r, hm with
    | 0, _ => rfl
    | 1, _ => rfl
    | 2, _ => rfl
    | 3, _ => rfl
  · rw [List.getElem?_eq_none (l := dls _) (by rw [dls_len, List.length_replicate]; omega), Array.getElem?_toList]
    simp [madeCells, h]

theorem infoD : (Tryz.prog.info? 126).map (fun i => (i.zero, i.size, i.bytes)) = some (some (.agg #[.int .i64 0, .string ⟨#[]⟩, .int .i64 0, .int .i64 0]), 4, 40) := by kernel_rfl

set_option maxHeartbeats 2000000 in
theorem szCueW (A : Option Addr) (n c : Nat) (zs : List C) (L0 : Int) (w : World) (hL0 : 0 ≤ L0) (hL1 : L0 ≤ 1048576) (hn : zs.length = n) (hm : n ≤ maxLen) (hr : Rd w w.heap.size A (dls zs)) (hok : ∀ z ∈ zs, Dok z) :
    Calls Tryz.prog 30 #[.slice A n c, .int .i64 L0] w fun e w' => e = .returned (.int .i64 (szW L0 n zs)) ∧ Below w.heap.size w w' := by
  unfold maxLen at hm
  have HN := Lib.hid hn
  by_cases hb : L0 - (n : Int) < 0
  · have HV := Lib.hid (show szW L0 n zs = -1 by unfold szW; rw [if_pos (by omega)])
    have h1 : L0 < (n : Int) := by omega
    have h2 : ¬ (n : Int) ≤ L0 := by omega
    clear hn hr hok
    go_enter Tryz.func30, Tryz.ntmps30
    go_wp2
    all_goals go_returns
    all_goals first | exact ⟨by rw [HV.out]; rfl, Below.refl _ _⟩ | (exfalso; omega)
  have hb1 : (n : Int) ≤ L0 := by omega
  have hb2 : 0 ≤ L0 - (n : Int) := by omega
  have HR := Lib.hid hr
  have HO := Lib.hid hok
  clear hr hok hn
  go_enter Tryz.func30, Tryz.ntmps30
  go_wp2
  go_loopw [1, 5] (fun L i wr => ∃ (k : Nat) (u : Int), k ≤ n ∧ i = .int .i64 k ∧ L = .int .i64 u ∧ Hid (u = L0 - (n : Int) - (bulk (zs.take k) : Nat) ∧ 0 ≤ u ∧ u ≤ 1048576) ∧ Hid (Below w.heap.size w wr)) (fun _ i _ => n - (intOf i).toNat)
  case atStart => exact ⟨0, L0 - (n : Int), Nat.zero_le _, rfl, rfl, Lib.hid ⟨by simp [bulk], by omega, by omega⟩, Lib.hid (Below.refl _ _)⟩
  case round =>
    obtain ⟨k, u, hk, rfl, rfl, UK, BK⟩ := hrel
    by_cases hlt : k < n
    · obtain ⟨b, o, eA, hbl, hcell⟩ := HR.out.get (k := k * 4) (by rw [dls_len, HN.out]; omega)
      obtain ⟨z, hz⟩ : ∃ z, zs[k]? = some z := ⟨_, List.getElem?_eq_getElem (by rw [HN.out]; exact hlt)⟩
      have hd := HO.out z (mem_at hz)
      have ht := bulk_take hz
      have hle := bulk_le zs (k + 1)
      obtain ⟨t_, n_, l_, r_⟩ := z
      obtain ⟨z0, z1, z2, z3⟩ := dls_get hz
      simp only [Dok] at hd
      simp only [] at ht
      have c0 : wr.cell? ⟨b, o + k * 4, none⟩ = some (.int .i64 t_) := (BK.out.cell (p := ⟨b, o + k * 4, none⟩) hbl).trans (hcell _ _ z0)
      have c1 : wr.cell? ⟨b, o + k * 4 + 1, none⟩ = some (.string n_) := by
        rw [Nat.add_assoc]; exact (BK.out.cell (p := ⟨b, o + (k * 4 + 1), none⟩) hbl).trans (hcell _ _ z1)
      have c2 : wr.cell? ⟨b, o + k * 4 + 2, none⟩ = some (.int .i64 l_) := by
        rw [Nat.add_assoc]; exact (BK.out.cell (p := ⟨b, o + (k * 4 + 2), none⟩) hbl).trans (hcell _ _ z2)
      have c3 : wr.cell? ⟨b, o + k * 4 + 3, none⟩ = some (.int .i64 r_) := by
        rw [Nat.add_assoc]; exact (BK.out.cell (p := ⟨b, o + (k * 4 + 3), none⟩) hbl).trans (hcell _ _ z3)
      have U := UK.out
      clear hbl hcell z0 z1 z2 z3 hz
      subst eA
      by_cases hR : u - (n_.size : Int) < 0
      · have C := Lib.hid (fun W => szNo t_ n_ l_ r_ u U.2.1 U.2.2 hd.1 hR W)
        have HV := Lib.hid (show szW L0 n zs = -1 by unfold szW; rw [if_pos (by omega)])
        clear hR U ht hle hd
        go_wp2_with fail
        refine (C.out _).mono ?_
        rintro e w' ⟨rfl, rfl⟩
        go_wp2_with fail
        go_ret
        exact ⟨by rw [HV.out]; rfl, BK.out.alloc BK.out.size _⟩
      · obtain ⟨R, hRR⟩ : ∃ R : Int, u - (n_.size : Int) = R := ⟨_, rfl⟩
        have C := Lib.hid (fun W => szYes t_ n_ l_ r_ u R U.2.2 hRR (by omega) W)
        have hp : ¬ R < 0 := by omega
        have HU := Lib.hid (show R = L0 - (n : Int) - (bulk (zs.take (k + 1)) : Nat) ∧ 0 ≤ R ∧ R ≤ 1048576 by omega)
        clear hR U ht hle hd hRR
        go_wp2_with fail
        refine (C.out _).mono ?_
        rintro e w' ⟨rfl, rfl⟩
        go_wp2_with fail
        go_roundw
        case rel => exact ⟨k + 1, R, by omega, by go_num, rfl, HU, Lib.hid (BK.out.alloc BK.out.size _)⟩
        case measure => simp [intOf]; omega
    · obtain rfl : k = n := by omega
      have HV := Lib.hid (show u = szW L0 k zs by
        have U := UK.out
        rw [List.take_of_length_le (by rw [HN.out]; exact Nat.le_refl _)] at U
        unfold szW; rw [if_neg (by omega)]; exact U.1)
      go_wp2
      go_ret
      exact ⟨by rw [← HV.out]; rfl, BK.out⟩
/-- What the copy leaves: a row of its own with these cues; what was there is as it was. -/
def Copied (w : World) (n : Nat) (zs : List C) (e : Ending) (w' : World) : Prop :=
  ∃ g, e = .returned (.slice (some ⟨g, 0, none⟩) n n) ∧ w.heap.size ≤ g ∧ w'.ownsRow w.heap.size 126 4 (.slice (some ⟨g, 0, none⟩) n n) n (dls zs) ∧ Below w.heap.size w w'

set_option maxHeartbeats 4000000 in
theorem toCueS (A : Option Addr) (n c : Nat) (zs : List C) (w : World) (hn : zs.length = n) (hb : n ≤ 1048576) (hr : Rd w w.heap.size A (dls zs)) :
    Calls Tryz.prog 39 #[.slice A n c] w (Copied w n zs) := by
  obtain ⟨i0, hi, hz0, hz1, hz2⟩ := info_of infoD
  have HR := Lib.hid hr
  have HN := Lib.hid hn
  have HL := Lib.hid (show (dls (List.replicate n d0)).length = (dls zs).length by rw [dls_len, dls_len, List.length_replicate, hn])
  clear hr hn
  go_enter Tryz.func39, Tryz.ntmps39
  go_wp2_with (at_make; refine wpList_make_full _ rfl _ _ 38 rfl w.heap.size 126 i0 (.agg #[.int .i64 0, .string ⟨#[]⟩, .int .i64 0, .int .i64 0]) 4 Tryz.underlying38 hi hz0 hz1 .i64 .i64 n n n rfl rfl rfl rfl (by rw [hz2]; omega) (by unfold maxLen; omega) (Nat.le_refl _) ?_; intro w1 hown hgrow; clear hi hz0 hz1 hz2)
  have R0 := Lib.hid (show w1.ownsRow w.heap.size 126 4 (.slice (some ⟨w.heap.size, 0, none⟩) n n) n (mixed (dls zs) (dls (List.replicate n d0)) 0) by
    rw [mixed_zero, ← dls_made]; exact hown)
  have B0 := Lib.hid (show Below w.heap.size w w1 from (Below.refl _ _).grown hgrow (Nat.le_refl _) (fun k hk => by cases hk))
  clear hown hgrow
  go_loopw [4] (fun i wr => ∃ k : Nat, k ≤ n ∧ i = .int .i64 k ∧ Hid (wr.ownsRow w.heap.size 126 4 (.slice (some ⟨w.heap.size, 0, none⟩) n n) n (mixed (dls zs) (dls (List.replicate n d0)) (k * 4))) ∧ Hid (Below w.heap.size w wr)) (fun i _ => n - (intOf i).toNat)
  case atStart => exact ⟨0, Nat.zero_le _, rfl, R0, B0⟩
  case round =>
    obtain ⟨k, hk, rfl, RK, BK⟩ := hrel
    by_cases hlt : k < n
    · obtain ⟨b, o, eA, hbl, hcell⟩ := HR.out.get (k := k * 4) (by rw [dls_len, HN.out]; omega)
      obtain ⟨z, hz⟩ : ∃ z, zs[k]? = some z := ⟨_, List.getElem?_eq_getElem (by rw [HN.out]; exact hlt)⟩
      obtain ⟨y0, y1, y2, y3⟩ := dls_get (zs := List.replicate n d0) (k := k) (by rw [List.getElem?_replicate, if_pos hlt])
      obtain ⟨t_, n_, l_, r_⟩ := z
      obtain ⟨z0, z1, z2, z3⟩ := dls_get hz
      have c0 : wr.cell? ⟨b, o + k * 4, none⟩ = some (.int .i64 t_) := (BK.out.cell (p := ⟨b, o + k * 4, none⟩) hbl).trans (hcell _ _ z0)
      have c1 : wr.cell? ⟨b, o + k * 4 + 1, none⟩ = some (.string n_) := by
        rw [Nat.add_assoc]; exact (BK.out.cell (p := ⟨b, o + (k * 4 + 1), none⟩) hbl).trans (hcell _ _ z1)
      have c2 : wr.cell? ⟨b, o + k * 4 + 2, none⟩ = some (.int .i64 l_) := by
        rw [Nat.add_assoc]; exact (BK.out.cell (p := ⟨b, o + (k * 4 + 2), none⟩) hbl).trans (hcell _ _ z2)
      have c3 : wr.cell? ⟨b, o + k * 4 + 3, none⟩ = some (.int .i64 r_) := by
        rw [Nat.add_assoc]; exact (BK.out.cell (p := ⟨b, o + (k * 4 + 3), none⟩) hbl).trans (hcell _ _ z3)
      have Z0 := Lib.hid (mixed_put HL.out z0)
      have Z1 := Lib.hid (mixed_put HL.out z1)
      have Z2 := Lib.hid (mixed_put HL.out z2)
      have Z3 := Lib.hid (mixed_put HL.out z3)
      clear hbl hcell hz R0 B0 z0 z1 z2 z3
      have HY := Lib.hid (⟨y0, y1, y2, y3⟩ : _ ∧ _ ∧ _ ∧ _)
      clear y0 y1 y2 y3
      subst eA
      go_wp2_with fail
      refine (toCue _ _ _ _ _).mono ?_
      rintro e u ⟨rfl, hb1⟩
      have R1 := owns_below RK.out hb1
      have B1 := BK.out.trans (hb1.mono BK.out.size)
      have hL := HL.out
      have hl8 : (dls zs).length = n * 4 := by rw [dls_len, HN.out]
      have e0 : u.cell? ⟨w.heap.size, k * 4, none⟩ = some (.int .i64 0) := (R1.cellAt (k * 4) (by omega)).trans (mixed_at hL (by omega) HY.out.1)
      have f0 := R1.frozenAt (k * 4)
      have e1 : u.cell? ⟨w.heap.size, k * 4 + 1, none⟩ = some (.string ⟨#[]⟩) := (R1.cellAt (k * 4 + 1) (by omega)).trans (mixed_at hL (by omega) HY.out.2.1)
      have f1 := R1.frozenAt (k * 4 + 1)
      have e2 : u.cell? ⟨w.heap.size, k * 4 + 2, none⟩ = some (.int .i64 0) := (R1.cellAt (k * 4 + 2) (by omega)).trans (mixed_at hL (by omega) HY.out.2.2.1)
      have f2 := R1.frozenAt (k * 4 + 2)
      have e3 : u.cell? ⟨w.heap.size, k * 4 + 3, none⟩ = some (.int .i64 0) := (R1.cellAt (k * 4 + 3) (by omega)).trans (mixed_at hL (by omega) HY.out.2.2.2)
      have f3 := R1.frozenAt (k * 4 + 3)
      obtain ⟨r0, g0⟩ := R1.stored (k * 4) (.int .i64 t_)
      rw [Z0.out] at r0
      obtain ⟨r1, g1⟩ := r0.stored (k * 4 + 1) (.string n_)
      rw [Z1.out] at r1
      obtain ⟨r2, g2⟩ := r1.stored (k * 4 + 1 + 1) (.int .i64 l_)
      rw [Z2.out] at r2
      obtain ⟨r3, g3⟩ := r2.stored (k * 4 + 1 + 1 + 1) (.int .i64 r_)
      rw [Z3.out] at r3
      have RR := Lib.hid r3
      have b0 := B1.grown g0 B1.size (fun g hg => by cases hg; exact Nat.le_refl _)
      have b1 := b0.grown g1 b0.size (fun g hg => by cases hg; exact Nat.le_refl _)
      have b2 := b1.grown g2 b1.size (fun g hg => by cases hg; exact Nat.le_refl _)
      have b3 := b2.grown g3 b2.size (fun g hg => by cases hg; exact Nat.le_refl _)
      have BB := Lib.hid b3
      clear r0 g0 b0 c0 Z0 r1 g1 b1 c1 Z1 r2 g2 b2 c2 Z2 r3 g3 b3 c3 Z3 hb1 RK BK R1 B1 hL hl8 HY
      go_wp2_with fail
      go_roundw
      case rel => exact ⟨k + 1, by omega, by go_num, by rw [show (k + 1) * 4 = k * 4 + 1 + 1 + 1 + 1 by omega]; exact RR, BB⟩
      case measure => simp [intOf]; omega
    · obtain rfl : k = n := by omega
      go_wp2
      go_ret
      refine ⟨w.heap.size, rfl, Nat.le_refl _, ?_, BK.out⟩
      have := RK.out
      rw [show k * 4 = (dls zs).length by rw [dls_len, HN.out], mixed_all HL.out] at this
      exact this

set_option maxHeartbeats 4000000 in
theorem eqCueS (A B : Option Addr) (n c d : Nat) (zs : List C) (H : Nat) (w : World) (hn : zs.length = n) (hb : n ≤ 1048576) (hH : H ≤ w.heap.size) (hr : Rd w H A (dls zs)) (hs : Rd w H B (dls zs)) :
    Calls Tryz.prog 49 #[.slice A n c, .slice B n d] w fun e w' => e = .returned (.bool true) ∧ Below w.heap.size w w' := by
  have HR := Lib.hid (hr.more hH)
  have HS := Lib.hid (hs.more hH)
  have HN := Lib.hid hn
  clear hr hs hn hH
  go_enter Tryz.func49, Tryz.ntmps49
  go_wp2
  go_loopw [5] (fun i wr => ∃ k : Nat, k ≤ n ∧ i = .int .i64 k ∧ Hid (Below w.heap.size w wr)) (fun i _ => n - (intOf i).toNat)
  case atStart => exact ⟨0, Nat.zero_le _, rfl, Lib.hid (Below.refl _ _)⟩
  case round =>
    obtain ⟨k, hk, rfl, BK⟩ := hrel
    by_cases hlt : k < n
    · have hl : k * 4 < (dls zs).length := by rw [dls_len, HN.out]; omega
      obtain ⟨z, hz⟩ : ∃ z, zs[k]? = some z := ⟨_, List.getElem?_eq_getElem (by rw [HN.out]; exact hlt)⟩
      obtain ⟨t_, n_, l_, r_⟩ := z
      obtain ⟨z0, z1, z2, z3⟩ := dls_get hz
      obtain ⟨b1, o1, eA, _, g1⟩ := (HR.out.below BK.out).get hl
      obtain ⟨b2, o2, eB, _, g2⟩ := (HS.out.below BK.out).get hl
      have c0 : wr.cell? ⟨b1, o1 + k * 4, none⟩ = some (.int .i64 t_) := g1 _ _ z0
      have c1 : wr.cell? ⟨b1, o1 + k * 4 + 1, none⟩ = some (.string n_) := g1 _ _ z1
      have c2 : wr.cell? ⟨b1, o1 + k * 4 + 2, none⟩ = some (.int .i64 l_) := g1 _ _ z2
      have c3 : wr.cell? ⟨b1, o1 + k * 4 + 3, none⟩ = some (.int .i64 r_) := g1 _ _ z3
      have e0 : wr.cell? ⟨b2, o2 + k * 4, none⟩ = some (.int .i64 t_) := g2 _ _ z0
      have e1 : wr.cell? ⟨b2, o2 + k * 4 + 1, none⟩ = some (.string n_) := g2 _ _ z1
      have e2 : wr.cell? ⟨b2, o2 + k * 4 + 2, none⟩ = some (.int .i64 l_) := g2 _ _ z2
      have e3 : wr.cell? ⟨b2, o2 + k * 4 + 3, none⟩ = some (.int .i64 r_) := g2 _ _ z3
      clear g1 g2 hz hl z0 z1 z2 z3
      subst eA eB
      have hlt' : (k : Int) < (n : Int) := by omega
      have hk0 : (0 : Int) ≤ (k : Int) := by omega
      have p1 : b1 < wr.heap.size := World.block_lt_of_cell? wr _ c1
      have p2 : ∀ j, b1 < wr.heap.size + j := fun j => by omega
      have p3 : b2 < wr.heap.size := World.block_lt_of_cell? wr _ e1
      have p4 : ∀ j, b2 < wr.heap.size + j := fun j => by omega
      go_wp2_with fail
      go_region_held3 (fun w' => w'.cell? ⟨b1, o1 + k * 4, none⟩ = some (.int .i64 t_) ∧ w'.cell? ⟨b1, o1 + k * 4 + 1, none⟩ = some (.string n_) ∧ w'.cell? ⟨b1, o1 + k * 4 + 2, none⟩ = some (.int .i64 l_) ∧ w'.cell? ⟨b1, o1 + k * 4 + 3, none⟩ = some (.int .i64 r_) ∧ w'.cell? ⟨b2, o2 + k * 4, none⟩ = some (.int .i64 t_) ∧ w'.cell? ⟨b2, o2 + k * 4 + 1, none⟩ = some (.string n_) ∧ w'.cell? ⟨b2, o2 + k * 4 + 2, none⟩ = some (.int .i64 l_) ∧ w'.cell? ⟨b2, o2 + k * 4 + 3, none⟩ = some (.int .i64 r_)) (simp [go_sem, *])
        (first | (go_at_call 96; ((with_reducible refine (eqCue _ _ _ _ _).mono ?_); rintro e w' ⟨rfl, rfl⟩)))
      all_goals go_wp2_with fail
      all_goals go_roundw
      case rel => exact ⟨k + 1, by omega, by go_num, Lib.hid (BK.out.trans (Below.mono (by go_grown) BK.out.size))⟩
      case measure => simp [intOf]; omega
    · obtain rfl : k = n := by omega
      go_wp2
      go_ret
      exact ⟨rfl, BK.out⟩

end Go.Proofs.YtokncfhpmjohdaaGreat.Cl
namespace Go.Proofs.YtokncfhpmjohdaaGreat.SzG
open Go.RowKit
set_option linter.unusedVariables false
set_option linter.unusedSimpArgs false

theorem yes (A : Option Addr) (n c : Nat) (L R : Int) (h1 : L ≤ 1048576) (hp : 0 ≤ R) (hR : L - (n : Int) = R) (w : World) :
    Calls Tryz.prog 31 #[.slice A n c, .int .i64 L] w fun e w' => e = .returned (.int .i64 R) ∧ w = w' := by
  have h2 : (n : Int) ≤ L := by omega
  have HR := Lib.hid hR
  have hn : n ≤ 1048576 := by omega
  have h0 : 0 ≤ L := by omega
  have h3 : ¬ L < 0 := by omega
  have h4 : ¬ L - (n : Int) < 0 := by omega
  have h5 : ¬ L < (n : Int) := by omega
  clear hR hp
  go_enter Tryz.func31, Tryz.ntmps31
  go_wp2
  go_ret
  exact ⟨by rw [HR.out]; rfl, rfl⟩

theorem no (A : Option Addr) (n c : Nat) (L : Int) (h0 : 0 ≤ L) (h1 : L ≤ 1048576) (hm : n ≤ maxLen) (h : L - (n : Int) < 0) (w : World) :
    Calls Tryz.prog 31 #[.slice A n c, .int .i64 L] w fun e w' => e = .returned (.int .i64 (-1)) ∧ w = w' := by
  unfold maxLen at hm
  have h2 : ¬ (n : Int) ≤ L := by omega
  have h3 : ¬ L < 0 := by omega
  have h5 : L < (n : Int) := by omega
  go_enter Tryz.func31, Tryz.ntmps31
  go_wp2
  go_ret
  exact ⟨rfl, rfl⟩

end Go.Proofs.YtokncfhpmjohdaaGreat.SzG
namespace Go.Proofs.YtokncfhpmjohdaaGreat.Bk
open Go.RowKit Go.Proofs.YtokncfhpmjohdaaGreat.Mem Go.Proofs.YtokncfhpmjohdaaGreat.P2
set_option linter.unusedVariables false

/-- Block b holds these cells. -/
def Bk (w : World) (b : Nat) (c : Array Value) (T : TypeId) : Prop := w.heap[b]? = some (.cells c T (0, 0))
section
variable {w w' : World} {b b' i : Nat} {c : Array Value} {T : TypeId} {v : Value}
theorem Bk.cell (k : Bk w b c T) (h : c[i]? = some v) : w.cell? ⟨b, i, none⟩ = some v := by simp [World.cell?, show w.heap[b]? = _ from k, h]
theorem Bk.frozen (k : Bk w b c T) (i : Nat) : w.frozen? ⟨b, i, none⟩ = false := by simp [World.frozen?, show w.heap[b]? = _ from k]
theorem Bk.lt (k : Bk w b c T) : b < w.heap.size := (Array.getElem?_eq_some_iff.1 k).1
theorem Bk.drew (k : Bk w b c T) : Bk w.drew b c T := k
theorem Bk.drewN (k : Bk w b c T) : ∀ n, Bk (w.drewN n) b c T
  | 0 => k
  | n + 1 => Bk.drewN k n
theorem Bk.new (w : World) (c : Array Value) (T : TypeId) : Bk (w.alloc (.cells c T)) w.heap.size c T := heap_alloc_new w _
theorem Bk.below (k : Bk w b c T) (hb : Below w.heap.size w w') : Bk w' b c T := (hb.block b k.lt).trans k
theorem Bk.alloc {o : Obj} (k : Bk w b c T) : Bk (w.alloc o) b c T := k.below ((Below.refl _ _).alloc (Nat.le_refl _) _)
theorem Bk.grown {r : Option Nat} (k : Bk w b c T) (g : w.grownBy w' r) (hr : r ≠ some b) : Bk w' b c T := (g.block b k.lt (fun e => hr e.symm)).trans k
theorem Bk.set (k : Bk w b c T) : Bk (w.setCell ⟨b, i, none⟩ v) b (c.setIfInBounds i v) T := by
  obtain ⟨hlt, hk⟩ := Array.getElem?_eq_some_iff.1 k
  show (w.heap.modify b _)[b]? = _
  rw [Array.getElem?_eq_getElem (by rw [Array.size_modify]; exact hlt), Array.getElem_modify_self, hk]
  rfl
theorem Bk.far (e : b' ≠ b) (k : Bk w b c T) : Bk (w.setCell ⟨b', i, none⟩ v) b c T := by
  show (w.heap.modify b' _)[b]? = _
  rw [Array.getElem?_modify, if_neg e]; exact k
end

theorem Bk.setG (w : World) (b i : Nat) (v : Value) : w.grownBy (w.setCell ⟨b, i, none⟩ v) (some b) :=
  ⟨rfl, rfl, rfl, by simp [World.setCell], fun k _ hr => Below.heap_setCell _ _ _ _ (by show k ≠ b; exact fun e => hr (by rw [e]))⟩
theorem rd_alloc {w : World} {B : Nat} {A : Option Addr} {xs : List Value} {o : Obj} (h : Rd w B A xs) (hB : B ≤ w.heap.size) : Rd (w.alloc o) B A xs := h.below ((Below.refl _ _).alloc hB _)
/-- A call's own memory, left to the caller. -/
theorem below_in {w a b : World} (h : Below w.heap.size w a) (k : Below a.heap.size a b) : Below w.heap.size w b := h.trans (k.mono h.size)

/-- A row of one's own is no block of another type. -/
theorem own_ne {w : World} {base g n c : Nat} {e T : TypeId} {s : Nat} {xs : List Value} {b : Nat} {cs : Array Value} (h : w.ownsRow base e s (.slice (some ⟨g, 0, none⟩) n c) n xs) (k : Bk w b cs T) (hT : e ≠ T) : (Value.slice (some ⟨g, 0, none⟩) n c).ownBlock ≠ some b := by
  intro hb
  have hb : g = b := by injection hb
  subst hb
  rcases h.2 with ⟨e1, _⟩ | ⟨g', cap, cur, e1, _, e3, _⟩
  · cases e1
  · injection e1 with e1; injection e1 with e1; injection e1 with e1
    subst e1
    rw [show w.heap[g]? = some (.cells cs T (0, 0)) from k] at e3
    injection e3 with e3
    injection e3 with _ e3
    exact hT e3.symm
theorem own_slice {w : World} {base n : Nat} {e : TypeId} {s : Nat} {v : Value} {xs : List Value} (h : w.ownsRow base e s v (n + 1) xs) : ∃ g c, v = .slice (some ⟨g, 0, none⟩) (n + 1) c := by
  rcases h.2 with ⟨_, e⟩ | ⟨g, cap, cur, e, _⟩
  · omega
  · exact ⟨g, cap, e⟩

end Go.Proofs.YtokncfhpmjohdaaGreat.Bk
namespace Go.Proofs.YtokncfhpmjohdaaGreat.Sq
open Go.RowKit Go.ChangeShapes Go.WideShapes Go.WideElems Go.Deep Go.Proofs.YtokncfhpmjohdaaGreat.Mem Go.Proofs.YtokncfhpmjohdaaGreat.Rw Go.Proofs.YtokncfhpmjohdaaGreat.P2 Go.Proofs.YtokncfhpmjohdaaGreat.Bk Go.Proofs.YtokncfhpmjohdaaGreat.Sp
set_option linter.unusedVariables false
set_option linter.unusedSimpArgs false
abbrev D := Dd.D
abbrev C := Cd.C
abbrev G := Int × Int × Int

/-- A show in memory: its three lists can be read. -/
def SR (w : World) (A0 A1 A2 : Option Addr) (ds : List D) (cs : List C) (gs : List G) : Prop := Rd w w.heap.size A0 (Dd.dls ds) ∧ Rd w w.heap.size A1 (Cd.dls cs) ∧ Rd w w.heap.size A2 (Gs.gls gs)
theorem SR.below {w w' : World} {A0 A1 A2 : Option Addr} {ds : List D} {cs : List C} {gs : List G} (h : SR w A0 A1 A2 ds cs gs) (hb : Below w.heap.size w w') : SR w' A0 A1 A2 ds cs gs :=
  ⟨(h.1.below hb).more hb.size, (h.2.1.below hb).more hb.size, (h.2.2.below hb).more hb.size⟩
section
variable {w w' : World} {A0 A1 A2 : Option Addr} {ds : List D} {cs : List C} {gs : List G}
theorem SR.r0 (h : SR w A0 A1 A2 ds cs gs) : Rd w w.heap.size A0 (Dd.dls ds) := h.1
theorem SR.r1 (h : SR w A0 A1 A2 ds cs gs) : Rd w w.heap.size A1 (Cd.dls cs) := h.2.1
theorem SR.r2 (h : SR w A0 A1 A2 ds cs gs) : Rd w w.heap.size A2 (Gs.gls gs) := h.2.2
theorem SR.at (h : SR w A0 A1 A2 ds cs gs) {B : Nat} (hB : w.heap.size ≤ B) (hb : Below w.heap.size w w') (hB2 : B ≤ w'.heap.size) : SR w' A0 A1 A2 ds cs gs := h.below hb
end
theorem SR.own {w : World} {base g0 g1 g2 n0 n1 n2 c0 c1 c2 : Nat} {ds : List D} {cs : List C} {gs : List G} {e0 e1 e2 : TypeId} {s0 s1 s2 : Nat}
    (h0 : w.ownsRow base e0 s0 (.slice (some ⟨g0, 0, none⟩) n0 c0) n0 (Dd.dls ds)) (h1 : w.ownsRow base e1 s1 (.slice (some ⟨g1, 0, none⟩) n1 c1) n1 (Cd.dls cs)) (h2 : w.ownsRow base e2 s2 (.slice (some ⟨g2, 0, none⟩) n2 c2) n2 (Gs.gls gs)) :
    SR w (some ⟨g0, 0, none⟩) (some ⟨g1, 0, none⟩) (some ⟨g2, 0, none⟩) ds cs gs := ⟨Rd.own h0, Rd.own h1, Rd.own h2⟩
/-- How many there are of each. -/
def Fit (n0 n1 n2 : Nat) (ds : List D) (cs : List C) (gs : List G) : Prop := (ds.length = n0 ∧ n0 ≤ 1048576) ∧ (cs.length = n1 ∧ n1 ≤ 1048576) ∧ (gs.length = n2 ∧ n2 ≤ 1048576)

theorem ret_int {a b : Int} (h : a = b) : Ending.returned (.int .i64 a) = .returned (.int .i64 b) := by rw [h]
/-- What is left behind a show. -/
def szA (n0 : Nat) (ds : List D) (n1 : Nat) (cs : List C) (n2 : Nat) : Int :=
  if Dl.szV n0 ds < 0 then -1 else if Cl.szW (Dl.szV n0 ds) n1 cs < 0 then -1 else if Cl.szW (Dl.szV n0 ds) n1 cs - (n2 : Int) < 0 then -1 else Cl.szW (Dl.szV n0 ds) n1 cs - (n2 : Int)
theorem szV_le (n : Nat) (zs : List D) : Dl.szV n zs ≤ 1048576 - n - Dl.bulk zs ∨ Dl.szV n zs = -1 := by
  unfold Dl.szV; split
  · exact Or.inr rfl
  · exact Or.inl (Int.le_refl _)
theorem szW_le (L : Int) (n : Nat) (zs : List C) : Cl.szW L n zs = L - n - Cl.bulk zs ∨ Cl.szW L n zs = -1 := by
  unfold Cl.szW; split
  · exact Or.inr rfl
  · exact Or.inl rfl
/-- What is known where enough is left. -/
theorem sz_fit {n0 : Nat} {ds : List D} {n1 : Nat} {cs : List C} {n2 : Nat} (h : ¬ szA n0 ds n1 cs n2 < 0) : n0 + n1 + n2 ≤ 1048576 ∧ Dl.bulk ds ≤ 1048576 ∧ Cl.bulk cs ≤ 1048576 := by
  unfold szA at h
  split at h
  · exact absurd (by decide) h
  split at h
  · exact absurd (by decide) h
  split at h
  · exact absurd (by decide) h
  have a := szV_le n0 ds
  have b := szW_le (Dl.szV n0 ds) n1 cs
  omega

set_option maxRecDepth 100000 in
set_option maxHeartbeats 2000000 in
theorem szShow (A0 : Option Addr) (n0 c0 : Nat) (A1 : Option Addr) (n1 c1 : Nat) (A2 : Option Addr) (n2 c2 : Nat) (T : Int) (ds : List D) (cs : List C) (gs : List G) (w : World)
    (hn0 : ds.length = n0) (hm0 : n0 ≤ maxLen) (hn1 : cs.length = n1) (hm1 : n1 ≤ maxLen) (hm2 : n2 ≤ maxLen) (hr : SR w A0 A1 A2 ds cs gs) (h0 : ∀ z ∈ ds, Dd.Dok z) (h1 : ∀ z ∈ cs, Cd.Dok z) :
    Calls Tryz.prog 7 #[sv A0 n0 c0 A1 n1 c1 A2 n2 c2 T, .int .i64 1048576] w fun e w' => e = .returned (.int .i64 (szA n0 ds n1 cs n2)) ∧ Below w.heap.size w w' := by
  have K := Bk.new w (sc A0 n0 c0 A1 n1 c1 A2 n2 c2 T) 26
  have B0 := (Below.refl w.heap.size w).alloc (Nat.le_refl _) (.cells (sc A0 n0 c0 A1 n1 c1 A2 n2 c2 T) 26)
  have S0 := hr.below B0
  have C0 := Lib.hid (Dl.szDeviceS A0 n0 c0 ds _ hn0 hm0 S0.1 h0)
  have e1 := szV_le n0 ds
  obtain ⟨V, hV⟩ : ∃ V, szA n0 ds n1 cs n2 = V := ⟨_, rfl⟩
  rw [hV]
  unfold szA at hV
  obtain ⟨L0, hL0⟩ : ∃ L, Dl.szV n0 ds = L := ⟨_, rfl⟩
  rw [hL0] at C0 e1 hV
  obtain ⟨L1, hL1⟩ : ∃ L, Cl.szW L0 n1 cs = L := ⟨_, rfl⟩
  have e2 := szW_le L0 n1 cs
  rw [hL1] at hV e2
  have HA := Lib.hid hV.symm
  clear hV
  have HK := Lib.hid K
  have HB := Lib.hid B0
  have HS := Lib.hid S0
  have E1 := Lib.hid e1
  have E2 := Lib.hid e2
  clear K B0 S0 hr e1 e2
  go_enter Tryz.func7, Tryz.ntmps7
  go_wp2_with fail
  refine C0.out.mono ?_
  rintro e w1 ⟨rfl, hb⟩
  have K1 := HK.out.below hb
  have S1 := HS.out.below hb
  have BB := Lib.hid (HB.out.trans (hb.mono HB.out.size))
  by_cases g0 : L0 < 0
  · clear hb C0 HK HB HS K1 S1
    go_wp2_with fail
    go_ret
    exact ⟨ret_int (by rw [HA.out, if_pos g0]), BB.out⟩
  have y1 := K1.cell (i := 1) rfl
  have C1 := Lib.hid (Cl.szCueW A1 n1 c1 cs L0 w1 (by omega) (by have := E1.out; omega) hn1 hm1 S1.2.1 h1)
  rw [hL1] at C1
  have K1' := Lib.hid K1
  clear hb C0 HK HB HS K1 S1
  go_wp2_with fail
  refine C1.out.mono ?_
  rintro e w2 ⟨rfl, hb⟩
  have K2 := K1'.out.below hb
  have B2 := Lib.hid (BB.out.trans (hb.mono BB.out.size))
  have y2 := K2.cell (i := 2) rfl
  clear hb C1 y1 K2 K1' BB
  by_cases g1 : L1 < 0
  · go_wp2_with fail
    go_ret
    exact ⟨ret_int (by rw [HA.out, if_neg (show ¬ L0 < 0 by omega), if_pos g1]), B2.out⟩
  have hle : L1 ≤ 1048576 := by have := E1.out; have := E2.out; omega
  by_cases g2 : L1 - (n2 : Int) < 0
  · have C2 := Lib.hid (SzG.no A2 n2 c2 L1 (by omega) hle hm2 g2 w2)
    go_wp2_with fail
    refine C2.out.mono ?_
    rintro e w3 ⟨rfl, rfl⟩
    go_wp2_with fail
    go_ret
    exact ⟨ret_int (by rw [HA.out, if_neg (show ¬ L0 < 0 by omega), if_neg (show ¬ L1 < 0 by omega), if_pos g2]), B2.out⟩
  · obtain ⟨R, hR⟩ : ∃ R, L1 - (n2 : Int) = R := ⟨_, rfl⟩
    have C2 := Lib.hid (SzG.yes A2 n2 c2 L1 R hle (by omega) hR w2)
    rw [hR] at HA
    have g3 : ¬ R < 0 := by omega
    clear hR
    go_wp2_with fail
    refine C2.out.mono ?_
    rintro e w3 ⟨rfl, rfl⟩
    go_wp2_with fail
    go_ret
    exact ⟨ret_int (by rw [HA.out, if_neg (show ¬ L0 < 0 by omega), if_neg (show ¬ L1 < 0 by omega), if_neg (show ¬ R < 0 by omega)]), B2.out⟩

set_option maxRecDepth 100000 in
set_option maxHeartbeats 2000000 in
theorem eqShow (A0 : Option Addr) (n0 c0 : Nat) (A1 : Option Addr) (n1 c1 : Nat) (A2 : Option Addr) (n2 c2 : Nat) (T : Int) (B0 : Option Addr) (d0 : Nat) (B1 : Option Addr) (d1 : Nat) (B2 : Option Addr) (d2 : Nat)
    (ds : List D) (cs : List C) (gs : List G) (w : World) (hf : Fit n0 n1 n2 ds cs gs) (hr : SR w A0 A1 A2 ds cs gs) (hs : SR w B0 B1 B2 ds cs gs) :
    Calls Tryz.prog 15 #[sv A0 n0 c0 A1 n1 c1 A2 n2 c2 T, sv B0 n0 d0 B1 n1 d1 B2 n2 d2 T] w fun e w' => e = .returned (.bool true) ∧ Below w.heap.size w w' := by
  obtain ⟨⟨hn0, hb0⟩, ⟨hn1, hb1⟩, hn2, hb2⟩ := hf
  have BA := (Below.refl w.heap.size w).alloc (Nat.le_refl _) (.cells (sc A0 n0 c0 A1 n1 c1 A2 n2 c2 T) 40)
  have BV := BA.alloc BA.size (.cells (sc B0 n0 d0 B1 n1 d1 B2 n2 d2 T) 40)
  have KA := Lib.hid ((Bk.new w (sc A0 n0 c0 A1 n1 c1 A2 n2 c2 T) 40).alloc (o := .cells (sc B0 n0 d0 B1 n1 d1 B2 n2 d2 T) 40))
  have KB := Lib.hid (Bk.new (w.alloc (.cells (sc A0 n0 c0 A1 n1 c1 A2 n2 c2 T) 40)) (sc B0 n0 d0 B1 n1 d1 B2 n2 d2 T) 40)
  have RA := Lib.hid (hr.below BV)
  have RB := Lib.hid (hs.below BV)
  have BB := Lib.hid BV
  have hz : (w.alloc (.cells (sc A0 n0 c0 A1 n1 c1 A2 n2 c2 T) 40)).heap.size = w.heap.size + 1 := by simp [go_sem]
  clear BA BV hr hs
  go_enter Tryz.func15, Tryz.ntmps15
  go_wp2_with fail
  refine (Dl.eqDeviceS A0 B0 n0 c0 d0 ds _ _ hn0 hb0 (Nat.le_refl _) RA.out.1 RB.out.1).mono ?_
  rintro e w1 ⟨rfl, hb⟩
  have KA1 := Lib.hid (KA.out.below hb)
  have KB1 := Lib.hid (KB.out.below hb)
  have RA1 := Lib.hid (RA.out.below hb)
  have RB1 := Lib.hid (RB.out.below hb)
  have BB1 := Lib.hid (BB.out.trans (hb.mono BB.out.size))
  have y1 := KA1.out.cell (i := 1) rfl
  have z1 := KB1.out.cell (i := 1) rfl
  rw [hz] at z1
  clear hb KA KB RA RB BB
  go_wp2_with fail
  refine (Cl.eqCueS A1 B1 n1 c1 d1 cs _ _ hn1 hb1 (Nat.le_refl _) RA1.out.2.1 RB1.out.2.1).mono ?_
  rintro e w2 ⟨rfl, hb⟩
  have KA2 := Lib.hid (KA1.out.below hb)
  have KB2 := Lib.hid (KB1.out.below hb)
  have RA2 := Lib.hid (RA1.out.below hb)
  have RB2 := Lib.hid (RB1.out.below hb)
  have BB2 := Lib.hid (BB1.out.trans (hb.mono BB1.out.size))
  have y2 := KA2.out.cell (i := 2) rfl
  have z2 := KB2.out.cell (i := 2) rfl
  rw [hz] at z2
  clear hb KA1 KB1 RA1 RB1 BB1 y1 z1
  go_wp2_with fail
  refine (Gs.eqGustS A2 B2 n2 c2 d2 gs _ _ hn2 hb2 (Nat.le_refl _) RA2.out.2.2 RB2.out.2.2).mono ?_
  rintro e w3 ⟨rfl, hb⟩
  have y3 := (KA2.out.below hb).cell (i := 3) rfl
  have z3 := (KB2.out.below hb).cell (i := 3) rfl
  rw [hz] at z3
  have BB3 := Lib.hid (BB2.out.trans (hb.mono BB2.out.size))
  clear hb KA2 KB2 RA2 RB2 BB2 y2 z2
  go_wp2_with fail
  go_ret
  exact ⟨rfl, BB3.out⟩
end Go.Proofs.YtokncfhpmjohdaaGreat.Sq
