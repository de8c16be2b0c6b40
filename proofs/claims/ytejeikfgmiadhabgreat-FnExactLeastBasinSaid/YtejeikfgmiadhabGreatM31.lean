/- What the program answers for the least box of a list of places. -/
import Derived.Test.YtejeikfgmiadhabGreatM30
import Derived.Test.YtejeikfgmiadhabGreatM28
import Derived.Test.YtejeikfgmiadhabGreatWr
import Derived.Test.YtejeikfgmiadhabGreatM9
set_option linter.unusedVariables false
set_option linter.unusedSimpArgs false
namespace Go.Proofs.YtejeikfgmiadhabGreat.Bi
open Go.RowKit Go.Proofs.YtejeikfgmiadhabGreat.Mem Go.Proofs.YtejeikfgmiadhabGreat.Cx Go.Proofs.YtejeikfgmiadhabGreat.Cm Go.Proofs.YtejeikfgmiadhabGreat.Pl Go.Proofs.YtejeikfgmiadhabGreat.Str Go.Proofs.YtejeikfgmiadhabGreat.Pw Go.Proofs.YtejeikfgmiadhabGreat.P2 Go.Proofs.YtejeikfgmiadhabGreat.Bx Go.Proofs.YtejeikfgmiadhabGreat.Tb Go.Proofs.YtejeikfgmiadhabGreat.Pls Go.Proofs.YtejeikfgmiadhabGreat.Bo
set_option linter.unusedVariables false

/-- The places as words. -/
def cx (zs : List (Int × Int)) : List Value := zs.map fun p => .complex .f32 (Meas.f32 p.1) (Meas.f32 p.2)
theorem cx_len (zs : List (Int × Int)) : (cx zs).length = zs.length := List.length_map ..
theorem cx_get {zs : List (Int × Int)} {k : Nat} {p : Int × Int} (h : zs[k]? = some p) : (cx zs)[k]? = some (.complex .f32 (Meas.f32 p.1) (Meas.f32 p.2)) := by
  unfold cx; rw [List.getElem?_map, h]; rfl

theorem infoC : (Tryz.prog.info? 81).map (fun i => (i.zero, i.size, i.bytes)) = some (some (.complex .f32 0 0), 1, 8) := by kernel_rfl
theorem made_cx (n : Nat) : (madeCells (Value.complex .f32 0 0).cells (n * 1)).toList = List.replicate n (.complex .f32 0 0) := by
  apply List.ext_getElem?
  intro j
  rw [Nat.mul_one, Array.getElem?_toList, List.getElem?_replicate]
  simp only [madeCells, Value.cells]
  by_cases h : j < n <;> simp [h, Nat.mod_one]

@[go_sem] theorem run_store_complex (P : Program) (w : World) (a : Addr) (m : Mode) (k : FloatKind) (b c : Nat) : (store a (.complex k b c) m).run P w = stored P w a (.complex k b c) m := run_store P w a _ m rfl

/-- What the words of a list of places are: none, where one of them is no place. -/
def Told (w : World) (n : Nat) (zs : List (Int × Int)) (e : Ending) (w' : World) : Prop :=
  Below w.heap.size w w' ∧ ((good zs = false ∧ e = .returned (.tuple #[.slice none 0 0, .bool false])) ∨
    (good zs = true ∧ ∃ g, e = .returned (.tuple #[.slice (some ⟨g, 0, none⟩) n n, .bool true]) ∧ w'.ownsRow w.heap.size 81 1 (.slice (some ⟨g, 0, none⟩) n n) n (cx zs)))

set_option maxHeartbeats 2000000 in
theorem complexesOf (A : Option Addr) (n c : Nat) (zs : List (Int × Int)) (w : World) (hn : zs.length = n) (hb : n ≤ 1048576) (hr : Rd w w.heap.size A (pls zs)) :
    Calls Tryz.prog 95 #[.slice A n c] w (Told w n zs) := by
  obtain ⟨i0, hi, hz0, hz1, hz2⟩ := info_parts2 infoC
  have HR := Lib.hid hr
  have HN := Lib.hid hn
  clear hr hn
  go_enter Tryz.func95, Tryz.ntmps95
  go_wp2_with (at_make; refine wpList_make_full _ rfl _ _ 134 rfl w.heap.size 81 i0 (.complex .f32 0 0) 1 Tryz.underlying134 hi hz0 hz1 .i64 .i64 n n n rfl rfl rfl rfl (by rw [hz2]; omega) (by unfold maxLen; omega) (Nat.le_refl _) ?_; intro w1 hown hgrow; clear hi hz0 hz1 hz2)
  have R0 := Lib.hid (show w1.ownsRow w.heap.size 81 1 (.slice (some ⟨w.heap.size, 0, none⟩) n n) n (filled (cx zs) (.complex .f32 0 0) 0) by
    rw [filled_zero, cx_len, HN.out]; rw [made_cx] at hown; exact hown)
  have B0 := Lib.hid (show Below w.heap.size w w1 from (Below.refl _ _).grown hgrow (Nat.le_refl _) (fun k hk => by cases hk))
  clear hown hgrow
  go_loopw [12] (fun i wr => ∃ k : Nat, k ≤ n ∧ i = .int .i64 k ∧ Hid (good (zs.take k) = true) ∧ Hid (wr.ownsRow w.heap.size 81 1 (.slice (some ⟨w.heap.size, 0, none⟩) n n) n (filled (cx zs) (.complex .f32 0 0) k)) ∧ Hid (Below w.heap.size w wr)) (fun i _ => n - (intOf i).toNat)
  case atStart => exact ⟨0, Nat.zero_le _, rfl, rfl, R0, B0⟩
  case round =>
    obtain ⟨k, hk, rfl, GK, RK, BK⟩ := hrel
    by_cases hlt : k < n
    · have hl : (cx zs).length = n := by rw [cx_len, HN.out]
      obtain ⟨b, o, eA, hbl, hcell⟩ := HR.out.get (k := k * 2) (by rw [pls_len, HN.out]; omega)
      have hkz : k < zs.length := by rw [HN.out]; exact hlt
      obtain ⟨z, hz⟩ : ∃ z, zs[k]? = some z := ⟨_, List.getElem?_eq_getElem hkz⟩
      have HZ := Lib.hid hz
      obtain ⟨z0, z1⟩ := pls_get hz
      have z2 := cx_get hz
      obtain ⟨x, y⟩ := z
      have c1 : wr.cell? ⟨b, o + k * 2, none⟩ = some (.int .i64 x) := (BK.out.cell (p := ⟨b, o + k * 2, none⟩) hbl).trans (hcell _ _ z0)
      have c2 : wr.cell? ⟨b, o + k * 2 + 1, none⟩ = some (.int .i64 y) := by
        rw [Nat.add_assoc]; exact (BK.out.cell (p := ⟨b, o + (k * 2 + 1), none⟩) hbl).trans (hcell _ _ z1)
      have c3 : wr.cell? ⟨w.heap.size, k, none⟩ = some (.complex .f32 0 0) := (RK.out.cellAt k (by omega)).trans (filled_get (by omega))
      have f3 := RK.out.frozenAt k
      have q1 : w.heap.size < wr.heap.size := World.block_lt_of_cell? wr _ c3
      have q2 : ∀ j, w.heap.size < wr.heap.size + j := fun j => by omega
      have p1 : b < wr.heap.size := World.block_lt_of_cell? wr _ c1
      have p2 : ∀ j, b < wr.heap.size + j := fun j => by omega
      have Z2 := Lib.hid (filled_put (z := .complex .f32 0 0) z2)
      clear hbl hcell hkz hz R0 B0 z0 z1 hl z2
      subst eA
      cases hp : (ms x && ms y)
      · have F := Lib.hid (good_at HZ.out hp)
        have C := Lib.hid (isPlaceI_of hp)
        clear hp
        go_wp2_with fail
        refine (C.out _).mono ?_
        rintro e w' ⟨rfl, rfl⟩
        go_wp2_with fail
        go_ret2
        exact ⟨BK.out.trans (by have h9 := BK.out.size; go_grown), Or.inl ⟨F.out, rfl⟩⟩
      · obtain ⟨hx, hy⟩ := pl_yes hp
        have C := Lib.hid (isPlaceI_of hp)
        have G1 := Lib.hid (show good (zs.take (k + 1)) = true by rw [good_take HZ.out, GK.out, hp]; rfl)
        have D := Lib.hid (complexOf x y (by omega) (by omega))
        clear hp hx hy
        go_wp2_with fail
        refine (C.out _).mono ?_
        rintro e w' ⟨rfl, rfl⟩
        go_wp2_with fail
        refine (D.out _).mono ?_
        rintro e w' ⟨rfl, rfl⟩
        go_wp2_with fail
        go_roundw
        case rel =>
          obtain ⟨r1, r2⟩ := RK.out.stored k (.complex .f32 (Meas.f32 x) (Meas.f32 y))
          rw [Z2.out] at r1
          have b1 := BK.out.grown r2 (by exact BK.out.size) (fun g hg => by cases hg; exact Nat.le_refl _)
          exact ⟨k + 1, by omega, by go_num, G1, Lib.hid (owns_below r1 (by go_grown)), Lib.hid (b1.trans (Below.mono (by go_grown) b1.size))⟩
        case measure => simp [intOf]; omega
    · obtain rfl : k = n := by omega
      go_wp2
      go_ret2
      have h1 := RK.out
      have h2 := GK.out
      rw [show k = (cx zs).length by rw [cx_len, HN.out], filled_all] at h1
      rw [show zs.take k = zs by rw [← HN.out, List.take_length]] at h2
      refine ⟨BK.out, Or.inr ⟨h2, w.heap.size, rfl, ?_⟩⟩
      rw [cx_len, HN.out] at h1
      exact h1

theorem ms_le {x y : Int} (h : (ms x && ms y) = true) : V x ∧ V y := pl_yes h
theorem V.min {a b : Int} (h : V a) (k : V b) : V (min a b) := by unfold V at *; omega
theorem V.max {a b : Int} (h : V a) (k : V b) : V (max a b) := by unfold V at *; omega

/-- The box so far, where the first place is p. -/
def sofar (zs : List (Int × Int)) (p : Int × Int) (k : Nat) : Q4 := if k = 0 then one p else boxA (zs.take k)
theorem sofar_next {zs : List (Int × Int)} {p z : Int × Int} {k : Nat} (h0 : zs[0]? = some p) (h : zs[k]? = some z) : sofar zs p (k + 1) = Bo.step (sofar zs p k) z := by
  have := boxA_take h
  unfold sofar
  rw [if_neg (by omega), this]
  by_cases e : k = 0
  · subst e
    rw [h0] at h
    injection h with h
    subst h
    rfl
  · rw [if_neg e, if_neg e]

set_option maxHeartbeats 4000000 in
theorem leastBox (A : Option Addr) (n c : Nat) (zs : List (Int × Int)) (H : Nat) (w : World) (hn : zs.length = n) (h0 : 0 < n) (hb : n ≤ 1048576) (hg : good zs = true) (hH : H ≤ w.heap.size) (hr : Rd w H A (cx zs)) :
    Calls Tryz.prog 94 #[.slice A n c] w fun e w' => e = .returned (bq (boxA zs)) ∧ Below w.heap.size w w' := by
  have HR := Lib.hid (hr.more hH)
  have HN := Lib.hid hn
  have HG := Lib.hid (show ∀ (k : Nat) x y, zs[k]? = some (x, y) → V x ∧ V y from fun k x y h => ms_le (List.all_eq_true.1 hg _ (List.mem_of_getElem? h)))
  have hl0 : 0 < (cx zs).length := by rw [cx_len]; omega
  obtain ⟨p, hp⟩ : ∃ p, zs[0]? = some p := ⟨_, List.getElem?_eq_getElem (by omega)⟩
  obtain ⟨x0, y0⟩ := p
  obtain ⟨b, o, eA, hbl, hcell⟩ := HR.out.get hl0
  have c0 : w.cell? ⟨b, o, none⟩ = some (.complex .f32 (Meas.f32 x0) (Meas.f32 y0)) := hcell 0 _ (cx_get hp)
  have HP := Lib.hid hp
  have hn0 : (0 : Int) < (n : Int) := by omega
  have lg2 : ∀ j, b < w.heap.size + j := fun j => by omega
  have hcell := Lib.hid hcell
  subst eA
  clear hr hn hg hl0 hp
  go_enter Tryz.func94, Tryz.ntmps94
  go_wp2_with fail
  go_region_held3 (fun w' => w'.cell? ⟨b, o, none⟩ = some (.complex .f32 (Meas.f32 x0) (Meas.f32 y0))) (simp [go_sem, *]) (fail)
  go_wp2_with fail
  go_loop [3, 4, 19] (fun lo hi i => ∃ k : Nat, k ≤ n ∧ i = .int .i64 k ∧ ∃ r1 r2 r3 r4 : Nat, lo = .complex .f32 r1 r2 ∧ hi = .complex .f32 r3 r4 ∧ ∃ q1 q2 q3 q4 : Int, Hid ((q1, q2, q3, q4) = sofar zs (x0, y0) k) ∧ Hid (I32 q1 r1 ∧ I32 q2 r2 ∧ I32 q3 r3 ∧ I32 q4 r4) ∧ Hid (V q1 ∧ V q2 ∧ V q3 ∧ V q4)) (fun _ _ i => n - (intOf i).toNat)
  case atStart =>
    obtain ⟨hx, hy⟩ := HG.out 0 _ _ HP.out
    exact ⟨0, Nat.zero_le _, rfl, _, _, _, _, rfl, rfl, x0, y0, x0, y0, rfl, Lib.hid ⟨i32_f32 x0, i32_f32 y0, i32_f32 x0, i32_f32 y0⟩, Lib.hid ⟨hx, hy, hx, hy⟩⟩
  case round =>
    obtain ⟨k, hk, rfl, r1, r2, r3, r4, rfl, rfl, q1, q2, q3, q4, QK, IK, VK⟩ := hrel
    obtain ⟨v1, v2, v3, v4⟩ := VK.out
    obtain ⟨i1, i2, i3, i4⟩ := IK.out
    by_cases hlt : k < n
    · have hkz : k < zs.length := by rw [HN.out]; exact hlt
      obtain ⟨z, hz⟩ : ∃ z, zs[k]? = some z := ⟨_, List.getElem?_eq_getElem hkz⟩
      obtain ⟨x, y⟩ := z
      obtain ⟨hx, hy⟩ := HG.out k _ _ hz
      have c1 : w.cell? ⟨b, o + k, none⟩ = some (.complex .f32 (Meas.f32 x) (Meas.f32 y)) := hcell.out k _ (cx_get hz)
      have E := Lib.hid (sofar_next HP.out hz)
      obtain ⟨s1, g1, j1⟩ := fmin (P := Tryz.prog) (by omega) (by omega) i1 (i32_f32 x)
      obtain ⟨s2, g2, j2⟩ := fmin (P := Tryz.prog) (by omega) (by omega) i2 (i32_f32 y)
      obtain ⟨s3, g3, j3⟩ := fmax (P := Tryz.prog) (by omega) (by omega) i3 (i32_f32 x)
      obtain ⟨s4, g4, j4⟩ := fmax (P := Tryz.prog) (by omega) (by omega) i4 (i32_f32 y)
      have J := Lib.hid (And.intro j1 (And.intro j2 (And.intro j3 j4)))
      have VV := Lib.hid (And.intro (V.min v1 hx) (And.intro (V.min v2 hy) (And.intro (V.max v3 hx) (V.max v4 hy))))
      clear hkz hz hx hy j1 j2 j3 j4 v1 v2 v3 v4 i1 i2 i3 i4 IK VK
      go_wp2_with fail
      go_round
      case rel =>
        refine ⟨k + 1, by omega, by go_num, s1, s2, s3, s4, rfl, rfl, _, _, _, _, ?_, J, VV⟩
        have h7 := E.out
        rw [← QK.out] at h7
        exact Lib.hid h7.symm
      case measure => simp [intOf]; omega
    · obtain rfl : k = n := by omega
      have E := Lib.hid (show (q1, q2, q3, q4) = boxA zs by
        have := QK.out
        unfold sofar at this
        rwa [if_neg (by omega), ← HN.out, List.take_length] at this)
      have D1 := Lib.hid (toldYes v1 v2 i1 i2)
      have D2 := Lib.hid (toldYes v3 v4 i3 i4)
      clear v1 v2 v3 v4 i1 i2 i3 i4 IK VK
      go_wp2_with fail
      refine (D1.out _).mono ?_
      rintro e w' ⟨rfl, rfl⟩
      go_wp2_with fail
      refine (D2.out _).mono ?_
      rintro e w' ⟨rfl, rfl⟩
      go_wp2_with fail
      go_returns
      refine ⟨?_, by go_grown⟩
      rw [← E.out]; rfl

theorem val_nil {zs : List (Int × Int)} (h : zs.length = 0) : Value.tuple #[box4 0 0 0 0, .bool false] = .tuple #[bq (val zs), .bool (okB zs)] := by
  match zs, h with
  | [], _ => rfl

end Go.Proofs.YtejeikfgmiadhabGreat.Bi
namespace Go.Proofs.YtejeikfgmiadhabGreat.Wx
open Go.RowKit Go.Proofs.YtejeikfgmiadhabGreat.Mem Go.Proofs.YtejeikfgmiadhabGreat.Rw Go.Proofs.YtejeikfgmiadhabGreat.Bk Go.Proofs.YtejeikfgmiadhabGreat.Cx Go.Proofs.YtejeikfgmiadhabGreat.Cm Go.Proofs.YtejeikfgmiadhabGreat.Jt Go.Proofs.YtejeikfgmiadhabGreat.Pl Go.Proofs.YtejeikfgmiadhabGreat.Str Go.Proofs.YtejeikfgmiadhabGreat.Pw Go.Proofs.YtejeikfgmiadhabGreat.P2 Go.Proofs.YtejeikfgmiadhabGreat.Gs Go.Proofs.YtejeikfgmiadhabGreat.Wm Go.Proofs.YtejeikfgmiadhabGreat.Wi Go.Proofs.YtejeikfgmiadhabGreat.Wa Go.Proofs.YtejeikfgmiadhabGreat.Wb Go.Proofs.YtejeikfgmiadhabGreat.Wc Go.Proofs.YtejeikfgmiadhabGreat.We Go.Proofs.YtejeikfgmiadhabGreat.Pls Go.Proofs.YtejeikfgmiadhabGreat.Bi Go.Proofs.YtejeikfgmiadhabGreat.Bo Go.Proofs.YtejeikfgmiadhabGreat.Tb Go.Proofs.YtejeikfgmiadhabGreat.Wr
set_option linter.unusedVariables false
set_option linter.unusedSimpArgs false

def fUp (zs : List G) (ps : List (Int × Int)) (k : Nat) : Bool := (List.range k).all fun j : Nat => decide (dr zs (j : Int) ∈ ps)
/-- Whether a wind fits a rose for n ticks. -/
def fr (zs : List G) (ps : List (Int × Int)) (t : Int) : Bool := wd zs && rs ps && decide (t ≤ 128) && fUp zs ps t.toNat
/-- None of the first k is p. -/
def Not (ps : List (Int × Int)) (p : Int × Int) (k : Nat) : Prop := ∀ j, j < k → ps[j]? ≠ some p
theorem Not.zero (ps : List (Int × Int)) (p : Int × Int) : Not ps p 0 := fun j hj => absurd hj (Nat.not_lt_zero _)
theorem Not.next {ps : List (Int × Int)} {p q : Int × Int} {k : Nat} (h : Not ps p k) (hq : ps[k]? = some q) (hne : q ≠ p) : Not ps p (k + 1) := by
  intro j hj
  by_cases e : j = k
  · subst e; rw [hq]; intro h; injection h with h; exact hne h
  · exact h j (by omega)
theorem Not.all {ps : List (Int × Int)} {p : Int × Int} {k : Nat} (h : Not ps p k) (hk : ps.length = k) : decide (p ∈ ps) = false := by
  apply decide_eq_false
  intro hp
  obtain ⟨j, hj, e⟩ := List.mem_iff_getElem.1 hp
  exact h j (by omega) (by rw [List.getElem?_eq_getElem hj, e])

theorem roseI {A : Option Addr} {n c : Nat} {zs : List (Int × Int)} {H : Nat} {r : Bool} (hn : zs.length = n) (hb : n ≤ 1048576) (h : rs zs = r) (w : World) (hH : H ≤ w.heap.size) (hr : Rd w H A (pls zs)) :
    Calls Tryz.prog 41 #[.slice A n c] w fun e w' => e = .returned (.bool r) ∧ Below w.heap.size w w' := h ▸ isRoseI A n c zs H w hn hb hH hr
theorem roseS {A : Option Addr} {n c : Nat} {zs : List (Int × Int)} {H : Nat} {r : Bool} (hn : zs.length = n) (hb : n ≤ 1048576) (h : rs zs = r) (w : World) (hH : H ≤ w.heap.size) (hr : Rd w H A (pls zs)) :
    Calls Tryz.prog 33 #[.slice A n c] w fun e w' => e = .returned (.bool r) ∧ Below w.heap.size w w' := h ▸ isRoseS A n c zs H w hn hb hH hr
/-- The places of a rose are near. -/
theorem near_rs {ps : List (Int × Int)} (h : rs ps = true) : Near 8 ps := by
  intro p hp
  obtain ⟨j, hj, e⟩ := List.mem_iff_getElem.1 hp
  exact rs_each h (k := j) (by rw [List.getElem?_eq_getElem hj, e])
theorem good_rs {ps : List (Int × Int)} (h : rs ps = true) : good ps = true := by
  unfold good
  rw [List.all_eq_true]
  intro p hp
  have := near_rs h p hp
  exact pl_mk (by omega) (by omega)
end Go.Proofs.YtejeikfgmiadhabGreat.Wx
namespace Go.Proofs.YtejeikfgmiadhabGreat.Hd
end Go.Proofs.YtejeikfgmiadhabGreat.Hd
