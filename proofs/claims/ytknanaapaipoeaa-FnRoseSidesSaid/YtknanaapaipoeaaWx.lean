/- Whether a wind fits a rose, of the program and of the model. -/
import Derived.Test.YtknanaapaipoeaaWg
import Derived.Test.YtknanaapaipoeaaWr
import Derived.Test.YtknanaapaipoeaaBiq
namespace Go.Proofs.Ytknanaapaipoeaa.Wx
open Go.RowKit Go.Proofs.Ytknanaapaipoeaa.Mem Go.Proofs.Ytknanaapaipoeaa.Rw Go.Proofs.Ytknanaapaipoeaa.Bk Go.Proofs.Ytknanaapaipoeaa.Cx Go.Proofs.Ytknanaapaipoeaa.Cm Go.Proofs.Ytknanaapaipoeaa.Jt Go.Proofs.Ytknanaapaipoeaa.Pl Go.Proofs.Ytknanaapaipoeaa.Str Go.Proofs.Ytknanaapaipoeaa.Pw Go.Proofs.Ytknanaapaipoeaa.P2 Go.Proofs.Ytknanaapaipoeaa.Gs Go.Proofs.Ytknanaapaipoeaa.Wm Go.Proofs.Ytknanaapaipoeaa.Wi Go.Proofs.Ytknanaapaipoeaa.Wa Go.Proofs.Ytknanaapaipoeaa.Wb Go.Proofs.Ytknanaapaipoeaa.Wc Go.Proofs.Ytknanaapaipoeaa.We Go.Proofs.Ytknanaapaipoeaa.Pls Go.Proofs.Ytknanaapaipoeaa.Bi Go.Proofs.Ytknanaapaipoeaa.Bo Go.Proofs.Ytknanaapaipoeaa.Tb Go.Proofs.Ytknanaapaipoeaa.Wr
set_option linter.unusedVariables false
set_option linter.unusedSimpArgs false

def fUp (zs : List G) (ps : List (Int × Int)) (k : Nat) : Bool := (List.range k).all fun j : Nat => decide (dr zs (j : Int) ∈ ps)
theorem fUp_zero (zs : List G) (ps : List (Int × Int)) : fUp zs ps 0 = true := rfl
theorem fUp_succ {zs : List G} {ps : List (Int × Int)} {k : Nat} : fUp zs ps (k + 1) = (fUp zs ps k && decide (dr zs (k : Int) ∈ ps)) := by
  unfold fUp; rw [List.range_succ, List.all_append]; simp
theorem fUp_no {zs : List G} {ps : List (Int × Int)} {k m : Nat} (hk : k < m) (h : decide (dr zs (k : Int) ∈ ps) = false) : fUp zs ps m = false := by
  unfold fUp; rw [List.all_eq_false]; exact ⟨k, List.mem_range.2 hk, by rw [h]; decide⟩
/-- Whether a wind fits a rose for n ticks. -/
def fr (zs : List G) (ps : List (Int × Int)) (t : Int) : Bool := wd zs && rs ps && decide (t ≤ 128) && fUp zs ps t.toNat
theorem fr_no {zs : List G} {ps : List (Int × Int)} {t : Int} (h : wd zs = false ∨ rs ps = false ∨ 128 < t) : fr zs ps t = false := by
  unfold fr
  rcases h with h | h | h
  · rw [h]; rfl
  · rw [h]; simp
  · rw [decide_eq_false (p := t ≤ 128) (by omega)]; simp
theorem fr_yes {zs : List G} {ps : List (Int × Int)} {t : Int} (h : wd zs = true) (h2 : rs ps = true) (ht : t ≤ 128) : fr zs ps t = fUp zs ps t.toNat := by
  unfold fr; rw [h, h2, decide_eq_true ht]; rfl
theorem f_cases (zs : List G) (ps : List (Int × Int)) (t : Int) : wd zs = false ∨ wd zs = true ∧ rs ps = false ∨ wd zs = true ∧ rs ps = true ∧ 128 < t ∨ wd zs = true ∧ rs ps = true ∧ t ≤ 128 := by
  cases wd zs
  · exact Or.inl rfl
  cases rs ps
  · exact Or.inr (Or.inl ⟨rfl, rfl⟩)
  by_cases h : 128 < t
  · exact Or.inr (Or.inr (Or.inl ⟨rfl, rfl, h⟩))
  · exact Or.inr (Or.inr (Or.inr ⟨rfl, rfl, by omega⟩))

theorem ceql {P : Program} {a b c d : Int} {x y u v : Nat} (ha : a.natAbs < 16777216) (hb : b.natAbs < 16777216) (hc : c.natAbs < 16777216) (hd : d.natAbs < 16777216) (hx : I32 a x) (hy : I32 b y) (hu : I32 c u) (hv : I32 d v) (r : Bool) (hr : r = (decide (a = c) && decide (b = d))) (t : TypeId) (w : World) :
    (binOp .eql t (.complex .f32 x y) (.complex .f32 u v)).run P w = .ok (.bool r) w := by
  have key : ∀ {a b : Int}, (some (compare a b) == some Ordering.eq) = decide (a = b) := by
    intro a b
    by_cases h : a = b
    · subst h; simp [compare, compareOfLessAndEq]
    · simp [compare, compareOfLessAndEq, h]
      split <;> simp
  rw [run_eql_complex]
  have e1 : FloatKind.f32.format.order x u = some (compare a c) := order_is (s32 a ha) (s32 c hc) hx hu
  have e2 : FloatKind.f32.format.order y v = some (compare b d) := order_is (s32 b hb) (s32 d hd) hy hv
  rw [e1, e2, key, key, hr]

/-- None of the first k is p. -/
def Not (ps : List (Int × Int)) (p : Int × Int) (k : Nat) : Prop := ∀ j, j < k → ps[j]? ≠ some p
theorem Not.zero (ps : List (Int × Int)) (p : Int × Int) : Not ps p 0 := fun j hj => absurd hj (Nat.not_lt_zero _)
theorem Not.next {ps : List (Int × Int)} {p q : Int × Int} {k : Nat} (h : Not ps p k) (hq : ps[k]? = some q) (hne : q ≠ p) : Not ps p (k + 1) := by
  intro j hj
  by_cases e : j = k
  · subst e; rw [hq]; intro h; injection h with h; exact hne h
  · exact h j (by omega)
theorem Not.all {ps : List (Int × Int)} {p : Int × Int} {k : Nat} (h : Not ps p k) (hk : ps.length = k) : decide (p ∈ ps) = false := by
  apply decide_eq_false
  intro hp
  obtain ⟨j, hj, e⟩ := List.mem_iff_getElem.1 hp
  exact h j (by omega) (by rw [List.getElem?_eq_getElem hj, e])

set_option maxRecDepth 100000 in
set_option maxHeartbeats 2000000 in
theorem index (A : Option Addr) (n c : Nat) (ps : List (Int × Int)) (x y : Int) (H : Nat) (w : World) (hn : ps.length = n) (hb : n ≤ 1048576) (hr : Rd w H A (zs2 ps)) (hl : Near 8 ps) (hx : (-8 ≤ x ∧ x ≤ 8) ∧ (-8 ≤ y ∧ y ≤ 8)) :
    Calls Try.prog 106 #[.slice A n c, .complex .f32 (Meas.f32 x) (Meas.f32 y)] w fun e w' => (∃ R : Int, e = .returned (.int .i64 R) ∧ -1 ≤ R ∧ (0 ≤ R ↔ (x, y) ∈ ps)) ∧ w = w' := by
  have HR := Lib.hid hr
  have HN := Lib.hid hn
  have HL := Lib.hid hl
  have HX := Lib.hid hx
  clear hr hn hl hx
  go_enter Try.func106, Try.ntmps106
  go_wp2_with fail
  go_loop [8] (fun i => ∃ k : Nat, k ≤ n ∧ i = .int .i64 k ∧ Hid (Not ps (x, y) k)) (fun i => n - (intOf i).toNat)
  case atStart => exact ⟨0, Nat.zero_le _, rfl, Lib.hid (Not.zero _ _)⟩
  case round =>
    obtain ⟨k, hk, rfl, NK⟩ := hrel
    by_cases hlt : k < n
    · have hkz : k < ps.length := by rw [HN.out]; exact hlt
      obtain ⟨p, hp⟩ : ∃ p, ps[k]? = some p := ⟨_, List.getElem?_eq_getElem hkz⟩
      obtain ⟨b, o, eA, hbl, hcell⟩ := HR.out.get (k := k) (by rw [zs2_len]; exact hkz)
      have c1 : w.cell? ⟨b, o + k, none⟩ = some (.complex .f32 (Meas.f32 p.1) (Meas.f32 p.2)) := hcell _ _ (zs2_get hp)
      have hq := HL.out.at hp
      have hx := HX.out
      obtain ⟨u, v⟩ := p
      simp only at hq c1
      have EQ0 := ceql (P := Try.prog) (a := x) (b := y) (c := u) (d := v) (x := Meas.f32 x) (y := Meas.f32 y) (u := Meas.f32 u) (v := Meas.f32 v) (by omega) (by omega) (by omega) (by omega) (i32_f32 x) (i32_f32 y) (i32_f32 u) (i32_f32 v)
      by_cases he : (u, v) = (x, y)
      · have EQ := EQ0 true (by injection he with e1 e2; rw [e1, e2]; simp)
        have F := Lib.hid (show ((0 : Int) ≤ (k : Int) ↔ (x, y) ∈ ps) from ⟨fun _ => he ▸ List.mem_of_getElem? hp, fun _ => by omega⟩)
        clear EQ0 hcell hp hkz hbl hq hx he
        subst eA
        go_wp2_with fail
        go_ret
        exact ⟨⟨_, rfl, by omega, F.out⟩, rfl⟩
      · have EQ := EQ0 false (by by_cases h1 : x = u <;> by_cases h2 : y = v <;> simp_all)
        have NN := Lib.hid (NK.out.next hp he)
        clear EQ0 hcell hp hkz hbl hq hx he
        subst eA
        go_wp2_with fail
        go_round
        case rel => exact ⟨k + 1, by omega, by go_num, NN⟩
        case measure => simp [intOf]; omega
    · obtain rfl : k = n := by omega
      have F := Lib.hid (show ((0 : Int) ≤ -1 ↔ (x, y) ∈ ps) from ⟨fun h => by omega, fun h => absurd h (of_decide_eq_false (NK.out.all HN.out))⟩)
      go_wp2_with fail
      go_ret
      exact ⟨⟨_, rfl, by omega, F.out⟩, rfl⟩

set_option maxHeartbeats 1000000 in
theorem contains (A : Option Addr) (n c : Nat) (ps : List (Int × Int)) (x y : Int) (H : Nat) (w : World) (hn : ps.length = n) (hb : n ≤ 1048576) (hr : Rd w H A (zs2 ps)) (hl : Near 8 ps) (hx : (-8 ≤ x ∧ x ≤ 8) ∧ (-8 ≤ y ∧ y ≤ 8)) :
    Calls Try.prog 80 #[.slice A n c, .complex .f32 (Meas.f32 x) (Meas.f32 y)] w fun e w' => e = .returned (.bool (decide ((x, y) ∈ ps))) ∧ w = w' := by
  have I := Lib.hid (index A n c ps x y H w hn hb hr hl hx)
  clear hn hr hl hx
  go_enter Try.func80, Try.ntmps80
  go_wp2_with fail
  refine I.out.mono ?_
  rintro e w' ⟨⟨R, rfl, hR, F⟩, rfl⟩
  have F := Lib.hid (show decide (0 ≤ R) = decide ((x, y) ∈ ps) from decide_eq_decide.2 F)
  go_wp2_with fail
  go_ret
  exact ⟨by rw [← F.out]; rfl, rfl⟩

set_option maxRecDepth 100000 in
set_option maxHeartbeats 2000000 in
theorem l4In (A : Option Addr) (n c : Nat) (ps : List (Int × Int)) (x y : Int) (H : Nat) (w : World) (hn : ps.length = n) (hb : n ≤ 1048576) (hH : H ≤ w.heap.size) (hr : Rd w H A (pls ps)) :
    Calls Try.prog 89 #[.slice A n c, .agg #[.int .i64 x, .int .i64 y]] w fun e w' => e = .returned (.bool (decide ((x, y) ∈ ps))) ∧ Below w.heap.size w w' := by
  have HR := Lib.hid (hr.more hH)
  have HN := Lib.hid hn
  clear hr hn hH
  go_enter Try.func89, Try.ntmps89
  go_wp2_with fail
  go_loopw [9] (fun i wr => ∃ k : Nat, k ≤ n ∧ i = .int .i64 k ∧ Hid (Not ps (x, y) k) ∧ Hid (Bk wr w.heap.size (pc x y) 28) ∧ Hid (Below w.heap.size w wr)) (fun i _ => n - (intOf i).toNat)
  case atStart => exact ⟨0, Nat.zero_le _, rfl, Lib.hid (Not.zero _ _), Lib.hid (Bk.new w _ _), Lib.hid (by go_grown)⟩
  case round =>
    obtain ⟨k, hk, rfl, NK, PK, BK⟩ := hrel
    have hbs := BK.out.size
    by_cases hlt : k < n
    · have hkz : k < ps.length := by rw [HN.out]; exact hlt
      have hl : k * 2 < (pls ps).length := by rw [pls_len]; omega
      obtain ⟨p, hp⟩ : ∃ p, ps[k]? = some p := ⟨_, List.getElem?_eq_getElem hkz⟩
      obtain ⟨b, o, eA, hbl, hcell⟩ := (HR.out.below BK.out).get hl
      obtain ⟨z0, z1⟩ := pls_get hp
      obtain ⟨u, v⟩ := p
      have c1 : wr.cell? ⟨b, o + k * 2, none⟩ = some (.int .i64 u) := hcell _ _ z0
      have c2 : wr.cell? ⟨b, o + k * 2 + 1, none⟩ = some (.int .i64 v) := hcell _ _ z1
      have p1 : b < wr.heap.size := World.block_lt_of_cell? wr _ c1
      have p2 : ∀ j, b < wr.heap.size + j := fun j => by omega
      have q0 := PK.out.cell (i := 0) rfl
      have q1 := PK.out.cell (i := 1) rfl
      have l1 := PK.out.lt
      have l2 : ∀ j, w.heap.size < wr.heap.size + j := fun j => by omega
      by_cases he : (u, v) = (x, y)
      · injection he with e1 e2
        have F := Lib.hid (show decide ((x, y) ∈ ps) = true from decide_eq_true (e1 ▸ e2 ▸ List.mem_of_getElem? hp))
        clear hcell hp hl hkz z0 z1 hbl
        subst eA e1 e2
        go_wp2_with fail
        go_ret
        exact ⟨by rw [F.out]; rfl, BK.out.trans (by go_grown)⟩
      · have NN := Lib.hid (NK.out.next hp he)
        have hne : (u == x) = false ∨ (u == x) = true ∧ (v == y) = false := by
          by_cases e1 : u = x
          · right; subst e1; refine ⟨by simp, ?_⟩; simpa using he
          · left; simpa using e1
        have PN := Lib.hid (PK.out.alloc (o := .cells #[.int .i64 u, .int .i64 v] 28))
        clear hcell hp hl hkz z0 z1 hbl he
        subst eA
        rcases hne with e1 | ⟨e1, e2⟩
        all_goals
          go_wp2_with fail
          go_roundw
          case rel => exact ⟨k + 1, by omega, by go_num, NN, PN, Lib.hid (BK.out.trans (by go_grown))⟩
          case measure => simp [intOf]; omega
    · obtain rfl : k = n := by omega
      have F := Lib.hid (NK.out.all HN.out)
      go_wp2_with fail
      go_ret
      exact ⟨by rw [F.out]; rfl, BK.out⟩

theorem roseI {A : Option Addr} {n c : Nat} {zs : List (Int × Int)} {H : Nat} {r : Bool} (hn : zs.length = n) (hb : n ≤ 1048576) (h : rs zs = r) (w : World) (hH : H ≤ w.heap.size) (hr : Rd w H A (pls zs)) :
    Calls Try.prog 35 #[.slice A n c] w fun e w' => e = .returned (.bool r) ∧ Below w.heap.size w w' := h ▸ isRoseI A n c zs H w hn hb hH hr
theorem roseS {A : Option Addr} {n c : Nat} {zs : List (Int × Int)} {H : Nat} {r : Bool} (hn : zs.length = n) (hb : n ≤ 1048576) (h : rs zs = r) (w : World) (hH : H ≤ w.heap.size) (hr : Rd w H A (pls zs)) :
    Calls Try.prog 88 #[.slice A n c] w fun e w' => e = .returned (.bool r) ∧ Below w.heap.size w w' := h ▸ isRoseS A n c zs H w hn hb hH hr
/-- The places of a rose are near. -/
theorem near_rs {ps : List (Int × Int)} (h : rs ps = true) : Near 8 ps := by
  intro p hp
  obtain ⟨j, hj, e⟩ := List.mem_iff_getElem.1 hp
  exact rs_each h (k := j) (by rw [List.getElem?_eq_getElem hj, e])
theorem good_rs {ps : List (Int × Int)} (h : rs ps = true) : good ps = true := by
  unfold good
  rw [List.all_eq_true]
  intro p hp
  have := near_rs h p hp
  exact pl_mk (by omega) (by omega)
theorem cx_zs2 (ps : List (Int × Int)) : cx ps = zs2 ps := rfl

set_option maxRecDepth 100000 in
set_option maxHeartbeats 2000000 in
theorem fitsI (A B : Option Addr) (n c m d : Nat) (zs : List G) (ps : List (Int × Int)) (H : Nat) (t : Int) (w : World) (hn : zs.length = n) (hm : ps.length = m) (hb : n ≤ 1048576) (hb2 : m ≤ 1048576) (hH : H ≤ w.heap.size) (hr : Rd w H A (gls zs)) (hs : Rd w H B (pls ps)) :
    Calls Try.prog 36 #[.slice A n c, .slice B m d, .int .i64 t] w fun e w' => e = .returned (.bool (fr zs ps t)) ∧ Below w.heap.size w w' := by
  have HR := Lib.hid hr
  have HS := Lib.hid hs
  rcases f_cases zs ps t with hw | ⟨hw, hx⟩ | ⟨hw, hx, ht⟩ | ⟨hw, hx, ht⟩
  · rw [fr_no (Or.inl hw)]
    have C := Lib.hid (windI (A := A) (c := c) (H := H) hn hb hw)
    have HH := Lib.hid hH
    clear hw hr hs hn hm hH
    go_enter Try.func36, Try.ntmps36
    go_wp2_with fail
    refine (C.out _ HH.out HR.out).mono ?_
    rintro e u ⟨rfl, b1⟩
    have HS1 := Lib.hid (HS.out.below (b1.mono HH.out))
    have B1 := Lib.hid b1
    clear b1
    go_wp2_with fail
    go_ret
    exact ⟨rfl, B1.out⟩
  · rw [fr_no (Or.inr (Or.inl hx))]
    have C := Lib.hid (windI (A := A) (c := c) (H := H) hn hb hw)
    have E := Lib.hid (roseI (A := B) (c := d) (H := H) hm hb2 hx)
    have HH := Lib.hid hH
    clear hw hr hs hn hm hH hx
    go_enter Try.func36, Try.ntmps36
    go_wp2_with fail
    refine (C.out _ HH.out HR.out).mono ?_
    rintro e u ⟨rfl, b1⟩
    have HS1 := Lib.hid (HS.out.below (b1.mono HH.out))
    have B1 := Lib.hid b1
    clear b1
    go_wp2_with fail
    refine (E.out _ (Nat.le_trans HH.out B1.out.size) HS1.out).mono ?_
    rintro e v ⟨rfl, b2⟩
    have B2 := Lib.hid (below_in B1.out b2)
    clear b2
    go_wp2_with fail
    go_ret
    exact ⟨rfl, B2.out⟩
  · rw [fr_no (Or.inr (Or.inr ht))]
    have C := Lib.hid (windI (A := A) (c := c) (H := H) hn hb hw)
    have E := Lib.hid (roseI (A := B) (c := d) (H := H) hm hb2 hx)
    have HH := Lib.hid hH
    clear hw hr hs hn hm hH hx
    go_enter Try.func36, Try.ntmps36
    go_wp2_with fail
    refine (C.out _ HH.out HR.out).mono ?_
    rintro e u ⟨rfl, b1⟩
    have HS1 := Lib.hid (HS.out.below (b1.mono HH.out))
    have B1 := Lib.hid b1
    clear b1
    go_wp2_with fail
    refine (E.out _ (Nat.le_trans HH.out B1.out.size) HS1.out).mono ?_
    rintro e v ⟨rfl, b2⟩
    have B2 := Lib.hid (below_in B1.out b2)
    clear b2
    go_wp2_with fail
    go_ret
    exact ⟨rfl, B2.out⟩
  · rw [fr_yes hw hx ht]
    have C := Lib.hid (windI (A := A) (c := c) (H := H) hn hb hw)
    have E := Lib.hid (roseI (A := B) (c := d) (H := H) hm hb2 hx)
    obtain ⟨q, hq⟩ : ∃ q : Nat, t.toNat = q := ⟨_, rfl⟩
    have hq8 : q ≤ 128 := by omega
    have D := Lib.hid (show ∀ (W : World) (Q : Int), Q = (q : Int) → H ≤ W.heap.size → Rd W H A (gls zs) → Calls Try.prog 59 #[.slice A n c, .int .i64 0, .int .i64 Q] W (Win W (drs zs 0 q)) from fun W Q hQ h1 h2 => by have := driftsIn A n c zs H 0 q W hn hb h1 h2 hw (by omega); rw [show ((0 : Nat) : Int) + (q : Int) = Q by omega] at this; exact this)
    have MX : (if t < 0 then (0 : Int) else t) = (q : Int) := by split <;> omega
    have MX2 : max t 0 = (q : Int) := by omega
    have GR := Lib.hid (good_rs hx)
    have NR := Lib.hid (near_rs hx)
    have NZ := Lib.hid (fun (k : Nat) => dr_bound hw (k : Int))
    have HM := Lib.hid hm
    rw [hq]
    have HH := Lib.hid hH
    have ht' : ¬ 128 < t := by omega
    have hcase : t < 0 ∧ q = 0 ∨ ¬ t < 0 ∧ t = (q : Int) := by omega
    clear hw hx hr hs hn hm hH hq MX MX2 ht
    rcases hcase with ⟨ht0, hq0⟩ | ⟨ht0, rfl⟩
    all_goals
      go_enter Try.func36, Try.ntmps36
      go_wp2_with fail
      refine (C.out _ HH.out HR.out).mono ?_
      rintro e u ⟨rfl, b1⟩
      have HR1 := Lib.hid (HR.out.below (b1.mono HH.out))
      have HS1 := Lib.hid (HS.out.below (b1.mono HH.out))
      have B1 := Lib.hid b1
      clear b1
      go_wp2_with fail
      refine (E.out _ (Nat.le_trans HH.out B1.out.size) HS1.out).mono ?_
      rintro e v ⟨rfl, b2⟩
      have H1 := Lib.hid (Nat.le_trans HH.out B1.out.size)
      have HR2 := Lib.hid (HR1.out.below (b2.mono H1.out))
      have HS2 := Lib.hid (HS1.out.below (b2.mono H1.out))
      have H2 := Lib.hid (Nat.le_trans H1.out b2.size)
      have B2 := Lib.hid (below_in B1.out b2)
      clear b2 B1 HR HR1 HS HS1 H1 C E
      go_wp2_with fail
      refine (complexesOf B m d ps _ HM.out hb2 (HS2.out.more H2.out)).mono ?_
      rintro e x ⟨b3, hcc⟩
      obtain ⟨g1, rfl, r1⟩ : ∃ g, e = .returned (.tuple #[.slice (some ⟨g, 0, none⟩) m m, .bool true]) ∧ x.ownsRow v.heap.size 78 1 (.slice (some ⟨g, 0, none⟩) m m) m (cx ps) := by
        rcases hcc with ⟨h, _⟩ | ⟨_, h⟩
        · rw [GR.out] at h; cases h
        · exact h
      have R1 := Lib.hid (Rd.own r1)
      have HR3 := Lib.hid (HR2.out.below (b3.mono H2.out))
      have H3 := Lib.hid (Nat.le_trans H2.out b3.size)
      have B3 := Lib.hid (below_in B2.out b3)
      clear hcc b3 r1 B2 HR2 HS2
      go_wp2_with fail
      refine (D.out _ _ ?_ H3.out HR3.out).mono ?_
      · first | rfl | omega | (split <;> omega) | (simp; done) | (simp; omega)
      rintro e y ⟨g2, o2, rfl, r2, b4⟩
      rw [drs_len]
      have R2 := Lib.hid r2
      have R1' := Lib.hid ((R1.out.below b4).more b4.size)
      have B4 := Lib.hid (below_in B3.out b4)
      clear r2 b4 R1 B3 HR3 D
      go_wp2_with fail
      go_loop [33] (fun i => ∃ k : Nat, k ≤ q ∧ i = .int .i64 k ∧ Hid (fUp zs ps k = true)) (fun i => q - (intOf i).toNat)
      case atStart => exact ⟨0, Nat.zero_le _, rfl, Lib.hid (fUp_zero _ _)⟩
      case round =>
        obtain ⟨k, hk, rfl, UK⟩ := hrel
        by_cases hlt : k < q
        · first
          | (exfalso; omega)
          | (have hp := drs_get (zs := zs) (a := 0) (m := q) hlt
             rw [Nat.zero_add] at hp
             obtain ⟨b, o, eA, hbl, hcell⟩ := R2.out.get (k := k) (by rw [zs2_len, drs_len]; exact hlt)
             have c1 := hcell _ _ (zs2_get hp)
             have hz := NZ.out k
             obtain ⟨⟨u, v⟩, hd⟩ : ∃ p, dr zs (k : Int) = p := ⟨_, rfl⟩
             rw [hd] at hz c1
             simp only at hz c1
             have K := Lib.hid (contains (some ⟨g1, 0, none⟩) m m ps u v _ y HM.out hb2 R1'.out NR.out hz)
             have US := Lib.hid (show fUp zs ps (k + 1) = decide ((u, v) ∈ ps) by rw [fUp_succ, UK.out, hd]; rfl)
             have UN := Lib.hid (fun h => fUp_no (zs := zs) (ps := ps) (k := k) (m := q) hlt h)
             rw [hd] at UN
             clear hcell hp hbl hz hd
             obtain ⟨r, hrr⟩ : ∃ r, decide ((u, v) ∈ ps) = r := ⟨_, rfl⟩
             rw [hrr] at K US UN
             clear hrr
             cases eA
             cases r
             · have F := Lib.hid (UN.out rfl)
               clear UN US
               go_wp2_with fail
               refine K.out.mono ?_
               rintro e y' ⟨rfl, rfl⟩
               go_wp2_with fail
               go_ret
               exact ⟨by rw [F.out]; rfl, B4.out⟩
             · clear UN
               go_wp2_with fail
               refine K.out.mono ?_
               rintro e y' ⟨rfl, rfl⟩
               go_wp2_with fail
               go_round
               case rel => exact ⟨k + 1, by omega, by go_num, US⟩
               case measure => simp [intOf]; omega)
        · obtain rfl : k = q := by omega
          go_wp2_with fail
          go_ret
          exact ⟨by first | (rw [UK.out]; rfl) | rfl, B4.out⟩

set_option maxRecDepth 100000 in
set_option maxHeartbeats 2000000 in
theorem fitsS (A B : Option Addr) (n c m d : Nat) (zs : List G) (ps : List (Int × Int)) (H : Nat) (t : Int) (w : World) (hn : zs.length = n) (hm : ps.length = m) (hb : n ≤ 1048576) (hb2 : m ≤ 1048576) (hH : H ≤ w.heap.size) (hr : Rd w H A (gls zs)) (hs : Rd w H B (pls ps)) :
    Calls Try.prog 47 #[.slice A n c, .slice B m d, .int .i64 t] w fun e w' => e = .returned (.bool (fr zs ps t)) ∧ Below w.heap.size w w' := by
  have HR := Lib.hid hr
  have HS := Lib.hid hs
  rcases f_cases zs ps t with hw | ⟨hw, hx⟩ | ⟨hw, hx, ht⟩ | ⟨hw, hx, ht⟩
  · rw [fr_no (Or.inl hw)]
    have C := Lib.hid (windS (A := A) (c := c) (H := H) hn hb hw)
    have HH := Lib.hid hH
    clear hw hr hs hn hm hH
    go_enter Try.func47, Try.ntmps47
    go_wp2_with fail
    refine (C.out _ HH.out HR.out).mono ?_
    rintro e u ⟨rfl, b1⟩
    have HS1 := Lib.hid (HS.out.below (b1.mono HH.out))
    have B1 := Lib.hid b1
    clear b1
    go_wp2_with fail
    go_ret
    exact ⟨rfl, B1.out⟩
  · rw [fr_no (Or.inr (Or.inl hx))]
    have C := Lib.hid (windS (A := A) (c := c) (H := H) hn hb hw)
    have E := Lib.hid (roseS (A := B) (c := d) (H := H) hm hb2 hx)
    have HH := Lib.hid hH
    clear hw hr hs hn hm hH hx
    go_enter Try.func47, Try.ntmps47
    go_wp2_with fail
    refine (C.out _ HH.out HR.out).mono ?_
    rintro e u ⟨rfl, b1⟩
    have HS1 := Lib.hid (HS.out.below (b1.mono HH.out))
    have B1 := Lib.hid b1
    clear b1
    go_wp2_with fail
    refine (E.out _ (Nat.le_trans HH.out B1.out.size) HS1.out).mono ?_
    rintro e v ⟨rfl, b2⟩
    have B2 := Lib.hid (below_in B1.out b2)
    clear b2
    go_wp2_with fail
    go_ret
    exact ⟨rfl, B2.out⟩
  · rw [fr_no (Or.inr (Or.inr ht))]
    have C := Lib.hid (windS (A := A) (c := c) (H := H) hn hb hw)
    have E := Lib.hid (roseS (A := B) (c := d) (H := H) hm hb2 hx)
    have HH := Lib.hid hH
    clear hw hr hs hn hm hH hx
    go_enter Try.func47, Try.ntmps47
    go_wp2_with fail
    refine (C.out _ HH.out HR.out).mono ?_
    rintro e u ⟨rfl, b1⟩
    have HS1 := Lib.hid (HS.out.below (b1.mono HH.out))
    have B1 := Lib.hid b1
    clear b1
    go_wp2_with fail
    refine (E.out _ (Nat.le_trans HH.out B1.out.size) HS1.out).mono ?_
    rintro e v ⟨rfl, b2⟩
    have B2 := Lib.hid (below_in B1.out b2)
    clear b2
    go_wp2_with fail
    go_ret
    exact ⟨rfl, B2.out⟩
  · rw [fr_yes hw hx ht]
    have C := Lib.hid (windS (A := A) (c := c) (H := H) hn hb hw)
    have E := Lib.hid (roseS (A := B) (c := d) (H := H) hm hb2 hx)
    obtain ⟨q, hq⟩ : ∃ q : Nat, t.toNat = q := ⟨_, rfl⟩
    have hq8 : q ≤ 128 := by omega
    have D := Lib.hid (fun (W : World) (k : Nat) h1 h2 => l4At A n c zs H (k : Int) W hn hb h1 h2)
    have NI := Lib.hid (fun (W : World) x y h1 h2 => l4In B m d ps x y H W hm hb2 h1 h2)
    rw [hq]
    have HH := Lib.hid hH
    have ht' : ¬ 128 < t := by omega
    have hlts : ∀ k : Nat, (k : Int) < t ↔ k < q := fun k => by omega
    have HT := Lib.hid hlts
    clear hw hx hr hs hn hm hH hq ht hlts
    go_enter Try.func47, Try.ntmps47
    go_wp2_with fail
    refine (C.out _ HH.out HR.out).mono ?_
    rintro e u ⟨rfl, b1⟩
    have HR1 := Lib.hid (HR.out.below (b1.mono HH.out))
    have HS1 := Lib.hid (HS.out.below (b1.mono HH.out))
    have B1 := Lib.hid b1
    clear b1
    go_wp2_with fail
    refine (E.out _ (Nat.le_trans HH.out B1.out.size) HS1.out).mono ?_
    rintro e v ⟨rfl, b2⟩
    have H1 := Lib.hid (Nat.le_trans HH.out B1.out.size)
    have HR2 := Lib.hid (HR1.out.below (b2.mono H1.out))
    have HS2 := Lib.hid (HS1.out.below (b2.mono H1.out))
    have H2 := Lib.hid (Nat.le_trans H1.out b2.size)
    have B2 := Lib.hid (below_in B1.out b2)
    clear b2 B1 HR HR1 HS HS1 H1 C E
    go_wp2_with fail
    go_loopw [7] (fun i wr => ∃ k : Nat, k ≤ q ∧ i = .int .i64 k ∧ Hid (fUp zs ps k = true) ∧ Hid (Below w.heap.size w wr) ∧ Hid (Below v.heap.size v wr)) (fun i _ => q - (intOf i).toNat)
    case atStart => exact ⟨0, Nat.zero_le _, rfl, Lib.hid (fUp_zero _ _), B2, Lib.hid (Below.refl _ _)⟩
    case round =>
      obtain ⟨k, hk, rfl, UK, BK, CK⟩ := hrel
      have hks := Lib.hid (Nat.le_trans H2.out CK.out.size)
      by_cases hlt : k < q
      · have hkt : (k : Int) < t := (HT.out k).2 hlt
        have D1 := Lib.hid (D.out wr k hks.out (HR2.out.below (CK.out.mono H2.out)))
        obtain ⟨⟨x, y⟩, hd⟩ : ∃ p, dr zs (k : Int) = p := ⟨_, rfl⟩
        rw [hd] at D1
        have US := Lib.hid (show fUp zs ps (k + 1) = decide ((x, y) ∈ ps) by rw [fUp_succ, UK.out, hd]; rfl)
        have UN := Lib.hid (fun h => fUp_no (zs := zs) (ps := ps) (k := k) (m := q) hlt h)
        rw [hd] at UN
        have N1 := Lib.hid (fun (W : World) h1 h2 => NI.out W x y h1 h2)
        obtain ⟨r, hrr⟩ : ∃ r, decide ((x, y) ∈ ps) = r := ⟨_, rfl⟩
        rw [hrr] at N1 US UN
        clear hrr hd
        cases r
        · have F := Lib.hid (UN.out rfl)
          clear UN US
          go_wp2_with fail
          refine D1.out.mono ?_
          rintro e u1 ⟨rfl, b3⟩
          have C1 := Lib.hid (below_in CK.out b3)
          have E1 := Lib.hid (below_in BK.out b3)
          clear b3
          go_wp2_with fail
          refine (N1.out _ (Nat.le_trans H2.out C1.out.size) (HS2.out.below (C1.out.mono H2.out))).mono ?_
          rintro e u2 ⟨rfl, b3⟩
          have E2 := Lib.hid (below_in E1.out b3)
          clear b3
          go_wp2_with fail
          go_ret
          exact ⟨by rw [F.out]; rfl, E2.out⟩
        · clear UN
          go_wp2_with fail
          refine D1.out.mono ?_
          rintro e u1 ⟨rfl, b3⟩
          have C1 := Lib.hid (below_in CK.out b3)
          have E1 := Lib.hid (below_in BK.out b3)
          clear b3
          go_wp2_with fail
          refine (N1.out _ (Nat.le_trans H2.out C1.out.size) (HS2.out.below (C1.out.mono H2.out))).mono ?_
          rintro e u2 ⟨rfl, b3⟩
          have E2 := Lib.hid (below_in E1.out b3)
          have C2 := Lib.hid (below_in C1.out b3)
          clear b3
          go_wp2_with fail
          go_roundw
          case rel => exact ⟨k + 1, by omega, by go_num, US, E2, C2⟩
          case measure => simp [intOf]; omega
      · obtain rfl : k = q := by omega
        have hkt : ¬ (k : Int) < t := fun h => hlt ((HT.out k).1 h)
        go_wp2_with fail
        go_ret
        exact ⟨by rw [UK.out]; rfl, BK.out⟩

end Go.Proofs.Ytknanaapaipoeaa.Wx
