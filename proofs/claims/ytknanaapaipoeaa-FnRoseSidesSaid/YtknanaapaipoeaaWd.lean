/- A window of the drifts, its sum and its changes: the program's own functions. -/
import Derived.Test.YtknanaapaipoeaaWc
import Derived.Test.YtknanaapaipoeaaWb
namespace Go.Proofs.Ytknanaapaipoeaa.Wc
open Go.RowKit Go.Proofs.Ytknanaapaipoeaa.Mem Go.Proofs.Ytknanaapaipoeaa.Rw Go.Proofs.Ytknanaapaipoeaa.Bk Go.Proofs.Ytknanaapaipoeaa.Cx Go.Proofs.Ytknanaapaipoeaa.Cm Go.Proofs.Ytknanaapaipoeaa.Jt Go.Proofs.Ytknanaapaipoeaa.Pl Go.Proofs.Ytknanaapaipoeaa.Str Go.Proofs.Ytknanaapaipoeaa.Pw Go.Proofs.Ytknanaapaipoeaa.P2 Go.Proofs.Ytknanaapaipoeaa.Gs Go.Proofs.Ytknanaapaipoeaa.Wm Go.Proofs.Ytknanaapaipoeaa.Wi Go.Proofs.Ytknanaapaipoeaa.Wa
set_option linter.unusedVariables false
set_option linter.unusedSimpArgs false

/-- Words that tell these places, to be read. -/
def Win (w : World) (l : List (Int × Int)) (e : Ending) (w' : World) : Prop :=
  ∃ g o, e = .returned (.slice (some ⟨g, o, none⟩) l.length l.length) ∧ Rd w' w'.heap.size (some ⟨g, o, none⟩) (zs2 l) ∧ Below w.heap.size w w'

theorem rd_part {w : World} {B g : Nat} {xs : List Value} (h : Rd w B (some ⟨g, 0, none⟩) xs) (a m : Nat) : Rd w B (some ⟨g, a, none⟩) ((xs.drop a).take m) := by
  rcases h with rfl | ⟨b, o, e, hb, hx⟩
  · exact Or.inl (by simp)
  · injection e with e
    injection e with e1 e2
    subst e1 e2
    refine Or.inr ⟨g, a, rfl, hb, fun j v hv => ?_⟩
    rw [List.getElem?_take] at hv
    split at hv
    · rw [List.getElem?_drop] at hv
      have := hx _ _ hv
      rwa [Nat.zero_add] at this
    · cases hv
theorem rd_any {w : World} {B g o o' : Nat} : Rd w B (some ⟨g, o, none⟩) (zs2 []) := Or.inl rfl
theorem zs2_part (zs : List G) (a m : Nat) (h : a + m ≤ 128) : ((zs2 (drs zs 0 128)).drop a).take m = zs2 (drs zs a m) := by
  unfold zs2
  rw [← List.map_drop, ← List.map_take, drs_drop, drs_take (by omega)]

set_option maxRecDepth 100000 in
set_option maxHeartbeats 2000000 in
theorem driftsIn (A : Option Addr) (n c : Nat) (zs : List G) (H : Nat) (a m : Nat) (w : World) (hn : zs.length = n) (hb : n ≤ 1048576) (hH : H ≤ w.heap.size) (hr : Rd w H A (gls zs)) (hw : wd zs = true) (hm : a + m ≤ 128) :
    Calls Try.prog 59 #[.slice A n c, .int .i64 a, .int .i64 ((a : Int) + (m : Int))] w (Win w (drs zs a m)) := by
  have C := Lib.hid (spreadOut A n c zs H w hn hb hH hr hw)
  obtain ⟨b, hb⟩ : ∃ b : Nat, b = a + m := ⟨_, rfl⟩
  rw [show (a : Int) + (m : Int) = (b : Int) by omega]
  have hab : a ≤ b := by omega
  have hb8 : b ≤ 128 := by omega
  have HB := Lib.hid hb
  have a0 : (a : Int) ≤ (b : Int) := by omega
  have a1 : (0 : Int) ≤ (a : Int) := by omega
  have a2 : (b : Int) ≤ 128 := by omega
  have a3 : (b : Int) ≤ ((128 : Nat) : Int) := by omega
  clear hr hn hw hb
  go_enter Try.func59, Try.ntmps59
  go_wp2_with fail
  refine C.out.mono ?_
  rintro e u ⟨g, rfl, o1, b1⟩
  rw [drs_len] at o1 ⊢
  have O1 := Lib.hid o1
  have B1 := Lib.hid b1
  clear o1 b1
  have hl : (drs zs a m).length = m := drs_len _ _ _
  by_cases h0 : m = 0
  · have hba : b = a := by have := HB.out; omega
    subst h0 hba
    go_wp2_with fail
    go_ret
    exact ⟨g, 0, by rw [hl]; simp, by exact Or.inl rfl, B1.out⟩
  · have hba : ¬ b = a := by have := HB.out; omega
    go_wp2_with fail
    go_ret
    have := HB.out
    have hm2 : b - a = m := by omega
    refine ⟨g, a, by rw [hl, ← hm2]; rfl, ?_, B1.out⟩
    have h7 := rd_part (Rd.own O1.out) a m
    rw [zs2_part zs a m hm] at h7
    exact h7

theorem i32_zero : I32 0 0 := ⟨false, by decide, by decide⟩
theorem cneq {P : Program} {a b c d : Int} {x y u v : Nat} (ha : a.natAbs < 16777216) (hb : b.natAbs < 16777216) (hc : c.natAbs < 16777216) (hd : d.natAbs < 16777216) (hx : I32 a x) (hy : I32 b y) (hu : I32 c u) (hv : I32 d v) (r : Bool) (hr : r = (!(decide (a = c) && decide (b = d)))) (t : TypeId) (w : World) :
    (binOp .neq t (.complex .f32 x y) (.complex .f32 u v)).run P w = .ok (.bool r) w := by
  have key : ∀ {a b : Int}, (some (compare a b) == some Ordering.eq) = decide (a = b) := by
    intro a b
    by_cases h : a = b
    · subst h; simp [compare, compareOfLessAndEq]
    · simp [compare, compareOfLessAndEq, h]
      split <;> simp
  rw [run_neq_complex]
  have e1 : FloatKind.f32.format.order x u = some (compare a c) := order_is (s32 a ha) (s32 c hc) hx hu
  have e2 : FloatKind.f32.format.order y v = some (compare b d) := order_is (s32 b hb) (s32 d hd) hy hv
  rw [e1, e2, key, key, hr]

/-- All places of a list lie so near. -/
def Near (D : Int) (l : List (Int × Int)) : Prop := ∀ p ∈ l, (-D ≤ p.1 ∧ p.1 ≤ D) ∧ (-D ≤ p.2 ∧ p.2 ≤ D)
theorem Near.at {D : Int} {l : List (Int × Int)} (h : Near D l) {k : Nat} {p : Int × Int} (hp : l[k]? = some p) : (-D ≤ p.1 ∧ p.1 ≤ D) ∧ (-D ≤ p.2 ∧ p.2 ≤ D) := h p (List.mem_of_getElem? hp)
theorem Near.was {D : Int} {l : List (Int × Int)} (h : Near D l) (h0 : 0 ≤ D) {k : Nat} (hk : k ≤ l.length) : (-D ≤ (was l k).1 ∧ (was l k).1 ≤ D) ∧ (-D ≤ (was l k).2 ∧ (was l k).2 ≤ D) := by
  cases k with
  | zero => rw [was_zero]; simp only; omega
  | succ k =>
    obtain ⟨p, hp⟩ : ∃ p, l[k]? = some p := ⟨_, List.getElem?_eq_getElem (by omega)⟩
    rw [was_next hp]; exact h.at hp
theorem near_drs {zs : List G} (h : wd zs = true) (a m : Nat) : Near 8 (drs zs a m) := by
  intro p hp
  unfold drs at hp
  obtain ⟨j, _, rfl⟩ := List.mem_map.1 hp
  exact dr_bound h _

set_option maxHeartbeats 1000000 in
theorem sumOf (A : Option Addr) (m c : Nat) (l : List (Int × Int)) (H : Nat) (w : World) (hn : l.length = m) (hm : m ≤ 128) (hr : Rd w H A (zs2 l)) (hl : Near 8 l) :
    Calls Try.prog 58 #[.slice A m c] w fun e w' => ∃ r1 r2, e = .returned (.complex .f32 r1 r2) ∧ I32 (sum2 l).1 r1 ∧ I32 (sum2 l).2 r2 ∧ w = w' := by
  have HR := Lib.hid hr
  have HN := Lib.hid hn
  have HL := Lib.hid hl
  clear hr hn hl
  go_enter Try.func58, Try.ntmps58
  go_wp2_with fail
  go_loop [3, 8] (fun s i => ∃ k : Nat, k ≤ m ∧ i = .int .i64 k ∧ ∃ r1 r2 : Nat, s = .complex .f32 r1 r2 ∧ Hid (I32 (sum2 (l.take k)).1 r1 ∧ I32 (sum2 (l.take k)).2 r2)) (fun _ i => m - (intOf i).toNat)
  case atStart => exact ⟨0, Nat.zero_le _, rfl, 0, 0, rfl, Lib.hid ⟨i32_zero, i32_zero⟩⟩
  case round =>
    obtain ⟨k, hk, rfl, r1, r2, rfl, IK⟩ := hrel
    by_cases hlt : k < m
    · have hkz : k < l.length := by rw [HN.out]; exact hlt
      obtain ⟨p, hp⟩ : ∃ p, l[k]? = some p := ⟨_, List.getElem?_eq_getElem hkz⟩
      obtain ⟨b, o, eA, hbl, hcell⟩ := HR.out.get (k := k) (by rw [zs2_len]; exact hkz)
      have c1 := hcell _ _ (zs2_get hp)
      have hs := sum2_bound (D := 8) (by decide) HL.out k (by omega)
      have hq := HL.out.at hp
      have E := Lib.hid (sum2_take hp)
      obtain ⟨i1, i2⟩ := IK.out
      generalize sum2 (l.take k) = s at *
      obtain ⟨s1, s2⟩ := s
      obtain ⟨x, y⟩ := p
      simp only at hs hq i1 i2
      obtain ⟨re, im, hadd, j1, j2⟩ := csum (P := Try.prog) .add 1 (Or.inl ⟨rfl, rfl⟩) (by omega) (by omega) (by omega) (by omega) i1 i2 (i32_f32 x) (i32_f32 y)
      rw [Int.one_mul] at j1 j2
      have J := Lib.hid (show I32 (sum2 (l.take (k + 1))).1 re ∧ I32 (sum2 (l.take (k + 1))).2 im by rw [E.out]; exact ⟨j1, j2⟩)
      clear hcell hp hkz hbl hs hq i1 i2 j1 j2 E IK
      subst eA
      go_wp2_with fail
      go_round
      case rel => exact ⟨k + 1, by omega, by go_num, re, im, rfl, J⟩
      case measure => simp [intOf]; omega
    · obtain rfl : k = m := by omega
      have F := Lib.hid (show I32 (sum2 l).1 r1 ∧ I32 (sum2 l).2 r2 by have := IK.out; rwa [← HN.out, List.take_length] at this)
      go_wp2
      go_ret
      exact ⟨r1, r2, rfl, F.out.1, F.out.2, rfl⟩

set_option maxRecDepth 100000 in
set_option maxHeartbeats 2000000 in
theorem changesOf (A : Option Addr) (m c : Nat) (l : List (Int × Int)) (H : Nat) (w : World) (hn : l.length = m) (hb : m ≤ 1000) (hH : H ≤ w.heap.size) (hr : Rd w H A (zs2 l)) (hl : Near 8 l) :
    Calls Try.prog 69 #[.slice A m c] w (Row3 w (chg l)) := by
  obtain ⟨i0, hi, hz0, hz1, hz2⟩ := info_of infoGust
  have HR := Lib.hid (hr.more hH)
  have HN := Lib.hid hn
  have HL := Lib.hid hl
  clear hr hn hl
  go_enter Try.func69, Try.ntmps69
  go_wp2_with fail
  go_loopw [3, 4, 12] (fun v z i wr => ∃ k : Nat, k ≤ m ∧ i = .int .i64 k ∧ (∃ a b : Nat, z = .complex .f32 a b ∧ Hid (a = Meas.f32 (was l k).1 ∧ b = Meas.f32 (was l k).2)) ∧ ∃ q : Nat, q ≤ k ∧ (∃ g c' : Nat, v = .slice (some ⟨g, 0, none⟩) q c') ∧ Hid ((chgs l k).length = q) ∧ Hid (wr.ownsRow w.heap.size 57 3 v q (gls (chgs l k))) ∧ Hid (Below w.heap.size w wr)) (fun _ _ i _ => m - (intOf i).toNat)
  case atStart => exact ⟨0, Nat.zero_le _, rfl, ⟨0, 0, rfl, Lib.hid ⟨f32_0.symm, f32_0.symm⟩⟩, 0, Nat.le_refl _, ⟨_, _, rfl⟩, Lib.hid rfl, Lib.hid (World.ownsRow_lit w #[] 0 (Nat.le_refl _) (Nat.zero_le _) rfl), Lib.hid (by go_grown)⟩
  case round =>
    obtain ⟨k, hk, rfl, ⟨za, zb, rfl, ZK⟩, q, hqk, ⟨g, c', rfl⟩, QK, RK, BK⟩ := hrel
    have hbs := BK.out.size
    by_cases hlt : k < m
    · have hkz : k < l.length := by rw [HN.out]; exact hlt
      obtain ⟨p, hp⟩ : ∃ p, l[k]? = some p := ⟨_, List.getElem?_eq_getElem hkz⟩
      obtain ⟨b, o, eA, hbl, hcell⟩ := (HR.out.below BK.out).get (k := k) (by rw [zs2_len]; exact hkz)
      have c1 : wr.cell? ⟨b, o + k, none⟩ = some (.complex .f32 (Meas.f32 p.1) (Meas.f32 p.2)) := hcell _ _ (zs2_get hp)
      have hg := own_base RK.out g rfl
      have WN := Lib.hid (was_next hp)
      have hq := HL.out.at hp
      have hw := HL.out.was (by decide) (k := k) (by omega)
      have p1 : b < wr.heap.size := World.block_lt_of_cell? wr _ c1
      have p2 : ∀ j, b < wr.heap.size + j := fun j => by omega
      obtain ⟨x, y⟩ := p
      obtain ⟨⟨u, v⟩, hu⟩ : ∃ u, was l k = u := ⟨_, rfl⟩
      have ZZ := ZK.out
      rw [hu] at ZZ hw
      simp only at hw hq ZZ c1
      obtain ⟨hza, hzb⟩ := ZZ
      have NE0 := cneq (P := Try.prog) (a := x) (b := y) (c := u) (d := v) (x := Meas.f32 x) (y := Meas.f32 y) (u := za) (v := zb) (by omega) (by omega) (by omega) (by omega) (i32_f32 x) (i32_f32 y) (hza ▸ i32_f32 u) (hzb ▸ i32_f32 v)
      have ZN := Lib.hid (show Meas.f32 x = Meas.f32 (was l (k + 1)).1 ∧ Meas.f32 y = Meas.f32 (was l (k + 1)).2 by rw [WN.out]; exact ⟨rfl, rfl⟩)
      by_cases hpu : (x, y) = (u, v)
      · have NE := NE0 false (by injection hpu with e1 e2; rw [e1, e2]; simp)
        have E := Lib.hid (chgs_no hp (by rw [hu]; exact hpu))
        clear NE0 hcell hp hkz hbl hu hpu hza hzb ZK hq hw WN
        subst eA
        go_wp2_with fail
        go_roundw
        case rel => exact ⟨k + 1, by omega, by go_num, ⟨_, _, rfl, ZN⟩, q, by omega, ⟨_, _, rfl⟩, by rw [E.out]; exact QK, by rw [E.out]; exact RK, BK⟩
        case measure => simp [intOf]; omega
      · have NE := NE0 true (by by_cases h1 : x = u <;> by_cases h2 : y = v <;> simp_all)
        have E := Lib.hid (chgs_yes hp (by rw [hu]; exact hpu))
        have T := Lib.hid (toldYes (a := x) (b := y) (by omega) (by omega) (i32_f32 x) (i32_f32 y))
        have SN := Lib.hid (show gls (chgs l k) ++ [.int .i64 (k : Int), .int .i64 x, .int .i64 y] = gls (chgs l (k + 1)) by rw [E.out]; exact gls_snoc (chgs l k) ((k : Int), (x, y)))
        have QL := Lib.hid (show (chgs l (k + 1)).length = q + 1 by rw [E.out, List.length_append, QK.out]; rfl)
        have R1 := (((RK.out.alloc (.cells #[.int .i64 x, .int .i64 y] 28)).alloc (.cells #[.int .i64 x, .int .i64 y] 28)).alloc (.cells #[.int .i64 (k : Int), .int .i64 x, .int .i64 y] 57))
        clear NE0 hcell hp hkz hbl hu hpu hza hzb ZK hq hw WN RK E
        subst eA
        go_wp2_with fail
        refine (T.out _).mono ?_
        rintro e w' ⟨rfl, rfl⟩
        go_wp2_with (
          at_builtin
          refine wpList_append_own _ rfl _ _ 24 rfl w.heap.size 57 i0 (.agg #[.int .i64 0, .int .i64 0, .int .i64 0]) 3 24 Try.underlying24 hi hz0 hz1 hz2 rfl (by decide) _ _ _ rfl R1 ⟨wr.heap.size + 1 + 1, 0, none⟩ 1 1 [.int .i64 (k : Int), .int .i64 x, .int .i64 y] rfl rfl (by intro j z hj; match j, hj with | 0, hj => (simp at hj; subst hj; simp [go_sem, Addr.add]) | 1, hj => (simp at hj; subst hj; simp [go_sem, Addr.add]) | 2, hj => (simp at hj; subst hj; simp [go_sem, Addr.add])) (by intro z hz; simp at hz; rcases hz with rfl | rfl | rfl <;> rfl) (by unfold maxLen; omega) (by omega) (by simp; omega) ?_
          intro v' w1 hown' hgrow hnil
          have B2 := Lib.hid ((((BK.out.alloc hbs (.cells #[.int .i64 x, .int .i64 y] 28)).alloc (by simp; omega) (.cells #[.int .i64 x, .int .i64 y] 28)).alloc (by simp; omega) (.cells #[.int .i64 (k : Int), .int .i64 x, .int .i64 y] 57)).grown hgrow (by simp; omega) (fun z hz => by cases hz; exact hg))
          rw [SN.out] at hown'
          obtain ⟨g', cc, rfl⟩ := own_slice hown'
          have R2 := Lib.hid hown'
          clear hown' hgrow hnil R1 c1 p1 p2)
        go_wp2_with fail
        go_roundw
        case rel => exact ⟨k + 1, by omega, by go_num, ⟨_, _, rfl, ZN⟩, q + 1, by omega, ⟨_, _, rfl⟩, QL, R2, B2⟩
        case measure => simp [intOf]; omega
    · obtain rfl : k = m := by omega
      have F := Lib.hid (show chgs l k = chg l by unfold chg; rw [HN.out])
      go_wp2_with fail
      go_ret
      exact ⟨g, c', by rw [← F.out, QK.out]; rfl, by rw [← F.out, QK.out]; exact RK.out, BK.out⟩

end Go.Proofs.Ytknanaapaipoeaa.Wc
