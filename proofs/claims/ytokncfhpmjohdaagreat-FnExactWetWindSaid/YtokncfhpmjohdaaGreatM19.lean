/- Winds made of lists of drifts, of the model. -/
import Derived.Test.YtokncfhpmjohdaaGreatM18
import Derived.Deep.DeepCutAuto
import Derived.Handy
import Derived.ArgAppend
import Derived.ProofKit
import Derived.Test.YtokncfhpmjohdaaGreatM3
import Derived.Deep.AppendLies
import Derived.Deep.RegionHeld3
import Derived.Test.YtokncfhpmjohdaaGreatM7
import Derived.Lib.SliceRun
import Derived.Deep.RegionLaw
set_option linter.unusedVariables false
set_option linter.unusedSimpArgs false
namespace Go.Proofs.YtokncfhpmjohdaaGreat.Wb
open Go.RowKit Go.Proofs.YtokncfhpmjohdaaGreat.Mem Go.Proofs.YtokncfhpmjohdaaGreat.Rw Go.Proofs.YtokncfhpmjohdaaGreat.Bk Go.Proofs.YtokncfhpmjohdaaGreat.Jt Go.Proofs.YtokncfhpmjohdaaGreat.Pw Go.Proofs.YtokncfhpmjohdaaGreat.P2 Go.Proofs.YtokncfhpmjohdaaGreat.Gs Go.Proofs.YtokncfhpmjohdaaGreat.Wm Go.Proofs.YtokncfhpmjohdaaGreat.Wi Go.Proofs.YtokncfhpmjohdaaGreat.Wa
set_option linter.unusedVariables false
set_option linter.unusedSimpArgs false

set_option maxRecDepth 100000 in
set_option maxHeartbeats 2000000 in
theorem l4From (A : Option Addr) (m c : Nat) (l : List (Int × Int)) (H : Nat) (w : World) (hn : l.length = m) (hb : m ≤ 1000) (hH : H ≤ w.heap.size) (hr : Rd w H A (pcs l)) :
    Calls Tryz.prog 79 #[.slice A m c] w (Row3 w (chg l)) := by
  obtain ⟨i0, hi, hz0, hz1, hz2⟩ := info_of infoGust
  have HR := Lib.hid (hr.more hH)
  have HN := Lib.hid hn
  clear hr hn
  go_enter Tryz.func79, Tryz.ntmps79
  go_wp2_with fail
  go_loopw [3, 11] (fun v i wr => ∃ k : Nat, k ≤ m ∧ i = .int .i64 k ∧ ∃ q : Nat, q ≤ k ∧ (∃ g c' : Nat, v = .slice (some ⟨g, 0, none⟩) q c') ∧ Hid ((chgs l k).length = q) ∧ Hid (wr.ownsRow w.heap.size 89 3 v q (gls (chgs l k))) ∧ Hid (Bk wr (w.heap.size + 1) (pc (was l k).1 (was l k).2) 44) ∧ Hid (Below w.heap.size w wr)) (fun _ i _ => m - (intOf i).toNat)
  case atStart => exact ⟨0, Nat.zero_le _, rfl, 0, Nat.le_refl _, ⟨_, _, rfl⟩, Lib.hid rfl, Lib.hid ((World.ownsRow_lit w #[] 0 (Nat.le_refl _) (Nat.zero_le _) rfl).alloc _), Lib.hid (show Bk _ (w.heap.size + 1) (pc 0 0) _ by simpa using Bk.new (w.alloc (.cells #[] 89)) (pc 0 0) 44), Lib.hid (by go_grown)⟩
  case round =>
    obtain ⟨k, hk, rfl, q, hqk, ⟨g, c', rfl⟩, QK, RK, PK, BK⟩ := hrel
    have hbs := BK.out.size
    by_cases hlt : k < m
    · have hkz : k < l.length := by rw [HN.out]; exact hlt
      have hl : k * 2 < (pcs l).length := by rw [pcs_len]; omega
      obtain ⟨p, hp⟩ : ∃ p, l[k]? = some p := ⟨_, List.getElem?_eq_getElem hkz⟩
      obtain ⟨b, o, eA, hbl, hcell⟩ := (HR.out.below BK.out).get hl
      obtain ⟨z0, z1⟩ := pcs_get hp
      have hg := own_base RK.out g rfl
      have hgb := own_ne RK.out PK.out (by decide)
      have WN := Lib.hid (was_next hp)
      obtain ⟨x, y⟩ := p
      obtain ⟨⟨u, v⟩, hu⟩ : ∃ u, was l k = u := ⟨_, rfl⟩
      have c1 : wr.cell? ⟨b, o + k * 2, none⟩ = some (.int .i64 x) := hcell _ _ z0
      have c2 : wr.cell? ⟨b, o + k * 2 + 1, none⟩ = some (.int .i64 y) := hcell _ _ z1
      have p1 : b < wr.heap.size := World.block_lt_of_cell? wr _ c1
      have p2 : ∀ j, b < wr.heap.size + j := fun j => by omega
      have P0 := PK.out
      rw [hu] at P0
      have q0 := P0.cell (i := 0) rfl
      have q1 := P0.cell (i := 1) rfl
      have f0 := P0.frozen 0
      have f1 := P0.frozen 1
      have l1 := P0.lt
      have l2 : ∀ j, w.heap.size + 1 < wr.heap.size + j := fun j => by omega
      have P0 := Lib.hid P0
      clear PK
      by_cases hpu : (x, y) = (u, v)
      · injection hpu with e1 e2
        have E := Lib.hid (chgs_no hp (by rw [hu, e1, e2]))
        clear hcell hp hl hkz z0 z1 hbl hu
        subst eA e1 e2
        have P2 := Lib.hid (show Bk _ (w.heap.size + 1) (pc (was l (k + 1)).1 (was l (k + 1)).2) 44 by
          rw [WN.out]; exact P0.out.alloc (o := .cells #[.int .i64 x, .int .i64 y] 44))
        have R2 := Lib.hid (RK.out.alloc (.cells #[.int .i64 x, .int .i64 y] 44))
        clear hgb
        go_wp2_with fail
        go_roundw
        case rel => exact ⟨k + 1, by omega, by go_num, q, by omega, ⟨_, _, rfl⟩, by rw [E.out]; exact QK, by rw [E.out]; exact R2, P2, Lib.hid (by have h7 := BK.out; have h8 := h7.size; go_grown)⟩
        case measure => simp [intOf]; omega
      · have E := Lib.hid (chgs_yes hp (by rw [hu]; exact hpu))
        have hne : (x == u) = false ∨ (x == u) = true ∧ (y == v) = false := by
          by_cases e1 : x = u
          · right; subst e1; refine ⟨by simp, ?_⟩; simpa using hpu
          · left; simpa using e1
        have SN := Lib.hid (show gls (chgs l k) ++ [.int .i64 (k : Int), .int .i64 x, .int .i64 y] = gls (chgs l (k + 1)) by rw [E.out]; exact gls_snoc (chgs l k) ((k : Int), (x, y)))
        have QL := Lib.hid (show (chgs l (k + 1)).length = q + 1 by rw [E.out, List.length_append, QK.out]; rfl)
        have T6 : Bk (wr.alloc (.cells #[.int .i64 x, .int .i64 y] 44)) wr.heap.size (pc x y) 44 := Bk.new _ _ _
        have T6 := Lib.hid (T6.alloc (o := .cells #[.int .i64 (k : Int), .int .i64 x, .int .i64 y] 89))
        have R1 := ((RK.out.alloc (.cells #[.int .i64 x, .int .i64 y] 44)).alloc (.cells #[.int .i64 (k : Int), .int .i64 x, .int .i64 y] 89))
        have P1 := Lib.hid ((P0.out.alloc (o := .cells #[.int .i64 x, .int .i64 y] 44)).alloc (o := .cells #[.int .i64 (k : Int), .int .i64 x, .int .i64 y] 89))
        have HG := Lib.hid hgb
        have hg6 := Lib.hid (own_ne R1 T6.out (by decide))
        clear hcell hp hl hkz z0 z1 hbl hu hpu hgb RK P0 E
        subst eA
        rcases hne with e1 | ⟨e1, e2⟩
        all_goals
          go_wp2_with (
            at_builtin
            refine wpList_append_own _ rfl _ _ 34 rfl w.heap.size 89 i0 (.agg #[.int .i64 0, .int .i64 0, .int .i64 0]) 3 24 Tryz.underlying34 hi hz0 hz1 hz2 rfl (by decide) _ _ _ rfl R1 ⟨wr.heap.size + 1, 0, none⟩ 1 1 [.int .i64 (k : Int), .int .i64 x, .int .i64 y] rfl rfl (by intro j z hj; match j, hj with | 0, hj => (simp at hj; subst hj; simp [Addr.add]) | 1, hj => (simp at hj; subst hj; simp [Addr.add]) | 2, hj => (simp at hj; subst hj; simp [Addr.add])) (by intro z hz; simp at hz; rcases hz with rfl | rfl | rfl <;> rfl) (by unfold maxLen; omega) (by omega) (by simp; omega) ?_
            intro v' w1 hown' hgrow hnil
            have P2 := P1.out.grown hgrow HG.out
            have T2 := T6.out.grown hgrow hg6.out
            have B2 := Lib.hid (((BK.out.alloc hbs (.cells #[.int .i64 x, .int .i64 y] 44)).alloc (by simp; omega) (.cells #[.int .i64 (k : Int), .int .i64 x, .int .i64 y] 89)).grown hgrow (by simp; omega) (fun z hz => by cases hz; exact hg))
            rw [SN.out] at hown'
            obtain ⟨g', cc, rfl⟩ := own_slice hown'
            have d0 := P2.cell (i := 0) rfl
            have d1 := P2.cell (i := 1) rfl
            have d2 := P2.frozen 0
            have d3 := P2.frozen 1
            have d4 := T2.cell (i := 0) rfl
            have d5 := T2.cell (i := 1) rfl
            have hgb := own_ne hown' P2 (by decide)
            have a1 := owns_grown hown' (Bk.setG w1 (w.heap.size + 1) 0 (.int .i64 x)) (fun k e h => hgb (by rw [e, h]))
            have R2 := Lib.hid (owns_grown a1 (Bk.setG _ (w.heap.size + 1) 1 (.int .i64 y)) (fun k e h => hgb (by rw [e, h])))
            have P3 := Lib.hid (show Bk _ (w.heap.size + 1) (pc (was l (k + 1)).1 (was l (k + 1)).2) 44 by
              rw [WN.out]; exact ((P2.set (i := 0) (v := .int .i64 x)).set (i := 1) (v := .int .i64 y)))
            clear hown' hgrow hnil R1 P2 T2 a1 hgb c1 c2 q0 q1 f0 f1 p1 p2 l1 l2)
          go_wp2_with fail
          go_roundw
          case rel => exact ⟨k + 1, by omega, by go_num, q + 1, by omega, ⟨_, _, rfl⟩, QL, R2, P3, Lib.hid (by have h7 := B2.out; have h8 := h7.size; go_grown)⟩
          case measure => simp [intOf]; omega
    · obtain rfl : k = m := by omega
      have F := Lib.hid (show chgs l k = chg l by unfold chg; rw [HN.out])
      go_wp2_with fail
      go_ret
      exact ⟨g, c', by rw [← F.out, QK.out]; rfl, by rw [← F.out, QK.out]; exact RK.out, BK.out⟩

end Go.Proofs.YtokncfhpmjohdaaGreat.Wb
namespace Go.Proofs.YtokncfhpmjohdaaGreat.Wc
open Go.RowKit Go.Proofs.YtokncfhpmjohdaaGreat.Mem Go.Proofs.YtokncfhpmjohdaaGreat.Rw Go.Proofs.YtokncfhpmjohdaaGreat.Bk Go.Proofs.YtokncfhpmjohdaaGreat.Cx Go.Proofs.YtokncfhpmjohdaaGreat.Cm Go.Proofs.YtokncfhpmjohdaaGreat.Jt Go.Proofs.YtokncfhpmjohdaaGreat.Pl Go.Proofs.YtokncfhpmjohdaaGreat.Str Go.Proofs.YtokncfhpmjohdaaGreat.Pw Go.Proofs.YtokncfhpmjohdaaGreat.P2 Go.Proofs.YtokncfhpmjohdaaGreat.Gs Go.Proofs.YtokncfhpmjohdaaGreat.Wm Go.Proofs.YtokncfhpmjohdaaGreat.Wi Go.Proofs.YtokncfhpmjohdaaGreat.Wa
set_option linter.unusedVariables false
set_option linter.unusedSimpArgs false

/-- Words that tell these places, to be read. -/
def Win (w : World) (l : List (Int × Int)) (e : Ending) (w' : World) : Prop :=
  ∃ g o, e = .returned (.slice (some ⟨g, o, none⟩) l.length l.length) ∧ Rd w' w'.heap.size (some ⟨g, o, none⟩) (zs2 l) ∧ Below w.heap.size w w'

theorem rd_part {w : World} {B g : Nat} {xs : List Value} (h : Rd w B (some ⟨g, 0, none⟩) xs) (a m : Nat) : Rd w B (some ⟨g, a, none⟩) ((xs.drop a).take m) := by
  rcases h with rfl | ⟨b, o, e, hb, hx⟩
  · exact Or.inl (by simp)
  · injection e with e
    injection e with e1 e2
    subst e1 e2
    refine Or.inr ⟨g, a, rfl, hb, fun j v hv => ?_⟩
    rw [List.getElem?_take] at hv
    split at hv
    · rw [List.getElem?_drop] at hv
      have := hx _ _ hv
      rwa [Nat.zero_add] at this
    · cases hv
theorem zs2_part (zs : List G) (a m : Nat) (h : a + m ≤ 128) : ((zs2 (drs zs 0 128)).drop a).take m = zs2 (drs zs a m) := by
  unfold zs2
  rw [← List.map_drop, ← List.map_take, drs_drop, drs_take (by omega)]

set_option maxRecDepth 100000 in
set_option maxHeartbeats 2000000 in
theorem driftsIn (A : Option Addr) (n c : Nat) (zs : List G) (H : Nat) (a m : Nat) (w : World) (hn : zs.length = n) (hb : n ≤ 1048576) (hH : H ≤ w.heap.size) (hr : Rd w H A (gls zs)) (hw : wd zs = true) (hm : a + m ≤ 128) :
    Calls Tryz.prog 137 #[.slice A n c, .int .i64 a, .int .i64 ((a : Int) + (m : Int))] w (Win w (drs zs a m)) := by
  have C := Lib.hid (spreadOut A n c zs H w hn hb hH hr hw)
  obtain ⟨b, hb⟩ : ∃ b : Nat, b = a + m := ⟨_, rfl⟩
  rw [show (a : Int) + (m : Int) = (b : Int) by omega]
  have hab : a ≤ b := by omega
  have hb8 : b ≤ 128 := by omega
  have HB := Lib.hid hb
  have a0 : (a : Int) ≤ (b : Int) := by omega
  have a1 : (0 : Int) ≤ (a : Int) := by omega
  have a2 : (b : Int) ≤ 128 := by omega
  have a3 : (b : Int) ≤ ((128 : Nat) : Int) := by omega
  clear hr hn hw hb
  go_enter Tryz.func137, Tryz.ntmps137
  go_wp2_with fail
  refine C.out.mono ?_
  rintro e u ⟨g, rfl, o1, b1⟩
  rw [drs_len] at o1 ⊢
  have O1 := Lib.hid o1
  have B1 := Lib.hid b1
  clear o1 b1
  have hl : (drs zs a m).length = m := drs_len _ _ _
  by_cases h0 : m = 0
  · have hba : b = a := by have := HB.out; omega
    subst h0 hba
    go_wp2_with fail
    go_ret
    exact ⟨g, 0, by rw [hl]; simp, by exact Or.inl rfl, B1.out⟩
  · have hba : ¬ b = a := by have := HB.out; omega
    go_wp2_with fail
    go_ret
    have := HB.out
    have hm2 : b - a = m := by omega
    refine ⟨g, a, by rw [hl, ← hm2]; rfl, ?_, B1.out⟩
    have h7 := rd_part (Rd.own O1.out) a m
    rw [zs2_part zs a m hm] at h7
    exact h7

theorem cneq {P : Program} {a b c d : Int} {x y u v : Nat} (ha : a.natAbs < 16777216) (hb : b.natAbs < 16777216) (hc : c.natAbs < 16777216) (hd : d.natAbs < 16777216) (hx : I32 a x) (hy : I32 b y) (hu : I32 c u) (hv : I32 d v) (r : Bool) (hr : r = (!(decide (a = c) && decide (b = d)))) (t : TypeId) (w : World) :
    (binOp .neq t (.complex .f32 x y) (.complex .f32 u v)).run P w = .ok (.bool r) w := by
  have key : ∀ {a b : Int}, (some (compare a b) == some Ordering.eq) = decide (a = b) := by
    intro a b
    by_cases h : a = b
    · subst h; simp [compare, compareOfLessAndEq]
    · simp [compare, compareOfLessAndEq, h]
      split <;> simp
  rw [run_neq_complex]
  have e1 : FloatKind.f32.format.order x u = some (compare a c) := order_is (s32 a ha) (s32 c hc) hx hu
  have e2 : FloatKind.f32.format.order y v = some (compare b d) := order_is (s32 b hb) (s32 d hd) hy hv
  rw [e1, e2, key, key, hr]

/-- All places of a list lie so near. -/
def Near (D : Int) (l : List (Int × Int)) : Prop := ∀ p ∈ l, (-D ≤ p.1 ∧ p.1 ≤ D) ∧ (-D ≤ p.2 ∧ p.2 ≤ D)
theorem Near.at {D : Int} {l : List (Int × Int)} (h : Near D l) {k : Nat} {p : Int × Int} (hp : l[k]? = some p) : (-D ≤ p.1 ∧ p.1 ≤ D) ∧ (-D ≤ p.2 ∧ p.2 ≤ D) := h p (List.mem_of_getElem? hp)
theorem Near.was {D : Int} {l : List (Int × Int)} (h : Near D l) (h0 : 0 ≤ D) {k : Nat} (hk : k ≤ l.length) : (-D ≤ (was l k).1 ∧ (was l k).1 ≤ D) ∧ (-D ≤ (was l k).2 ∧ (was l k).2 ≤ D) := by
  cases k with
  | zero => rw [was_zero]; simp only; omega
  | succ k =>
    obtain ⟨p, hp⟩ : ∃ p, l[k]? = some p := ⟨_, List.getElem?_eq_getElem (by omega)⟩
    rw [was_next hp]; exact h.at hp
theorem near_drs {zs : List G} (h : wd zs = true) (a m : Nat) : Near 8 (drs zs a m) := by
  intro p hp
  unfold drs at hp
  obtain ⟨j, _, rfl⟩ := List.mem_map.1 hp
  exact dr_bound h _

set_option maxRecDepth 100000 in
set_option maxHeartbeats 2000000 in
theorem changesOf (A : Option Addr) (m c : Nat) (l : List (Int × Int)) (H : Nat) (w : World) (hn : l.length = m) (hb : m ≤ 1000) (hH : H ≤ w.heap.size) (hr : Rd w H A (zs2 l)) (hl : Near 8 l) :
    Calls Tryz.prog 136 #[.slice A m c] w (Row3 w (chg l)) := by
  obtain ⟨i0, hi, hz0, hz1, hz2⟩ := info_of infoGust
  have HR := Lib.hid (hr.more hH)
  have HN := Lib.hid hn
  have HL := Lib.hid hl
  clear hr hn hl
  go_enter Tryz.func136, Tryz.ntmps136
  go_wp2_with fail
  go_loopw [3, 4, 12] (fun v z i wr => ∃ k : Nat, k ≤ m ∧ i = .int .i64 k ∧ (∃ a b : Nat, z = .complex .f32 a b ∧ Hid (a = Meas.f32 (was l k).1 ∧ b = Meas.f32 (was l k).2)) ∧ ∃ q : Nat, q ≤ k ∧ (∃ g c' : Nat, v = .slice (some ⟨g, 0, none⟩) q c') ∧ Hid ((chgs l k).length = q) ∧ Hid (wr.ownsRow w.heap.size 89 3 v q (gls (chgs l k))) ∧ Hid (Below w.heap.size w wr)) (fun _ _ i _ => m - (intOf i).toNat)
  case atStart => exact ⟨0, Nat.zero_le _, rfl, ⟨0, 0, rfl, Lib.hid ⟨f32_0.symm, f32_0.symm⟩⟩, 0, Nat.le_refl _, ⟨_, _, rfl⟩, Lib.hid rfl, Lib.hid (World.ownsRow_lit w #[] 0 (Nat.le_refl _) (Nat.zero_le _) rfl), Lib.hid (by go_grown)⟩
  case round =>
    obtain ⟨k, hk, rfl, ⟨za, zb, rfl, ZK⟩, q, hqk, ⟨g, c', rfl⟩, QK, RK, BK⟩ := hrel
    have hbs := BK.out.size
    by_cases hlt : k < m
    · have hkz : k < l.length := by rw [HN.out]; exact hlt
      obtain ⟨p, hp⟩ : ∃ p, l[k]? = some p := ⟨_, List.getElem?_eq_getElem hkz⟩
      obtain ⟨b, o, eA, hbl, hcell⟩ := (HR.out.below BK.out).get (k := k) (by rw [zs2_len]; exact hkz)
      have c1 : wr.cell? ⟨b, o + k, none⟩ = some (.complex .f32 (Meas.f32 p.1) (Meas.f32 p.2)) := hcell _ _ (zs2_get hp)
      have hg := own_base RK.out g rfl
      have WN := Lib.hid (was_next hp)
      have hq := HL.out.at hp
      have hw := HL.out.was (by decide) (k := k) (by omega)
      have p1 : b < wr.heap.size := World.block_lt_of_cell? wr _ c1
      have p2 : ∀ j, b < wr.heap.size + j := fun j => by omega
      obtain ⟨x, y⟩ := p
      obtain ⟨⟨u, v⟩, hu⟩ : ∃ u, was l k = u := ⟨_, rfl⟩
      have ZZ := ZK.out
      rw [hu] at ZZ hw
      simp only at hw hq ZZ c1
      obtain ⟨hza, hzb⟩ := ZZ
      have NE0 := cneq (P := Tryz.prog) (a := x) (b := y) (c := u) (d := v) (x := Meas.f32 x) (y := Meas.f32 y) (u := za) (v := zb) (by omega) (by omega) (by omega) (by omega) (i32_f32 x) (i32_f32 y) (hza ▸ i32_f32 u) (hzb ▸ i32_f32 v)
      have ZN := Lib.hid (show Meas.f32 x = Meas.f32 (was l (k + 1)).1 ∧ Meas.f32 y = Meas.f32 (was l (k + 1)).2 by rw [WN.out]; exact ⟨rfl, rfl⟩)
      by_cases hpu : (x, y) = (u, v)
      · have NE := NE0 false (by injection hpu with e1 e2; rw [e1, e2]; simp)
        have E := Lib.hid (chgs_no hp (by rw [hu]; exact hpu))
        clear NE0 hcell hp hkz hbl hu hpu hza hzb ZK hq hw WN
        subst eA
        go_wp2_with fail
        go_roundw
        case rel => exact ⟨k + 1, by omega, by go_num, ⟨_, _, rfl, ZN⟩, q, by omega, ⟨_, _, rfl⟩, by rw [E.out]; exact QK, by rw [E.out]; exact RK, BK⟩
        case measure => simp [intOf]; omega
      · have NE := NE0 true (by by_cases h1 : x = u <;> by_cases h2 : y = v <;> simp_all)
        have E := Lib.hid (chgs_yes hp (by rw [hu]; exact hpu))
        have T := Lib.hid (toldYes (a := x) (b := y) (by omega) (by omega) (i32_f32 x) (i32_f32 y))
        have SN := Lib.hid (show gls (chgs l k) ++ [.int .i64 (k : Int), .int .i64 x, .int .i64 y] = gls (chgs l (k + 1)) by rw [E.out]; exact gls_snoc (chgs l k) ((k : Int), (x, y)))
        have QL := Lib.hid (show (chgs l (k + 1)).length = q + 1 by rw [E.out, List.length_append, QK.out]; rfl)
        have R1 := (((RK.out.alloc (.cells #[.int .i64 x, .int .i64 y] 44)).alloc (.cells #[.int .i64 x, .int .i64 y] 44)).alloc (.cells #[.int .i64 (k : Int), .int .i64 x, .int .i64 y] 89))
        clear NE0 hcell hp hkz hbl hu hpu hza hzb ZK hq hw WN RK E
        subst eA
        go_wp2_with fail
        refine (T.out _).mono ?_
        rintro e w' ⟨rfl, rfl⟩
        go_wp2_with (
          at_builtin
          refine wpList_append_own _ rfl _ _ 34 rfl w.heap.size 89 i0 (.agg #[.int .i64 0, .int .i64 0, .int .i64 0]) 3 24 Tryz.underlying34 hi hz0 hz1 hz2 rfl (by decide) _ _ _ rfl R1 ⟨wr.heap.size + 1 + 1, 0, none⟩ 1 1 [.int .i64 (k : Int), .int .i64 x, .int .i64 y] rfl rfl (by intro j z hj; match j, hj with | 0, hj => (simp at hj; subst hj; simp [go_sem, Addr.add]) | 1, hj => (simp at hj; subst hj; simp [go_sem, Addr.add]) | 2, hj => (simp at hj; subst hj; simp [go_sem, Addr.add])) (by intro z hz; simp at hz; rcases hz with rfl | rfl | rfl <;> rfl) (by unfold maxLen; omega) (by omega) (by simp; omega) ?_
          intro v' w1 hown' hgrow hnil
          have B2 := Lib.hid ((((BK.out.alloc hbs (.cells #[.int .i64 x, .int .i64 y] 44)).alloc (by simp; omega) (.cells #[.int .i64 x, .int .i64 y] 44)).alloc (by simp; omega) (.cells #[.int .i64 (k : Int), .int .i64 x, .int .i64 y] 89)).grown hgrow (by simp; omega) (fun z hz => by cases hz; exact hg))
          rw [SN.out] at hown'
          obtain ⟨g', cc, rfl⟩ := own_slice hown'
          have R2 := Lib.hid hown'
          clear hown' hgrow hnil R1 c1 p1 p2)
        go_wp2_with fail
        go_roundw
        case rel => exact ⟨k + 1, by omega, by go_num, ⟨_, _, rfl, ZN⟩, q + 1, by omega, ⟨_, _, rfl⟩, QL, R2, B2⟩
        case measure => simp [intOf]; omega
    · obtain rfl : k = m := by omega
      have F := Lib.hid (show chgs l k = chg l by unfold chg; rw [HN.out])
      go_wp2_with fail
      go_ret
      exact ⟨g, c', by rw [← F.out, QK.out]; rfl, by rw [← F.out, QK.out]; exact RK.out, BK.out⟩

end Go.Proofs.YtokncfhpmjohdaaGreat.Wc
namespace Go.Proofs.YtokncfhpmjohdaaGreat.We
open Go.RowKit Go.Proofs.YtokncfhpmjohdaaGreat.Mem Go.Proofs.YtokncfhpmjohdaaGreat.Rw Go.Proofs.YtokncfhpmjohdaaGreat.Bk Go.Proofs.YtokncfhpmjohdaaGreat.Cx Go.Proofs.YtokncfhpmjohdaaGreat.Cm Go.Proofs.YtokncfhpmjohdaaGreat.Jt Go.Proofs.YtokncfhpmjohdaaGreat.Pl Go.Proofs.YtokncfhpmjohdaaGreat.Str Go.Proofs.YtokncfhpmjohdaaGreat.Pw Go.Proofs.YtokncfhpmjohdaaGreat.P2 Go.Proofs.YtokncfhpmjohdaaGreat.Gs Go.Proofs.YtokncfhpmjohdaaGreat.Wm Go.Proofs.YtokncfhpmjohdaaGreat.Wi Go.Proofs.YtokncfhpmjohdaaGreat.Wa Go.Proofs.YtokncfhpmjohdaaGreat.Wb Go.Proofs.YtokncfhpmjohdaaGreat.Wc
set_option linter.unusedVariables false
set_option linter.unusedSimpArgs false

/-- The drift that is told: none of a list that is no wind. -/
def dv (zs : List G) (t : Int) : Int × Int := if wd zs = true then dr zs t else (0, 0)
theorem windI {A : Option Addr} {n c : Nat} {zs : List G} {H : Nat} {r : Bool} (hn : zs.length = n) (hb : n ≤ 1048576) (h : wd zs = r) (w : World) (hH : H ≤ w.heap.size) (hr : Rd w H A (gls zs)) :
    Calls Tryz.prog 127 #[.slice A n c] w fun e w' => e = .returned (.bool r) ∧ Below w.heap.size w w' := h ▸ isWindI A n c zs H w hn hb hH hr
end Go.Proofs.YtokncfhpmjohdaaGreat.We
namespace Go.Proofs.YtokncfhpmjohdaaGreat.Wg
open Go.RowKit Go.Proofs.YtokncfhpmjohdaaGreat.Mem Go.Proofs.YtokncfhpmjohdaaGreat.Rw Go.Proofs.YtokncfhpmjohdaaGreat.Bk Go.Proofs.YtokncfhpmjohdaaGreat.Cx Go.Proofs.YtokncfhpmjohdaaGreat.Cm Go.Proofs.YtokncfhpmjohdaaGreat.Jt Go.Proofs.YtokncfhpmjohdaaGreat.Pl Go.Proofs.YtokncfhpmjohdaaGreat.Str Go.Proofs.YtokncfhpmjohdaaGreat.Pw Go.Proofs.YtokncfhpmjohdaaGreat.P2 Go.Proofs.YtokncfhpmjohdaaGreat.Gs Go.Proofs.YtokncfhpmjohdaaGreat.Wm Go.Proofs.YtokncfhpmjohdaaGreat.Wi Go.Proofs.YtokncfhpmjohdaaGreat.Wa Go.Proofs.YtokncfhpmjohdaaGreat.Wb Go.Proofs.YtokncfhpmjohdaaGreat.Wc Go.Proofs.YtokncfhpmjohdaaGreat.We
set_option linter.unusedVariables false
set_option linter.unusedSimpArgs false

/-- The changes up to k speak of the first k places only. -/
theorem chgs_pre {l m : List (Int × Int)} {k : Nat} (h : ∀ j, j < k → l[j]? = m[j]?) : chgs l k = chgs m k := by
  induction k with
  | zero => rfl
  | succ k ih =>
    have ih := ih (fun j hj => h j (by omega))
    have hk := h k (by omega)
    have hw : was l k = was m k := by
      cases k with
      | zero => rfl
      | succ k => unfold was; rw [if_neg (by omega), if_neg (by omega), Nat.add_sub_cancel, List.getD_eq_getElem?_getD, List.getD_eq_getElem?_getD, h k (by omega)]
    have hd : l.getD k (0, 0) = m.getD k (0, 0) := by rw [List.getD_eq_getElem?_getD, List.getD_eq_getElem?_getD, hk]
    unfold chgs at ih ⊢
    rw [List.range_succ, List.filter_append, List.filter_append, List.map_append, List.map_append, ih]
    simp only [List.filter_cons, List.filter_nil, hd, hw]
    split <;> simp [hk]
/-- Behind the last tick there is no change. -/
theorem later_cut {zs : List G} (h : wd zs = true) {n : Nat} (hn : n ≤ 64) : chg (drs zs n 65) = chg (drs zs n (65 - n)) := by
  have key : ∀ j, 65 - n + j ≤ 65 → chgs (drs zs n 65) (65 - n + j) = chgs (drs zs n 65) (65 - n) := by
    intro j
    induction j with
    | zero => intro _; rfl
    | succ j ih =>
      intro hj
      rw [← Nat.add_assoc, chgs_no (p := dr zs ((n + (65 - n + j) : Nat) : Int)) (drs_get (by omega)), ih (by omega)]
      have e : was (drs zs n 65) (65 - n + j) = dr zs ((n + (65 - n + j - 1) : Nat) : Int) := by
        unfold was; rw [if_neg (by omega), List.getD_eq_getElem?_getD, drs_get (by omega)]; rfl
      rw [e, dr_late h (by omega), dr_late h (t := ((n + (65 - n + j - 1) : Nat) : Int)) (by omega)]
  unfold chg
  rw [drs_len, drs_len]
  have k0 := key n (by omega)
  rw [show 65 - n + n = 65 by omega] at k0
  rw [k0]
  exact chgs_pre fun j hj => by rw [drs_get (by omega), drs_get (by omega)]

/-- The wind that is told from a tick on. -/
def lat (zs : List G) (t : Int) : List G := if wd zs = true ∧ 0 ≤ t ∧ t ≤ 64 then chg (drs zs t.toNat 65) else []
theorem lat_no {zs : List G} {t : Int} (h : wd zs = false ∨ t < 0 ∨ 64 < t) : lat zs t = [] := by
  unfold lat; rw [if_neg]; rintro ⟨a, b, c⟩
  rcases h with h | h | h
  · rw [h] at a; cases a
  · omega
  · omega
theorem lat_yes {zs : List G} (h : wd zs = true) {k : Nat} (hk : k ≤ 64) : lat zs (k : Int) = chg (drs zs k 65) := by
  unfold lat; rw [if_pos ⟨h, by omega, by omega⟩]; rfl
theorem lat_len (zs : List G) (t : Int) : (lat zs t).length ≤ 65 := by
  unfold lat; split
  · have := chgs_len (drs zs t.toNat 65) (drs zs t.toNat 65).length
    unfold chg
    rw [drs_len] at this ⊢
    exact this
  · simp

theorem row_none {w u : World} (h : Below w.heap.size w u) : Row3 w [] (.returned (.slice (some ⟨u.heap.size, 0, none⟩) 0 0)) (u.alloc (.cells #[] 89)) :=
  ⟨u.heap.size, 0, rfl, World.ownsRow_lit u #[] 0 h.size (Nat.zero_le _) rfl, h.alloc h.size _⟩
theorem row_in {w u v : World} {zs : List G} {e : Ending} (h : Below w.heap.size w u) (r : Row3 u zs e v) : Row3 w zs e v := by
  obtain ⟨g, c, rfl, o, b⟩ := r
  exact ⟨g, c, rfl, owns_base o (Nat.le_trans h.size (own_base o g rfl)), below_in h b⟩

theorem windows {A : Option Addr} {n c : Nat} {zs : List G} {H a : Nat} (hn : zs.length = n) (hb : n ≤ 1048576) (ha : a ≤ 64) (hw : wd zs = true) (W : World) (hH : H ≤ W.heap.size) (hr : Rd W H A (gls zs)) :
    Calls Tryz.prog 137 #[.slice A n c, .int .i64 a, .int .i64 65] W (Win W (drs zs a (65 - a))) := by
  have := driftsIn A n c zs H a (65 - a) W hn hb hH hr hw (by omega)
  rw [show (a : Int) + ((65 - a : Nat) : Int) = 65 by omega] at this
  exact this

set_option maxHeartbeats 1000000 in
theorem laterI (A : Option Addr) (n c : Nat) (zs : List G) (H : Nat) (t : Int) (w : World) (hn : zs.length = n) (hb : n ≤ 1048576) (hH : H ≤ w.heap.size) (hr : Rd w H A (gls zs)) :
    Calls Tryz.prog 92 #[.slice A n c, .int .i64 t] w (Row3 w (lat zs t)) := by
  have HR := Lib.hid hr
  have hbad : wd zs = false ∨ wd zs = true ∧ (t < 0 ∨ 64 < t) ∨ wd zs = true ∧ 0 ≤ t ∧ t ≤ 64 := by
    cases wd zs
    · exact Or.inl rfl
    · right
      by_cases h : t < 0 ∨ 64 < t
      · exact Or.inl ⟨rfl, h⟩
      · exact Or.inr ⟨rfl, by omega, by omega⟩
  rcases hbad with hw | ⟨hw, ht⟩ | ⟨hw, ht, ht2⟩
  · rw [lat_no (Or.inl hw)]
    have C := Lib.hid (windI (A := A) (c := c) (H := H) hn hb hw)
    clear hw hr hn
    go_enter Tryz.func92, Tryz.ntmps92
    go_wp2_with fail
    refine (C.out _ hH HR.out).mono ?_
    rintro e u ⟨rfl, b1⟩
    have B1 := Lib.hid b1
    clear b1
    go_wp2_with fail
    go_ret
    exact row_none B1.out
  · rw [lat_no (Or.inr ht)]
    have C := Lib.hid (windI (A := A) (c := c) (H := H) hn hb hw)
    have I := Lib.hid (isWithin_of (iw_no ht))
    clear hw hr hn ht
    go_enter Tryz.func92, Tryz.ntmps92
    go_wp2_with fail
    refine (C.out _ hH HR.out).mono ?_
    rintro e u ⟨rfl, b1⟩
    have B1 := Lib.hid b1
    clear b1
    go_wp2_with fail
    refine (I.out _).mono ?_
    rintro e v ⟨rfl, rfl⟩
    go_wp2_with fail
    go_ret
    exact row_none B1.out
  · obtain ⟨k, rfl⟩ : ∃ k : Nat, t = (k : Int) := ⟨t.toNat, by omega⟩
    have hk : k ≤ 64 := by omega
    rw [lat_yes hw hk, later_cut hw hk]
    have C := Lib.hid (windI (A := A) (c := c) (H := H) hn hb hw)
    have I := Lib.hid (isWithin_of (iw_yes ⟨ht, ht2⟩))
    have D := Lib.hid (windows (A := A) (c := c) (zs := zs) (H := H) (a := k) hn hb hk hw)
    have N := Lib.hid (near_drs hw k (65 - k))
    have HH := Lib.hid hH
    clear hw hr hn ht ht2 hH
    go_enter Tryz.func92, Tryz.ntmps92
    go_wp2_with fail
    refine (C.out _ HH.out HR.out).mono ?_
    rintro e u ⟨rfl, b1⟩
    have HR1 := Lib.hid (HR.out.below (b1.mono HH.out))
    have B1 := Lib.hid b1
    clear b1
    go_wp2_with fail
    refine (I.out _).mono ?_
    rintro e v ⟨rfl, rfl⟩
    go_wp2_with fail
    refine (D.out _ (Nat.le_trans HH.out B1.out.size) HR1.out).mono ?_
    rintro e v ⟨g, o, rfl, o2, b2⟩
    rw [drs_len] at ⊢
    have B2 := Lib.hid (below_in B1.out b2)
    have O2 := Lib.hid o2
    clear b2 o2
    go_wp2_with fail
    refine (changesOf _ (65 - k) _ _ _ _ (drs_len ..) (by omega) (Nat.le_refl _) O2.out N.out).mono ?_
    rintro e x ⟨g3, c3, rfl, o3, b3⟩
    have R3 := Lib.hid (row_in B2.out ⟨g3, c3, rfl, o3, b3⟩)
    clear o3 b3
    go_wp2_with fail
    go_ret
    exact R3.out

set_option maxHeartbeats 1000000 in
theorem normalI (A : Option Addr) (n c : Nat) (zs : List G) (H : Nat) (w : World) (hn : zs.length = n) (hb : n ≤ 1048576) (hH : H ≤ w.heap.size) (hr : Rd w H A (gls zs)) :
    Calls Tryz.prog 45 #[.slice A n c] w (Row3 w (lat zs 0)) := by
  have L := Lib.hid (laterI A n c zs H 0 w hn hb hH hr)
  clear hr hn hH
  go_enter Tryz.func45, Tryz.ntmps45
  go_wp2_with fail
  refine L.out.mono ?_
  rintro e u ⟨g, c2, rfl, o, b⟩
  have R := Lib.hid (show Row3 w (lat zs 0) _ _ from ⟨g, c2, rfl, o, b⟩)
  clear o b
  go_wp2_with fail
  go_ret
  exact R.out

end Go.Proofs.YtokncfhpmjohdaaGreat.Wg

namespace Go.Proofs.YtokncfhpmjohdaaGreat.Wt
open Go.RowKit Go.Proofs.YtokncfhpmjohdaaGreat.Mem Go.Proofs.YtokncfhpmjohdaaGreat.Rw Go.Proofs.YtokncfhpmjohdaaGreat.Bk Go.Proofs.YtokncfhpmjohdaaGreat.Cx Go.Proofs.YtokncfhpmjohdaaGreat.Cm Go.Proofs.YtokncfhpmjohdaaGreat.Jt Go.Proofs.YtokncfhpmjohdaaGreat.Pl Go.Proofs.YtokncfhpmjohdaaGreat.Str Go.Proofs.YtokncfhpmjohdaaGreat.Pw Go.Proofs.YtokncfhpmjohdaaGreat.P2 Go.Proofs.YtokncfhpmjohdaaGreat.Tp Go.Proofs.YtokncfhpmjohdaaGreat.Gs Go.Proofs.YtokncfhpmjohdaaGreat.Wm Go.Proofs.YtokncfhpmjohdaaGreat.Wi Go.Proofs.YtokncfhpmjohdaaGreat.Wa Go.Proofs.YtokncfhpmjohdaaGreat.Wb Go.Proofs.YtokncfhpmjohdaaGreat.Wc Go.Proofs.YtokncfhpmjohdaaGreat.We Go.Proofs.YtokncfhpmjohdaaGreat.Wg
set_option linter.unusedVariables false
set_option linter.unusedSimpArgs false

end Go.Proofs.YtokncfhpmjohdaaGreat.Wt
namespace Go.Proofs.YtokncfhpmjohdaaGreat.Cr
open Go.RowKit Go.ChangeShapes Go.WideShapes Go.WideElems Go.Deep Go.Proofs.YtokncfhpmjohdaaGreat.Mem Go.Proofs.YtokncfhpmjohdaaGreat.Rw Go.Proofs.YtokncfhpmjohdaaGreat.P2 Go.Proofs.YtokncfhpmjohdaaGreat.Cd Go.Proofs.YtokncfhpmjohdaaGreat.Cv Go.Proofs.YtokncfhpmjohdaaGreat.Cl Go.Proofs.YtokncfhpmjohdaaGreat.Cs
set_option linter.unusedVariables false
set_option linter.unusedSimpArgs false
open Go.Proofs.YtokncfhpmjohdaaGreat.Sd Go.Proofs.YtokncfhpmjohdaaGreat.Oc
open Go.Proofs.YtokncfhpmjohdaaGreat.Rw (owns_below owns_grown)

/-- The list without its j-th. -/
def cut (zs : List C) (j : Nat) : List C := zs.take j ++ zs.drop (j + 1)
theorem cut_len {zs : List C} {j : Nat} (h : j < zs.length) : (cut zs j).length = zs.length - 1 := by unfold cut; simp; omega
end Go.Proofs.YtokncfhpmjohdaaGreat.Cr
