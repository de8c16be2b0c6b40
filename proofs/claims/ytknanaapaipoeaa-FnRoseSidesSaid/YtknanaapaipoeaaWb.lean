/- Winds made of lists of drifts, of the model. -/
import Derived.Test.YtknanaapaipoeaaWa
namespace Go.Proofs.Ytknanaapaipoeaa.Wb
open Go.RowKit Go.Proofs.Ytknanaapaipoeaa.Mem Go.Proofs.Ytknanaapaipoeaa.Rw Go.Proofs.Ytknanaapaipoeaa.Bk Go.Proofs.Ytknanaapaipoeaa.Jt Go.Proofs.Ytknanaapaipoeaa.Pw Go.Proofs.Ytknanaapaipoeaa.P2 Go.Proofs.Ytknanaapaipoeaa.Gs Go.Proofs.Ytknanaapaipoeaa.Wm Go.Proofs.Ytknanaapaipoeaa.Wi Go.Proofs.Ytknanaapaipoeaa.Wa
set_option linter.unusedVariables false
set_option linter.unusedSimpArgs false

set_option maxRecDepth 100000 in
set_option maxHeartbeats 2000000 in
theorem l4From (A : Option Addr) (m c : Nat) (l : List (Int × Int)) (H : Nat) (w : World) (hn : l.length = m) (hb : m ≤ 1000) (hH : H ≤ w.heap.size) (hr : Rd w H A (pcs l)) :
    Calls Try.prog 64 #[.slice A m c] w (Row3 w (chg l)) := by
  obtain ⟨i0, hi, hz0, hz1, hz2⟩ := info_of infoGust
  have HR := Lib.hid (hr.more hH)
  have HN := Lib.hid hn
  clear hr hn
  go_enter Try.func64, Try.ntmps64
  go_wp2_with fail
  go_loopw [3, 11] (fun v i wr => ∃ k : Nat, k ≤ m ∧ i = .int .i64 k ∧ ∃ q : Nat, q ≤ k ∧ (∃ g c' : Nat, v = .slice (some ⟨g, 0, none⟩) q c') ∧ Hid ((chgs l k).length = q) ∧ Hid (wr.ownsRow w.heap.size 57 3 v q (gls (chgs l k))) ∧ Hid (Bk wr (w.heap.size + 1) (pc (was l k).1 (was l k).2) 28) ∧ Hid (Below w.heap.size w wr)) (fun _ i _ => m - (intOf i).toNat)
  case atStart => exact ⟨0, Nat.zero_le _, rfl, 0, Nat.le_refl _, ⟨_, _, rfl⟩, Lib.hid rfl, Lib.hid ((World.ownsRow_lit w #[] 0 (Nat.le_refl _) (Nat.zero_le _) rfl).alloc _), Lib.hid (show Bk _ (w.heap.size + 1) (pc 0 0) _ by simpa using Bk.new (w.alloc (.cells #[] 57)) (pc 0 0) 28), Lib.hid (by go_grown)⟩
  case round =>
    obtain ⟨k, hk, rfl, q, hqk, ⟨g, c', rfl⟩, QK, RK, PK, BK⟩ := hrel
    have hbs := BK.out.size
    by_cases hlt : k < m
    · have hkz : k < l.length := by rw [HN.out]; exact hlt
      have hl : k * 2 < (pcs l).length := by rw [pcs_len]; omega
      obtain ⟨p, hp⟩ : ∃ p, l[k]? = some p := ⟨_, List.getElem?_eq_getElem hkz⟩
      obtain ⟨b, o, eA, hbl, hcell⟩ := (HR.out.below BK.out).get hl
      obtain ⟨z0, z1⟩ := pcs_get hp
      have hg := own_base RK.out g rfl
      have hgb := own_ne RK.out PK.out (by decide)
      have WN := Lib.hid (was_next hp)
      obtain ⟨x, y⟩ := p
      obtain ⟨⟨u, v⟩, hu⟩ : ∃ u, was l k = u := ⟨_, rfl⟩
      have c1 : wr.cell? ⟨b, o + k * 2, none⟩ = some (.int .i64 x) := hcell _ _ z0
      have c2 : wr.cell? ⟨b, o + k * 2 + 1, none⟩ = some (.int .i64 y) := hcell _ _ z1
      have p1 : b < wr.heap.size := World.block_lt_of_cell? wr _ c1
      have p2 : ∀ j, b < wr.heap.size + j := fun j => by omega
      have P0 := PK.out
      rw [hu] at P0
      have q0 := P0.cell (i := 0) rfl
      have q1 := P0.cell (i := 1) rfl
      have f0 := P0.frozen 0
      have f1 := P0.frozen 1
      have l1 := P0.lt
      have l2 : ∀ j, w.heap.size + 1 < wr.heap.size + j := fun j => by omega
      have P0 := Lib.hid P0
      clear PK
      by_cases hpu : (x, y) = (u, v)
      · injection hpu with e1 e2
        have E := Lib.hid (chgs_no hp (by rw [hu, e1, e2]))
        clear hcell hp hl hkz z0 z1 hbl hu
        subst eA e1 e2
        have P2 := Lib.hid (show Bk _ (w.heap.size + 1) (pc (was l (k + 1)).1 (was l (k + 1)).2) 28 by
          rw [WN.out]; exact P0.out.alloc (o := .cells #[.int .i64 x, .int .i64 y] 28))
        have R2 := Lib.hid (RK.out.alloc (.cells #[.int .i64 x, .int .i64 y] 28))
        clear hgb
        go_wp2_with fail
        go_roundw
        case rel => exact ⟨k + 1, by omega, by go_num, q, by omega, ⟨_, _, rfl⟩, by rw [E.out]; exact QK, by rw [E.out]; exact R2, P2, Lib.hid (by have h7 := BK.out; have h8 := h7.size; go_grown)⟩
        case measure => simp [intOf]; omega
      · have E := Lib.hid (chgs_yes hp (by rw [hu]; exact hpu))
        have hne : (x == u) = false ∨ (x == u) = true ∧ (y == v) = false := by
          by_cases e1 : x = u
          · right; subst e1; refine ⟨by simp, ?_⟩; simpa using hpu
          · left; simpa using e1
        have SN := Lib.hid (show gls (chgs l k) ++ [.int .i64 (k : Int), .int .i64 x, .int .i64 y] = gls (chgs l (k + 1)) by rw [E.out]; exact gls_snoc (chgs l k) ((k : Int), (x, y)))
        have QL := Lib.hid (show (chgs l (k + 1)).length = q + 1 by rw [E.out, List.length_append, QK.out]; rfl)
        have T6 : Bk (wr.alloc (.cells #[.int .i64 x, .int .i64 y] 28)) wr.heap.size (pc x y) 28 := Bk.new _ _ _
        have T6 := Lib.hid (T6.alloc (o := .cells #[.int .i64 (k : Int), .int .i64 x, .int .i64 y] 57))
        have R1 := ((RK.out.alloc (.cells #[.int .i64 x, .int .i64 y] 28)).alloc (.cells #[.int .i64 (k : Int), .int .i64 x, .int .i64 y] 57))
        have P1 := Lib.hid ((P0.out.alloc (o := .cells #[.int .i64 x, .int .i64 y] 28)).alloc (o := .cells #[.int .i64 (k : Int), .int .i64 x, .int .i64 y] 57))
        have HG := Lib.hid hgb
        have hg6 := Lib.hid (own_ne R1 T6.out (by decide))
        clear hcell hp hl hkz z0 z1 hbl hu hpu hgb RK P0 E
        subst eA
        rcases hne with e1 | ⟨e1, e2⟩
        all_goals
          go_wp2_with (
            at_builtin
            refine wpList_append_own _ rfl _ _ 24 rfl w.heap.size 57 i0 (.agg #[.int .i64 0, .int .i64 0, .int .i64 0]) 3 24 Try.underlying24 hi hz0 hz1 hz2 rfl (by decide) _ _ _ rfl R1 ⟨wr.heap.size + 1, 0, none⟩ 1 1 [.int .i64 (k : Int), .int .i64 x, .int .i64 y] rfl rfl (by intro j z hj; match j, hj with | 0, hj => (simp at hj; subst hj; simp [Addr.add]) | 1, hj => (simp at hj; subst hj; simp [Addr.add]) | 2, hj => (simp at hj; subst hj; simp [Addr.add])) (by intro z hz; simp at hz; rcases hz with rfl | rfl | rfl <;> rfl) (by unfold maxLen; omega) (by omega) (by simp; omega) ?_
            intro v' w1 hown' hgrow hnil
            have P2 := P1.out.grown hgrow HG.out
            have T2 := T6.out.grown hgrow hg6.out
            have B2 := Lib.hid (((BK.out.alloc hbs (.cells #[.int .i64 x, .int .i64 y] 28)).alloc (by simp; omega) (.cells #[.int .i64 (k : Int), .int .i64 x, .int .i64 y] 57)).grown hgrow (by simp; omega) (fun z hz => by cases hz; exact hg))
            rw [SN.out] at hown'
            obtain ⟨g', cc, rfl⟩ := own_slice hown'
            have d0 := P2.cell (i := 0) rfl
            have d1 := P2.cell (i := 1) rfl
            have d2 := P2.frozen 0
            have d3 := P2.frozen 1
            have d4 := T2.cell (i := 0) rfl
            have d5 := T2.cell (i := 1) rfl
            have hgb := own_ne hown' P2 (by decide)
            have a1 := owns_grown hown' (Bk.setG w1 (w.heap.size + 1) 0 (.int .i64 x)) (fun k e h => hgb (by rw [e, h]))
            have R2 := Lib.hid (owns_grown a1 (Bk.setG _ (w.heap.size + 1) 1 (.int .i64 y)) (fun k e h => hgb (by rw [e, h])))
            have P3 := Lib.hid (show Bk _ (w.heap.size + 1) (pc (was l (k + 1)).1 (was l (k + 1)).2) 28 by
              rw [WN.out]; exact ((P2.set (i := 0) (v := .int .i64 x)).set (i := 1) (v := .int .i64 y)))
            clear hown' hgrow hnil R1 P2 T2 a1 hgb c1 c2 q0 q1 f0 f1 p1 p2 l1 l2)
          go_wp2_with fail
          go_roundw
          case rel => exact ⟨k + 1, by omega, by go_num, q + 1, by omega, ⟨_, _, rfl⟩, QL, R2, P3, Lib.hid (by have h7 := B2.out; have h8 := h7.size; go_grown)⟩
          case measure => simp [intOf]; omega
    · obtain rfl : k = m := by omega
      have F := Lib.hid (show chgs l k = chg l by unfold chg; rw [HN.out])
      go_wp2_with fail
      go_ret
      exact ⟨g, c', by rw [← F.out, QK.out]; rfl, by rw [← F.out, QK.out]; exact RK.out, BK.out⟩

end Go.Proofs.Ytknanaapaipoeaa.Wb
