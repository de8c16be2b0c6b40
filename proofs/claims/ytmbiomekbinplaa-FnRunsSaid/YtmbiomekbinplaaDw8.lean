/- The draw of runs: some runs; nothing but the cursor is written. -/
import Derived.Test.YtmbiomekbinplaaDr8
import Derived.Test.YtmbiomekbinplaaRo8
namespace Go.Proofs.Ytmbiomekbinplaa.Dw8
open Go.RowKit Go.Proofs.Ytmbiomekbinplaa.Mem Go.Proofs.Ytmbiomekbinplaa.Rw Go.Proofs.Ytmbiomekbinplaa.Tk Go.Proofs.Ytmbiomekbinplaa.Dr8 Go.Proofs.Ytmbiomekbinplaa.Rn8 Go.Proofs.Ytmbiomekbinplaa.Ro8
set_option linter.unusedVariables false
set_option linter.unusedSimpArgs false
open Go.Proofs.Ytmbiomekbinplaa.Draw (Cur Ready Got GotB u8s below pick cells_at new Fresh once odd)
open Go.Proofs.Ytmbiomekbinplaa.Rw (owns_below owns_grown owns_base)
open Go.Proofs.Ytmbiomekbinplaa.Fw8 (own_mk own_base own_at)

theorem ready_below {w w' : World} {g n c : Nat} {A : Option Addr} {bs : List UInt8} (h : Ready w g A n c bs) (k : Below w.heap.size w w') : Ready w' g A n c bs := by
  refine ⟨h.len, h.max, ?_, h.cur.kept (k.block g h.cur.lt)⟩
  rcases h.rd with h1 | ⟨b, o, e, hb, hx⟩
  · exact Or.inl h1
  · exact Or.inr ⟨b, o, e, hb, fun j v hv => (k.cell (p := ⟨b, o + j, none⟩) (Nat.lt_trans hb h.cur.lt)).trans (hx j v hv)⟩
theorem gr_below {w w' : World} {r : Option Nat} (h : Below w.heap.size w w') : w.grownBy w' r := ⟨h.os, h.tape, h.output, h.size, fun j hj _ => h.block j hj⟩

/-- Runs that are drawn. -/
def DrawnR (w : World) (e : Ending) (w' : World) : Prop :=
  ∃ (rs : List (Int × Int)) (q g c : Nat), rs.length = q ∧ q ≤ 66 ∧ e = .returned (.slice (some ⟨g, 0, none⟩) q c) ∧ w'.ownsRow w.heap.size 35 2 (.slice (some ⟨g, 0, none⟩) q c) q (rls rs) ∧ Below w.heap.size w w'

set_option maxRecDepth 100000 in
set_option maxHeartbeats 2000000 in
theorem drawR (w : World) (A : Option Addr) (n c : Nat) (bs : List UInt8) (hn : bs.length = n) (hb : n ≤ 4096) (hr : Rd w w.heap.size A (u8s bs)) :
    Calls Try.prog 15 #[.slice A n c] w (DrawnR w) := by
  have N0 := Lib.hid (new w A n c bs hn hb hr)
  obtain ⟨i0, hi, hz0, hz1, hz2⟩ := info_of infoR
  clear hn hb hr
  go_enter Try.func15, Try.ntmps15
  go_wp2_with fail
  refine N0.out.mono ?_
  rintro e w1 ⟨g, rfl, hg, hR, hB⟩
  have R1 := Lib.hid hR
  have B1 := Lib.hid hB
  have HG := Lib.hid hg
  clear hg hR hB N0
  go_wp2_with fail
  refine (l8Any R1.out).mono ?_
  rintro e w2 ⟨zs, q, gr, cc, hq, hs, rfl, ho, k1, k2⟩
  have R2 := Lib.hid (R1.out.next k2 k1)
  have LW := Lib.hid R1.out.cur.lt
  have G2 := Lib.hid k2
  have hq65 : q ≤ 65 := by rw [← hq]; exact hs
  have RS := Lib.hid (runsS (some ⟨gr, 0, none⟩) q cc zs w2 hq (by omega) (Rd.own ho))
  have VB := rnV_len zs
  obtain ⟨V, hV⟩ : ∃ V, rnV zs = V := ⟨_, rfl⟩
  rw [hV] at RS VB
  obtain ⟨p, hp⟩ : ∃ p, V.length = p := ⟨_, rfl⟩
  unfold RowR at RS
  rw [hp] at RS VB
  have VL := Lib.hid hp
  clear k1 k2 ho hq hs R1 hV hp
  go_wp2_with fail
  refine RS.out.mono ?_
  rintro e w3 ⟨gV, cV, rfl, ho, hb⟩
  have R3 := Lib.hid (ready_below R2.out hb)
  have O3 := Lib.hid (owns_base ho (Nat.le_trans G2.out.size (own_at ho)))
  have G3 := Lib.hid (Draw.grown_trans G2.out (gr_below hb))
  clear ho hb R2 G2 RS
  go_wp2_with fail
  refine (below R3.out 8 (by decide) (by decide)).mono ?_
  rintro e w4 ⟨x, hx, rfl, k1, k2⟩
  have R4 := Lib.hid (R3.out.next k2 k1)
  have G4 := Lib.hid (Draw.grown_trans G3.out k2)
  have O4 := Lib.hid (row_next O3.out k2 LW.out)
  clear k1 k2 R3 G3 O3
  by_cases hx0 : x = 0
  · subst hx0
    go_wp2_with fail
    refine (below R4.out 40 (by decide) (by decide)).mono ?_
    rintro e w5 ⟨y, hy, rfl, k1, k2⟩
    have R5 := Lib.hid (R4.out.next k2 k1)
    have G5 := Lib.hid (Draw.grown_trans G4.out k2)
    have O5 := Lib.hid (row_next O4.out k2 LW.out)
    clear k1 k2 R4 G4 O4
    go_wp2_with fail
    refine (odd R5.out).mono ?_
    rintro e w6 ⟨z, hz, rfl, k1, k2⟩
    have R6 := Lib.hid (R5.out.next k2 k1)
    have G7 := Lib.hid (Draw.grown_trans G5.out k2)
    have O7 := Lib.hid (row_next O5.out k2 LW.out)
    clear k1 k2 R5 G5 O5
    have hown := O7.out.alloc
    have HS := Lib.hid (own_base O7.out)
    go_wp2_with (at_builtin; refine wpList_append_own _ rfl _ _ 31 rfl w1.heap.size 35 i0 (.agg #[.int .i64 0, .int .i64 0]) 2 16 Try.underlying31 hi hz0 hz1 hz2 rfl (by decide) _ _ _ rfl (hown _) ⟨w6.heap.size, 0, none⟩ 1 1 [.int .i64 y, .int .i64 z] rfl rfl (by intro j u hj; match j, hj with | 0, hj => simp at hj; subst hj; simp [Addr.add] | 1, hj => simp at hj; subst hj; simp [Addr.add]) (by intro u hu; simp at hu; rcases hu with rfl | rfl <;> rfl) (by unfold maxLen; omega) (by omega) (by have := G7.out.size; simp; omega) ?_)
    intro v' w9 hown' hgrow hnil
    rw [rls_snoc] at hown'
    obtain ⟨g5, c5, rfl⟩ := own_mk hown'
    have O6 := Lib.hid hown'
    have G6 := Lib.hid (gr_own (Draw.grown_trans G7.out (World.grownBy_alloc _ _ _)) hgrow (fun j hj => HS.out j hj))
    clear hown' hgrow hnil hown HS O7 G7
    go_wp2_with fail
    go_returns
    exact ⟨V ++ [(y, z)], p + 1, g5, c5, by rw [List.length_append, VL.out]; rfl, by omega, rfl, owns_base O6.out (Nat.le_trans B1.out.size (own_at O6.out)), B1.out.grown G6.out B1.out.size (fun j hj => by cases hj; exact HG.out)⟩
  by_cases hx1 : x = 1
  · subst hx1
    clear hx0
    go_wp2_with fail
    refine (below R4.out 33 (by decide) (by decide)).mono ?_
    rintro e w5 ⟨y, hy, rfl, k1, k2⟩
    have R5 := Lib.hid (R4.out.next k2 k1)
    have G5 := Lib.hid (Draw.grown_trans G4.out k2)
    have O5 := Lib.hid (row_next O4.out k2 LW.out)
    clear k1 k2 R4 G4 O4
    have hown := O5.out.alloc
    have HS := Lib.hid (own_base O5.out)
    go_wp2_with (at_builtin; refine wpList_append_own _ rfl _ _ 31 rfl w1.heap.size 35 i0 (.agg #[.int .i64 0, .int .i64 0]) 2 16 Try.underlying31 hi hz0 hz1 hz2 rfl (by decide) _ _ _ rfl (hown _) ⟨w5.heap.size, 0, none⟩ 1 1 [.int .i64 y, .int .i64 60] rfl rfl (by intro j u hj; match j, hj with | 0, hj => simp at hj; subst hj; simp [Addr.add] | 1, hj => simp at hj; subst hj; simp [Addr.add]) (by intro u hu; simp at hu; rcases hu with rfl | rfl <;> rfl) (by unfold maxLen; omega) (by omega) (by have := G5.out.size; simp; omega) ?_)
    intro v' w9 hown' hgrow hnil
    rw [rls_snoc] at hown'
    obtain ⟨g5, c5, rfl⟩ := own_mk hown'
    have O6 := Lib.hid hown'
    have G6 := Lib.hid (gr_own (Draw.grown_trans G5.out (World.grownBy_alloc _ _ _)) hgrow (fun j hj => HS.out j hj))
    clear hown' hgrow hnil hown HS O5 G5
    go_wp2_with fail
    go_returns
    exact ⟨V ++ [(y, 60)], p + 1, g5, c5, by rw [List.length_append, VL.out]; rfl, by omega, rfl, owns_base O6.out (Nat.le_trans B1.out.size (own_at O6.out)), B1.out.grown G6.out B1.out.size (fun j hj => by cases hj; exact HG.out)⟩
  by_cases hx2 : x = 2
  · subst hx2
    clear hx0 hx1
    by_cases hp0 : 0 < p
    · have hp0' : (0 : Int) < (p : Int) := by omega
      obtain ⟨⟨y, z⟩, hz⟩ : ∃ z, V[p - 1]? = some z := ⟨_, List.getElem?_eq_getElem (by rw [VL.out]; omega)⟩
      obtain ⟨z0, z1⟩ := rls_get hz
      have c1 := (O4.out.cellAt ((p - 1) * 2) (by omega)).trans z0
      have c2 := (O4.out.cellAt ((p - 1) * 2 + 1) (by omega)).trans z1
      have x2 : (p : Int) - 1 = ((p - 1 : Nat) : Int) := by omega
      have x3 : ((p - 1 : Nat) : Int) < (p : Int) := by omega
      have x4 : p - 1 < p := by omega
      simp only [] at c1 c2
      clear z0 z1 hz
      have hown := O4.out.alloc
      have HS := Lib.hid (own_base O4.out)
      go_wp2_with (at_builtin; refine wpList_append_own _ rfl _ _ 31 rfl w1.heap.size 35 i0 (.agg #[.int .i64 0, .int .i64 0]) 2 16 Try.underlying31 hi hz0 hz1 hz2 rfl (by decide) _ _ _ rfl (hown _) ⟨w4.heap.size, 0, none⟩ 1 1 [.int .i64 y, .int .i64 z] rfl rfl (by intro j u hj; match j, hj with | 0, hj => simp at hj; subst hj; simp [Addr.add] | 1, hj => simp at hj; subst hj; simp [Addr.add]) (by intro u hu; simp at hu; rcases hu with rfl | rfl <;> rfl) (by unfold maxLen; omega) (by omega) (by have := G4.out.size; simp; omega) ?_)
      intro v' w9 hown' hgrow hnil
      rw [rls_snoc] at hown'
      obtain ⟨g5, c5, rfl⟩ := own_mk hown'
      have O6 := Lib.hid hown'
      have G6 := Lib.hid (gr_own (Draw.grown_trans G4.out (World.grownBy_alloc _ _ _)) hgrow (fun j hj => HS.out j hj))
      clear hown' hgrow hnil hown HS O4 G4
      go_wp2_with fail
      go_returns
      exact ⟨V ++ [(y, z)], p + 1, g5, c5, by rw [List.length_append, VL.out]; rfl, by omega, rfl, owns_base O6.out (Nat.le_trans B1.out.size (own_at O6.out)), B1.out.grown G6.out B1.out.size (fun j hj => by cases hj; exact HG.out)⟩
    · have hp0' : ¬ (0 : Int) < (p : Int) := by omega
      go_wp2_with fail
      go_returns
      exact ⟨V, p, gV, cV, VL.out, by omega, rfl, owns_base O4.out (Nat.le_trans B1.out.size (own_at O4.out)), B1.out.grown G4.out B1.out.size (fun j hj => by cases hj; exact HG.out)⟩
  · have b0 : (x == 0) = false := by simp [hx0]
    have b1 : (x == 1) = false := by simp [hx1]
    have b2 : (x == 2) = false := by simp [hx2]
    go_wp2_with fail
    go_returns
    exact ⟨V, p, gV, cV, VL.out, by omega, rfl, owns_base O4.out (Nat.le_trans B1.out.size (own_at O4.out)), B1.out.grown G4.out B1.out.size (fun j hj => by cases hj; exact HG.out)⟩

end Go.Proofs.Ytmbiomekbinplaa.Dw8
