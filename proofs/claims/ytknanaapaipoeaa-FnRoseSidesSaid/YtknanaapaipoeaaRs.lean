/- The draws of roses and of winds that fit them. -/
import Derived.Test.YtknanaapaipoeaaDw
import Derived.Test.YtknanaapaipoeaaSo
namespace Go.Proofs.Ytknanaapaipoeaa.Rs
open Go.RowKit Go.Proofs.Ytknanaapaipoeaa.Mem Go.Proofs.Ytknanaapaipoeaa.Rw Go.Proofs.Ytknanaapaipoeaa.Bk Go.Proofs.Ytknanaapaipoeaa.Cx Go.Proofs.Ytknanaapaipoeaa.Cm Go.Proofs.Ytknanaapaipoeaa.Jt Go.Proofs.Ytknanaapaipoeaa.Pl Go.Proofs.Ytknanaapaipoeaa.Str Go.Proofs.Ytknanaapaipoeaa.Pw Go.Proofs.Ytknanaapaipoeaa.P2 Go.Proofs.Ytknanaapaipoeaa.Gs Go.Proofs.Ytknanaapaipoeaa.Wm Go.Proofs.Ytknanaapaipoeaa.Wi Go.Proofs.Ytknanaapaipoeaa.Dw Go.Proofs.Ytknanaapaipoeaa.Sm
open Go.Proofs.Ytknanaapaipoeaa.Draw (Cur Ready Got GotB u8s below once some_ odd pick cells_at new Fresh wf_of_small odds)
open Go.Proofs.Ytknanaapaipoeaa.Pls (pls pls_len pls_get infoPlace info_parts2)
open Go.Proofs.Ytknanaapaipoeaa.So (sortS own_mk2 own_base2 pls_app addp)
set_option linter.unusedVariables false
set_option linter.unusedSimpArgs false

theorem grown_sorted {w a b : World} {r : Option Nat} (h : w.grownBy a r) (k : Below a.heap.size a b) : w.grownBy b r :=
  ⟨k.os.trans h.os, k.tape.trans h.tape, k.output.trans h.output, Nat.le_trans h.size k.size, fun i hi hr => (k.block i (Nat.lt_of_lt_of_le hi h.size)).trans (h.block i hi hr)⟩
theorem cur_sorted {a b : World} {g n c : Nat} {A : Option Addr} (h : Cur a g A n c) (k : Below a.heap.size a b) : Cur b g A n c := h.kept (k.block g h.lt)

/-- A rose as it is drawn. -/
def small (p : Int × Int) : Prop := (-3 ≤ p.1 ∧ p.1 ≤ 3) ∧ -3 ≤ p.2 ∧ p.2 ≤ 3
def rosy (rs : List (Int × Int)) : Prop := 1 ≤ rs.length ∧ rs.length ≤ 4 ∧ rs.Pairwise (fun a b => lt2 a b = true) ∧ ∀ p ∈ rs, small p
theorem rosy_srt {zs : List (Int × Int)} (h1 : 1 ≤ zs.length) (h2 : zs.length ≤ 4) (h3 : ∀ p ∈ zs, small p) : rosy (srt zs) := by
  obtain ⟨a, b, c, d⟩ := srt_facts zs
  exact ⟨d (fun e => by rw [e] at h1; simp at h1), by omega, b, fun p hp => h3 p ((a p).1 hp)⟩

def GotR (w : World) (g : Nat) (A : Option Addr) (n c : Nat) (e : Ending) (w' : World) : Prop :=
  ∃ (rs : List (Int × Int)) (gr cc : Nat), rosy rs ∧ e = .returned (.slice (some ⟨gr, 0, none⟩) rs.length cc) ∧ w'.ownsRow w.heap.size 28 2 (.slice (some ⟨gr, 0, none⟩) rs.length cc) rs.length (pls rs) ∧ Cur w' g A n c ∧ w.grownBy w' (some g)

set_option maxRecDepth 100000 in
set_option maxHeartbeats 2000000 in
theorem l4Rose {w : World} {g n c : Nat} {A : Option Addr} {bs : List UInt8} (h : Ready w g A n c bs) :
    Calls Try.prog 76 #[.pointer (some ⟨g, 0, none⟩)] w (GotR w g A n c) := by
  have hlt := h.cur.lt
  obtain ⟨i0, hi, hz0, hz1, hz2⟩ := info_parts2 infoPlace
  have R0 := Lib.hid (World.ownsRow_lit (base := w.heap.size) (e := 28) (size := 2) w #[] 0 (Nat.le_refl _) (Nat.zero_le _) rfl)
  have H1 := Lib.hid (h.alloc (.cells #[] 28))
  have G1 := Lib.hid (World.grownBy_alloc w (.cells #[] 28) (some g))
  have NE := Lib.hid hlt
  clear h hlt
  go_enter Try.func76, Try.ntmps76
  go_wp2_with fail
  refine (below H1.out 4 (by decide) (by decide)).mono ?_
  rintro e w2 ⟨m, hm, rfl, k1, k2⟩
  obtain ⟨m, rfl⟩ : ∃ k : Nat, m = (k : Int) := ⟨m.toNat, by omega⟩
  have H3 := Lib.hid (H1.out.next k2 k1)
  have G3 := Lib.hid (Draw.grown_trans G1.out k2)
  have R3 := Lib.hid (row_next R0.out k2 NE.out)
  have hm5 : m ≤ 3 := by omega
  have e0 : wrap64 (1 + (m : Int)) = ((m + 1 : Nat) : Int) := by rw [IntWalk.wrap64_in _ (by omega)]; omega
  have e9 : (1 : Int) + (m : Int) = ((m + 1 : Nat) : Int) := by omega
  have E9 := Lib.hid e9
  clear k1 k2 H1 G1 R0 hm e9
  go_wp2_with fail
  go_loopw [3, 4] (fun v mv wr => ∃ (zs : List (Int × Int)) (q m : Nat), q + m ≤ 4 ∧ 1 ≤ q + m ∧ mv = .int .i64 m ∧ (∃ gr cc : Nat, v = .slice (some ⟨gr, 0, none⟩) q cc) ∧ Hid (zs.length = q ∧ ∀ z ∈ zs, small z) ∧ Hid (wr.ownsRow w.heap.size 28 2 v q (pls zs)) ∧ Hid (Ready wr g A n c bs) ∧ Hid (w.grownBy wr (some g))) (fun _ mv _ => (intOf mv).toNat)
  case atStart => exact ⟨[], 0, m + 1, by omega, by omega, by first | rfl | (rw [E9.out]), ⟨_, _, rfl⟩, Lib.hid ⟨rfl, fun z hz => by cases hz⟩, R3, H3, G3⟩
  case round =>
    obtain ⟨zs, q, m, hqm, hq1, rfl, ⟨gr, cc, rfl⟩, ZK, RK, HK, GK⟩ := hrel
    by_cases hm0 : 0 < m
    · have hm0' : (0 : Int) < (m : Int) := by omega
      have hgr := own_base2 RK.out gr rfl
      have hrl := (RK.out.lt gr rfl).2
      clear hm5 R3 H3 G3 e0 E9
      go_wp2_with fail
      refine (driftDraw HK.out).mono ?_
      rintro e w3 ⟨x, y, hxy, rfl, k1, k2⟩
      have H4 := Lib.hid (HK.out.next k2 k1)
      have G4 := Lib.hid (Draw.grown_trans GK.out k2)
      have R4 := row_next RK.out k2 NE.out
      have R5 := R4.alloc (.cells #[.int .i64 x, .int .i64 y] 28)
      have SN := Lib.hid (show pls zs ++ [.int .i64 x, .int .i64 y] = pls (zs ++ [(x, y)]) by rw [pls_app]; rfl)
      have ZN := Lib.hid (show (zs ++ [(x, y)]).length = q + 1 ∧ ∀ z ∈ zs ++ [(x, y)], small z from ⟨by rw [List.length_append, ZK.out.1]; rfl, fun z hz => by
        rcases List.mem_append.1 hz with h | h
        · exact ZK.out.2 z h
        · rw [List.mem_singleton] at h; subst h; exact hxy⟩)
      have hb3 : w.heap.size ≤ w3.heap.size := G4.out.size
      clear k1 k2 hxy HK GK RK R4 ZK
      go_wp2_with (at_builtin; refine wpList_append_own _ rfl _ _ 45 rfl w.heap.size 28 i0 (.agg #[.int .i64 0, .int .i64 0]) 2 16 Try.underlying45 hi hz0 hz1 hz2 rfl (by decide) _ _ _ rfl R5 ⟨w3.heap.size, 0, none⟩ 1 1 [.int .i64 x, .int .i64 y] rfl rfl (by intro j z hj; match j, hj with | 0, hj => (simp at hj; subst hj; simp [Addr.add]) | 1, hj => (simp at hj; subst hj; simp [Addr.add])) (by intro z hz; simp at hz; rcases hz with rfl | rfl <;> rfl) (by unfold maxLen; omega) (by omega) (by simp; omega) ?_)
      intro v' w4 hown hgrow hnil
      rw [SN.out] at hown
      obtain ⟨g5, c5, rfl⟩ := own_mk2 hown (by omega)
      have R6 := Lib.hid hown
      have H6 := Lib.hid (ready_app (H4.out.alloc (.cells #[.int .i64 x, .int .i64 y] 28)) hgrow (Nat.lt_of_lt_of_le NE.out hgr))
      have G6 := Lib.hid (grown_app (Draw.grown_trans G4.out (World.grownBy_alloc _ (.cells #[.int .i64 x, .int .i64 y] 28) (some g))) hgrow hgr)
      have e3 : wrap64 ((m : Int) - 1) = ((m - 1 : Nat) : Int) := by rw [IntWalk.wrap64_in _ (by omega)]; omega
      have e4 : (m : Int) - 1 = ((m - 1 : Nat) : Int) := by omega
      have E4 := Lib.hid e4
      clear hown hgrow hnil R5 H4 G4 e4
      go_wp2_with fail
      go_roundw
      case rel => exact ⟨zs ++ [(x, y)], q + 1, m - 1, by omega, by omega, by first | rfl | (rw [E4.out]), ⟨_, _, rfl⟩, ZN, R6, H6, G6⟩
      case measure => simp [intOf]; omega
    · have hm0' : ¬ (0 : Int) < (m : Int) := by omega
      have hq0 : 1 ≤ q := by omega
      have hq4 : q ≤ 4 := by omega
      have S := Lib.hid (sortS (some ⟨gr, 0, none⟩) q cc zs wr ZK.out.1 (by omega) (Rd.own RK.out))
      clear hm5 R3 H3 G3 e0 E9
      go_wp2_with fail
      refine S.out.mono ?_
      rintro e w5 ⟨g5, c5, rfl, ho, hb⟩
      have O5 := Lib.hid (owns_base ho (Nat.le_trans GK.out.size (ho.lt g5 rfl).1))
      have C5 := Lib.hid (cur_sorted HK.out.cur hb)
      have G5 := Lib.hid (grown_sorted GK.out hb)
      have Q := Lib.hid (rosy_srt (by rw [ZK.out.1]; exact hq0) (by rw [ZK.out.1]; exact hq4) ZK.out.2)
      clear ho hb S ZK RK HK GK
      go_wp2_with fail
      go_ret
      exact ⟨srt zs, g5, c5, Q.out, rfl, O5.out, C5.out, G5.out⟩

/-- A wind that fits a rose. -/
def fitting (rs : List (Int × Int)) (zs : List G) : Prop :=
  wd zs = true ∧ 1 ≤ zs.length ∧ (∀ z, zs[0]? = some z → z.1 = 0) ∧ ∀ z ∈ zs, z.2 ∈ rs
def GotF (w : World) (rs : List (Int × Int)) (g : Nat) (A : Option Addr) (n c : Nat) (e : Ending) (w' : World) : Prop :=
  ∃ (zs : List G) (gr cc : Nat), fitting rs zs ∧ zs.length ≤ 6 ∧ e = .returned (.slice (some ⟨gr, 0, none⟩) zs.length cc) ∧ w'.ownsRow w.heap.size 57 3 (.slice (some ⟨gr, 0, none⟩) zs.length cc) zs.length (gls zs) ∧ Cur w' g A n c ∧ w.grownBy w' (some g)

set_option maxRecDepth 100000 in
set_option maxHeartbeats 2000000 in
theorem l12Fitting {w : World} {g n c base p0 d0 : Nat} {A : Option Addr} {bs : List UInt8} {rs : List (Int × Int)} (h : Ready w g A n c bs) (hq : rosy rs) (hr : w.ownsRow base 28 2 (.slice (some ⟨p0, 0, none⟩) rs.length d0) rs.length (pls rs)) (hg : g < base) :
    Calls Try.prog 77 #[.pointer (some ⟨g, 0, none⟩), .slice (some ⟨p0, 0, none⟩) rs.length d0] w (GotF w rs g A n c) := by
  have hlt := h.cur.lt
  obtain ⟨i0, hi, hz0, hz1, hz2⟩ := info_of infoGust
  have R0 := Lib.hid (World.ownsRow_lit (base := w.heap.size) (e := 57) (size := 3) w #[] 0 (Nat.le_refl _) (Nat.zero_le _) rfl)
  have H1 := Lib.hid (h.alloc (.cells #[] 57))
  have G1 := Lib.hid (World.grownBy_alloc w (.cells #[] 57) (some g))
  have NE := Lib.hid hlt
  have RS := Lib.hid (show ∀ V : World, w.grownBy V (some g) → V.ownsRow base 28 2 (.slice (some ⟨p0, 0, none⟩) rs.length d0) rs.length (pls rs) from fun V k => row_next hr k hg)
  have RQ := Lib.hid hq
  obtain ⟨qr, hqr⟩ : ∃ k, k = rs.length := ⟨_, rfl⟩
  have hq1 : 1 ≤ qr := hqr ▸ hq.1
  have hq4 : qr ≤ 4 := hqr ▸ hq.2.1
  rw [← hqr] at RS
  have QR := Lib.hid hqr
  have t1 : Calls Try.prog 77 #[.pointer (some ⟨g, 0, none⟩), .slice (some ⟨p0, 0, none⟩) qr d0] w (GotF w rs g A n c) := by
    clear h hlt hr hg hq hqr
    go_enter Try.func77, Try.ntmps77
    go_wp2_with fail
    refine (below H1.out 6 (by decide) (by decide)).mono ?_
    rintro e w2 ⟨m, hm, rfl, k1, k2⟩
    obtain ⟨m, rfl⟩ : ∃ k : Nat, m = (k : Int) := ⟨m.toNat, by omega⟩
    have H3 := Lib.hid (H1.out.next k2 k1)
    have G3 := Lib.hid (Draw.grown_trans G1.out k2)
    have R3 := Lib.hid (row_next R0.out k2 NE.out)
    have hm5 : m ≤ 5 := by omega
    have e0 : wrap64 (1 + (m : Int)) = ((m + 1 : Nat) : Int) := by rw [IntWalk.wrap64_in _ (by omega)]; omega
    have e9 : (1 : Int) + (m : Int) = ((m + 1 : Nat) : Int) := by omega
    have E9 := Lib.hid e9
    clear k1 k2 H1 G1 R0 hm e9
    go_wp2_with fail
    go_loopw [5, 6, 7] (fun v tv mv wr => ∃ (zs : List G) (q m : Nat) (t : Int), q + m ≤ 6 ∧ 1 ≤ q + m ∧ mv = .int .i64 m ∧ tv = .int .i64 t ∧ 0 ≤ t ∧ t ≤ 6 * q ∧ (∃ gr cc : Nat, v = .slice (some ⟨gr, 0, none⟩) q cc) ∧ Hid (q = 0 → t = 0) ∧ Hid (zs.length = q ∧ wd zs = true ∧ (∀ z ∈ zs, z.1 < t) ∧ (∀ z, zs[0]? = some z → z.1 = 0) ∧ ∀ z ∈ zs, z.2 ∈ rs) ∧ Hid (wr.ownsRow w.heap.size 57 3 v q (gls zs)) ∧ Hid (Ready wr g A n c bs) ∧ Hid (w.grownBy wr (some g))) (fun _ _ mv _ => (intOf mv).toNat)
    case atStart => exact ⟨[], 0, m + 1, 0, by omega, by omega, by first | rfl | (rw [E9.out]), rfl, by omega, by omega, ⟨_, _, rfl⟩, Lib.hid (fun _ => rfl), Lib.hid ⟨rfl, rfl, (fun z hz => by cases hz), (fun z hz => by simp at hz), (fun z hz => by cases hz)⟩, R3, H3, G3⟩
    case round =>
      obtain ⟨zs, q, m, t, hqm, hq0, rfl, rfl, ht0, ht5, ⟨gr, cc, rfl⟩, T0, ZK, RK, HK, GK⟩ := hrel
      by_cases hm0 : 0 < m
      · have hm0' : (0 : Int) < (m : Int) := by omega
        have hgr := own_base2 RK.out gr rfl
        have hrl := (RK.out.lt gr rfl).2
        clear hm5 R3 H3 G3 e0 E9
        go_wp2_with fail
        refine (below HK.out (qr : Int) (by omega) (by omega)).mono ?_
        rintro e w3 ⟨j, hj, rfl, k1, k2⟩
        obtain ⟨j, rfl⟩ : ∃ k : Nat, j = (k : Int) := ⟨j.toNat, by omega⟩
        have hj0 : (0 : Int) ≤ (j : Int) := by omega
        have hj1 : (j : Int) < (qr : Int) := by omega
        have hjq : j < qr := by omega
        obtain ⟨⟨x, y⟩, hp⟩ : ∃ p, rs[j]? = some p := ⟨_, List.getElem?_eq_getElem (by rw [← QR.out]; exact hjq)⟩
        obtain ⟨p0', p1'⟩ := pls_get hp
        have hmem : (x, y) ∈ rs := List.mem_of_getElem? hp
        have hsm := RQ.out.2.2.2 (x, y) hmem
        have H4 := Lib.hid (HK.out.next k2 k1)
        have G4 := Lib.hid (Draw.grown_trans GK.out k2)
        have c3 : w3.cell? ⟨p0, j * 2, none⟩ = some (.int .i64 x) := ((RS.out w3 G4.out).cellAt (j * 2) (by omega)).trans p0'
        have c4 : w3.cell? ⟨p0, j * 2 + 1, none⟩ = some (.int .i64 y) := ((RS.out w3 G4.out).cellAt (j * 2 + 1) (by omega)).trans p1'
        have R4 := row_next RK.out k2 NE.out
        have R5 := R4.alloc (.cells #[.int .i64 t, .int .i64 x, .int .i64 y] 57)
        have ZN := Lib.hid (wd_snoc ZK.out.2.1 ZK.out.2.2.1 (t := t) (x := x) (y := y) (by omega) (dk_iff.2 (by unfold small at hsm; simp only [] at hsm; omega)) (by have := ZK.out.1; omega))
        have SN := Lib.hid (show gls zs ++ [.int .i64 t, .int .i64 x, .int .i64 y] = gls (zs ++ [(t, x, y)]) from gls_snoc zs (t, x, y))
        have hb3 : w.heap.size ≤ w3.heap.size := G4.out.size
        have ZM := Lib.hid (show (zs ++ [(t, x, y)]).length = q + 1 ∧ (∀ z, (zs ++ [(t, x, y)])[0]? = some z → z.1 = 0) ∧ ∀ z ∈ zs ++ [(t, x, y)], z.2 ∈ rs from ⟨by rw [List.length_append, ZK.out.1]; rfl, fun z hz => by
          by_cases h0 : q = 0
          · have hnil : zs = [] := List.eq_nil_of_length_eq_zero (ZK.out.1.trans h0)
            rw [hnil] at hz
            have hz : (t, x, y) = z := by simpa using hz
            subst hz
            exact T0.out h0
          · rw [List.getElem?_append_left (by rw [ZK.out.1]; omega)] at hz
            exact ZK.out.2.2.2.1 z hz, fun z hz => by
          rcases List.mem_append.1 hz with h | h
          · exact ZK.out.2.2.2.2 z h
          · rw [List.mem_singleton] at h; subst h; exact hmem⟩)
        have LT := Lib.hid (show ∀ d : Int, 0 ≤ d → ∀ z ∈ zs ++ [(t, x, y)], z.1 < t + 1 + d from fun d hd z hz => by
          rcases List.mem_append.1 hz with h | h
          · have := ZK.out.2.2.1 z h; omega
          · rw [List.mem_singleton] at h; subst h; show t < t + 1 + d; omega)
        clear k1 k2 hj HK GK RK R4 ZK hp p0' p1' hmem hsm T0
        go_wp2_with (at_builtin; refine wpList_append_own _ rfl _ _ 24 rfl w.heap.size 57 i0 (.agg #[.int .i64 0, .int .i64 0, .int .i64 0]) 3 24 Try.underlying24 hi hz0 hz1 hz2 rfl (by decide) _ _ _ rfl R5 ⟨w3.heap.size, 0, none⟩ 1 1 [.int .i64 t, .int .i64 x, .int .i64 y] rfl rfl (by intro j z hj; match j, hj with | 0, hj => (simp at hj; subst hj; simp [Addr.add]) | 1, hj => (simp at hj; subst hj; simp [Addr.add]) | 2, hj => (simp at hj; subst hj; simp [Addr.add])) (by intro z hz; simp at hz; rcases hz with rfl | rfl | rfl <;> rfl) (by unfold maxLen; omega) (by omega) (by simp; omega) ?_)
        intro v' w4 hown hgrow hnil
        rw [SN.out] at hown
        obtain ⟨g5, c5, rfl⟩ := own_slice hown
        have R6 := Lib.hid hown
        have H6 := Lib.hid (ready_app (H4.out.alloc (.cells #[.int .i64 t, .int .i64 x, .int .i64 y] 57)) hgrow (Nat.lt_of_lt_of_le NE.out hgr))
        have G6 := Lib.hid (grown_app (Draw.grown_trans G4.out (World.grownBy_alloc _ (.cells #[.int .i64 t, .int .i64 x, .int .i64 y] 57) (some g))) hgrow hgr)
        clear hown hgrow hnil R5 H4 G4 c3 c4 SN
        go_wp2_with fail
        refine (below H6.out 6 (by decide) (by decide)).mono ?_
        rintro e w5 ⟨d, hd, rfl, k1, k2⟩
        have H7 := Lib.hid (H6.out.next k2 k1)
        have G7 := Lib.hid (Draw.grown_trans G6.out k2)
        have R7 := Lib.hid (row_next R6.out k2 NE.out)
        have e1 : wrap64 (t + 1) = t + 1 := IntWalk.wrap64_in _ (by omega)
        have e2 : wrap64 (t + 1 + d) = t + 1 + d := IntWalk.wrap64_in _ (by omega)
        have e3 : wrap64 ((m : Int) - 1) = ((m - 1 : Nat) : Int) := by rw [IntWalk.wrap64_in _ (by omega)]; omega
        have e4 : (m : Int) - 1 = ((m - 1 : Nat) : Int) := by omega
        have E4 := Lib.hid e4
        have ZP := Lib.hid (show (zs ++ [(t, x, y)]).length = q + 1 ∧ wd (zs ++ [(t, x, y)]) = true ∧ (∀ z ∈ zs ++ [(t, x, y)], z.1 < t + 1 + d) ∧ (∀ z, (zs ++ [(t, x, y)])[0]? = some z → z.1 = 0) ∧ ∀ z ∈ zs ++ [(t, x, y)], z.2 ∈ rs from ⟨ZM.out.1, ZN.out, LT.out d hd.1, ZM.out.2.1, ZM.out.2.2⟩)
        have hd0 : 0 ≤ t + 1 + d := by omega
        have hd5 : t + 1 + d ≤ 6 * ((q + 1 : Nat) : Int) := by omega
        clear k1 k2 H6 G6 R6 hd e4 ZM ZN LT
        go_wp2_with fail
        go_roundw
        case rel => exact ⟨zs ++ [(t, x, y)], q + 1, m - 1, t + 1 + d, by omega, by omega, by first | rfl | (rw [E4.out]), rfl, hd0, hd5, ⟨_, _, rfl⟩, Lib.hid (fun h => absurd h (by omega)), ZP, R7, H7, G7⟩
        case measure => simp [intOf]; omega
      · have hm0' : ¬ (0 : Int) < (m : Int) := by omega
        have hq7 : 1 ≤ q := by omega
        have hq6 : q ≤ 6 := by omega
        clear hm5 R3 H3 G3 e0 E9
        go_wp2_with fail
        go_ret
        refine ⟨zs, gr, cc, ⟨ZK.out.2.1, by rw [ZK.out.1]; exact hq7, ZK.out.2.2.2.1, ZK.out.2.2.2.2⟩, by rw [ZK.out.1]; exact hq6, ?_, ?_, HK.out.cur, GK.out⟩
        · rw [ZK.out.1]; rfl
        · rw [ZK.out.1]; exact RK.out
  rw [hqr] at t1
  exact t1

def DrawnF (w : World) (e : Ending) (w' : World) : Prop :=
  ∃ (rs : List (Int × Int)) (zs : List G) (p0 d0 gr cc : Nat), rosy rs ∧ fitting rs zs ∧ zs.length ≤ 6 ∧ e = .returned (.tuple #[.slice (some ⟨p0, 0, none⟩) rs.length d0, .slice (some ⟨gr, 0, none⟩) zs.length cc]) ∧ Rd w' w'.heap.size (some ⟨p0, 0, none⟩) (pls rs) ∧ Rd w' w'.heap.size (some ⟨gr, 0, none⟩) (gls zs) ∧ Below w.heap.size w w'

set_option maxHeartbeats 2000000 in
theorem drawFitting (w : World) (A : Option Addr) (n c : Nat) (bs : List UInt8) (hn : bs.length = n) (hb : n ≤ 4096) (hr : Rd w w.heap.size A (u8s bs)) :
    Calls Try.prog 34 #[.slice A n c] w (DrawnF w) := by
  have N0 := Lib.hid (new w A n c bs hn hb hr)
  clear hn hb hr
  go_enter Try.func34, Try.ntmps34
  go_wp2_with fail
  refine N0.out.mono ?_
  rintro e w1 ⟨g, rfl, hg, hR, hB⟩
  have R1 := Lib.hid hR
  have B1 := Lib.hid hB
  clear hR hB N0
  go_wp2_with fail
  refine (l4Rose R1.out).mono ?_
  rintro e w2 ⟨rs, p0, d0, hq, rfl, ho, k1, k2⟩
  have R2 := Lib.hid (R1.out.next k2 k1)
  have NE := Lib.hid R1.out.cur.lt
  have B2 := Lib.hid (below_of B1.out hg k2)
  have F := Lib.hid (l12Fitting R2.out hq ho NE.out)
  have O2 := Lib.hid ho
  have Q := Lib.hid hq
  clear k1 k2 ho hq R1 B1
  go_wp2_with fail
  refine F.out.mono ?_
  rintro e w3 ⟨zs, gr, cc, hz, h6, rfl, ho, k1, k2⟩
  have B3 := Lib.hid (below_of B2.out hg k2)
  have O3 := Lib.hid (row_next O2.out k2 NE.out)
  have O4 := Lib.hid ho
  have Z := Lib.hid hz
  clear k1 k2 ho hz F R2 B2 O2
  go_wp2_with fail
  (try simp only [Exit.inBlock, Exit.then])
  refine bodyPost_ret (v := .tuple #[.slice (some ⟨p0, 0, none⟩) rs.length d0, .slice (some ⟨gr, 0, none⟩) zs.length cc]) (by simp [results, Try.results34, go_sem]; try rfl) rfl ?_
  exact ⟨rs, zs, p0, d0, gr, cc, Q.out, Z.out, h6, rfl, Rd.own O3.out, Rd.own O4.out, B3.out⟩

end Go.Proofs.Ytknanaapaipoeaa.Rs
