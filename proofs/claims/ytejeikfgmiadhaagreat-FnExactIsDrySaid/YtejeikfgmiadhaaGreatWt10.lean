/- The drops that land outside of a basin, and whether a show keeps dry. -/
import Derived.Test.YtejeikfgmiadhaaGreatM24
import Derived.Test.YtejeikfgmiadhaaGreatDg9
import Derived.Test.YtejeikfgmiadhaaGreatLw9
import Derived.Test.YtejeikfgmiadhaaGreatBx
import Derived.Test.YtejeikfgmiadhaaGreatM20
import Derived.Test.YtejeikfgmiadhaaGreatPl9
import Derived.Test.YtejeikfgmiadhaaGreatM21
import Derived.Test.YtejeikfgmiadhaaGreatM5
import Derived.Test.YtejeikfgmiadhaaGreatTi9
import Derived.Maps.OwnOps
import Derived.Deep.RegionHeld3
import Derived.Deep.MidRow
import Derived.StillTailTactics
namespace Go.Proofs.YtejeikfgmiadhaaGreat.Wt10
open Go.RowKit Go.ChangeShapes Go.WideShapes Go.WideElems Go.Deep Go.Proofs.YtejeikfgmiadhaaGreat.Mem Go.Proofs.YtejeikfgmiadhaaGreat.Rw Go.Proofs.YtejeikfgmiadhaaGreat.P2 Go.Proofs.YtejeikfgmiadhaaGreat.Bk Go.Proofs.YtejeikfgmiadhaaGreat.Sp Go.Proofs.YtejeikfgmiadhaaGreat.Sq Go.Proofs.YtejeikfgmiadhaaGreat.Jt Go.Proofs.YtejeikfgmiadhaaGreat.Cm Go.Proofs.YtejeikfgmiadhaaGreat.Cx Go.Proofs.YtejeikfgmiadhaaGreat.Pl
open Go.Proofs.YtejeikfgmiadhaaGreat.Sv hiding D C G
open Go.Proofs.YtejeikfgmiadhaaGreat.Am9 Go.Proofs.YtejeikfgmiadhaaGreat.Fo9 Go.Proofs.YtejeikfgmiadhaaGreat.Tw9 Go.Proofs.YtejeikfgmiadhaaGreat.Ar9 Go.Proofs.YtejeikfgmiadhaaGreat.Pd9
open Go.Proofs.YtejeikfgmiadhaaGreat.Wm (wd dr drs plus sum2 dr_bound drs_get drs_len)
open Go.Proofs.YtejeikfgmiadhaaGreat.Gs (gls)
open Go.Proofs.YtejeikfgmiadhaaGreat.Wc (infoC made_c zs2 zv zs2_len zs2_get)
open Go.Proofs.YtejeikfgmiadhaaGreat.Pl9 (RowP pls pls_len pls_get pls_snoc infoP d0 pls_made)
open Go.Proofs.YtejeikfgmiadhaaGreat.Dp (ha heightI)
open Go.Proofs.YtejeikfgmiadhaaGreat.Pl9 (mixed mixed_zero mixed_all mixed_at mixed_put)
open Go.Proofs.YtejeikfgmiadhaaGreat.Ly (layL layL_len owns_lay)
open Go.Proofs.YtejeikfgmiadhaaGreat.Lp9 (ldV ld_len landingsI)
open Go.Proofs.YtejeikfgmiadhaaGreat.Lz9 (append_drop blk_ne)
open Go.Proofs.YtejeikfgmiadhaaGreat.Lw9 (wpList_append_drop)
open Go.Proofs.YtejeikfgmiadhaaGreat.Bx (bx ib isBoxI isBoxS inBoxI inBoxS)
set_option linter.unusedVariables false
set_option linter.unusedSimpArgs false


/-- The drops of these that land outside of a basin. -/
def wetL (x y z u : Int) (l : List Pd9.P) : List Pd9.P := l.filter (fun d => bx x y z u && !ib x y z u d.x d.y)
noncomputable def wetV (ds : List D) (cs : List C) (gs : List G) (T : Int) (x y z u : Int) : List Pd9.P := wetL x y z u (ldV ds cs gs T)
theorem wet_len (ds : List D) (cs : List C) (gs : List G) (T : Int) (x y z u : Int) : (wetV ds cs gs T x y z u).length ≤ 512 := by
  unfold wetV wetL
  have := List.length_filter_le (fun d : Pd9.P => bx x y z u && !ib x y z u d.x d.y) (ldV ds cs gs T)
  have := ld_len ds cs gs T
  omega
theorem wet_yes {x y z u : Int} {l : List Pd9.P} {k : Nat} {d : Pd9.P} (hd : l[k]? = some d) (h : (bx x y z u && !ib x y z u d.x d.y) = true) : wetL x y z u (l.take (k + 1)) = wetL x y z u (l.take k) ++ [d] := by
  obtain ⟨hk, rfl⟩ := List.getElem?_eq_some_iff.1 hd
  unfold wetL
  rw [List.take_succ_eq_append_getElem hk, List.filter_append]
  simp [h]
theorem wet_no {x y z u : Int} {l : List Pd9.P} {k : Nat} {d : Pd9.P} (hd : l[k]? = some d) (h : (bx x y z u && !ib x y z u d.x d.y) = false) : wetL x y z u (l.take (k + 1)) = wetL x y z u (l.take k) := by
  obtain ⟨hk, rfl⟩ := List.getElem?_eq_some_iff.1 hd
  unfold wetL
  rw [List.take_succ_eq_append_getElem hk, List.filter_append]
  simp [h]
theorem append_drop2 (w : World) (base g n c : Nat) (xs : List Value) (hown : w.ownsRow base 69 5 (.slice (some ⟨g, 0, none⟩) n c) n xs) (a : Addr) (m c2 : Nat) (news : List Value) (hl : news.length = m * 5) (hnews : ∀ j u, news[j]? = some u → w.cell? (a.add j) = some u) (h1 : ∀ u ∈ news, u.oneCell' = true) (hs : n + m ≤ 2097152) (hbase : base ≤ w.heap.size) :
    ∃ (g' c' : Nat) (w' : World), (Builtin.append_ #[28, 28] 28 #[.slice (some ⟨g, 0, none⟩) n c, .slice (some a) m c2]).run Tryz.prog w = .ok (.slice (some ⟨g', 0, none⟩) (n + m) c') w' ∧ w'.ownsRow base 69 5 (.slice (some ⟨g', 0, none⟩) (n + m) c') (n + m) (xs ++ news) ∧ w.grownBy w' (some g) ∧ (g' = g ∨ g' = w.heap.size) := by
  obtain ⟨i0, hi, hz0, hz1, hz2⟩ := info_of infoP
  obtain ⟨v', w', hr, h2, h3, h4, h5⟩ := run_append_own_at (P := Tryz.prog) w base 28 28 69 i0 (.agg #[.string ⟨#[]⟩, .int .i64 0, .int .i64 0, .int .i64 0, .int .i64 0]) 5 48 Tryz.underlying28 hi hz0 hz1 hz2 rfl (by decide) _ n xs hown a m c2 news hl hnews h1 (by unfold maxLen; omega) (by omega) hbase
  have hg : ∃ g c, v' = .slice (some ⟨g, 0, none⟩) (n + m) c := by
    rcases h2.2 with ⟨e1, _⟩ | ⟨g, cap, cur, e1, _⟩
    · exact absurd (h4.1 e1).1 (by intro h; cases h)
    · exact ⟨g, cap, e1⟩
  obtain ⟨g', c', rfl⟩ := hg
  refine ⟨g', c', w', hr, h2, h3, ?_⟩
  rcases h5 with h5 | h5
  · exact Or.inl (Option.some.inj h5)
  · exact Or.inr (Option.some.inj h5)
theorem wet_none {x y z u : Int} (h : bx x y z u = false) (l : List Pd9.P) : wetL x y z u l = [] := by unfold wetL; simp [h]
theorem wet_box {x y z u : Int} (h : bx x y z u = true) (l : List Pd9.P) : wetL x y z u l = l.filter (fun d => !ib x y z u d.x d.y) := by unfold wetL; simp [h]

set_option maxRecDepth 100000 in
set_option maxHeartbeats 4000000 in
theorem wetS (A0 : Option Addr) (n0 c0 : Nat) (A1 : Option Addr) (n1 c1 : Nat) (A2 : Option Addr) (n2 c2 : Nat) (T : Int) (ds : List D) (cs : List C) (gs : List G) (x y z u : Int) (w : World) (hf : Fit n0 n1 n2 ds cs gs) (hr : SR w A0 A1 A2 ds cs gs) (hsz : ∀ z ∈ ds, z.nm.size ≤ 1048576 ∧ z.ln.size ≤ 1048576) (hsc : ∀ z ∈ cs, z.nm.size ≤ 1048576) :
    Calls Tryz.prog 23 #[sv A0 n0 c0 A1 n1 c1 A2 n2 c2 T, .agg #[.int .i64 x, .int .i64 y, .int .i64 z, .int .i64 u]] w (RowP w (wetV ds cs gs T x y z u)) := by
  have b0a := (Below.refl w.heap.size w).alloc (Nat.le_refl _) (.cells (sc A0 n0 c0 A1 n1 c1 A2 n2 c2 T) 34)
  have hz1 : (w.alloc (.cells (sc A0 n0 c0 A1 n1 c1 A2 n2 c2 T) 34)).heap.size = w.heap.size + 1 := by simp [go_sem]
  have B0 := Lib.hid (b0a.alloc b0a.size (.cells #[.int .i64 x, .int .i64 y, .int .i64 z, .int .i64 u] 54))
  have KS := Lib.hid ((Bk.new w (sc A0 n0 c0 A1 n1 c1 A2 n2 c2 T) 34).alloc (o := .cells #[.int .i64 x, .int .i64 y, .int .i64 z, .int .i64 u] 54))
  have KB := Bk.new (w.alloc (.cells (sc A0 n0 c0 A1 n1 c1 A2 n2 c2 T) 34)) #[.int .i64 x, .int .i64 y, .int .i64 z, .int .i64 u] 54
  rw [hz1] at KB
  have KB := Lib.hid KB
  have hz2 : ((w.alloc (.cells (sc A0 n0 c0 A1 n1 c1 A2 n2 c2 T) 34)).alloc (.cells #[.int .i64 x, .int .i64 y, .int .i64 z, .int .i64 u] 54)).heap.size = w.heap.size + 1 + 1 := by simp [go_sem]
  have K3 := Lib.hid (KB.out.alloc (o := .cells #[] 69))
  have K4 := Lib.hid (KS.out.alloc (o := .cells #[] 69))
  have B3 := Lib.hid (B0.out.alloc B0.out.size (.cells #[] 69))
  have R0 := Lib.hid (by have := World.ownsRow_lit (base := w.heap.size) (e := 69) (size := 5) ((w.alloc (.cells (sc A0 n0 c0 A1 n1 c1 A2 n2 c2 T) 34)).alloc (.cells #[.int .i64 x, .int .i64 y, .int .i64 z, .int .i64 u] 54)) #[] 0 (by rw [hz2]; omega) (Nat.zero_le _) rfl; rw [hz2] at this; exact this : (((w.alloc (.cells (sc A0 n0 c0 A1 n1 c1 A2 n2 c2 T) 34)).alloc (.cells #[.int .i64 x, .int .i64 y, .int .i64 z, .int .i64 u] 54)).alloc (.cells #[] 69)).ownsRow w.heap.size 69 5 (.slice (some ⟨w.heap.size + 1 + 1, 0, none⟩) 0 0) 0 [])
  obtain ⟨ls, hls⟩ : ∃ ls, ldV ds cs gs T = ls := ⟨_, rfl⟩
  obtain ⟨m, hm⟩ : ∃ m, ls.length = m := ⟨_, rfl⟩
  have hmb : m ≤ 512 := by have := ld_len ds cs gs T; rw [hls, hm] at this; exact this
  have CL := Lib.hid (fun (W : World) (h : SR W A0 A1 A2 ds cs gs) => (by have := (show Calls Tryz.prog 9 #[sv A0 n0 c0 A1 n1 c1 A2 n2 c2 T] W (RowP W (ldV ds cs gs T)) from Lz9.landingsS A0 n0 c0 A1 n1 c1 A2 n2 c2 T ds cs gs W hf h hsz hsc); unfold RowP at this; rw [hls, hm] at this; exact this :
    Calls Tryz.prog 9 #[sv A0 n0 c0 A1 n1 c1 A2 n2 c2 T] W (fun e w' => ∃ g c, e = .returned (.slice (some ⟨g, 0, none⟩) m c) ∧ w'.ownsRow W.heap.size 69 5 (.slice (some ⟨g, 0, none⟩) m c) m (pls ls) ∧ Below W.heap.size W w')))
  have HV := Lib.hid (show wetV ds cs gs T x y z u = wetL x y z u ls by unfold wetV; rw [hls])
  rw [HV.out]
  have HM := Lib.hid hm
  have HS := Lib.hid (hr.below B3.out)
  have s0 := K4.out.cell (i := 0) rfl
  have s1 := K4.out.cell (i := 1) rfl
  have s2 := K4.out.cell (i := 2) rfl
  have s3 := K4.out.cell (i := 3) rfl
  have k0 := K3.out.cell (i := 0) rfl
  have k1 := K3.out.cell (i := 1) rfl
  have k2 := K3.out.cell (i := 2) rfl
  have k3 := K3.out.cell (i := 3) rfl
  clear hf hr hsz hsc hls hm b0a hz1 hz2 B0 KS KB
  go_enter Tryz.func23, Tryz.ntmps23
  go_wp2_with fail
  refine (CL.out _ HS.out).mono ?_
  rintro e w1 ⟨gL, cL, rfl, oL, hb⟩
  have B1 := Lib.hid (B3.out.trans (hb.mono B3.out.size))
  have KB1 := Lib.hid (K3.out.below hb)
  have R1 := Lib.hid (owns_below R0.out hb)
  have O1 := Lib.hid (owns_base oL (Nat.le_trans B3.out.size (oL.lt gL rfl).1))
  have hne0 : w.heap.size + 1 + 1 ≠ gL := by
    have h1 := (oL.lt gL rfl).1
    have h2 : w.heap.size + 1 + 1 < _ := (R0.out.lt (w.heap.size + 1 + 1) rfl).2
    omega
  clear hb oL CL HS B3 K3 K4 R0 s0 s1 s2 s3 k0 k1 k2 k3
  go_wp2_with fail
  go_loopw [5, 12] (fun v i wr => ∃ k : Nat, k ≤ m ∧ i = .int .i64 k ∧ (∃ q gv cv, q ≤ k ∧ v = .slice (some ⟨gv, 0, none⟩) q cv ∧ Hid ((wetL x y z u (ls.take k)).length = q) ∧ Hid (gv ≠ gL ∧ gv ≠ w.heap.size + 1) ∧ Hid (wr.ownsRow w.heap.size 69 5 (.slice (some ⟨gv, 0, none⟩) q cv) q (pls (wetL x y z u (ls.take k))))) ∧ Hid (wr.ownsRow w.heap.size 69 5 (.slice (some ⟨gL, 0, none⟩) m cL) m (pls ls)) ∧ Hid (Bk wr (w.heap.size + 1) #[.int .i64 x, .int .i64 y, .int .i64 z, .int .i64 u] 54) ∧ Hid (Below w.heap.size w wr)) (fun _ i _ => m - (intOf i).toNat)
  case atStart => exact ⟨0, Nat.zero_le _, rfl, ⟨0, w.heap.size + 1 + 1, 0, Nat.le_refl _, rfl, Lib.hid rfl, Lib.hid ⟨hne0, by omega⟩, R1⟩, O1, KB1, B1⟩
  case round =>
    obtain ⟨k, hk, rfl, ⟨q, gv, cv, hqk, rfl, HQ, HG, RK⟩, OK, KK, BK⟩ := hrel
    clear O1 B1 KB1 R1 hne0
    have hbs := BK.out.size
    by_cases hlt : k < m
    · obtain ⟨d, hd⟩ : ∃ d, ls[k]? = some d := ⟨_, List.getElem?_eq_getElem (by rw [HM.out]; exact hlt)⟩
      obtain ⟨x0, x1, x2, x3, x4⟩ := Dg9.cO OK.out hd hlt
      have HD := Lib.hid hd
      have O1 := Lib.hid (OK.out.alloc (.cells #[.string d.nm, .int .i64 d.b, .int .i64 d.x, .int .i64 d.y, .int .i64 d.h] 69))
      have R1 := Lib.hid (RK.out.alloc (.cells #[.string d.nm, .int .i64 d.b, .int .i64 d.x, .int .i64 d.y, .int .i64 d.h] 69))
      have K1 := Lib.hid (KK.out.alloc (o := .cells #[.string d.nm, .int .i64 d.b, .int .i64 d.x, .int .i64 d.y, .int .i64 d.h] 69))
      have B1 := Lib.hid (BK.out.alloc hbs (.cells #[.string d.nm, .int .i64 d.b, .int .i64 d.x, .int .i64 d.y, .int .i64 d.h] 69))
      have KU := Lib.hid (Bk.new wr #[.string d.nm, .int .i64 d.b, .int .i64 d.x, .int .i64 d.y, .int .i64 d.h] 69)
      have CB := Lib.hid (fun (W : World) => isBoxS x y z u W)
      have CI := Lib.hid (fun (W : World) => inBoxS x y z u d.x d.y W)
      have k0 := K1.out.cell (i := 0) rfl
      have k1 := K1.out.cell (i := 1) rfl
      have k2 := K1.out.cell (i := 2) rfl
      have k3 := K1.out.cell (i := 3) rfl
      have hgo : w.heap.size ≤ gv := (RK.out.lt _ rfl).1
      have hgw : gv < wr.heap.size := (RK.out.lt _ rfl).2
      obtain ⟨bb, hbb⟩ : ∃ b, bx x y z u = b := ⟨_, rfl⟩
      rw [hbb] at CB
      have HB := Lib.hid hbb
      clear hd hbb RK OK KK BK hbs
      go_wp2_with fail
      refine (CB.out _).mono ?_
      rintro e w2 ⟨rfl, hb⟩
      have R2 := Lib.hid (owns_below R1.out hb)
      have O2 := Lib.hid (owns_below O1.out hb)
      have K2 := Lib.hid (K1.out.below hb)
      have B2 := Lib.hid (B1.out.trans (hb.mono B1.out.size))
      have KV := Lib.hid (KU.out.below hb)
      clear hb R1 O1 K1 B1 KU CB x0 x1 x2 x3 x4 k0 k1 k2 k3
      cases bb
      · have DN := Lib.hid (wet_no (x := x) (y := y) (z := z) (u := u) HD.out (by rw [HB.out]; rfl))
        have QN := Lib.hid (show (wetL x y z u (ls.take (k + 1))).length = q by rw [DN.out]; exact HQ.out)
        have RX := R2.out
        rw [← DN.out] at RX
        have RX := Lib.hid RX
        clear R2 KV CI
        go_wp2_with fail
        go_roundw
        case rel => exact ⟨k + 1, by omega, by go_num, ⟨q, gv, cv, by omega, rfl, QN, HG, RX⟩, O2, K2, B2⟩
        case measure => simp [intOf]; omega
      · obtain ⟨ii, hii⟩ : ∃ b, ib x y z u d.x d.y = b := ⟨_, rfl⟩
        rw [hii] at CI
        have HI := Lib.hid hii
        have y0 := KV.out.cell (i := 0) rfl
        have y1 := KV.out.cell (i := 1) rfl
        have y2 := KV.out.cell (i := 2) rfl
        have y3 := KV.out.cell (i := 3) rfl
        have y4 := KV.out.cell (i := 4) rfl
        have k0 := K2.out.cell (i := 0) rfl
        have k1 := K2.out.cell (i := 1) rfl
        have k2 := K2.out.cell (i := 2) rfl
        have k3 := K2.out.cell (i := 3) rfl
        clear hii
        go_wp2_with fail
        refine (CI.out _).mono ?_
        rintro e w3 ⟨rfl, hb⟩
        have R3 := Lib.hid (owns_below R2.out hb)
        have O3 := Lib.hid (owns_below O2.out hb)
        have K3 := Lib.hid (K2.out.below hb)
        have B3 := Lib.hid (B2.out.trans (hb.mono B2.out.size))
        have KW := Lib.hid (KV.out.below hb)
        clear hb R2 O2 K2 B2 KV CI y0 y1 y2 y3 y4 k0 k1 k2 k3
        cases ii
        · have z0 := KW.out.cell (i := 0) rfl
          have z1 := KW.out.cell (i := 1) rfl
          have z2 := KW.out.cell (i := 2) rfl
          have z3 := KW.out.cell (i := 3) rfl
          have z4 := KW.out.cell (i := 4) rfl
          obtain ⟨gX, cX, u9, hrun, ho9, hg9, hgg⟩ := append_drop2 (w3.alloc (.cells #[.string d.nm, .int .i64 d.b, .int .i64 d.x, .int .i64 d.y, .int .i64 d.h] 69)) w.heap.size gv q cv _ (R3.out.alloc _) ⟨w3.heap.size, 0, none⟩ 1 1 [.string d.nm, .int .i64 d.b, .int .i64 d.x, .int .i64 d.y, .int .i64 d.h] rfl (by intro j z9 hj9; match j, hj9 with | 0, hj9 => (simp at hj9; subst hj9; simp [Addr.add, go_sem]) | 1, hj9 => (simp at hj9; subst hj9; simp [Addr.add, go_sem]) | 2, hj9 => (simp at hj9; subst hj9; simp [Addr.add, go_sem]) | 3, hj9 => (simp at hj9; subst hj9; simp [Addr.add, go_sem]) | 4, hj9 => (simp at hj9; subst hj9; simp [Addr.add, go_sem])) (by intro z9 hz9; simp at hz9; rcases hz9 with rfl | rfl | rfl | rfl | rfl <;> rfl) (by omega) (by have := B3.out.size; simp; omega)
          have PT := Lib.hid (wet_yes (x := x) (y := y) (z := z) (u := u) HD.out (by rw [HB.out, HI.out]; rfl))
          have QN := Lib.hid (show (wetL x y z u (ls.take (k + 1))).length = q + 1 by rw [PT.out, List.length_append, HQ.out]; rfl)
          rw [show pls (wetL x y z u (ls.take k)) ++ [.string d.nm, .int .i64 d.b, .int .i64 d.x, .int .i64 d.y, .int .i64 d.h] = pls (wetL x y z u (ls.take (k + 1))) from (by rw [PT.out]; exact pls_snoc _ d)] at ho9
          have hX := ho9.lt gX rfl
          have hgL := (O3.out.lt gL rfl).2
          have hgB := K3.out.lt
          have hszX : (w3.alloc (.cells #[.string d.nm, .int .i64 d.b, .int .i64 d.x, .int .i64 d.y, .int .i64 d.h] 69)).heap.size = w3.heap.size + 1 := by simp [go_sem]
          have HX := Lib.hid (show gX ≠ gL ∧ gX ≠ w.heap.size + 1 by have := HG.out; rw [hszX] at hgg; omega)
          have RX := Lib.hid ho9
          have OX := Lib.hid (owns_grown (O3.out.alloc (.cells #[.string d.nm, .int .i64 d.b, .int .i64 d.x, .int .i64 d.y, .int .i64 d.h] 69)) hg9 (Ti9.ne_blk HG.out.1))
          have KX := Lib.hid ((K3.out.alloc (o := .cells #[.string d.nm, .int .i64 d.b, .int .i64 d.x, .int .i64 d.y, .int .i64 d.h] 69)).grown hg9 (fun e => by have e := Option.some.inj e; have := HG.out.2; omega))
          have BX := Lib.hid ((B3.out.alloc B3.out.size (.cells #[.string d.nm, .int .i64 d.b, .int .i64 d.x, .int .i64 d.y, .int .i64 d.h] 69)).grown hg9 (by have := B3.out.size; simp; omega) (fun z9 e9 => by have e9 := Option.some.inj e9; omega))
          clear ho9 hg9 R3 O3 K3 B3 KW hX HG hgg hgL hgB hszX
          go_wp2_with (at_builtin; refine wpList_append_drop rfl _ _ rfl rfl _ _ _ rfl rfl hrun ?_)
          go_roundw
          case rel => exact ⟨k + 1, by omega, by go_num, ⟨q + 1, gX, cX, by omega, rfl, QN, HX, RX⟩, OX, KX, BX⟩
          case measure => simp [intOf]; omega
        · have DN := Lib.hid (wet_no (x := x) (y := y) (z := z) (u := u) HD.out (by rw [HB.out, HI.out]; rfl))
          have QN := Lib.hid (show (wetL x y z u (ls.take (k + 1))).length = q by rw [DN.out]; exact HQ.out)
          have RX := R3.out
          rw [← DN.out] at RX
          have RX := Lib.hid RX
          clear R3 KW
          go_wp2_with fail
          go_roundw
          case rel => exact ⟨k + 1, by omega, by go_num, ⟨q, gv, cv, by omega, rfl, QN, HG, RX⟩, O3, K3, B3⟩
          case measure => simp [intOf]; omega
    · obtain rfl : m = k := by omega
      have HV := Lib.hid (show wetL x y z u (ls.take m) = wetL x y z u ls by rw [List.take_of_length_le (by rw [HM.out]; exact Nat.le_refl _)])
      rw [HV.out] at HQ RK
      clear OK KK
      go_wp2_with fail
      go_ret
      exact ⟨gv, cv, by rw [HQ.out]; rfl, by rw [HQ.out]; exact RK.out, BK.out⟩

set_option maxHeartbeats 1000000 in
theorem clo (x y z u : Int) (pb : Nat) (d : Pd9.P) (W : World) (hp : Bk W pb #[.int .i64 x, .int .i64 y, .int .i64 z, .int .i64 u] 54) : Calls Tryz.prog 64 #[Dg9.va d, .pointer (some ⟨pb, 0, none⟩)] W fun e w' => e = .returned (.bool (ib x y z u d.x d.y)) ∧ Below W.heap.size W w' := by
  have CI := Lib.hid (fun (V : World) => inBoxI x y z u d.x d.y V)
  obtain ⟨r, hr⟩ : ∃ r, ib x y z u d.x d.y = r := ⟨_, rfl⟩
  rw [hr] at CI ⊢
  have K1 := Lib.hid (hp.alloc (o := .cells #[.string d.nm, .int .i64 d.b, .int .i64 d.x, .int .i64 d.y, .int .i64 d.h] 69))
  have KD := Lib.hid (Bk.new W #[.string d.nm, .int .i64 d.b, .int .i64 d.x, .int .i64 d.y, .int .i64 d.h] 69)
  have k0 := K1.out.cell (i := 0) rfl
  have k1 := K1.out.cell (i := 1) rfl
  have k2 := K1.out.cell (i := 2) rfl
  have k3 := K1.out.cell (i := 3) rfl
  have d2 := KD.out.cell (i := 2) rfl
  have d3 := KD.out.cell (i := 3) rfl
  clear hr hp K1 KD
  go_enter Tryz.func64, Tryz.ntmps64
  go_wp2_with fail
  refine (CI.out _).mono ?_
  rintro e w1 ⟨rfl, hb⟩
  have B1 := Lib.hid (Below.trans ((Below.refl W.heap.size W).alloc (Nat.le_refl _) (.cells #[.string d.nm, .int .i64 d.b, .int .i64 d.x, .int .i64 d.y, .int .i64 d.h] 69)) (hb.mono (by simp [go_sem])))
  clear hb k0 k1 k2 k3 d2 d3
  go_wp2_with fail
  go_returns
  exact ⟨rfl, B1.out⟩

set_option maxRecDepth 100000 in
set_option maxHeartbeats 4000000 in
theorem wetI (A0 : Option Addr) (n0 c0 : Nat) (A1 : Option Addr) (n1 c1 : Nat) (A2 : Option Addr) (n2 c2 : Nat) (T : Int) (ds : List D) (cs : List C) (gs : List G) (x y z u : Int) (w : World) (hf : Fit n0 n1 n2 ds cs gs) (hr : SR w A0 A1 A2 ds cs gs) :
    Calls Tryz.prog 25 #[sv A0 n0 c0 A1 n1 c1 A2 n2 c2 T, .agg #[.int .i64 x, .int .i64 y, .int .i64 z, .int .i64 u]] w (RowP w (wetV ds cs gs T x y z u)) := by
  have b0a := (Below.refl w.heap.size w).alloc (Nat.le_refl _) (.cells (sc A0 n0 c0 A1 n1 c1 A2 n2 c2 T) 34)
  have hz1 : (w.alloc (.cells (sc A0 n0 c0 A1 n1 c1 A2 n2 c2 T) 34)).heap.size = w.heap.size + 1 := by simp [go_sem]
  have B0 := Lib.hid (b0a.alloc b0a.size (.cells #[.int .i64 x, .int .i64 y, .int .i64 z, .int .i64 u] 54))
  have KS := Lib.hid ((Bk.new w (sc A0 n0 c0 A1 n1 c1 A2 n2 c2 T) 34).alloc (o := .cells #[.int .i64 x, .int .i64 y, .int .i64 z, .int .i64 u] 54))
  have KB := Bk.new (w.alloc (.cells (sc A0 n0 c0 A1 n1 c1 A2 n2 c2 T) 34)) #[.int .i64 x, .int .i64 y, .int .i64 z, .int .i64 u] 54
  rw [hz1] at KB
  have KB := Lib.hid KB
  have hz2 : ((w.alloc (.cells (sc A0 n0 c0 A1 n1 c1 A2 n2 c2 T) 34)).alloc (.cells #[.int .i64 x, .int .i64 y, .int .i64 z, .int .i64 u] 54)).heap.size = w.heap.size + 1 + 1 := by simp [go_sem]
  obtain ⟨ls, hls⟩ : ∃ ls, ldV ds cs gs T = ls := ⟨_, rfl⟩
  obtain ⟨m, hm⟩ : ∃ m, ls.length = m := ⟨_, rfl⟩
  have hmb : m ≤ 512 := by have := ld_len ds cs gs T; rw [hls, hm] at this; exact this
  have CL := Lib.hid (fun (W : World) (h : SR W A0 A1 A2 ds cs gs) => (by have := landingsI A0 n0 c0 A1 n1 c1 A2 n2 c2 T ds cs gs W hf h; unfold RowP at this; rw [hls, hm] at this; exact this :
    Calls Tryz.prog 11 #[sv A0 n0 c0 A1 n1 c1 A2 n2 c2 T] W (fun e w' => ∃ g c, e = .returned (.slice (some ⟨g, 0, none⟩) m c) ∧ w'.ownsRow W.heap.size 69 5 (.slice (some ⟨g, 0, none⟩) m c) m (pls ls) ∧ Below W.heap.size W w')))
  have HV := Lib.hid (show wetV ds cs gs T x y z u = wetL x y z u ls by unfold wetV; rw [hls])
  rw [HV.out]
  have HM := Lib.hid hm
  have HS0 := Lib.hid hr
  have CB := Lib.hid (fun (W : World) => isBoxI x y z u W)
  obtain ⟨bb, hbb⟩ : ∃ b, bx x y z u = b := ⟨_, rfl⟩
  rw [hbb] at CB
  have s0 := KS.out.cell (i := 0) rfl
  have s1 := KS.out.cell (i := 1) rfl
  have s2 := KS.out.cell (i := 2) rfl
  have s3 := KS.out.cell (i := 3) rfl
  have k0 := KB.out.cell (i := 0) rfl
  have k1 := KB.out.cell (i := 1) rfl
  have k2 := KB.out.cell (i := 2) rfl
  have k3 := KB.out.cell (i := 3) rfl
  clear hf hr hls hm b0a hz1
  go_enter Tryz.func25, Tryz.ntmps25
  go_wp2_with fail
  refine (CB.out _).mono ?_
  rintro e w1 ⟨rfl, hb⟩
  have B1 := Lib.hid (B0.out.trans (hb.mono B0.out.size))
  have KS1 := Lib.hid (KS.out.below hb)
  have KB1 := Lib.hid (KB.out.below hb)
  clear hb CB B0 KS KB s0 s1 s2 s3 k0 k1 k2 k3 hz2
  cases bb
  · have HE := Lib.hid (wet_none hbb ls)
    have hsz9 := B1.out.size
    have RN := Lib.hid (World.ownsRow_lit (base := w.heap.size) (e := 69) (size := 5) w1 #[] 0 hsz9 (Nat.zero_le _) rfl)
    have BN := Lib.hid (B1.out.alloc hsz9 (.cells #[] 69))
    clear CL KS1 KB1 B1
    go_wp2_with fail
    go_ret
    exact ⟨w1.heap.size, 0, by rw [HE.out]; rfl, by rw [HE.out]; exact RN.out, BN.out⟩
  have HE := Lib.hid (wet_box hbb ls)
  have s0 := KS1.out.cell (i := 0) rfl
  have s1 := KS1.out.cell (i := 1) rfl
  have s2 := KS1.out.cell (i := 2) rfl
  have s3 := KS1.out.cell (i := 3) rfl
  have CL2 := Lib.hid (CL.out w1 (HS0.out.below B1.out))
  clear CL KS1 hbb
  go_wp2_with fail
  refine CL2.out.mono ?_
  rintro e w2 ⟨gL, cL, rfl, oL, hb⟩
  have B2 := Lib.hid (B1.out.trans (hb.mono B1.out.size))
  have KB2 := Lib.hid (KB1.out.below hb)
  have hsz1 : w.heap.size + 1 < w1.heap.size := KB1.out.lt
  have hsz2 := hb.size
  have CD := Lib.hid (Dg9.delete (fun d => ib x y z u d.x d.y) (w.heap.size + 1) w1.heap.size gL m cL ls w2 HM.out (by omega) hsz2 oL (fun W d hB _ => clo x y z u (w.heap.size + 1) d W ((hB.block (w.heap.size + 1) hsz1).trans KB2.out)))
  clear hb oL B1 KB1 CL2 s0 s1 s2 s3
  go_wp2_with fail
  refine CD.out.mono ?_
  rintro e w3 ⟨q, c', rfl, hq, oD, hb3⟩
  have OX := Lib.hid (owns_base oD (Nat.le_trans (by omega : w.heap.size ≤ w1.heap.size) (oD.lt gL rfl).1))
  have HQ := Lib.hid hq
  have B3 := Lib.hid (B2.out.trans (hb3.mono (by omega)))
  clear hb3 oD CD hq
  go_wp2_with fail
  go_ret
  exact ⟨gL, c', by rw [HE.out, HQ.out]; rfl, by rw [HE.out, HQ.out]; exact OX.out, B3.out⟩
end Go.Proofs.YtejeikfgmiadhaaGreat.Wt10
