/- Whether a show keeps dry. -/
import Derived.Test.YtejeikfgmiadhaaGreatWt10
import Derived.Test.YtejeikfgmiadhaaGreatSw9
import Derived.Test.YtejeikfgmiadhaaGreatDg9
import Derived.Test.YtejeikfgmiadhaaGreatLw9
import Derived.Test.YtejeikfgmiadhaaGreatBx
import Derived.Test.YtejeikfgmiadhaaGreatM20
import Derived.Test.YtejeikfgmiadhaaGreatPl9
import Derived.Test.YtejeikfgmiadhaaGreatM21
import Derived.Test.YtejeikfgmiadhaaGreatM5
import Derived.Test.YtejeikfgmiadhaaGreatTi9
import Derived.Maps.OwnOps
import Derived.Deep.RegionHeld3
import Derived.Deep.MidRow
import Derived.StillTailTactics
namespace Go.Proofs.YtejeikfgmiadhaaGreat.Id10
open Go.RowKit Go.ChangeShapes Go.WideShapes Go.WideElems Go.Deep Go.Proofs.YtejeikfgmiadhaaGreat.Mem Go.Proofs.YtejeikfgmiadhaaGreat.Rw Go.Proofs.YtejeikfgmiadhaaGreat.P2 Go.Proofs.YtejeikfgmiadhaaGreat.Bk Go.Proofs.YtejeikfgmiadhaaGreat.Sp Go.Proofs.YtejeikfgmiadhaaGreat.Sq Go.Proofs.YtejeikfgmiadhaaGreat.Jt Go.Proofs.YtejeikfgmiadhaaGreat.Cm Go.Proofs.YtejeikfgmiadhaaGreat.Cx Go.Proofs.YtejeikfgmiadhaaGreat.Pl
open Go.Proofs.YtejeikfgmiadhaaGreat.Sv hiding D C G
open Go.Proofs.YtejeikfgmiadhaaGreat.Am9 Go.Proofs.YtejeikfgmiadhaaGreat.Fo9 Go.Proofs.YtejeikfgmiadhaaGreat.Tw9 Go.Proofs.YtejeikfgmiadhaaGreat.Ar9 Go.Proofs.YtejeikfgmiadhaaGreat.Pd9
open Go.Proofs.YtejeikfgmiadhaaGreat.Wm (wd dr drs plus sum2 dr_bound drs_get drs_len)
open Go.Proofs.YtejeikfgmiadhaaGreat.Gs (gls)
open Go.Proofs.YtejeikfgmiadhaaGreat.Wc (infoC made_c zs2 zv zs2_len zs2_get)
open Go.Proofs.YtejeikfgmiadhaaGreat.Pl9 (RowP pls pls_len pls_get pls_snoc infoP d0 pls_made)
open Go.Proofs.YtejeikfgmiadhaaGreat.Dp (ha heightI)
open Go.Proofs.YtejeikfgmiadhaaGreat.Pl9 (mixed mixed_zero mixed_all mixed_at mixed_put)
open Go.Proofs.YtejeikfgmiadhaaGreat.Ly (layL layL_len owns_lay)
open Go.Proofs.YtejeikfgmiadhaaGreat.Lp9 (ldV ld_len landingsI)
open Go.Proofs.YtejeikfgmiadhaaGreat.Lz9 (append_drop blk_ne)
open Go.Proofs.YtejeikfgmiadhaaGreat.Lw9 (wpList_append_drop)
open Go.Proofs.YtejeikfgmiadhaaGreat.Wt10 (wetV wetL wet_box wet_len wetI)
open Go.Proofs.YtejeikfgmiadhaaGreat.Bx (bx ib isBoxI isBoxS inBoxI inBoxS)
set_option linter.unusedVariables false
set_option linter.unusedSimpArgs false


/-- Whether a show keeps dry around a basin. -/
noncomputable def dryV (ds : List D) (cs : List C) (gs : List G) (T : Int) (x y z u : Int) : Bool := show9 ds cs gs T && (bx x y z u && (wetV ds cs gs T x y z u).isEmpty)

set_option maxRecDepth 100000 in
set_option maxHeartbeats 4000000 in
theorem isDryS (A0 : Option Addr) (n0 c0 : Nat) (A1 : Option Addr) (n1 c1 : Nat) (A2 : Option Addr) (n2 c2 : Nat) (T : Int) (ds : List D) (cs : List C) (gs : List G) (x y z u : Int) (w : World) (hf : Fit n0 n1 n2 ds cs gs) (hr : SR w A0 A1 A2 ds cs gs) (hsz : ∀ z ∈ ds, z.nm.size ≤ 1048576 ∧ z.ln.size ≤ 1048576) (hsc : ∀ z ∈ cs, z.nm.size ≤ 1048576) :
    Calls Tryz.prog 26 #[sv A0 n0 c0 A1 n1 c1 A2 n2 c2 T, .agg #[.int .i64 x, .int .i64 y, .int .i64 z, .int .i64 u]] w fun e w' => e = .returned (.bool (dryV ds cs gs T x y z u)) ∧ Below w.heap.size w w' := by
  have b0a := (Below.refl w.heap.size w).alloc (Nat.le_refl _) (.cells (sc A0 n0 c0 A1 n1 c1 A2 n2 c2 T) 34)
  have hz1 : (w.alloc (.cells (sc A0 n0 c0 A1 n1 c1 A2 n2 c2 T) 34)).heap.size = w.heap.size + 1 := by simp [go_sem]
  have B0 := Lib.hid (b0a.alloc b0a.size (.cells #[.int .i64 x, .int .i64 y, .int .i64 z, .int .i64 u] 54))
  have KS := Lib.hid ((Bk.new w (sc A0 n0 c0 A1 n1 c1 A2 n2 c2 T) 34).alloc (o := .cells #[.int .i64 x, .int .i64 y, .int .i64 z, .int .i64 u] 54))
  have KB := Bk.new (w.alloc (.cells (sc A0 n0 c0 A1 n1 c1 A2 n2 c2 T) 34)) #[.int .i64 x, .int .i64 y, .int .i64 z, .int .i64 u] 54
  rw [hz1] at KB
  have KB := Lib.hid KB
  have hz2 : ((w.alloc (.cells (sc A0 n0 c0 A1 n1 c1 A2 n2 c2 T) 34)).alloc (.cells #[.int .i64 x, .int .i64 y, .int .i64 z, .int .i64 u] 54)).heap.size = w.heap.size + 1 + 1 := by simp [go_sem]
  obtain ⟨ls, hls⟩ : ∃ ls, ldV ds cs gs T = ls := ⟨_, rfl⟩
  obtain ⟨m, hm⟩ : ∃ m, ls.length = m := ⟨_, rfl⟩
  have hmb : m ≤ 512 := by have := ld_len ds cs gs T; rw [hls, hm] at this; exact this
  have CL := Lib.hid (fun (W : World) (h : SR W A0 A1 A2 ds cs gs) => (by have := (show Calls Tryz.prog 9 #[sv A0 n0 c0 A1 n1 c1 A2 n2 c2 T] W (RowP W (ldV ds cs gs T)) from Lz9.landingsS A0 n0 c0 A1 n1 c1 A2 n2 c2 T ds cs gs W hf h hsz hsc); unfold RowP at this; rw [hls, hm] at this; exact this :
    Calls Tryz.prog 9 #[sv A0 n0 c0 A1 n1 c1 A2 n2 c2 T] W (fun e w' => ∃ g c, e = .returned (.slice (some ⟨g, 0, none⟩) m c) ∧ w'.ownsRow W.heap.size 69 5 (.slice (some ⟨g, 0, none⟩) m c) m (pls ls) ∧ Below W.heap.size W w')))
  have HM := Lib.hid hm
  have HS0 := Lib.hid hr
  have HS := Lib.hid (hr.below B0.out)
  obtain ⟨r, hrr⟩ : ∃ r, show9 ds cs gs T = r := ⟨_, rfl⟩
  have CS := Lib.hid (fun (W : World) (h : SR W A0 A1 A2 ds cs gs) => (by have := Sw9.isShowS A0 n0 c0 A1 n1 c1 A2 n2 c2 T ds cs gs W hf h hsz hsc; rw [hrr] at this; exact this : Calls Tryz.prog 31 #[sv A0 n0 c0 A1 n1 c1 A2 n2 c2 T] W fun e w' => e = .returned (.bool r) ∧ Below W.heap.size W w'))
  have CB := Lib.hid (fun (W : World) => isBoxS x y z u W)
  obtain ⟨bb, hbb⟩ : ∃ b, bx x y z u = b := ⟨_, rfl⟩
  rw [hbb] at CB
  have HV := Lib.hid (show dryV ds cs gs T x y z u = (r && (bb && (wetL x y z u ls).isEmpty)) by unfold dryV wetV; rw [hrr, hbb, hls])
  have HBB := Lib.hid hbb
  rw [HV.out]
  have s0 := KS.out.cell (i := 0) rfl
  have s1 := KS.out.cell (i := 1) rfl
  have s2 := KS.out.cell (i := 2) rfl
  have s3 := KS.out.cell (i := 3) rfl
  have k0 := KB.out.cell (i := 0) rfl
  have k1 := KB.out.cell (i := 1) rfl
  have k2 := KB.out.cell (i := 2) rfl
  have k3 := KB.out.cell (i := 3) rfl
  clear hf hr hsz hsc hls hm b0a hz1 hz2 hrr hbb
  go_enter Tryz.func26, Tryz.ntmps26
  go_wp2_with fail
  refine (CS.out _ HS.out).mono ?_
  rintro e w1 ⟨rfl, hb⟩
  have B1 := Lib.hid (B0.out.trans (hb.mono B0.out.size))
  have KS1 := Lib.hid (KS.out.below hb)
  have KB1 := Lib.hid (KB.out.below hb)
  clear hb B0 KS KB HS CS s0 s1 s2 s3 k0 k1 k2 k3
  cases r
  · clear KS1 KB1 CL CB
    go_wp2_with fail
    go_ret
    exact ⟨rfl, B1.out⟩
  have s0 := KS1.out.cell (i := 0) rfl
  have s1 := KS1.out.cell (i := 1) rfl
  have s2 := KS1.out.cell (i := 2) rfl
  have s3 := KS1.out.cell (i := 3) rfl
  have k0 := KB1.out.cell (i := 0) rfl
  have k1 := KB1.out.cell (i := 1) rfl
  have k2 := KB1.out.cell (i := 2) rfl
  have k3 := KB1.out.cell (i := 3) rfl
  go_wp2_with fail
  refine (CB.out _).mono ?_
  rintro e w2 ⟨rfl, hb⟩
  have B2 := Lib.hid (B1.out.trans (hb.mono B1.out.size))
  have KS2 := Lib.hid (KS1.out.below hb)
  have KB2 := Lib.hid (KB1.out.below hb)
  clear hb B1 KS1 KB1 CB s0 s1 s2 s3 k0 k1 k2 k3
  cases bb
  · clear KS2 KB2 CL
    go_wp2_with fail
    go_ret
    exact ⟨rfl, B2.out⟩
  have s0 := KS2.out.cell (i := 0) rfl
  have s1 := KS2.out.cell (i := 1) rfl
  have s2 := KS2.out.cell (i := 2) rfl
  have s3 := KS2.out.cell (i := 3) rfl
  have CL2 := Lib.hid (CL.out _ (HS0.out.below B2.out))
  clear CL
  go_wp2_with fail
  refine CL2.out.mono ?_
  rintro e w3 ⟨gL, cL, rfl, oL, hb⟩
  have B3 := Lib.hid (B2.out.trans (hb.mono B2.out.size))
  have KB3 := Lib.hid (KB2.out.below hb)
  have O3 := Lib.hid oL
  clear hb oL CL2 B2 KS2 KB2 s0 s1 s2 s3 HS0
  go_wp2_with fail
  go_loopw [18] (fun i wr => ∃ k : Nat, k ≤ m ∧ i = .int .i64 k ∧ Hid (∀ j d, j < k → ls[j]? = some d → ib x y z u d.x d.y = true) ∧ Hid (Below w3.heap.size w3 wr)) (fun i _ => m - (intOf i).toNat)
  case atStart => exact ⟨0, Nat.zero_le _, rfl, Lib.hid (fun j d h => by omega), Lib.hid (Below.refl _ _)⟩
  case round =>
    obtain ⟨k, hk, rfl, AK, BK⟩ := hrel
    have hbs := BK.out.size
    by_cases hlt : k < m
    · obtain ⟨d, hd⟩ : ∃ d, ls[k]? = some d := ⟨_, List.getElem?_eq_getElem (by rw [HM.out]; exact hlt)⟩
      obtain ⟨x0, x1, x2, x3, x4⟩ := Dg9.cO (owns_below O3.out BK.out) hd hlt
      have HD := Lib.hid hd
      have K1 := Lib.hid ((KB3.out.below BK.out).alloc (o := .cells #[.string d.nm, .int .i64 d.b, .int .i64 d.x, .int .i64 d.y, .int .i64 d.h] 69))
      have B1 := Lib.hid (BK.out.alloc hbs (.cells #[.string d.nm, .int .i64 d.b, .int .i64 d.x, .int .i64 d.y, .int .i64 d.h] 69))
      have CI := Lib.hid (fun (W : World) => inBoxS x y z u d.x d.y W)
      obtain ⟨ii, hii⟩ : ∃ b, ib x y z u d.x d.y = b := ⟨_, rfl⟩
      rw [hii] at CI
      have HI := Lib.hid hii
      have k0 := K1.out.cell (i := 0) rfl
      have k1 := K1.out.cell (i := 1) rfl
      have k2 := K1.out.cell (i := 2) rfl
      have k3 := K1.out.cell (i := 3) rfl
      clear hd hii BK hbs K1
      go_wp2_with fail
      refine (CI.out _).mono ?_
      rintro e w4 ⟨rfl, hb⟩
      have B4 := Lib.hid (B1.out.trans (hb.mono B1.out.size))
      clear hb B1 CI x0 x1 x2 x3 x4 k0 k1 k2 k3
      cases ii
      · have HF := Lib.hid (show (wetL x y z u ls).isEmpty = false by
          rw [wet_box HBB.out]
          have hm9 : d ∈ ls.filter (fun d => !ib x y z u d.x d.y) := List.mem_filter.2 ⟨List.mem_of_getElem? HD.out, by rw [HI.out]; rfl⟩
          cases h9 : ls.filter (fun d => !ib x y z u d.x d.y) with
          | nil => rw [h9] at hm9; cases hm9
          | cons a l => rfl)
        clear AK
        go_wp2_with fail
        go_ret
        exact ⟨by rw [HF.out]; rfl, B3.out.trans (B4.out.mono B3.out.size)⟩
      · have AN := Lib.hid (show ∀ j d, j < k + 1 → ls[j]? = some d → ib x y z u d.x d.y = true from fun j d2 hj hv => by
          by_cases e : j = k
          · subst e; rw [HD.out] at hv; cases hv; exact HI.out
          · exact AK.out j d2 (by omega) hv)
        clear AK HI HD
        go_wp2_with fail
        go_roundw
        case rel => first | exact ⟨k + 1, by omega, by go_num, AN, B4⟩ | ((repeat apply Exists.intro); exact ⟨⟨k + 1, by omega, by go_num, AN, B4⟩, rfl⟩)
        case measure => simp [intOf]; omega
    · obtain rfl : m = k := by omega
      have HF := Lib.hid (show (wetL x y z u ls).isEmpty = true by
        rw [wet_box HBB.out, List.isEmpty_iff, List.filter_eq_nil_iff]
        intro d hd
        obtain ⟨j, hj, rfl⟩ := List.getElem_of_mem hd
        have := AK.out j _ (by rw [← HM.out]; exact hj) (List.getElem?_eq_getElem hj)
        rw [this]; decide)
      clear AK
      go_wp2_with fail
      go_ret
      exact ⟨by rw [HF.out]; rfl, B3.out.trans (BK.out.mono B3.out.size)⟩

set_option maxRecDepth 100000 in
set_option maxHeartbeats 4000000 in
theorem isDryI (A0 : Option Addr) (n0 c0 : Nat) (A1 : Option Addr) (n1 c1 : Nat) (A2 : Option Addr) (n2 c2 : Nat) (T : Int) (ds : List D) (cs : List C) (gs : List G) (x y z u : Int) (w : World) (hf : Fit n0 n1 n2 ds cs gs) (hr : SR w A0 A1 A2 ds cs gs) :
    Calls Tryz.prog 27 #[sv A0 n0 c0 A1 n1 c1 A2 n2 c2 T, .agg #[.int .i64 x, .int .i64 y, .int .i64 z, .int .i64 u]] w fun e w' => e = .returned (.bool (dryV ds cs gs T x y z u)) ∧ Below w.heap.size w w' := by
  have b0a := (Below.refl w.heap.size w).alloc (Nat.le_refl _) (.cells (sc A0 n0 c0 A1 n1 c1 A2 n2 c2 T) 34)
  have hz1 : (w.alloc (.cells (sc A0 n0 c0 A1 n1 c1 A2 n2 c2 T) 34)).heap.size = w.heap.size + 1 := by simp [go_sem]
  have B0 := Lib.hid (b0a.alloc b0a.size (.cells #[.int .i64 x, .int .i64 y, .int .i64 z, .int .i64 u] 54))
  have KS := Lib.hid ((Bk.new w (sc A0 n0 c0 A1 n1 c1 A2 n2 c2 T) 34).alloc (o := .cells #[.int .i64 x, .int .i64 y, .int .i64 z, .int .i64 u] 54))
  have KB := Bk.new (w.alloc (.cells (sc A0 n0 c0 A1 n1 c1 A2 n2 c2 T) 34)) #[.int .i64 x, .int .i64 y, .int .i64 z, .int .i64 u] 54
  rw [hz1] at KB
  have KB := Lib.hid KB
  have hz2 : ((w.alloc (.cells (sc A0 n0 c0 A1 n1 c1 A2 n2 c2 T) 34)).alloc (.cells #[.int .i64 x, .int .i64 y, .int .i64 z, .int .i64 u] 54)).heap.size = w.heap.size + 1 + 1 := by simp [go_sem]
  obtain ⟨ls, hls⟩ : ∃ ls, wetV ds cs gs T x y z u = ls := ⟨_, rfl⟩
  obtain ⟨m, hm⟩ : ∃ m, ls.length = m := ⟨_, rfl⟩
  have CL := Lib.hid (fun (W : World) (h : SR W A0 A1 A2 ds cs gs) => (by have := wetI A0 n0 c0 A1 n1 c1 A2 n2 c2 T ds cs gs x y z u W hf h; unfold RowP at this; rw [hls, hm] at this; exact this :
    Calls Tryz.prog 25 #[sv A0 n0 c0 A1 n1 c1 A2 n2 c2 T, .agg #[.int .i64 x, .int .i64 y, .int .i64 z, .int .i64 u]] W (fun e w' => ∃ g c, e = .returned (.slice (some ⟨g, 0, none⟩) m c) ∧ w'.ownsRow W.heap.size 69 5 (.slice (some ⟨g, 0, none⟩) m c) m (pls ls) ∧ Below W.heap.size W w')))
  have HS0 := Lib.hid hr
  have HS := Lib.hid (hr.below B0.out)
  obtain ⟨r, hrr⟩ : ∃ r, show9 ds cs gs T = r := ⟨_, rfl⟩
  have CS := Lib.hid (fun (W : World) (h : SR W A0 A1 A2 ds cs gs) => (by have := Sw9.isShowI A0 n0 c0 A1 n1 c1 A2 n2 c2 T ds cs gs W hf h; rw [hrr] at this; exact this : Calls Tryz.prog 54 #[sv A0 n0 c0 A1 n1 c1 A2 n2 c2 T] W fun e w' => e = .returned (.bool r) ∧ Below W.heap.size W w'))
  have CB := Lib.hid (fun (W : World) => isBoxI x y z u W)
  obtain ⟨bb, hbb⟩ : ∃ b, bx x y z u = b := ⟨_, rfl⟩
  rw [hbb] at CB
  have HV := Lib.hid (show dryV ds cs gs T x y z u = (r && (bb && decide ((m : Int) = 0))) by
    unfold dryV; rw [hrr, hbb, hls]
    have : ls.isEmpty = decide ((m : Int) = 0) := by
      cases ls with
      | nil => rw [← hm]; rfl
      | cons a l => rw [← hm]; exact (decide_eq_false (by simp only [List.length_cons]; omega)).symm
    rw [this])
  have hmb : m ≤ 512 := by have := wet_len ds cs gs T x y z u; rw [hls, hm] at this; exact this
  rw [HV.out]
  have s0 := KS.out.cell (i := 0) rfl
  have s1 := KS.out.cell (i := 1) rfl
  have s2 := KS.out.cell (i := 2) rfl
  have s3 := KS.out.cell (i := 3) rfl
  have k0 := KB.out.cell (i := 0) rfl
  have k1 := KB.out.cell (i := 1) rfl
  have k2 := KB.out.cell (i := 2) rfl
  have k3 := KB.out.cell (i := 3) rfl
  clear hf hr hls hm b0a hz1 hz2 hrr hbb
  go_enter Tryz.func27, Tryz.ntmps27
  go_wp2_with fail
  refine (CS.out _ HS.out).mono ?_
  rintro e w1 ⟨rfl, hb⟩
  have B1 := Lib.hid (B0.out.trans (hb.mono B0.out.size))
  have KS1 := Lib.hid (KS.out.below hb)
  have KB1 := Lib.hid (KB.out.below hb)
  clear hb B0 KS KB HS CS s0 s1 s2 s3 k0 k1 k2 k3
  cases r
  · clear KS1 KB1 CL CB
    go_wp2_with fail
    go_ret
    exact ⟨rfl, B1.out⟩
  have k0 := KB1.out.cell (i := 0) rfl
  have k1 := KB1.out.cell (i := 1) rfl
  have k2 := KB1.out.cell (i := 2) rfl
  have k3 := KB1.out.cell (i := 3) rfl
  go_wp2_with fail
  refine (CB.out _).mono ?_
  rintro e w2 ⟨rfl, hb⟩
  have B2 := Lib.hid (B1.out.trans (hb.mono B1.out.size))
  have KS2 := Lib.hid (KS1.out.below hb)
  have KB2 := Lib.hid (KB1.out.below hb)
  clear hb B1 KS1 KB1 CB k0 k1 k2 k3
  cases bb
  · clear KS2 KB2 CL
    go_wp2_with fail
    go_ret
    exact ⟨rfl, B2.out⟩
  have s0 := KS2.out.cell (i := 0) rfl
  have s1 := KS2.out.cell (i := 1) rfl
  have s2 := KS2.out.cell (i := 2) rfl
  have s3 := KS2.out.cell (i := 3) rfl
  have k0 := KB2.out.cell (i := 0) rfl
  have k1 := KB2.out.cell (i := 1) rfl
  have k2 := KB2.out.cell (i := 2) rfl
  have k3 := KB2.out.cell (i := 3) rfl
  have CL2 := Lib.hid (CL.out _ (HS0.out.below B2.out))
  clear CL KS2 KB2
  go_wp2_with fail
  refine CL2.out.mono ?_
  rintro e w3 ⟨gL, cL, rfl, oL, hb⟩
  have B3 := Lib.hid (B2.out.trans (hb.mono B2.out.size))
  clear hb oL CL2 B2 s0 s1 s2 s3 k0 k1 k2 k3 HS0 HV
  go_wp2_with fail
  all_goals go_ret
  all_goals exact ⟨by first | rfl | simp [*], B3.out⟩
end Go.Proofs.YtejeikfgmiadhaaGreat.Id10
