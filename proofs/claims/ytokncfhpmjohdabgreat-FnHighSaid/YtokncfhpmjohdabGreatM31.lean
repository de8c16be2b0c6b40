/- The drops of the model. -/
import Derived.Test.YtokncfhpmjohdabGreatM23
import Derived.Test.YtokncfhpmjohdabGreatM24
import Derived.Test.YtokncfhpmjohdabGreatM30
import Derived.Test.YtokncfhpmjohdabGreatM3
import Derived.Test.YtokncfhpmjohdabGreatM26
import Derived.Test.YtokncfhpmjohdabGreatM27
import Derived.Test.YtokncfhpmjohdabGreatM17
import Derived.Maps.OwnOps
import Derived.Deep.RegionHeld3
import Derived.Deep.MidRow
import Derived.StillTailTactics
import Derived.Test.YtokncfhpmjohdabGreatM29
set_option linter.unusedVariables false
set_option linter.unusedSimpArgs false
namespace Go.Proofs.YtokncfhpmjohdabGreat.Lz9
open Go.RowKit Go.ChangeShapes Go.WideShapes Go.WideElems Go.Deep Go.Proofs.YtokncfhpmjohdabGreat.Mem Go.Proofs.YtokncfhpmjohdabGreat.Rw Go.Proofs.YtokncfhpmjohdabGreat.P2 Go.Proofs.YtokncfhpmjohdabGreat.Bk Go.Proofs.YtokncfhpmjohdabGreat.Sp Go.Proofs.YtokncfhpmjohdabGreat.Sq Go.Proofs.YtokncfhpmjohdabGreat.Jt Go.Proofs.YtokncfhpmjohdabGreat.Cm Go.Proofs.YtokncfhpmjohdabGreat.Cx Go.Proofs.YtokncfhpmjohdabGreat.Pl
open Go.Proofs.YtokncfhpmjohdabGreat.Sv hiding D C G
open Go.Proofs.YtokncfhpmjohdabGreat.Pd9
open Go.Proofs.YtokncfhpmjohdabGreat.Tw9 (step_store_row row_grown row_bk)
open Go.Proofs.YtokncfhpmjohdabGreat.Tm9 (bls bls_get RowM)
open Go.Proofs.YtokncfhpmjohdabGreat.Wm (wd dr drs plus dr_bound drs_get drs_len)
open Go.Proofs.YtokncfhpmjohdabGreat.Gs (gls)
open Go.Proofs.YtokncfhpmjohdabGreat.Wc (infoC made_c zs2 zv zs2_len zs2_get)
open Go.Proofs.YtokncfhpmjohdabGreat.Pl9 (RowP pls pls_len pls_get infoP d0 pls_made)
open Go.Proofs.YtokncfhpmjohdabGreat.Dp (ha heightI)
open Go.Proofs.YtokncfhpmjohdabGreat.Pl9 (mixed mixed_zero mixed_all mixed_put)
set_option linter.unusedVariables false
set_option linter.unusedSimpArgs false


end Go.Proofs.YtokncfhpmjohdabGreat.Lz9
namespace Go.Proofs.YtokncfhpmjohdabGreat.Lw9
open Go.RowKit Go.ChangeShapes Go.WideShapes Go.WideElems Go.Deep Go.Proofs.YtokncfhpmjohdabGreat.Mem Go.Proofs.YtokncfhpmjohdabGreat.Rw Go.Proofs.YtokncfhpmjohdabGreat.P2 Go.Proofs.YtokncfhpmjohdabGreat.Bk Go.Proofs.YtokncfhpmjohdabGreat.Sp Go.Proofs.YtokncfhpmjohdabGreat.Sq Go.Proofs.YtokncfhpmjohdabGreat.Jt Go.Proofs.YtokncfhpmjohdabGreat.Cm Go.Proofs.YtokncfhpmjohdabGreat.Cx Go.Proofs.YtokncfhpmjohdabGreat.Pl
open Go.Proofs.YtokncfhpmjohdabGreat.Sv hiding D C G
open Go.Proofs.YtokncfhpmjohdabGreat.Pd9
open Go.Proofs.YtokncfhpmjohdabGreat.Tm9 (bls bls_get RowM)
open Go.Proofs.YtokncfhpmjohdabGreat.Wm (wd dr drs plus dr_bound drs_get drs_len)
open Go.Proofs.YtokncfhpmjohdabGreat.Gs (gls)
open Go.Proofs.YtokncfhpmjohdabGreat.Wc (infoC made_c zs2 zv zs2_len zs2_get)
open Go.Proofs.YtokncfhpmjohdabGreat.Pl9 (RowP pls pls_len pls_get infoP d0 pls_made)
open Go.Proofs.YtokncfhpmjohdabGreat.Dp (ha heightI)
open Go.Proofs.YtokncfhpmjohdabGreat.Pl9 (mixed mixed_zero mixed_all mixed_put)

set_option linter.unusedVariables false
set_option linter.unusedSimpArgs false


/-- The drops in the air at a tick, of these. -/
def dpL (gs : List G) (t : Int) (l : List B) : List Pd9.P := (l.filter (fun z => inA z t)).map (tell gs t.toNat)
/-- The drops in the air at a tick. -/
noncomputable def dpV (ds : List D) (cs : List C) (gs : List G) (T t : Int) : List Pd9.P := dpL gs t (all9 ds cs gs T)
theorem dp_len (ds : List D) (cs : List C) (gs : List G) (T t : Int) : (dpV ds cs gs T t).length ≤ 512 := by
  unfold dpV dpL; rw [List.length_map]
  have := List.length_filter_le (fun z => inA z t) (all9 ds cs gs T)
  have := all9_len ds cs gs T
  omega
end Go.Proofs.YtokncfhpmjohdabGreat.Lw9
namespace Go.Proofs.YtokncfhpmjohdabGreat.Dp9
open Go.RowKit Go.ChangeShapes Go.WideShapes Go.WideElems Go.Deep Go.Proofs.YtokncfhpmjohdabGreat.Mem Go.Proofs.YtokncfhpmjohdabGreat.Rw Go.Proofs.YtokncfhpmjohdabGreat.P2 Go.Proofs.YtokncfhpmjohdabGreat.Bk Go.Proofs.YtokncfhpmjohdabGreat.Sp Go.Proofs.YtokncfhpmjohdabGreat.Sq Go.Proofs.YtokncfhpmjohdabGreat.Jt Go.Proofs.YtokncfhpmjohdabGreat.Cm Go.Proofs.YtokncfhpmjohdabGreat.Cx Go.Proofs.YtokncfhpmjohdabGreat.Pl
open Go.Proofs.YtokncfhpmjohdabGreat.Sv hiding D C G
open Go.Proofs.YtokncfhpmjohdabGreat.Am9 Go.Proofs.YtokncfhpmjohdabGreat.Fo9 Go.Proofs.YtokncfhpmjohdabGreat.Tw9 Go.Proofs.YtokncfhpmjohdabGreat.Ar9 Go.Proofs.YtokncfhpmjohdabGreat.Pd9
open Go.Proofs.YtokncfhpmjohdabGreat.Wm (wd dr drs plus dr_bound drs_get drs_len)
open Go.Proofs.YtokncfhpmjohdabGreat.Gs (gls)
open Go.Proofs.YtokncfhpmjohdabGreat.Wc (infoC made_c zs2 zv zs2_len zs2_get)
open Go.Proofs.YtokncfhpmjohdabGreat.Pl9 (RowP pls pls_len pls_get infoP d0 pls_made)
open Go.Proofs.YtokncfhpmjohdabGreat.Dp (ha heightI)
open Go.Proofs.YtokncfhpmjohdabGreat.Pl9 (mixed mixed_zero mixed_all mixed_put)
open Go.Proofs.YtokncfhpmjohdabGreat.Ly (layL owns_lay)
open Go.Proofs.YtokncfhpmjohdabGreat.Lp9 (tok_of wd_of)
open Go.Proofs.YtokncfhpmjohdabGreat.Lw9 (dpV dpL)
set_option linter.unusedVariables false
set_option linter.unusedSimpArgs false


set_option maxHeartbeats 1000000 in
theorem clo (t : Int) (pb : Nat) (u : T9) (W : World) (hp : W.cell? ⟨pb, 0, none⟩ = some (.int .i64 t)) : Calls Tryz.prog 43 #[tv u, .pointer (some ⟨pb, 0, none⟩)] W fun e w' => e = .returned (.bool (!inA u.z t)) ∧ Below W.heap.size W w' := by
  have hlt := World.block_lt_of_cell? W _ hp
  have CI := Lib.hid (fun (V : World) => isInAir u t V)
  obtain ⟨r, hr⟩ : ∃ r, inA u.z t = r := ⟨_, rfl⟩
  rw [hr] at CI ⊢
  have K0 := Bk.new W (tca u) 73
  have y0 : (W.alloc (.cells (tca u) 73)).cell? ⟨pb, 0, none⟩ = some (.int .i64 t) := cell_alloc hp
  clear hr K0 hp
  go_enter Tryz.func43, Tryz.ntmps43
  go_wp2_with fail
  refine (CI.out _).mono ?_
  rintro e w1 ⟨rfl, hb⟩
  have B1 := Lib.hid (Below.trans ((Below.refl W.heap.size W).alloc (Nat.le_refl _) (.cells (tca u) 73)) (hb.mono (by simp [go_sem])))
  clear hb y0
  go_wp2_with fail
  go_returns
  exact ⟨rfl, B1.out⟩

theorem told_eq {gs : List G} {t : Int} {ts : List T9} {zs : List B} (hz : ts.map T9.z = zs) : (ts.filter (fun v => !(!inA v.z t))).map (fun u => tell gs t.toNat u.z) = dpL gs t zs := by
  subst hz
  unfold dpL
  rw [List.filter_map, List.map_map]
  have e : (fun v : T9 => !(!inA v.z t)) = ((fun z => inA z t) ∘ T9.z) := by funext v; simp
  rw [e]; rfl

set_option maxRecDepth 100000 in
set_option maxHeartbeats 4000000 in
theorem dropsI (A0 : Option Addr) (n0 c0 : Nat) (A1 : Option Addr) (n1 c1 : Nat) (A2 : Option Addr) (n2 c2 : Nat) (T : Int) (ds : List D) (cs : List C) (gs : List G) (t : Int) (w : World) (hf : Fit n0 n1 n2 ds cs gs) (hr : SR w A0 A1 A2 ds cs gs) :
    Calls Tryz.prog 17 #[sv A0 n0 c0 A1 n1 c1 A2 n2 c2 T, .int .i64 t] w (RowP w (dpV ds cs gs T t)) := by
  obtain ⟨zs, hzs⟩ : ∃ zs, all9 ds cs gs T = zs := ⟨_, rfl⟩
  obtain ⟨m, hm⟩ : ∃ m, zs.length = m := ⟨_, rfl⟩
  have hmb : m ≤ 512 := by have := all9_len ds cs gs T; rw [hzs, hm] at this; exact this
  have HA := Lib.hid (show Apart zs by rw [← hzs]; exact all9_apart ds cs gs T)
  have HM := Lib.hid (show ∀ z ∈ zs, z ∈ all9 ds cs gs T from fun z hz => by rw [hzs]; exact hz)
  have HW := Lib.hid (show ∀ z ∈ zs, wd gs = true from fun z hz => wd_of (HM.out z hz))
  have CT := Lib.hid (fun (W : World) (h : SR W A0 A1 A2 ds cs gs) => (by have := Ti9.thrownIn A0 n0 c0 A1 n1 c1 A2 n2 c2 T ds cs gs W hf h; unfold RowT at this; rw [hzs, hm] at this; exact this :
    Calls Tryz.prog 37 #[sv A0 n0 c0 A1 n1 c1 A2 n2 c2 T] W (fun e w' => ∃ g c, e = .returned (.slice (some ⟨g, 0, none⟩) m c) ∧ Thr w' W.heap.size (.slice (some ⟨g, 0, none⟩) m c) m zs ∧ Below W.heap.size W w')))
  have hld : dpV ds cs gs T t = dpL gs t zs := by unfold dpV; rw [hzs]
  rw [hld]
  have HF := Lib.hid hf
  have HS := Lib.hid hr
  have b0a := (Below.refl w.heap.size w).alloc (Nat.le_refl _) (.cells (sc A0 n0 c0 A1 n1 c1 A2 n2 c2 T) 28)
  have B0 := Lib.hid (b0a.alloc b0a.size (.cells #[.int .i64 t] 3))
  have hz1 : (w.alloc (.cells (sc A0 n0 c0 A1 n1 c1 A2 n2 c2 T) 28)).heap.size = w.heap.size + 1 := by simp [go_sem]
  have KS := Lib.hid ((Bk.new w (sc A0 n0 c0 A1 n1 c1 A2 n2 c2 T) 28).alloc (o := .cells #[.int .i64 t] 3))
  have KT := Bk.new (w.alloc (.cells (sc A0 n0 c0 A1 n1 c1 A2 n2 c2 T) 28)) #[.int .i64 t] 3
  rw [hz1] at KT
  have KT := Lib.hid KT
  have hz2 : ((w.alloc (.cells (sc A0 n0 c0 A1 n1 c1 A2 n2 c2 T) 28)).alloc (.cells #[.int .i64 t] 3)).heap.size = w.heap.size + 1 + 1 := by simp [go_sem]
  have s0 := KS.out.cell (i := 0) rfl
  have s1 := KS.out.cell (i := 1) rfl
  have s2 := KS.out.cell (i := 2) rfl
  have s3 := KS.out.cell (i := 3) rfl
  clear hf hr hzs hm hld b0a hz1
  go_enter Tryz.func17, Tryz.ntmps17
  go_wp2_with fail
  refine (CT.out _ (HS.out.below B0.out)).mono ?_
  rintro e w1 ⟨gT, cT, rfl, ⟨ts, ht1, ht2, ht3, oT⟩, hb1⟩
  rw [hz2] at oT
  have B1 := Lib.hid (B0.out.trans (hb1.mono B0.out.size))
  have KS1 := Lib.hid (KS.out.below hb1)
  have KT1 := Lib.hid (KT.out.below hb1)
  have hsz : w.heap.size + 1 + 1 ≤ w1.heap.size := by have := hb1.size; rw [hz2] at this; exact this
  have CD := Lib.hid (Df9.delete (fun u => !inA u.z t) (w.heap.size + 1) (w.heap.size + 1 + 1) gT m cT ts w1 ht3 (by omega) hsz oT (fun W u hB _ => clo t (w.heap.size + 1) u W ((hB.cell (p := ⟨w.heap.size + 1, 0, none⟩) (by show w.heap.size + 1 < _; omega)).trans (KT1.out.cell (i := 0) rfl))))
  have HT := Lib.hid (tok_of ht1 HM.out ht2)
  have HZ := Lib.hid ht1
  clear hb1 oT s0 s1 s2 s3 B0 KS KT CT hz2
  go_wp2_with fail
  refine CD.out.mono ?_
  rintro e w2 ⟨q, c', rfl, hq, oD, hb2⟩
  have B2 := Lib.hid (B1.out.trans (hb2.mono (by omega)))
  have KS2 := Lib.hid (show Bk w2 w.heap.size (sc A0 n0 c0 A1 n1 c1 A2 n2 c2 T) 28 from (hb2.block w.heap.size (by omega)).trans KS1.out)
  have KT2 := Lib.hid (show Bk w2 (w.heap.size + 1) #[.int .i64 t] 3 from (hb2.block (w.heap.size + 1) (by omega)).trans KT1.out)
  have hq5 : q ≤ 512 := by have := List.length_filter_le (fun v : T9 => !(!inA v.z t)) ts; omega
  have CX := Td9.toldDrops A0 n0 c0 A1 n1 c1 A2 n2 c2 T gs gT q c' (ts.filter (fun v => !(!inA v.z t))) t w2 hq hq5 (fun h0 => by
    obtain ⟨u, hu9⟩ : ∃ u, u ∈ ts.filter (fun v => !(!inA v.z t)) := List.exists_mem_of_length_pos (by omega)
    obtain ⟨h1, h2⟩ := List.mem_filter.1 hu9
    have h3 : inA u.z t = true := by simpa using h2
    have h4 := inA_iff.1 h3
    have h5 := HT.out u h1
    have h6 := (jt_iff.1 h5.2.1).2.2.2.2
    have h7 := h5.2.2
    exact ⟨HW.out u.z (by rw [← HZ.out]; exact List.mem_map_of_mem h1), by omega, by omega⟩) (fun u hu => HT.out u (List.mem_filter.1 hu).1) (by
    have h8 : Apart (ts.map T9.z) := by rw [HZ.out]; exact HA.out
    exact List.Pairwise.sublist (List.filter_sublist.map T9.z) h8) (Rd.own oD) HF.out.2.2.1 HF.out.2.2.2 ((HS.out.below B2.out).r2)
  rw [told_eq HZ.out] at CX
  have CX := Lib.hid CX
  have s0 := KS2.out.cell (i := 0) rfl
  have s1 := KS2.out.cell (i := 1) rfl
  have s2 := KS2.out.cell (i := 2) rfl
  have s3 := KS2.out.cell (i := 3) rfl
  have t0 := KT2.out.cell (i := 0) rfl
  clear hb2 oD KS1 KT1 CD B1 hq
  go_wp2_with fail
  refine CX.out.mono ?_
  rintro e w3 ⟨gX, cX, rfl, oX, hb3⟩
  have OX := Lib.hid (owns_base oX (Nat.le_trans B2.out.size (oX.lt gX rfl).1))
  have B3 := Lib.hid (B2.out.trans (hb3.mono B2.out.size))
  clear hb3 oX s0 s1 s2 s3 t0 CX
  go_wp2_with fail
  go_ret
  exact ⟨gX, cX, rfl, OX.out, B3.out⟩
end Go.Proofs.YtokncfhpmjohdabGreat.Dp9
