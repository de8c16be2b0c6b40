/- The drops of the program: flown from tick to tick, and told. -/
import Derived.Test.YtejeikfgmiadhaaGreatAm9
import Derived.Test.YtejeikfgmiadhaaGreatM20
import Derived.Test.YtejeikfgmiadhaaGreatPl9
import Derived.Test.YtejeikfgmiadhaaGreatM21
import Derived.Test.YtejeikfgmiadhaaGreatM5
import Derived.Test.YtejeikfgmiadhaaGreatTi9
import Derived.Maps.OwnOps
import Derived.Deep.RegionHeld3
import Derived.Deep.MidRow
import Derived.StillTailTactics
namespace Go.Proofs.YtejeikfgmiadhaaGreat.Fo9
open Go.RowKit Go.ChangeShapes Go.WideShapes Go.WideElems Go.Deep Go.Proofs.YtejeikfgmiadhaaGreat.Mem Go.Proofs.YtejeikfgmiadhaaGreat.Rw Go.Proofs.YtejeikfgmiadhaaGreat.P2 Go.Proofs.YtejeikfgmiadhaaGreat.Bk Go.Proofs.YtejeikfgmiadhaaGreat.Sp Go.Proofs.YtejeikfgmiadhaaGreat.Sq Go.Proofs.YtejeikfgmiadhaaGreat.Jt Go.Proofs.YtejeikfgmiadhaaGreat.Cm Go.Proofs.YtejeikfgmiadhaaGreat.Cx Go.Proofs.YtejeikfgmiadhaaGreat.Pl
open Go.Proofs.YtejeikfgmiadhaaGreat.Sv hiding D C G
open Go.Proofs.YtejeikfgmiadhaaGreat.Am9 Go.Proofs.YtejeikfgmiadhaaGreat.Tw9 Go.Proofs.YtejeikfgmiadhaaGreat.Ar9 Go.Proofs.YtejeikfgmiadhaaGreat.Pd9
open Go.Proofs.YtejeikfgmiadhaaGreat.Wm (wd dr drs plus sum2 dr_bound drs_get drs_len)
open Go.Proofs.YtejeikfgmiadhaaGreat.Gs (gls)
open Go.Proofs.YtejeikfgmiadhaaGreat.Wc (infoC made_c zs2 zv zs2_len zs2_get)
open Go.Proofs.YtejeikfgmiadhaaGreat.Pl9 (RowP pls pls_len pls_get pls_snoc infoP d0 pls_made)
open Go.Proofs.YtejeikfgmiadhaaGreat.Dp (ha heightI)
set_option linter.unusedVariables false
set_option linter.unusedSimpArgs false


/-- The first of these drops have been taken to these ticks. -/
def At (M : List Ar9.E) (gs : List G) (ts : List T9) (f : Nat → Option Nat) : Prop := ∀ (k : Nat) (u : T9) (t : Nat), ts[k]? = some u → f k = some t → Has M u.z.d.nm u.z.b (pAt gs u.z t)
theorem apart_t {ts : List T9} (h : Apart (ts.map T9.z)) {i j : Nat} {a c : T9} (ha : ts[i]? = some a) (hc : ts[j]? = some c) (hij : i ≠ j) : ¬ (a.z.d.nm = c.z.d.nm ∧ a.z.b = c.z.b) :=
  apart_at h (by rw [List.getElem?_map, ha]; rfl) (by rw [List.getElem?_map, hc]; rfl) hij
theorem at_moved {M M' : List Ar9.E} {gs : List G} {ts : List T9} {f f' : Nat → Option Nat} (h : At M gs ts f) (hap : Apart (ts.map T9.z)) {j : Nat} {u : T9} (hu : ts[j]? = some u) {q : Int × Int} (hm : Moved M u.z.d.nm u.z.b q M') (hq : ∀ t, f' j = some t → q = pAt gs u.z t) (hf : ∀ k, k ≠ j → f' k = f k) : At M' gs ts f' := by
  intro k v t hv ht
  by_cases e : k = j
  · subst e
    rw [hu] at hv; cases hv
    rw [← hq t ht]; exact hm.1
  · rw [hf k e] at ht
    exact hm.2 _ _ _ (h k v t hv ht) (apart_t hap hv hu e)
theorem at_same {M : List Ar9.E} {gs : List G} {ts : List T9} {f f' : Nat → Option Nat} (h : At M gs ts f) {j : Nat} {u : T9} (hu : ts[j]? = some u) (hq : ∀ t, f' j = some t → ∃ t', f j = some t' ∧ pAt gs u.z t = pAt gs u.z t') (hf : ∀ k, k ≠ j → f' k = f k) : At M gs ts f' := by
  intro k v t hv ht
  by_cases e : k = j
  · subst e
    rw [hu] at hv; cases hv
    obtain ⟨t', h1, h2⟩ := hq t ht
    rw [h2]; exact h k u t' hu h1
  · rw [hf k e] at ht; exact h k v t hv ht
theorem at_to {M : List Ar9.E} {gs : List G} {ts : List T9} {f f' : Nat → Option Nat} (h : At M gs ts f) (hf : ∀ k, k < ts.length → f' k = f k) : At M gs ts f' := fun k v t hv ht => h k v t hv (by rw [← hf k (List.getElem?_eq_some_iff.1 hv).1]; exact ht)
/-- The first j at the start, no other one. -/
def f0 (j : Nat) : Nat → Option Nat := fun k => if k < j then some 0 else none
/-- The first j at the tick t + 1, the others at t. -/
def f1 (t j : Nat) : Nat → Option Nat := fun k => if k < j then some (t + 1) else some t
theorem f0_next (j k : Nat) (h : k ≠ j) : f0 (j + 1) k = f0 j k := by unfold f0; by_cases c : k < j <;> simp [c] <;> omega
theorem f1_next (t j k : Nat) (h : k ≠ j) : f1 t (j + 1) k = f1 t j k := by
  unfold f1
  by_cases c : k < j
  · rw [if_pos c, if_pos (by omega)]
  · rw [if_neg c, if_neg (by omega)]

set_option maxRecDepth 100000 in
set_option maxHeartbeats 2000000 in
theorem driftsOwn (A : Option Addr) (n c : Nat) (zs : List G) (H : Nat) (m : Nat) (w : World) (hn : zs.length = n) (hb : n ≤ 1048576) (hH : H ≤ w.heap.size) (hr : Rd w H A (gls zs)) (hw : wd zs = true) (hm : m ≤ 128) :
    Calls Tryz.prog 116 #[.slice A n c, .int .i64 0, .int .i64 (m : Int)] w fun e w' => ∃ g, e = .returned (.slice (some ⟨g, 0, none⟩) m m) ∧ w.heap.size ≤ g ∧ w'.ownsRow w.heap.size 87 1 (.slice (some ⟨g, 0, none⟩) 128 128) 128 (zs2 (drs zs 0 128)) ∧ Below w.heap.size w w' := by
  have C := Lib.hid (Wc.spreadOut A n c zs H w hn hb hH hr hw)
  have a0 : (0 : Int) ≤ (m : Int) := by omega
  have a2 : (m : Int) ≤ 128 := by omega
  have a3 : (m : Int) ≤ ((128 : Nat) : Int) := by omega
  clear hr hn hw hb
  go_enter Tryz.func116, Tryz.ntmps116
  go_wp2_with fail
  refine C.out.mono ?_
  rintro e u ⟨g, rfl, o1, b1⟩
  rw [drs_len] at o1 ⊢
  have O1 := Lib.hid o1
  have B1 := Lib.hid b1
  have hg : w.heap.size ≤ g := (o1.lt g rfl).1
  clear o1 b1
  by_cases h0 : m = 0
  · subst h0
    go_wp2_with fail
    go_ret
    exact ⟨g, rfl, hg, O1.out, B1.out⟩
  · have hm1 : ¬ (m : Int) = 0 := by omega
    go_wp2_with fail
    go_ret
    exact ⟨g, rfl, hg, O1.out, B1.out⟩

set_option maxRecDepth 100000 in
set_option maxHeartbeats 4000000 in
theorem flown (A2 : Option Addr) (n2 c2 : Nat) (gs : List G) (g n c : Nat) (ts : List T9) (t : Nat) (w : World) (hn : ts.length = n) (hnb : n ≤ 512) (ht : t ≤ 128) (hok : ∀ u ∈ ts, TOk u) (hap : Apart (ts.map T9.z)) (hr : Rd w w.heap.size (some ⟨g, 0, none⟩) (tls ts)) (hw : wd gs = true) (hn2 : gs.length = n2) (hb2 : n2 ≤ 1048576) (hr2 : Rd w w.heap.size A2 (gls gs)) :
    Calls Tryz.prog 82 #[.slice A2 n2 c2, .slice (some ⟨g, 0, none⟩) n c, .int .i64 (t : Int)] w fun e w' => ∃ b M, e = .returned (.map (some b)) ∧ Air w' w.heap.size b M ∧ At M gs ts (fun _ => some t) ∧ Below w.heap.size w w' := by
  have HR := Lib.hid hr
  have HR2 := Lib.hid hr2
  have HN := Lib.hid hn
  have HK := Lib.hid hok
  have HA := Lib.hid hap
  have HW := Lib.hid hw
  have CD := Lib.hid (fun (W : World) (h : Below w.heap.size w W) => driftsOwn A2 n2 c2 gs w.heap.size t W hn2 hb2 h.size (hr2.below h) hw ht)
  have A0 := Lib.hid (Air.made w (Nat.le_refl w.heap.size))
  have B0 := Lib.hid ((Below.refl w.heap.size w).alloc (Nat.le_refl _) (.map #[] 0))
  have T0 := Lib.hid (show At [] gs ts (f0 0) from fun k u t h1 h2 => by unfold f0 at h2; rw [if_neg (by omega)] at h2; cases h2)
  have hmm := @run_makeMap Tryz.prog
  clear hr hn hok hap hw hr2 hn2 hb2
  go_enter Tryz.func82, Tryz.ntmps82
  go_wp2_with fail
  go_loopw [17] (fun i wr => ∃ (k : Nat) (M : List Ar9.E), k ≤ n ∧ i = .int .i64 k ∧ Hid (Air wr w.heap.size w.heap.size M) ∧ Hid (At M gs ts (f0 k)) ∧ Hid (Below w.heap.size w wr)) (fun i _ => n - (intOf i).toNat)
  case atStart => exact ⟨0, [], Nat.zero_le _, rfl, A0, T0, B0⟩
  case round =>
    obtain ⟨k, M, hk, rfl, AK, TK, BK⟩ := hrel
    clear A0 T0 B0
    have hbs := BK.out.size
    by_cases hlt : k < n
    · obtain ⟨u, hu9⟩ : ∃ u, ts[k]? = some u := ⟨_, List.getElem?_eq_getElem (by rw [HN.out]; exact hlt)⟩
      obtain ⟨x0, x1, x2, x3, x4, x5, x6, x7, x8⟩ := cR (HR.out.below BK.out) hu9
      have hko := HK.out u (List.mem_of_getElem? hu9)
      have HU := Lib.hid hu9
      have B1 := Lib.hid (BK.out.alloc hbs (.cells (tca u) 89))
      have CR := Lib.hid (release u (wr.alloc (.cells (tca u) 89)) (AK.out.alloc _) (by simp; omega) hko.2.1 hko.2.2)
      clear hu9 hko AK BK
      go_wp2_with fail
      refine CR.out.mono ?_
      rintro e w2 ⟨rfl, M2, hA2, hM2, hb⟩
      have A2 := Lib.hid hA2
      have T2 := Lib.hid (at_moved (f' := f0 (k + 1)) TK.out HA.out HU.out hM2 (fun t ht => by unfold f0 at ht; rw [if_pos (by omega)] at ht; cases ht; rfl) (fun j hj => f0_next k j hj))
      have B2 := Lib.hid (B1.out.trans hb)
      clear hA2 hM2 hb CR x0 x1 x2 x3 x4 x5 x6 x7 x8 B1 TK HU hbs
      go_wp2_with fail
      go_roundw
      case rel => exact ⟨k + 1, M2, by omega, by go_num, A2, T2, B2⟩
      case measure => simp [intOf]; omega
    · obtain rfl : n = k := by omega
      have T1 := Lib.hid (show At M gs ts (f1 0 0) from at_to TK.out fun j hj => by rw [show f0 n j = some 0 from if_pos (by have := HN.out; omega)]; exact if_neg (by omega))
      have CD9 := Lib.hid (CD.out wr BK.out)
      clear TK CD
      go_wp2_with fail
      refine CD9.out.mono ?_
      rintro e w3 ⟨gd, rfl, hgd, od, hb⟩
      have DR := Lib.hid (owns_base od (Nat.le_refl gd))
      have A3 := Lib.hid (AK.out.below hb)
      have L3 := Lib.hid (fun (e : Ar9.E) (he : e ∈ M) => Nat.lt_of_lt_of_le (AK.out.glt he).2 hgd)
      have B3 := Lib.hid (BK.out.trans (hb.mono hbs))
      have hgd0 : w.heap.size ≤ gd := Nat.le_trans hbs hgd
      clear hb od hgd CD9 AK BK hbs
      go_wp2_with fail
      obtain ⟨wo, rfl⟩ : ∃ wo : World, wo = w3 := ⟨_, rfl⟩
      go_loopw [29] (fun i wr => ∃ (q : Nat) (M : List Ar9.E), q ≤ t ∧ i = .int .i64 q ∧ Hid (Air wr w.heap.size w.heap.size M) ∧ Hid (At M gs ts (f1 q 0)) ∧ Hid (∀ e ∈ M, e.g < gd) ∧ Hid (wr.ownsRow gd 87 1 (.slice (some ⟨gd, 0, none⟩) 128 128) 128 (zs2 (drs gs 0 128))) ∧ Hid (Below w.heap.size w wr)) (fun i _ => t - (intOf i).toNat)
      case atStart => exact ⟨0, M, Nat.zero_le _, rfl, A3, T1, L3, DR, B3⟩
      case round =>
        obtain ⟨q, M4, hq, rfl, A4, T4, L4, D4, B4⟩ := hrel
        clear A3 T1 L3 DR B3
        have hbs := B4.out.size
        by_cases hlt : q < t
        · have hp := drs_get (zs := gs) (a := 0) (m := 128) (j := q) (by omega)
          rw [Nat.zero_add] at hp
          have hd := dr_bound HW.out (q : Int)
          obtain ⟨dx, hdx⟩ : ∃ x, (dr gs (q : Int)).1 = x := ⟨_, rfl⟩
          obtain ⟨dy, hdy⟩ : ∃ x, (dr gs (q : Int)).2 = x := ⟨_, rfl⟩
          have ed : dr gs (q : Int) = (dx, dy) := by rw [← hdx, ← hdy]
          rw [ed] at hp
          rw [hdx, hdy] at hd
          have cD := (D4.out.cellAt q (by omega)).trans (zs2_get hp)
          have HD := Lib.hid (And.intro ed hd)
          obtain ⟨d1, hd1⟩ : ∃ x, Meas.f32 dx = x := ⟨_, rfl⟩
          obtain ⟨d2, hd2⟩ : ∃ x, Meas.f32 dy = x := ⟨_, rfl⟩
          have I1 := Lib.hid (show I32 dx d1 ∧ I32 dy d2 by rw [← hd1, ← hd2]; exact ⟨i32_f32 _, i32_f32 _⟩)
          unfold zv at cD
          simp only [hd1, hd2] at cD
          clear hp hd hdx hdy ed hd1 hd2
          go_wp2_with fail
          clear cD
          obtain ⟨wi, rfl⟩ : ∃ wi : World, wi = wr := ⟨_, rfl⟩
          go_loopw [36] (fun i wr => ∃ (k : Nat) (M : List Ar9.E), k ≤ n ∧ i = .int .i64 k ∧ Hid (Air wr w.heap.size w.heap.size M) ∧ Hid (At M gs ts (f1 q k)) ∧ Hid (∀ e ∈ M, e.g < gd) ∧ Hid (wr.ownsRow gd 87 1 (.slice (some ⟨gd, 0, none⟩) 128 128) 128 (zs2 (drs gs 0 128))) ∧ Hid (Below w.heap.size w wr)) (fun i _ => n - (intOf i).toNat)
          case atStart => exact ⟨0, M4, Nat.zero_le _, rfl, A4, T4, L4, D4, B4⟩
          case round =>
            obtain ⟨k, M5, hk, rfl, A5, T5, L5, D5, B5⟩ := hrel
            clear A4 T4 L4 D4 B4 hbs
            have hbs := B5.out.size
            by_cases hlk : k < n
            · obtain ⟨u, hu9⟩ : ∃ u, ts[k]? = some u := ⟨_, List.getElem?_eq_getElem (by rw [HN.out]; exact hlk)⟩
              obtain ⟨x0, x1, x2, x3, x4, x5, x6, x7, x8⟩ := cR (HR.out.below B5.out) hu9
              have hko := HK.out u (List.mem_of_getElem? hu9)
              have HU := Lib.hid hu9
              have CI := Lib.hid (fun (W : World) => isInAir u (q : Int) W)
              have A6 := Lib.hid (A5.out.alloc (.cells (tca u) 89))
              have B6 := Lib.hid (B5.out.alloc hbs (.cells (tca u) 89))
              have D6 := Lib.hid (D5.out.alloc (.cells (tca u) 89))
              have KU := Lib.hid (Bk.new wr (tca u) 89)
              have hpq := pAt_le (gs := gs) HW.out hko.2.1 q
              have HH := Lib.hid (T5.out k u q hu9 (by unfold f1; rw [if_neg (by omega)]))
              have CM := Lib.hid (fun (W : World) (h : Air W w.heap.size w.heap.size M5) (hB : w.heap.size ≤ W.heap.size) => Am9.move u W h hB hko (pAt gs u.z q) (by omega) HH.out dx dy HD.out.2.1 HD.out.2.2 d1 d2 I1.out.1 I1.out.2)
              obtain ⟨ia, hia⟩ : ∃ r, inA u.z (q : Int) = r := ⟨_, rfl⟩
              rw [hia] at CI
              clear hu9 hko hpq HH A5 B5 D5
              go_wp2_with fail
              refine (CI.out _).mono ?_
              rintro e w6 ⟨rfl, hb⟩
              have A7 := Lib.hid (A6.out.below hb)
              have B7 := Lib.hid (B6.out.trans (hb.mono B6.out.size))
              have D7 := Lib.hid (owns_below D6.out hb)
              have KW := Lib.hid (KU.out.below hb)
              clear hb A6 B6 D6 KU CI x0 x1 x2 x3 x4 x5 x6 x7 x8
              cases ia
              · have T6 := Lib.hid (at_same (f' := f1 q (k + 1)) T5.out HU.out (fun t ht => by unfold f1 at ht; rw [if_pos (by omega)] at ht; cases ht; exact ⟨q, by unfold f1; rw [if_neg (by omega)], pAt_no hia⟩) (fun j hj => f1_next q k j hj))
                clear hia T5 CM KW
                go_wp2_with fail
                go_roundw
                case rel => exact ⟨k + 1, M5, by omega, by go_num, A7, T6, L5, D7, B7⟩
                case measure => simp [intOf]; omega
              · have y0 := KW.out.cell (i := 0) rfl
                have y1 := KW.out.cell (i := 1) rfl
                have y2 := KW.out.cell (i := 2) rfl
                have y3 := KW.out.cell (i := 3) rfl
                have y4 := KW.out.cell (i := 4) rfl
                have y5 := KW.out.cell (i := 5) rfl
                have y6 := KW.out.cell (i := 6) rfl
                have y7 := KW.out.cell (i := 7) rfl
                have y8 := KW.out.cell (i := 8) rfl
                have CM2 := Lib.hid (CM.out w6 A7.out B7.out.size)
                have PY := Lib.hid (show plus (pAt gs u.z q) (plus (way u.z) (dx, dy)) = pAt gs u.z (q + 1) by rw [pAt_yes hia, HD.out.1])
                clear hia CM
                go_wp2_with fail
                refine CM2.out.mono ?_
                rintro e w8 ⟨rfl, M8, gx, hA8, hM8, hb, ⟨y, hy, hgy⟩, hg8, hs8⟩
                have A8 := Lib.hid hA8
                have T8 := Lib.hid (at_moved (f' := f1 q (k + 1)) T5.out HA.out HU.out hM8 (fun t ht => by unfold f1 at ht; rw [if_pos (by omega)] at ht; cases ht; exact PY.out) (fun j hj => f1_next q k j hj))
                have L8 := Lib.hid (show ∀ e ∈ M8, e.g < gd from fun e he => by obtain ⟨y', hy', e'⟩ := hs8 e he; rw [← e']; exact L5.out y' hy')
                have D8 := Lib.hid (owns_grown D7.out hg8 (fun k9 hk9 e9 => by have hk9 : gd = k9 := Option.some.inj hk9; have e9 : gx = k9 := Option.some.inj e9; have := L5.out y hy; omega))
                have B8 := Lib.hid (B7.out.trans hb)
                clear hA8 hM8 hb hy hgy hg8 hs8 CM2 y0 y1 y2 y3 y4 y5 y6 y7 y8 A7 B7 D7 KW T5 L5 PY
                go_wp2_with fail
                go_roundw
                case rel => exact ⟨k + 1, M8, by omega, by go_num, A8, T8, L8, D8, B8⟩
                case measure => simp [intOf]; omega
            · obtain rfl : n = k := by omega
              have T6 := Lib.hid (show At M5 gs ts (f1 (q + 1) 0) from at_to T5.out fun j hj => by rw [show f1 q n j = some (q + 1) from if_pos (by have := HN.out; omega)]; exact if_neg (by omega))
              clear T5
              go_wp2_with fail
              go_roundw
              case rel => exact ⟨q + 1, M5, by omega, by go_num, A5, T6, L5, D5, B5⟩
              case measure => simp [intOf]; omega
        · obtain rfl : q = t := by omega
          have T5 := Lib.hid (show At M4 gs ts (fun _ => some q) from at_to T4.out fun j hj => (show f1 q 0 j = some q from if_neg (by omega)).symm)
          clear T4
          go_wp2_with fail
          go_ret
          exact ⟨w.heap.size, M4, rfl, A4.out, T5.out, B4.out⟩
end Go.Proofs.YtejeikfgmiadhaaGreat.Fo9
