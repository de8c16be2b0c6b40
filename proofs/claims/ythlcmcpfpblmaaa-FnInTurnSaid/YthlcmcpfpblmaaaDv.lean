/- The draw of a supply, of demands and of shares; and what the laws' own sum and test do. -/
import Derived.Test.YthlcmcpfpblmaaaDq
import Derived.Test.YthlcmcpfpblmaaaWu
import Derived.Test.YthlcmcpfpblmaaaWv
import Derived.Deep.DeepCutAuto
import Derived.Deep.CutBlock
namespace Go.Proofs.Ythlcmcpfpblmaaa.Dv
open Go.RowKit Go.Proofs.Ythlcmcpfpblmaaa.Mem Go.Proofs.Ythlcmcpfpblmaaa.Rw Go.Proofs.Ythlcmcpfpblmaaa.Wp Go.Proofs.Ythlcmcpfpblmaaa.Dq Go.Proofs.Ythlcmcpfpblmaaa.Dm Go.Proofs.Ythlcmcpfpblmaaa.Ws
open Go.Proofs.Ythlcmcpfpblmaaa.Draw (Cur Ready Got GotB u8s below once odd pick cells_at new Fresh)
set_option linter.unusedVariables false
set_option linter.unusedSimpArgs false

theorem big (A : Option Addr) (n c : Nat) (w : World) (h : n ≤ 4096) : Calls Try.prog 35 #[.slice A n c] w fun e w' => e = .returned (.bool false) ∧ w = w' := by
  have d : decide (4096 < (n : Int)) = false := decide_eq_false (by omega)
  go_enter Try.func35, Try.ntmps35
  go_wp2
  go_ret
  exact ⟨rfl, rfl⟩

set_option maxHeartbeats 1000000 in
/-- The laws' sum of a few eighths. -/
theorem total (A : Option Addr) (n c : Nat) (zs : List Int) (B : Nat) (w : World) (hn : zs.length = n) (hb : zs.length ≤ 8) (hd : okD zs) (hr : Rd w B A (ints zs)) :
    Calls Try.prog 37 #[.slice A n c] w fun e w' => e = .returned (.int .i64 (tot zs)) ∧ w = w' := by
  have HR := Lib.hid hr
  have HN := Lib.hid hn
  have HD := Lib.hid hd
  have HT := Lib.hid (tot_take_small hb hd)
  have hb8 : n ≤ 8 := by omega
  clear hr hn hd hb
  go_enter Try.func37, Try.ntmps37
  go_wp2_with fail
  go_loop [3, 4] (fun t i => ∃ k : Nat, k ≤ n ∧ i = .int .i64 k ∧ ∃ x : Int, t = .int .i64 x ∧ Hid (x = tot (zs.take k))) (fun _ i => n - (intOf i).toNat)
  case atStart => exact ⟨0, Nat.zero_le _, rfl, 0, rfl, Lib.hid rfl⟩
  case round =>
    obtain ⟨k, hk, rfl, x, rfl, HX⟩ := hrel
    obtain ⟨hx1, hx2⟩ : 0 ≤ x ∧ x ≤ 512 := by have := HT.out k; rw [← HX.out] at this; exact this
    by_cases hlt : k < n
    · obtain ⟨z, hz⟩ : ∃ z, zs[k]? = some z := ⟨_, List.getElem?_eq_getElem (by rw [HN.out]; exact hlt)⟩
      obtain ⟨b1, o1, eA, hb1, c1⟩ := rd_cell HR.out hz
      obtain ⟨hz4, hz5⟩ := HD.out z (List.mem_of_getElem? hz)
      have K := Lib.hid (show x + z = tot (zs.take (k + 1)) by rw [tot_take hz, ← HX.out])
      clear hz hb1
      subst eA
      go_wp2_with fail
      go_round
      case rel => exact ⟨k + 1, by omega, by go_num, x + z, rfl, K⟩
      case measure => simp [intOf]; omega
    · obtain rfl : k = n := by omega
      have F := Lib.hid (show x = tot zs by rw [HX.out, ← HN.out, List.take_length])
      go_wp2_with fail
      go_ret
      exact ⟨ret_int F.out, rfl⟩

theorem ready_below {a b : World} {g n c : Nat} {A : Option Addr} {bs : List UInt8} (h : Ready a g A n c bs) (k : Below a.heap.size a b) : Ready b g A n c bs :=
  ⟨h.len, h.max, h.rd.below (k.mono (Nat.le_of_lt h.cur.lt)), h.cur.kept (k.block g h.cur.lt)⟩
/-- A row is as it was where the cursor alone is written. -/
theorem row_past {a b : World} {base g gr q c : Nat} {e : TypeId} {s : Nat} {xs : List Value} (h : a.ownsRow base e s (.slice (some ⟨gr, 0, none⟩) q c) q xs) (k : a.grownBy b (some g)) (hg : g ≠ gr) : b.ownsRow base e s (.slice (some ⟨gr, 0, none⟩) q c) q xs :=
  owns_grown h k (fun i hi => by cases hi; intro e; exact hg (Option.some.inj e))

/-- What the draw leaves: a supply, demands, and some list. -/
def Drawn3 (w : World) (e : Ending) (w' : World) : Prop :=
  ∃ (s : Int) (zs ss : List Int) (q m gr cc hr dd : Nat), zs.length = q ∧ q ≤ 11 ∧ ss.length = m ∧ m ≤ 9 ∧ e = .returned (.tuple #[.int .i64 s, .slice (some ⟨gr, 0, none⟩) q cc, .slice (some ⟨hr, 0, none⟩) m dd]) ∧
    w'.ownsRow w.heap.size 3 1 (.slice (some ⟨gr, 0, none⟩) q cc) q (ints zs) ∧ w'.ownsRow w.heap.size 3 1 (.slice (some ⟨hr, 0, none⟩) m dd) m (ints ss) ∧ Below w.heap.size w w'

set_option maxRecDepth 100000 in
set_option maxHeartbeats 4000000 in
theorem drawFair (w : World) (A : Option Addr) (n c : Nat) (bs : List UInt8) (hn : bs.length = n) (hb : n ≤ 4096) (hr : Rd w w.heap.size A (u8s bs)) :
    Calls Try.prog 38 #[.slice A n c] w (Drawn3 w) := by
  have N0 := Lib.hid (new w A n c bs hn hb hr)
  obtain ⟨i0, hi, hz0, hz1, hz2⟩ := info_parts infoI
  have hu : undef = Value.tuple #[] := rfl
  clear hn hb hr
  go_enter Try.func38, Try.ntmps38
  go_wp2_with fail
  refine N0.out.mono ?_
  rintro e w1 ⟨g, rfl, hg, hR, hB⟩
  have R1 := Lib.hid hR
  have B1 := Lib.hid hB
  have HG := Lib.hid hg
  clear hR hB N0 hg
  go_wp2_with fail
  refine (supplyDraw R1.out).mono ?_
  rintro e w2 ⟨s, _, rfl, k1, k2⟩
  have R2 := Lib.hid (R1.out.next k2 k1)
  have B2 := Lib.hid (below_of B1.out HG.out k2)
  clear k1 k2 R1 B1
  go_wp2_with fail
  refine (l5Any R2.out).mono ?_
  rintro e w3 ⟨zs, q, gr, cc, hl, hq, rfl, ho, k1, k2⟩
  have NG := Lib.hid (show g < gr from Nat.lt_of_lt_of_le R2.out.cur.lt (own_base ho gr rfl))
  have R3 := Lib.hid (R2.out.next k2 k1)
  have B3 := Lib.hid (below_of B2.out HG.out k2)
  have O3 := Lib.hid (owns_base ho (Nat.le_trans B2.out.size (own_base ho gr rfl)))
  have ZL := Lib.hid hl
  clear k1 k2 ho hl R2 B2
  go_wp2_with fail
  have SH := Wu.shareS (some ⟨gr, 0, none⟩) q cc zs s w3 ZL.out (by omega) (Rd.own O3.out)
  unfold RowI at SH
  obtain ⟨ss, hss⟩ : ∃ ss, share s zs = ss := ⟨_, rfl⟩
  obtain ⟨m, hm⟩ : ∃ m, ss.length = m := ⟨_, rfl⟩
  have hm8 : m ≤ 8 := by rw [← hm, ← hss]; exact share_len _ _
  rw [hss, hm] at SH
  have HM := Lib.hid hm
  refine SH.mono ?_
  rintro e w4 ⟨hr, dd, rfl, ho, hb⟩
  have NH := Lib.hid (show gr < hr from Nat.lt_of_lt_of_le (O3.out.lt gr rfl).2 (own_base ho hr rfl))
  have R4 := Lib.hid (ready_below R3.out hb)
  have B4 := Lib.hid (B3.out.trans (hb.mono B3.out.size))
  have O4 := Lib.hid (owns_below O3.out hb)
  have P4 := Lib.hid (owns_base ho (Nat.le_trans B3.out.size (own_base ho hr rfl)))
  clear ho hb R3 B3 O3 SH hss hm
  go_wp2_with fail
  refine (once R4.out 3 (by decide) (by decide)).mono ?_
  rintro e w5 ⟨b1, rfl, k1, k2⟩
  have R5 := Lib.hid (R4.out.next k2 k1)
  have B5 := Lib.hid (below_of B4.out HG.out k2)
  have O5 := Lib.hid (row_past O4.out k2 (by have := NG.out; omega))
  have P5 := Lib.hid (row_past P4.out k2 (by have := NG.out; have := NH.out; omega))
  clear k1 k2 R4 B4 O4 P4
  go_upto_if 21 with fail
  go_cut [8] (fun v wx => ∃ (ss : List Int) (m hr dd : Nat), v = .slice (some ⟨hr, 0, none⟩) m dd ∧ m ≤ 8 ∧ Hid (ss.length = m) ∧ Hid (gr < hr) ∧ Hid (Ready wx g A n c bs) ∧ Hid (Below w.heap.size w wx) ∧ Hid (wx.ownsRow w.heap.size 3 1 (.slice (some ⟨gr, 0, none⟩) q cc) q (ints zs)) ∧ Hid (wx.ownsRow w.heap.size 3 1 (.slice (some ⟨hr, 0, none⟩) m dd) m (ints ss)))
  case first =>
    cases b1
    · go_wp2_with fail
      go_meet
      exact ⟨ss, m, hr, dd, rfl, hm8, HM, NH, R5, B5, O5, P5⟩
    · go_wp2_with fail
      have SH := Wv.serveS (some ⟨gr, 0, none⟩) q cc zs s w5 ZL.out (by omega) (Rd.own O5.out)
      unfold RowI at SH
      obtain ⟨tt, htt⟩ : ∃ ss, inTurn s zs = ss := ⟨_, rfl⟩
      obtain ⟨mt, hmt⟩ : ∃ m, tt.length = m := ⟨_, rfl⟩
      have hmt8 : mt ≤ 8 := by rw [← hmt, ← htt]; exact inTurn_len _ _
      rw [htt, hmt] at SH
      have HMT := Lib.hid hmt
      refine SH.mono ?_
      rintro e w6 ⟨hr2, dd2, rfl, ho, hb⟩
      have NH2 := Lib.hid (show gr < hr2 from Nat.lt_of_lt_of_le (O5.out.lt gr rfl).2 (own_base ho hr2 rfl))
      have R6 := Lib.hid (ready_below R5.out hb)
      have B6 := Lib.hid (B5.out.trans (hb.mono B5.out.size))
      have O6 := Lib.hid (owns_below O5.out hb)
      have P6 := Lib.hid (owns_base ho (Nat.le_trans B5.out.size (own_base ho hr2 rfl)))
      clear ho hb R5 B5 O5 P5 SH htt hmt HM NH hm8
      go_wp2_with fail
      go_meet
      exact ⟨tt, mt, hr2, dd2, rfl, hmt8, HMT, NH2, R6, B6, O6, P6⟩
  case rest =>
    clear R5 B5 O5 P5 HM NH hm8
    obtain ⟨ss, m, hr, dd, rfl, hm8, HM, NH, R5, B5, O5, P5⟩ := hcut
    go_upto_region 7 with fail
    go_cut [31] (fun v wx => ∃ b : Bool, v = .bool b ∧ Hid (b = true → 1 < m) ∧ Hid (Ready wx g A n c bs) ∧ Hid (Below w.heap.size w wx) ∧ Hid (wx.ownsRow w.heap.size 3 1 (.slice (some ⟨gr, 0, none⟩) q cc) q (ints zs)) ∧ Hid (wx.ownsRow w.heap.size 3 1 (.slice (some ⟨hr, 0, none⟩) m dd) m (ints ss)))
    case first =>
      by_cases h1 : 1 < m
      · have d1 : decide (1 < (m : Int)) = true := decide_eq_true (by omega)
        go_wp2_with fail
        refine (once R5.out 2 (by decide) (by decide)).mono ?_
        rintro e w6 ⟨b2, rfl, k1, k2⟩
        have R6 := Lib.hid (R5.out.next k2 k1)
        have B6 := Lib.hid (below_of B5.out HG.out k2)
        have O6 := Lib.hid (row_past O5.out k2 (by have := NG.out; omega))
        have P6 := Lib.hid (row_past P5.out k2 (by have := NG.out; have := NH.out; omega))
        have H1 := Lib.hid (show b2 = true → 1 < m from fun _ => h1)
        clear k1 k2 R5 B5 O5 P5 h1
        go_wp2_with fail
        go_meet
        exact ⟨b2, rfl, H1, R6, B6, O6, P6⟩
      · have d1 : decide (1 < (m : Int)) = false := decide_eq_false (by omega)
        clear h1
        go_wp2_with fail
        go_meet
        exact ⟨false, rfl, Lib.hid (fun h => by cases h), R5, B5, O5, P5⟩
    case rest =>
    clear R5 B5 O5 P5
    obtain ⟨b2, rfl, H1, R6, B6, O6, P6⟩ := hcut
    go_upto_if 31 with fail
    go_cut [8] (fun v wx => v = .slice (some ⟨hr, 0, none⟩) m dd ∧ ∃ ss : List Int, Hid (ss.length = m) ∧ Hid (Ready wx g A n c bs) ∧ Hid (Below w.heap.size w wx) ∧ Hid (wx.ownsRow w.heap.size 3 1 (.slice (some ⟨gr, 0, none⟩) q cc) q (ints zs)) ∧ Hid (wx.ownsRow w.heap.size 3 1 (.slice (some ⟨hr, 0, none⟩) m dd) m (ints ss)))
    case first =>
        cases b2
        · go_wp2_with fail
          go_meet
          exact ⟨rfl, ss, HM, R6, B6, O6, P6⟩
        · have h1 := H1.out rfl
          clear H1
          go_wp2_with fail
          refine (below R6.out (m : Int) (by omega) (by omega)).mono ?_
          rintro e w7 ⟨i, hi9, rfl, k1, k2⟩
          obtain ⟨i, rfl⟩ : ∃ k : Nat, i = (k : Int) := ⟨i.toNat, by omega⟩
          have R7 := Lib.hid (R6.out.next k2 k1)
          have B7 := Lib.hid (below_of B6.out HG.out k2)
          have O7 := Lib.hid (row_past O6.out k2 (by have := NG.out; omega))
          have P7 := Lib.hid (row_past P6.out k2 (by have := NG.out; have := NH.out; omega))
          have him : i < m := by omega
          clear k1 k2 R6 B6 O6 P6 hi9
          go_wp2_with fail
          refine (below R7.out (m : Int) (by omega) (by omega)).mono ?_
          rintro e w8 ⟨j, hj9, rfl, k1, k2⟩
          obtain ⟨j, rfl⟩ : ∃ k : Nat, j = (k : Int) := ⟨j.toNat, by omega⟩
          have R8 := Lib.hid (R7.out.next k2 k1)
          have B8 := Lib.hid (below_of B7.out HG.out k2)
          have O8 := Lib.hid (row_past O7.out k2 (by have := NG.out; omega))
          have P8 := Lib.hid (row_past P7.out k2 (by have := NG.out; have := NH.out; omega))
          have hjm : j < m := by omega
          clear k1 k2 R7 B7 O7 P7 hj9
          obtain ⟨x, hx⟩ : ∃ x, ss[i]? = some x := ⟨_, List.getElem?_eq_getElem (by rw [HM.out]; exact him)⟩
          have c1 := (P8.out.cellAt i (by omega)).trans (show (ints ss)[i]? = some (.int .i64 x) by unfold ints; rw [List.getElem?_map, hx]; rfl)
          have f1 := P8.out.frozenAt i
          obtain ⟨r1, g1⟩ := P8.out.stored i (.int .i64 (wrap64 (x + 1)))
          have es : (ints ss).set i (.int .i64 (wrap64 (x + 1))) = ints (ss.set i (wrap64 (x + 1))) := by unfold ints; rw [List.map_set]
          rw [es] at r1
          obtain ⟨s2, hs2⟩ : ∃ s2, ss.set i (wrap64 (x + 1)) = s2 := ⟨_, rfl⟩
          rw [hs2] at r1
          have HM2 := Lib.hid (show s2.length = m by rw [← hs2, List.length_set, HM.out])
          obtain ⟨y, hy⟩ : ∃ y, s2[j]? = some y := ⟨_, List.getElem?_eq_getElem (by rw [HM2.out]; exact hjm)⟩
          have c2 := (r1.cellAt j (by omega)).trans (show (ints s2)[j]? = some (.int .i64 y) by unfold ints; rw [List.getElem?_map, hy]; rfl)
          have f2 := r1.frozenAt j
          obtain ⟨r2, g2⟩ := r1.stored j (.int .i64 (wrap64 (y - 1)))
          have es2 : (ints s2).set j (.int .i64 (wrap64 (y - 1))) = ints (s2.set j (wrap64 (y - 1))) := by unfold ints; rw [List.map_set]
          rw [es2] at r2
          have gg := grown_trans g1 g2
          have RR := Lib.hid (ready_app R8.out gg (by have := NG.out; have := NH.out; omega))
          have BB := Lib.hid (B8.out.grown gg B8.out.size (fun k hk => by cases hk; exact own_base P8.out hr rfl))
          have OO := Lib.hid (row_past O8.out gg (by have := NH.out; omega))
          have PP := Lib.hid r2
          have HM3 := Lib.hid (show (s2.set j (wrap64 (y - 1))).length = m by rw [List.length_set, HM2.out])
          clear r1 r2 g1 g2 gg es es2 hs2 hx hy R8 B8 O8 P8 HM HM2
          go_wp2_with fail
          go_meet
          exact ⟨rfl, _, HM3, RR, BB, OO, PP⟩
    case rest =>
      clear R6 B6 O6 P6 HM H1
      obtain ⟨rfl, ss, HM, R5, B5, O5, P5⟩ := hcut
      go_wp2_with fail
      refine (once R5.out 9 (by decide) (by decide)).mono ?_
      rintro e w6 ⟨b2, rfl, k1, k2⟩
      have R6 := Lib.hid (R5.out.next k2 k1)
      have B6 := Lib.hid (below_of B5.out HG.out k2)
      have O6 := Lib.hid (row_past O5.out k2 (by have := NG.out; omega))
      have P6 := Lib.hid (row_past P5.out k2 (by have := NG.out; have := NH.out; omega))
      clear k1 k2 R5 B5 O5 P5
      cases b2
      · go_wp2_with fail
        (try simp only [Exit.inBlock, Exit.then])
        refine bodyPost_ret (v := .tuple #[.int .i64 s, .slice (some ⟨gr, 0, none⟩) q cc, .slice (some ⟨hr, 0, none⟩) m dd]) (by simp [results, Try.results38, go_sem]; try rfl) rfl ?_
        exact ⟨s, zs, ss, q, m, gr, cc, hr, dd, ZL.out, hq, HM.out, by omega, rfl, O6.out, P6.out, B6.out⟩
      · go_wp2_with fail
        refine (odd R6.out).mono ?_
        rintro e w7 ⟨y, _, rfl, k1, k2⟩
        have B7 := Lib.hid (below_of B6.out HG.out k2)
        have O7 := Lib.hid (row_past O6.out k2 (by have := NG.out; omega))
        have P7 := Lib.hid (row_past P6.out k2 (by have := NG.out; have := NH.out; omega))
        clear k1 k2 R6 B6 O6 P6
        have hown := P7.out.alloc
        have HW := Lib.hid B7.out.size
        have HH := Lib.hid (own_base P7.out)
        go_wp2_with (at_builtin; refine wpList_append_own _ rfl _ _ 22 rfl w.heap.size 3 i0 (.int .i64 0) 1 8 Try.underlying22 hi hz0 hz1 hz2 rfl (by decide) _ _ _ rfl (hown _) ⟨w7.heap.size, 0, none⟩ 1 1 [.int .i64 y] rfl rfl (by intro j u hj; match j, hj with | 0, hj => (simp at hj; subst hj; simp [Addr.add])) (by intro u hu; simp at hu; first | (subst hu; rfl) | (rcases hu with rfl | rfl | rfl <;> rfl)) (by unfold maxLen; omega) (by omega) (by have := HW.out; simp; omega) ?_; intro v' w5 hown' hgrow hnil)
        rw [ints_snoc] at hown'
        obtain ⟨g5, c5, rfl⟩ := own_slice hown'
        have P8 := Lib.hid hown'
        have B8 := Lib.hid ((B7.out.alloc B7.out.size (.cells #[.int .i64 y] 3)).grown hgrow (by have := HW.out; simp; omega) (fun j hj => HH.out j hj))
        have O8 := Lib.hid (row_past (O7.out.alloc (.cells #[.int .i64 y] 3)) hgrow (fun e => absurd (show hr = gr from e) (by have := NH.out; omega)))
        have HM8 := Lib.hid (show (ss ++ [y]).length = m + 1 by rw [List.length_append, HM.out]; rfl)
        clear hown' hgrow hnil hown P7 O7 B7 HW HH
        go_wp2_with fail
        (try simp only [Exit.inBlock, Exit.then])
        refine bodyPost_ret (v := .tuple #[.int .i64 s, .slice (some ⟨gr, 0, none⟩) q cc, .slice (some ⟨g5, 0, none⟩) (m + 1) c5]) (by simp [results, Try.results38, go_sem]; try rfl) rfl ?_
        exact ⟨s, zs, ss ++ [y], q, m + 1, gr, cc, g5, c5, ZL.out, hq, HM8.out, by omega, rfl, O8.out, P8.out, B8.out⟩

end Go.Proofs.Ythlcmcpfpblmaaa.Dv
