/- The law on measures: its walk. -/
import Derived.Test.YtgjfinbjjehlcaaMeasFn
import Derived.Test.YtgjfinbjjehlcaaRampW
import Derived.Test.YtgjfinbjjehlcaaTimes
import Derived.Test.YtgjfinbjjehlcaaSum
import Derived.Deep.DeepCutAuto
import Derived.Deep.CutBlock
namespace Go.Proofs.Ytgjfinbjjehlcaa.MeasW
open Go.RowKit Go.Proofs.Ytgjfinbjjehlcaa.Mem Go.Proofs.Ytgjfinbjjehlcaa.Draw Go.Proofs.Ytgjfinbjjehlcaa.RampFn Go.Proofs.Ytgjfinbjjehlcaa.Times Go.Proofs.Ytgjfinbjjehlcaa.MeasFn

theorem tot_rep (x : Int) : ∀ n : Nat, Sum.tot (List.replicate n x) = x * n
  | 0 => by simp [Sum.tot]
  | n + 1 => by
    rw [List.replicate_succ]
    show x + Sum.tot (List.replicate n x) = _
    rw [tot_rep x n]
    push_cast
    rw [Int.mul_add, Int.mul_one]
    omega
theorem tot_rev : ∀ zs : List Int, Sum.tot zs.reverse = Sum.tot zs
  | [] => rfl
  | z :: zs => by
    rw [List.reverse_cons, Sum.tot_append, tot_rev zs]
    show Sum.tot zs + (z + 0) = z + Sum.tot zs
    omega
theorem good_rev (zs : List Int) : Sum.goodB zs.reverse = Sum.goodB zs ∧ Sum.val zs.reverse = Sum.val zs := by
  have h : Sum.Good zs.reverse = Sum.Good zs := by
    unfold Sum.Good Sum.AllM
    rw [tot_rev]
    simp only [List.mem_reverse]
  have hg : Sum.goodB zs.reverse = Sum.goodB zs := by
    unfold Sum.goodB
    exact decide_eq_decide.mpr (iff_of_eq h)
  exact ⟨hg, by unfold Sum.val; rw [hg, tot_rev]⟩
theorem rep_sum {x n : Int} (h1 : -4096 ≤ x) (h2 : x ≤ 4096) (h3 : 0 ≤ n) (h4 : n ≤ 200) : Sum.goodB (List.replicate n.toNat x) = good x n ∧ Sum.val (List.replicate n.toNat x) = val x n := by
  have ht : Sum.tot (List.replicate n.toNat x) = x * n := by rw [tot_rep, Int.toNat_of_nonneg h3]
  have ha : Sum.AllM (List.replicate n.toNat x) := fun z hz => by rw [List.eq_of_mem_replicate hz]; exact ⟨h1, h2⟩
  by_cases hb : -4096 ≤ x * n ∧ x * n ≤ 4096
  · obtain ⟨a1, a2⟩ := Sum.good_yes ha (by rw [ht]; exact hb.1) (by rw [ht]; exact hb.2)
    obtain ⟨b1, b2⟩ := @mk_yes x n ⟨h1, h2, Or.inr ⟨by omega, by omega, hb.1, hb.2⟩⟩
    exact ⟨a1.trans b1.symm, by rw [a2, b2, ht]⟩
  · obtain ⟨a1, a2⟩ := Sum.good_far (zs := List.replicate n.toNat x) (by rw [ht]; omega)
    obtain ⟨b1, b2⟩ := @mk_no x n (fun ⟨_, _, h⟩ => by
      rcases h with h | ⟨_, _, c, d⟩
      · rw [h, Int.zero_mul] at hb; omega
      · exact hb ⟨c, d⟩)
    exact ⟨a1.trans b1.symm, a2.trans b2.symm⟩
theorem rev_step {zs : List Int} {k : Nat} {z : Int} (h : zs[k]? = some z) : (zs.drop (k + 1)).reverse ++ [z] = (zs.drop k).reverse := by
  obtain ⟨hk, rfl⟩ := List.getElem?_eq_some_iff.1 h
  rw [List.drop_eq_getElem_cons hk, List.reverse_cons]

/-- How many times the law takes the measure. -/
def rounds (n : Int) : Nat := if n ≤ 200 then n.toNat else 0

set_option maxRecDepth 100000 in
set_option maxHeartbeats 4000000 in
theorem walk (A : Option Addr) (n c : Nat) (bs : List UInt8) (hn : bs.length = n) (hm : n ≤ maxLen) (w : World) (hr : Rd w w.heap.size A (u8s bs)) :
    Calls Try.prog 3 #[.slice A n c] w fun e w' => e = .returned (.bool true) ∧ Below w.heap.size w w' := by
  unfold maxLen at hm
  by_cases hlen : 4096 < n
  · go_enter Try.func3, Try.ntmps3
    go_wp2
    go_ret
    exact ⟨rfl, Below.refl _ _⟩
  · obtain ⟨i0, hi, hz0, hz1, hz2⟩ := info_parts infoInt
    have hb : n ≤ 4096 := by omega
    have D := Lib.hid (drawT w A n c bs hn hb hr)
    have DS := Lib.hid (fun (v : World) (hv : Below w.heap.size w v) => drawS v A n c bs hn hb ((hr.below hv).more hv.size))
    clear hn hr hlen hm
    go_enter Try.func3, Try.ntmps3
    go_wp2_with fail
    refine (RampW.big _ _ _ _ hb).mono ?_
    rintro e w' ⟨rfl, rfl⟩
    go_wp2_with fail
    refine D.out.mono ?_
    rintro e w1 ⟨x, m, rfl, wx, wm, b1⟩
    have B1 := Lib.hid b1
    have WX := Lib.hid wx
    have WM := Lib.hid wm
    have TI := Lib.hid (Times.impl x m wx wm w1)
    have TS := Lib.hid (Times.spec x m wx wm w1)
    have NO := Lib.hid (@mk_no x m)
    have YES := Lib.hid (@mk_yes x m)
    have RS := Lib.hid (@rep_sum x m)
    obtain ⟨y, hy⟩ : ∃ y, val x m = y := ⟨_, rfl⟩
    obtain ⟨ok, hok⟩ : ∃ ok, good x m = ok := ⟨_, rfl⟩
    rw [hy, hok] at TI TS NO YES RS
    clear b1 wx wm D hy hok hb
    go_wp2_with fail
    refine TI.out.mono ?_
    rintro e w' ⟨rfl, rfl⟩
    go_wp2_with fail
    refine TS.out.mono ?_
    rintro e w' ⟨rfl, rfl⟩
    go_upto_region 8 with fail
    go_cut [63] (fun s wx => s = .bool false ∧ wx = w1)
    case first =>
      by_cases hx : x < -4096 ∨ 4096 < x
      · obtain rfl := (NO.out (by omega)).1
        clear NO YES RS TI TS DS
        go_wp2_with fail
        refine (isMeasure_impl_no x _ hx).mono ?_
        rintro e w' ⟨rfl, rfl⟩
        go_wp2_with fail
        go_meet
        exact ⟨rfl, rfl⟩
      · have hx1 : -4096 ≤ x := by omega
        have hx2 : x ≤ 4096 := by omega
        clear hx
        by_cases h0 : x = 0
        · obtain rfl := (YES.out ⟨hx1, hx2, Or.inl h0⟩).1
          clear NO YES RS TI TS DS
          have hd : (x == 0) = true := by rw [h0]; rfl
          clear h0
          go_wp2_with fail
          refine (isMeasure_impl x _ hx1 hx2).mono ?_
          rintro e w' ⟨rfl, rfl⟩
          go_wp2_with fail
          go_meet
          exact ⟨rfl, rfl⟩
        · have hd : (x == 0) = false := by rw [beq_eq_false_iff_ne]; exact h0
          by_cases a1 : m < -4096
          · obtain rfl := (NO.out (by omega)).1
            clear NO YES RS TI TS DS
            go_wp2_with fail
            refine (isMeasure_impl x _ hx1 hx2).mono ?_
            rintro e w' ⟨rfl, rfl⟩
            go_wp2_with fail
            go_meet
            exact ⟨rfl, rfl⟩
          · by_cases a2 : 4096 < m
            · obtain rfl := (NO.out (by omega)).1
              clear NO YES RS TI TS DS
              go_wp2_with fail
              refine (isMeasure_impl x _ hx1 hx2).mono ?_
              rintro e w' ⟨rfl, rfl⟩
              go_wp2_with fail
              go_meet
              exact ⟨rfl, rfl⟩
            · obtain ⟨p1, p2⟩ := Go.Proofs.Ytgjfinbjjehlcaa.Times.prod_bound hx1 hx2 (show -4096 ≤ m by omega) (show m ≤ 4096 by omega)
              by_cases hp : x * m < -4096 ∨ 4096 < x * m
              · obtain rfl := (NO.out (by omega)).1
                clear NO YES RS TI TS DS
                go_wp2_with fail
                refine (isMeasure_impl x _ hx1 hx2).mono ?_
                rintro e w' ⟨rfl, rfl⟩
                go_wp2_with fail
                refine (isMeasure_impl_no (x * m) _ hp).mono ?_
                rintro e w' ⟨rfl, rfl⟩
                go_wp2_with fail
                go_meet
                exact ⟨rfl, rfl⟩
              · obtain rfl := (YES.out ⟨hx1, hx2, Or.inr ⟨by omega, by omega, by omega, by omega⟩⟩).1
                clear NO YES RS TI TS DS
                go_wp2_with fail
                refine (isMeasure_impl x _ hx1 hx2).mono ?_
                rintro e w' ⟨rfl, rfl⟩
                go_wp2_with fail
                refine (isMeasure_impl (x * m) _ (by omega) (by omega)).mono ?_
                rintro e w' ⟨rfl, rfl⟩
                go_wp2_with fail
                go_meet
                exact ⟨rfl, rfl⟩
    case rest =>
      obtain ⟨rfl, rfl⟩ := hcut
      have O1 := Lib.hid (World.ownsRow_lit (base := wc.heap.size) (e := 3) (size := 1) wc #[] 0 (Nat.le_refl _) (Nat.zero_le _) rfl)
      have B2 := Lib.hid (B1.out.alloc B1.out.size (.cells #[] 3))
      have BS := Lib.hid B1.out.size
      have hN : rounds m ≤ 200 := by unfold rounds; split <;> omega
      have hN2 : (rounds m = 0 ∧ 200 < m) ∨ (m ≤ 200 ∧ rounds m = m.toNat) := by unfold rounds; split <;> omega
      generalize rounds m = N at *
      clear NO YES TI TS
      go_upto_block 0 with fail
      go_cut [9, 10] (fun v q wx => (∃ b d, v = .slice (some ⟨b, 0, none⟩) N d) ∧ (∃ k : Int, q = .int .i64 k) ∧ Hid (wx.ownsRow wc.heap.size 3 1 v N (ints (List.replicate N x))) ∧ Hid (Below w.heap.size w wx))
      case first =>
        go_wp2_with fail
        go_loopw [9, 10] (fun v q wr => ∃ k : Nat, k ≤ N ∧ q = .int .i64 k ∧ (∃ b d, v = .slice (some ⟨b, 0, none⟩) k d) ∧ Hid (wr.ownsRow wc.heap.size 3 1 v k (ints (List.replicate k x))) ∧ Hid (Below w.heap.size w wr) ∧ Hid (wc.heap.size ≤ wr.heap.size)) (fun _ q _ => N - (intOf q).toNat)
        case atStart => exact ⟨0, Nat.zero_le _, rfl, ⟨_, _, rfl⟩, O1, B2, Lib.hid (by simp)⟩
        case round =>
          obtain ⟨k, hk, rfl, ⟨bb, dd, rfl⟩, OK, BK, SK⟩ := hrel
          by_cases hlt : k < N
          · have h1 : (k : Int) < m := by omega
            have h2 : m ≤ 200 := by omega
            have hown := OK.out.alloc
            have hsk := SK.out
            have HS := Lib.hid (own_base OK.out)
            go_wp2_with (at_builtin; refine wpList_append_own _ rfl _ _ 29 rfl wc.heap.size 3 i0 (.int .i64 0) 1 8 Try.underlying29 hi hz0 hz1 hz2 rfl (by decide) _ _ _ rfl (hown _) ⟨wr.heap.size, 0, none⟩ 1 1 [.int .i64 x] rfl rfl (by intro j u hj; match j, hj with | 0, hj => simp at hj; subst hj; simp [Addr.add]) (by intro u hu; simp at hu; subst hu; rfl) (by unfold maxLen; omega) (by omega) (by simp; omega) ?_; intro v' w5 hown' hgrow hnil)
            rw [ints_snoc] at hown'
            have hsh := own_mk hown'
            have E := List.replicate_succ' (n := k) (a := x)
            rw [← E] at hown'
            have OO := Lib.hid hown'
            have BB := Lib.hid ((BK.out.alloc (BK.out.size) _).grown hgrow (by simp; have := BK.out.size; omega) (fun j hj => Nat.le_trans BS.out (HS.out j hj)))
            have SS := Lib.hid (show wc.heap.size ≤ w5.heap.size by have := hgrow.size; simp at this; omega)
            clear hown' hgrow hnil OK BK SK hown hsk HS E
            go_wp2_with fail
            go_roundw
            case rel => exact ⟨k + 1, by omega, by go_num, hsh, OO, BB, SS⟩
            case measure => simp [intOf]; omega
          · obtain rfl : k = N := by omega
            rcases hN2 with ⟨e1, e2⟩ | ⟨e1, e2⟩
            · subst e1
              have h1 : (0 : Int) < m := by omega
              have h2 : ¬ m ≤ 200 := by omega
              go_wp2_with fail
              go_meet
              exact ⟨⟨_, _, rfl⟩, ⟨_, rfl⟩, OK, BK⟩
            · have h1 : ¬ (k : Int) < m := by omega
              clear e2
              go_wp2_with fail
              go_meet
              exact ⟨⟨_, _, rfl⟩, ⟨_, rfl⟩, OK, BK⟩
      case rest =>
        obtain ⟨⟨bb, dd, rfl⟩, ⟨kk, rfl⟩, OK, BK⟩ := hcut
        have RD := Lib.hid (Rd.own OK.out)
        have BC := Lib.hid BK.out
        clear O1 B2 OK BS B1 BK
        go_wp2_with fail
        refine (Sum.impl _ N dd (List.replicate N x) _ List.length_replicate (by omega) RD.out).mono ?_
        rintro e wd ⟨rfl, bd⟩
        have BD := Lib.hid (BC.out.trans (bd.mono BC.out.size))
        have RZ : -4096 ≤ x → x ≤ 4096 → 0 ≤ m → m ≤ 200 → Sum.goodB (List.replicate N x) = ok ∧ Sum.val (List.replicate N x) = y := fun a1 a2 a3 a4 => by
          have e : N = m.toNat := by omega
          rw [e]; exact RS.out a1 a2 a3 a4
        obtain ⟨z, hz⟩ : ∃ z, Sum.val (List.replicate N x) = z := ⟨_, rfl⟩
        obtain ⟨is, his⟩ : ∃ is, Sum.goodB (List.replicate N x) = is := ⟨_, rfl⟩
        rw [hz, his] at RZ ⊢
        have RZ := Lib.hid RZ
        clear hz his bd RS hN2
        go_upto_region 16 with fail
        go_cut [102] (fun s wx => s = .bool false ∧ wx = wd)
        case first =>
          by_cases c1 : m < 0
          · go_wp2_with fail
            go_meet
            exact ⟨rfl, rfl⟩
          · by_cases c2 : 200 < m
            · go_wp2_with fail
              go_meet
              exact ⟨rfl, rfl⟩
            · by_cases hx : x < -4096 ∨ 4096 < x
              · go_wp2_with fail
                refine (isMeasure_impl_no x _ hx).mono ?_
                rintro e w' ⟨rfl, rfl⟩
                go_wp2_with fail
                go_meet
                exact ⟨rfl, rfl⟩
              · have hx1 : -4096 ≤ x := by omega
                have hx2 : x ≤ 4096 := by omega
                obtain ⟨rfl, rfl⟩ := RZ.out hx1 hx2 (by omega) (by omega)
                go_wp2_with fail
                refine (isMeasure_impl x _ hx1 hx2).mono ?_
                rintro e w' ⟨rfl, rfl⟩
                have hb1 : (is != is) = false := by cases is <;> rfl
                have hb2 : (z != z) = false := bne_self_eq_false z
                go_wp2_with fail
                go_meet
                exact ⟨rfl, rfl⟩
        case rest =>
          obtain ⟨rfl, rfl⟩ := hcut
          clear RZ RD BC WX WM hN
          go_wp2_with fail
          refine (DS.out _ BD.out).mono ?_
          rintro e we ⟨v, zs, ce, ge, rfl, rfl, hl, oe, be⟩
          have BE := Lib.hid (BD.out.trans (be.mono BD.out.size))
          have RE := Lib.hid (Rd.own oe)
          have GE := Lib.hid (oe.lt ge rfl).2
          have CE := Lib.hid (fun (j : Nat) (hj : j < zs.length) => (oe.cellAt j (by omega)).trans (ints_get hj))
          have OB := Lib.hid (World.ownsRow_lit (base := we.heap.size) (e := 3) (size := 1) we #[] 0 (Nat.le_refl _) (Nat.zero_le _) rfl)
          have BF := Lib.hid (BE.out.alloc BE.out.size (.cells #[] 3))
          have BG := Lib.hid ((Below.refl we.heap.size we).alloc (Nat.le_refl _) (.cells #[] 3))
          obtain ⟨L, hL⟩ : ∃ L, zs.length = L := ⟨_, rfl⟩
          have HL := Lib.hid hL
          rw [hL] at hl ⊢
          clear oe be DS BD hL
          go_wp2_with fail
          go_loopw [14, 15] (fun v q wr => ∃ (k j : Nat) (t : Int), k + j = L ∧ t = (k : Int) - 1 ∧ q = .int .i64 t ∧ (∃ b d, v = .slice (some ⟨b, 0, none⟩) j d) ∧ Hid (wr.ownsRow we.heap.size 3 1 v j (ints (zs.drop k).reverse)) ∧ Hid (Below w.heap.size w wr) ∧ Hid (Below we.heap.size we wr)) (fun _ q _ => (intOf q + 1).toNat)
          case atStart => exact ⟨L, 0, _, rfl, rfl, rfl, ⟨_, _, rfl⟩, Lib.hid (by rw [← HL.out, List.drop_length]; exact OB.out), BF, BG⟩
          case round =>
            obtain ⟨k, j, t, hkj, ht, rfl, ⟨bb, dd, rfl⟩, OK, BK, BW⟩ := hrel
            by_cases h0 : 0 < k
            · obtain ⟨i, rfl⟩ : ∃ i, k = i + 1 := ⟨k - 1, by omega⟩
              obtain rfl : t = (i : Int) := by omega
              clear ht
              have hi1 : (i : Int) < (L : Int) := by omega
              have hi2 : (0 : Int) ≤ (i : Int) := by omega
              have hiz : i < zs.length := by rw [HL.out]; omega
              obtain ⟨z, hzz⟩ : ∃ z, zs[i]? = some z := ⟨_, List.getElem?_eq_getElem hiz⟩
              have c1 : wr.cell? ⟨ge, i, none⟩ = some (.int .i64 z) := by
                rw [BW.out.cell (p := ⟨ge, i, none⟩) GE.out, CE.out i hiz]
                rw [List.getElem?_eq_getElem hiz] at hzz
                rw [Option.some.inj hzz]
              have RV := Lib.hid (rev_step hzz)
              have hown := OK.out.alloc
              have hsk := BW.out.size
              have hsw := BK.out.size
              have HS := Lib.hid (own_base OK.out)
              clear hzz hiz
              go_wp2_with (at_builtin; refine wpList_append_own _ rfl _ _ 29 rfl we.heap.size 3 i0 (.int .i64 0) 1 8 Try.underlying29 hi hz0 hz1 hz2 rfl (by decide) _ _ _ rfl (hown _) ⟨wr.heap.size, 0, none⟩ 1 1 [.int .i64 z] rfl rfl (by intro j u hj; match j, hj with | 0, hj => simp at hj; subst hj; simp [Addr.add]) (by intro u hu; simp at hu; subst hu; rfl) (by unfold maxLen; omega) (by omega) (by simp; omega) ?_; intro v' w5 hown' hgrow hnil)
              rw [ints_snoc, RV.out] at hown'
              have hsh := own_mk hown'
              have OO := Lib.hid hown'
              have B5 := Lib.hid ((BK.out.alloc hsw _).grown hgrow (by simp; omega) (fun j hj => Nat.le_trans BE.out.size (HS.out j hj)))
              have W5 := Lib.hid ((BW.out.alloc hsk _).grown hgrow (by simp; omega) HS.out)
              clear hown' hgrow hnil OK BK BW hown hsk hsw HS RV
              go_wp2_with fail
              go_roundw
              case rel => exact ⟨i, j + 1, _, by omega, rfl, rfl, hsh, OO, B5, W5⟩
              case measure => simp [intOf] <;> omega
            · obtain rfl : k = 0 := by omega
              have ht2 : t < 0 := by omega
              clear ht
              obtain rfl : j = L := by omega
              have HJ := Lib.hid (show zs.reverse.length = j by rw [List.length_reverse]; exact HL.out)
              have O0 := Lib.hid (show wr.ownsRow we.heap.size 3 1 (.slice (some ⟨bb, 0, none⟩) j dd) j (ints zs.reverse) from OK.out)
              have RA := Lib.hid ((RE.out.below BW.out).more BW.out.size)
              have GR := Lib.hid (good_rev zs)
              clear OK BF BG OB CE BE
              go_wp2_with fail
              refine (Sum.impl _ j ce zs _ HL.out (by omega) RA.out).mono ?_
              rintro e wf1 ⟨rfl, bf⟩
              have RB := Lib.hid (((Rd.own O0.out).below bf).more bf.size)
              have B6 := Lib.hid (BK.out.trans (bf.mono BK.out.size))
              clear bf
              go_wp2_with fail
              refine (Sum.impl _ j dd zs.reverse _ HJ.out (by omega) RB.out).mono ?_
              rintro e wf2 ⟨rfl, bf⟩
              have B7 := Lib.hid (B6.out.trans (bf.mono B6.out.size))
              rw [GR.out.1, GR.out.2]
              obtain ⟨V, hV⟩ : ∃ V, Sum.val zs = V := ⟨_, rfl⟩
              obtain ⟨G, hG⟩ : ∃ G, Sum.goodB zs = G := ⟨_, rfl⟩
              rw [hV, hG]
              clear bf hV hG GR
              have hb1 : (V == V) = true := beq_self_eq_true V
              have hb2 : (G == G) = true := beq_self_eq_true G
              go_wp2_with fail
              go_ret
              exact ⟨rfl, B7.out⟩

end Go.Proofs.Ytgjfinbjjehlcaa.MeasW
