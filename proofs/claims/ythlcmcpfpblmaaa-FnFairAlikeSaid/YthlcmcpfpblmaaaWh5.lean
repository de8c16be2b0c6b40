/- Whether shares are fair, of the model. -/
import Derived.Test.YthlcmcpfpblmaaaWf5
namespace Go.Proofs.Ythlcmcpfpblmaaa.Wh5
open Go.RowKit Go.Proofs.Ythlcmcpfpblmaaa.Mem Go.Proofs.Ythlcmcpfpblmaaa.Dm Go.Proofs.Ythlcmcpfpblmaaa.Ws Go.Proofs.Ythlcmcpfpblmaaa.Wp Go.Proofs.Ythlcmcpfpblmaaa.Wq Go.Proofs.Ythlcmcpfpblmaaa.Wl Go.Proofs.Ythlcmcpfpblmaaa.Rw Go.Proofs.Ythlcmcpfpblmaaa.We5 Go.Proofs.Ythlcmcpfpblmaaa.Wf5
set_option linter.unusedVariables false
set_option linter.unusedSimpArgs false

theorem drew_below (w : World) (q : Nat) : Below w.heap.size w (w.drewN q) := below_drewN (Below.refl _ _) q

set_option maxRecDepth 100000 in
set_option maxHeartbeats 2000000 in
theorem fairS (A D : Option Addr) (n m c d : Nat) (zs ss : List Int) (w : World) (hn : zs.length = n) (hm : ss.length = m) (hb : n ≤ 1048576) (hbm : m ≤ 1048576) (hr : Rd w w.heap.size A (ints zs)) (hs : Rd w w.heap.size D (ints ss)) (s : Int) :
    Calls Try.prog 31 #[.int .i64 s, .slice A n c, .slice D m d] w (TellsN (fair s zs ss) w) := by
  have R := Lib.hid hr
  have S := Lib.hid hs
  have N := Lib.hid hn
  have M := Lib.hid hm
  have hu : undef = Value.tuple #[] := rfl
  by_cases hd : dm zs = true
  · have C1 := Lib.hid (demS_of hd A n c w.heap.size w N.out hb R.out)
    by_cases h0 : 0 ≤ s ∧ s ≤ 512
    · have C0 := Lib.hid (fun v => l5Supply_of (iw_yes h0) v)
      by_cases hx : sh zs ss = true
      · have C2 := Lib.hid (sharesS_of hx A D n m c d w.heap.size w N.out M.out hb hbm R.out S.out)
        have TB1 := Lib.hid (tot_small (dm_iff.1 hd).1 (dm_iff.1 hd).2)
        have TB2 := Lib.hid (tot_small (sh_ok hx hd).1 (sh_ok hx hd).2)
        have T1 := Lib.hid (fun (v : World) (h : Rd v w.heap.size A (ints zs)) => sumS A n c zs _ v N.out (dm_iff.1 hd).1 (dm_iff.1 hd).2 h)
        have T2 := Lib.hid (fun (v : World) (h : Rd v w.heap.size D (ints ss)) => sumS D m d ss _ v M.out (sh_ok hx hd).1 (sh_ok hx hd).2 h)
        have emn : m = n := by rw [← M.out, ← N.out]; exact (sh_iff.1 hx).1
        have hn8 : n ≤ 8 := by rw [← N.out]; exact (dm_iff.1 hd).1
        have FN := Lib.hid (fun (h : ¬ tot ss = min s (tot zs)) => fair_no (n := s) (zs := zs) (ss := ss) (fun c => h c.2.2.2.1))
        have FY := Lib.hid (fun (h : tot ss = min s (tot zs)) => fair_is h0 hd hx h)
        have OK := Lib.hid (sh_ok hx hd).2
        subst emn
        have CM := Lib.hid (fun v => l1Min s (tot zs) v)
        obtain ⟨x, hx0⟩ : ∃ x, tot zs = x := ⟨_, rfl⟩
        obtain ⟨y, hy0⟩ : ∃ y, tot ss = y := ⟨_, rfl⟩
        rw [hx0] at T1 TB1 FN FY CM
        rw [hy0] at T2 TB2 FN FY
        obtain ⟨p1, p2⟩ := TB1.out
        obtain ⟨p3, p4⟩ := TB2.out
        obtain ⟨t, ht⟩ : ∃ t, min s x = t := ⟨_, rfl⟩
        rw [ht] at FN FY CM
        clear hr hs hn hm hd hx hx0 hy0 h0 ht
        by_cases hq : y = t
        · have F := Lib.hid (FY.out hq)
          have d1 : (y == t) = true := by rw [hq]; simp
          have d2 : (y != t) = false := by rw [hq]; simp
          clear FY FN hq
          go_enter Try.func31, Try.ntmps31
          go_wp2_with fail
          refine (C1.out).mono ?_
          rintro e w' ⟨rfl, rfl⟩
          go_wp2_with fail
          refine (C0.out _).mono ?_
          rintro e w' ⟨rfl, rfl⟩
          go_wp2_with fail
          refine (C2.out).mono ?_
          rintro e w1 ⟨rfl, q, rfl⟩
          have R1 := Lib.hid (R.out.drewN q)
          have S1 := Lib.hid (S.out.drewN q)
          have B1 := Lib.hid (drew_below w q)
          generalize w.drewN q = w1 at *
          go_wp2_with fail
          refine (T2.out _ S1.out).mono ?_
          rintro e w' ⟨rfl, rfl⟩
          go_wp2_with fail
          refine (T1.out _ R1.out).mono ?_
          rintro e w' ⟨rfl, rfl⟩
          go_wp2_with fail
          refine (CM.out _).mono ?_
          rintro e w' ⟨rfl, rfl⟩
          go_wp2_with fail
          clear C0 C1 C2 T1 T2 CM d1 d2 TB1 TB2
          go_loopw [34] (fun i wr => ∃ k q : Nat, k ≤ m ∧ i = .int .i64 k ∧ Hid (evenTo zs ss k) ∧ wr = w1.drewN q) (fun i _ => m - (intOf i).toNat)
          case atStart => exact ⟨0, 0, Nat.zero_le _, rfl, Lib.hid (even_zero _ _), rfl⟩
          case round =>
            obtain ⟨k, q, hk, rfl, HK, rfl⟩ := hrel
            by_cases hlt : k < m
            · obtain ⟨z, hz⟩ : ∃ z, zs[k]? = some z := ⟨_, List.getElem?_eq_getElem (by rw [N.out]; exact hlt)⟩
              obtain ⟨b1, o1, eA, hb1, c1⟩ := rd_cell R1.out hz
              obtain ⟨u, hs⟩ : ∃ u, ss[k]? = some u := ⟨_, List.getElem?_eq_getElem (by rw [M.out]; exact hlt)⟩
              obtain ⟨b2, o2, eD, hb2, c2⟩ := rd_cell S1.out hs
              have HZ := Lib.hid hz
              have HS := Lib.hid hs
              obtain ⟨s1, s2⟩ := OK.out u (List.mem_of_getElem? HS.out)
              have k0 : (0 : Int) ≤ (k : Int) := by omega
              have k1 : (k : Int) < (m : Int) := by omega
              have kd : decide ((k : Int) < (m : Int)) = true := decide_eq_true k1
              have HC1 := Lib.hid c1
              have HC2 := Lib.hid c2
              clear hz hs hb1 hb2 c1 c2
              subst eA eD
              go_wp2_with fail
              go_loopw [39] (fun i wr => ∃ j p : Nat, j ≤ m ∧ i = .int .i64 j ∧ Hid (evenAt zs ss k j) ∧ wr = w1.drewN p) (fun i _ => m - (intOf i).toNat)
              case atStart => exact ⟨0, q, Nat.zero_le _, rfl, Lib.hid (evenAt_zero _ _ _), rfl⟩
              case round =>
                obtain ⟨j, p, hj, rfl, HJ, rfl⟩ := hrel
                by_cases hjt : j < m
                · obtain ⟨t2, ht2⟩ : ∃ t, ss[j]? = some t := ⟨_, List.getElem?_eq_getElem (by rw [M.out]; exact hjt)⟩
                  obtain ⟨b3, o3, eD, hb3, c3⟩ := rd_cell S1.out ht2
                  injection eD with eD
                  injection eD with e3 e4
                  subst e3 e4
                  have HT := Lib.hid ht2
                  have c1 : (w1.drewN p).cell? ⟨b1, o1 + k, none⟩ = some (.int .i64 z) := HC1.out
                  have c2 : (w1.drewN p).cell? ⟨b2, o2 + k, none⟩ = some (.int .i64 u) := HC2.out
                  have c4 : (w1.drewN p).cell? ⟨b2, o2 + j, none⟩ = some (.int .i64 t2) := c3
                  have j0 : (0 : Int) ≤ (j : Int) := by omega
                  have j1 : (j : Int) < (m : Int) := by omega
                  have e5 : IntKind.i64.wrap (u + 1) = u + 1 := IntWalk.i64_in _ (by omega)
                  obtain ⟨W, hW⟩ : ∃ W, W = w1.drewN p := ⟨_, rfl⟩
                  rw [← hW] at c1 c2 c4 ⊢
                  have HW := Lib.hid hW
                  clear hW ht2 hb3 c3
                  by_cases hx : u < z
                  · have d1 : decide (u < z) = true := decide_eq_true hx
                    by_cases hc : u + 1 < t2
                    · have d2 : decide (u + 1 < t2) = true := decide_eq_true hc
                      have F2 := Lib.hid (evB_bad HZ.out HS.out HT.out hx hc)
                      clear hx hc
                      go_wp2_with fail
                      go_quiet (fail)
                      go_wp2_with fail
                      go_ret
                      exact ⟨ret_bool (by rw [F.out, F2.out]), by rw [HW.out, World.drewN_drewN]; exact below_drewN B1.out _⟩
                    · have d2 : decide (u + 1 < t2) = false := decide_eq_false hc
                      have K := Lib.hid (evenAt_succ HZ.out HS.out HT.out (fun _ => by omega) HJ.out)
                      clear hx hc
                      go_wp2_with fail
                      go_quiet (fail)
                      go_wp2_with fail
                      go_roundw
                      case rel => exact ⟨j + 1, p + nq, by omega, by go_num, K, by rw [HW.out, World.drewN_drewN]⟩
                      case measure => simp [intOf]; omega
                  · have d1 : decide (u < z) = false := decide_eq_false hx
                    have K := Lib.hid (evenAt_succ HZ.out HS.out HT.out (fun h => absurd h hx) HJ.out)
                    clear hx
                    go_wp2_with fail
                    go_quiet (fail)
                    go_wp2_with fail
                    go_roundw
                    case rel => exact ⟨j + 1, p + nq, by omega, by go_num, K, by rw [HW.out, World.drewN_drewN]⟩
                    case measure => simp [intOf]; omega
                · obtain rfl : j = m := by omega
                  have K := Lib.hid (even_succ HK.out (by rw [M.out]; exact HJ.out))
                  go_wp2_with fail
                  go_roundw
                  case rel => exact ⟨k + 1, p, by omega, by go_num, K, rfl⟩
                  case measure => simp [intOf]; omega
            · obtain rfl : k = m := by omega
              have F2 := Lib.hid (evB_yes (zs := zs) (ss := ss) (by rw [M.out]; exact HK.out))
              go_wp2_with fail
              go_ret
              exact ⟨ret_bool (by rw [F.out, F2.out]), below_drewN B1.out _⟩
        · have F := Lib.hid (FN.out hq)
          have d1 : (y == t) = false := by simpa using hq
          have d2 : (y != t) = true := by simpa using hq
          clear FY FN hq
          go_enter Try.func31, Try.ntmps31
          go_wp2_with fail
          refine (C1.out).mono ?_
          rintro e w' ⟨rfl, rfl⟩
          go_wp2_with fail
          refine (C0.out _).mono ?_
          rintro e w' ⟨rfl, rfl⟩
          go_wp2_with fail
          refine (C2.out).mono ?_
          rintro e w1 ⟨rfl, q, rfl⟩
          have R1 := Lib.hid (R.out.drewN q)
          have S1 := Lib.hid (S.out.drewN q)
          have B1 := Lib.hid (drew_below w q)
          generalize w.drewN q = w1 at *
          go_wp2_with fail
          refine (T2.out _ S1.out).mono ?_
          rintro e w' ⟨rfl, rfl⟩
          go_wp2_with fail
          refine (T1.out _ R1.out).mono ?_
          rintro e w' ⟨rfl, rfl⟩
          go_wp2_with fail
          refine (CM.out _).mono ?_
          rintro e w' ⟨rfl, rfl⟩
          go_wp2_with fail
          go_ret
          exact ⟨ret_bool F.out.symm, B1.out⟩
      · have hx2 : sh zs ss = false := by simpa using hx
        have C2 := Lib.hid (sharesS_of hx2 A D n m c d w.heap.size w N.out M.out hb hbm R.out S.out)
        have F := Lib.hid (fair_no (n := s) (zs := zs) (ss := ss) (fun c => hx c.2.2.1))
        clear hr hs hn hm hd hx hx2 h0
        go_enter Try.func31, Try.ntmps31
        go_wp2_with fail
        refine (C1.out).mono ?_
        rintro e w' ⟨rfl, rfl⟩
        go_wp2_with fail
        refine (C0.out _).mono ?_
        rintro e w' ⟨rfl, rfl⟩
        go_wp2_with fail
        refine (C2.out).mono ?_
        rintro e w1 ⟨rfl, q, rfl⟩
        go_wp2_with fail
        go_ret
        exact ⟨ret_bool F.out.symm, drew_below _ _⟩
    · have C0 := Lib.hid (fun v => l5Supply_of (iw_no (x := s) (a := 0) (b := 512) (by omega)) v)
      have F := Lib.hid (fair_no (n := s) (zs := zs) (ss := ss) (fun c => h0 c.1))
      clear hr hs hn hm h0 hd
      go_enter Try.func31, Try.ntmps31
      go_wp2_with fail
      refine (C1.out).mono ?_
      rintro e w' ⟨rfl, rfl⟩
      go_wp2_with fail
      refine (C0.out _).mono ?_
      rintro e w' ⟨rfl, rfl⟩
      go_wp2_with fail
      go_ret
      exact ⟨ret_bool F.out.symm, Below.refl _ _⟩
  · have hd2 : dm zs = false := by simpa using hd
    have C1 := Lib.hid (demS_of hd2 A n c w.heap.size w N.out hb R.out)
    have F := Lib.hid (fair_no (n := s) (zs := zs) (ss := ss) (fun c => hd c.2.1))
    clear hr hs hn hm hd hd2
    go_enter Try.func31, Try.ntmps31
    go_wp2_with fail
    refine (C1.out).mono ?_
    rintro e w' ⟨rfl, rfl⟩
    go_wp2_with fail
    go_ret
    exact ⟨ret_bool F.out.symm, Below.refl _ _⟩

end Go.Proofs.Ythlcmcpfpblmaaa.Wh5
