/- Whether shares are fair, and what is lacking, of the program and of the model. -/
import Derived.Test.YthlcmcpfpblmaaaWe5
namespace Go.Proofs.Ythlcmcpfpblmaaa.Wf5
open Go.RowKit Go.Proofs.Ythlcmcpfpblmaaa.Mem Go.Proofs.Ythlcmcpfpblmaaa.Dm Go.Proofs.Ythlcmcpfpblmaaa.Ws Go.Proofs.Ythlcmcpfpblmaaa.Wp Go.Proofs.Ythlcmcpfpblmaaa.Wq Go.Proofs.Ythlcmcpfpblmaaa.Wl Go.Proofs.Ythlcmcpfpblmaaa.Rw Go.Proofs.Ythlcmcpfpblmaaa.We5
set_option linter.unusedVariables false
set_option linter.unusedSimpArgs false

/-- A truth, and no old memory written. -/
def TellsN (b : Bool) (w : World) (e : Ending) (w' : World) : Prop := e = .returned (.bool b) ∧ Below w.heap.size w w'
theorem rdm {w w' : World} {A : Option Addr} {xs : List Value} (h : Rd w w.heap.size A xs) (k : Below w.heap.size w w') : Rd w' w'.heap.size A xs := (h.below k).more k.size

set_option maxHeartbeats 1000000 in
theorem lackI (A D : Option Addr) (n m c d : Nat) (zs ss : List Int) (w : World) (hn : zs.length = n) (hm : ss.length = m) (hb : n ≤ 1048576) (hbm : m ≤ 1048576) (hr : Rd w w.heap.size A (ints zs)) (hs : Rd w w.heap.size D (ints ss)) :
    Calls Try.prog 34 #[.slice A n c, .slice D m d] w (Num (lack zs ss) w) := by
  have R := Lib.hid hr
  have S := Lib.hid hs
  have N := Lib.hid hn
  have M := Lib.hid hm
  have hu : undef = Value.tuple #[] := rfl
  by_cases hd : dm zs = true
  · have C := Lib.hid (demI_of hd A n c w.heap.size w N.out hb R.out)
    by_cases hx : sh zs ss = true
    · have CX := Lib.hid (sharesI_of hx A D n m c d w.heap.size w N.out M.out hb hbm R.out S.out)
      have TB1 := Lib.hid (tot_small (dm_iff.1 hd).1 (dm_iff.1 hd).2)
      have TB2 := Lib.hid (tot_small (sh_ok hx hd).1 (sh_ok hx hd).2)
      have F := Lib.hid (lack_yes hd hx)
      have T1 := Lib.hid (fun (v : World) (h : Rd v v.heap.size A (ints zs)) => (by have := totI A n c zs v N.out hb h; rw [totB_yes hd] at this; exact this : Calls Try.prog _ _ v (Num (tot zs) v)))
      have T2 := Lib.hid (fun (v : World) (h : Rd v v.heap.size D (ints ss)) => (by have := totI D m d ss v M.out hbm h; rw [totB_yes (sh_dm hx hd)] at this; exact this : Calls Try.prog _ _ v (Num (tot ss) v)))
      obtain ⟨x, hx0⟩ : ∃ x, tot zs = x := ⟨_, rfl⟩
      obtain ⟨y, hy0⟩ : ∃ y, tot ss = y := ⟨_, rfl⟩
      rw [hx0] at T1 TB1
      rw [hy0] at T2 TB2
      rw [hx0, hy0] at F
      obtain ⟨p1, p2⟩ := TB1.out
      obtain ⟨p3, p4⟩ := TB2.out
      clear hr hs hn hm hd hx hx0 hy0
      go_enter Try.func34, Try.ntmps34
      go_wp2_with fail
      refine (C.out).mono ?_
      rintro e w' ⟨rfl, rfl⟩
      go_wp2_with fail
      refine (CX.out).mono ?_
      rintro e w' ⟨rfl, rfl⟩
      have B1 := Lib.hid (Below.refl w.heap.size w)
      go_wp2_with fail
      refine (T1.out _ (rdm R.out B1.out)).mono ?_
      rintro e w2 ⟨rfl, hb2⟩
      have B2 := Lib.hid (B1.out.trans (hb2.mono B1.out.size))
      clear hb2 B1
      go_wp2_with fail
      refine (T2.out _ (rdm S.out B2.out)).mono ?_
      rintro e w3 ⟨rfl, hb3⟩
      have B3 := Lib.hid (B2.out.trans (hb3.mono B2.out.size))
      clear hb3 B2
      go_wp2_with fail
      go_ret
      exact ⟨ret_int F.out.symm, B3.out⟩
    · have hx2 : sh zs ss = false := by simpa using hx
      have CX := Lib.hid (sharesI_of hx2 A D n m c d w.heap.size w N.out M.out hb hbm R.out S.out)
      have F := Lib.hid (lack_no (zs := zs) (ss := ss) (fun c => hx c.2))
      clear hr hs hn hm hd hx hx2
      go_enter Try.func34, Try.ntmps34
      go_wp2_with fail
      refine (C.out).mono ?_
      rintro e w' ⟨rfl, rfl⟩
      go_wp2_with fail
      refine (CX.out).mono ?_
      rintro e w' ⟨rfl, rfl⟩
      go_wp2_with fail
      go_ret
      exact ⟨ret_int F.out.symm, Below.refl _ _⟩
  · have hd2 : dm zs = false := by simpa using hd
    have C := Lib.hid (demI_of hd2 A n c w.heap.size w N.out hb R.out)
    have F := Lib.hid (lack_no (zs := zs) (ss := ss) (fun c => hd c.1))
    clear hr hs hn hm hd hd2
    go_enter Try.func34, Try.ntmps34
    go_wp2_with fail
    refine (C.out).mono ?_
    rintro e w' ⟨rfl, rfl⟩
    go_wp2_with fail
    go_ret
    exact ⟨ret_int F.out.symm, Below.refl _ _⟩

set_option maxHeartbeats 1000000 in
theorem lackS (A D : Option Addr) (n m c d : Nat) (zs ss : List Int) (w : World) (hn : zs.length = n) (hm : ss.length = m) (hb : n ≤ 1048576) (hbm : m ≤ 1048576) (hr : Rd w w.heap.size A (ints zs)) (hs : Rd w w.heap.size D (ints ss)) :
    Calls Try.prog 33 #[.slice A n c, .slice D m d] w (Num (lack zs ss) w) := by
  have R := Lib.hid hr
  have S := Lib.hid hs
  have N := Lib.hid hn
  have M := Lib.hid hm
  have hu : undef = Value.tuple #[] := rfl
  by_cases hd : dm zs = true
  · have C := Lib.hid (demS_of hd A n c w.heap.size w N.out hb R.out)
    by_cases hx : sh zs ss = true
    · have CX := Lib.hid (sharesS_of hx A D n m c d w.heap.size w N.out M.out hb hbm R.out S.out)
      have TB1 := Lib.hid (tot_small (dm_iff.1 hd).1 (dm_iff.1 hd).2)
      have TB2 := Lib.hid (tot_small (sh_ok hx hd).1 (sh_ok hx hd).2)
      have F := Lib.hid (lack_yes hd hx)
      have T1 := Lib.hid (fun (v : World) (h : Rd v v.heap.size A (ints zs)) => (by have := sumS A n c zs _ v N.out (dm_iff.1 hd).1 (dm_iff.1 hd).2 h; exact this.mono (fun e w1 k => ⟨k.1, k.2 ▸ Below.refl _ _⟩) : Calls Try.prog _ _ v (Num (tot zs) v)))
      have T2 := Lib.hid (fun (v : World) (h : Rd v v.heap.size D (ints ss)) => (by have := sumS D m d ss _ v M.out (sh_ok hx hd).1 (sh_ok hx hd).2 h; exact this.mono (fun e w1 k => ⟨k.1, k.2 ▸ Below.refl _ _⟩) : Calls Try.prog _ _ v (Num (tot ss) v)))
      obtain ⟨x, hx0⟩ : ∃ x, tot zs = x := ⟨_, rfl⟩
      obtain ⟨y, hy0⟩ : ∃ y, tot ss = y := ⟨_, rfl⟩
      rw [hx0] at T1 TB1
      rw [hy0] at T2 TB2
      rw [hx0, hy0] at F
      obtain ⟨p1, p2⟩ := TB1.out
      obtain ⟨p3, p4⟩ := TB2.out
      clear hr hs hn hm hd hx hx0 hy0
      go_enter Try.func33, Try.ntmps33
      go_wp2_with fail
      refine (C.out).mono ?_
      rintro e w' ⟨rfl, rfl⟩
      go_wp2_with fail
      refine (CX.out).mono ?_
      rintro e w1 ⟨rfl, q, rfl⟩
      have B1 := Lib.hid (below_drewN (Below.refl w.heap.size w) q)
      generalize w.drewN q = w1 at *
      go_wp2_with fail
      refine (T1.out _ (rdm R.out B1.out)).mono ?_
      rintro e w2 ⟨rfl, hb2⟩
      have B2 := Lib.hid (B1.out.trans (hb2.mono B1.out.size))
      clear hb2 B1
      go_wp2_with fail
      refine (T2.out _ (rdm S.out B2.out)).mono ?_
      rintro e w3 ⟨rfl, hb3⟩
      have B3 := Lib.hid (B2.out.trans (hb3.mono B2.out.size))
      clear hb3 B2
      go_wp2_with fail
      go_ret
      exact ⟨ret_int F.out.symm, B3.out⟩
    · have hx2 : sh zs ss = false := by simpa using hx
      have CX := Lib.hid (sharesS_of hx2 A D n m c d w.heap.size w N.out M.out hb hbm R.out S.out)
      have F := Lib.hid (lack_no (zs := zs) (ss := ss) (fun c => hx c.2))
      clear hr hs hn hm hd hx hx2
      go_enter Try.func33, Try.ntmps33
      go_wp2_with fail
      refine (C.out).mono ?_
      rintro e w' ⟨rfl, rfl⟩
      go_wp2_with fail
      refine (CX.out).mono ?_
      rintro e w1 ⟨rfl, q, rfl⟩
      go_wp2_with fail
      go_ret
      exact ⟨ret_int F.out.symm, below_drewN (Below.refl _ _) q⟩
  · have hd2 : dm zs = false := by simpa using hd
    have C := Lib.hid (demS_of hd2 A n c w.heap.size w N.out hb R.out)
    have F := Lib.hid (lack_no (zs := zs) (ss := ss) (fun c => hd c.1))
    clear hr hs hn hm hd hd2
    go_enter Try.func33, Try.ntmps33
    go_wp2_with fail
    refine (C.out).mono ?_
    rintro e w' ⟨rfl, rfl⟩
    go_wp2_with fail
    go_ret
    exact ⟨ret_int F.out.symm, Below.refl _ _⟩

set_option maxHeartbeats 2000000 in
theorem fairI (A D : Option Addr) (n m c d : Nat) (zs ss : List Int) (w : World) (hn : zs.length = n) (hm : ss.length = m) (hb : n ≤ 1048576) (hbm : m ≤ 1048576) (hr : Rd w w.heap.size A (ints zs)) (hs : Rd w w.heap.size D (ints ss)) (s : Int) :
    Calls Try.prog 32 #[.int .i64 s, .slice A n c, .slice D m d] w (TellsN (fair s zs ss) w) := by
  have R := Lib.hid hr
  have S := Lib.hid hs
  have N := Lib.hid hn
  have M := Lib.hid hm
  have hu : undef = Value.tuple #[] := rfl
  have hbl := alloc1
  clear hbl
  by_cases h0 : 0 ≤ s ∧ s ≤ 512
  · have C0 := Lib.hid (fun v => isSupply_of (iw_yes h0) v)
    by_cases hd : dm zs = true
    · have C1 := Lib.hid (demI_of hd A n c w.heap.size w N.out hb R.out)
      by_cases hx : sh zs ss = true
      · have C2 := Lib.hid (sharesI_of hx A D n m c d w.heap.size w N.out M.out hb hbm R.out S.out)
        have TB1 := Lib.hid (tot_small (dm_iff.1 hd).1 (dm_iff.1 hd).2)
        have TB2 := Lib.hid (tot_small (sh_ok hx hd).1 (sh_ok hx hd).2)
        have T1 := Lib.hid (fun (v : World) (h : Rd v v.heap.size A (ints zs)) => (by have := totI A n c zs v N.out hb h; rw [totB_yes hd] at this; exact this : Calls Try.prog _ _ v (Num (tot zs) v)))
        have T2 := Lib.hid (fun (v : World) (h : Rd v v.heap.size D (ints ss)) => (by have := totI D m d ss v M.out hbm h; rw [totB_yes (sh_dm hx hd)] at this; exact this : Calls Try.prog _ _ v (Num (tot ss) v)))
        have emn : m = n := by rw [← M.out, ← N.out]; exact (sh_iff.1 hx).1
        have hn8 : n ≤ 8 := by rw [← N.out]; exact (dm_iff.1 hd).1
        have FN := Lib.hid (fun (h : ¬ tot ss = min s (tot zs)) => fair_no (n := s) (zs := zs) (ss := ss) (fun c => h c.2.2.2.1))
        have FY := Lib.hid (fun (h : tot ss = min s (tot zs)) => fair_is h0 hd hx h)
        have OK := Lib.hid (sh_ok hx hd).2
        subst emn
        have CE := Lib.hid (fun (v : World) (h : Rd v v.heap.size A (ints zs)) (k : Rd v v.heap.size D (ints ss)) => evenI A D m c d zs ss v.heap.size v N.out M.out hn8 OK.out h k)
        obtain ⟨x, hx0⟩ : ∃ x, tot zs = x := ⟨_, rfl⟩
        obtain ⟨y, hy0⟩ : ∃ y, tot ss = y := ⟨_, rfl⟩
        rw [hx0] at T1 TB1 FN FY
        rw [hy0] at T2 TB2 FN FY
        obtain ⟨p1, p2⟩ := TB1.out
        obtain ⟨p3, p4⟩ := TB2.out
        rw [min_if] at FN FY
        clear hr hs hn hm hd hx hx0 hy0 h0
        obtain ⟨t, ht⟩ : ∃ t, (if x < s then x else s) = t := ⟨_, rfl⟩
        rw [ht] at FN FY
        by_cases hq : y = t
        · have F := Lib.hid (FY.out hq)
          have d1 : (y == t) = true := by rw [hq]; simp
          rw [← ht] at d1
          clear FY FN hq ht
          go_enter Try.func32, Try.ntmps32
          go_wp2_with fail
          refine (C0.out _).mono ?_
          rintro e w' ⟨rfl, rfl⟩
          go_wp2_with fail
          refine (C1.out).mono ?_
          rintro e w' ⟨rfl, rfl⟩
          go_wp2_with fail
          refine (C2.out).mono ?_
          rintro e w' ⟨rfl, rfl⟩
          go_wp2_with fail
          refine (T2.out _ S.out).mono ?_
          rintro e w2 ⟨rfl, hb2⟩
          have B2 := Lib.hid hb2
          clear hb2
          go_wp2_with fail
          refine (T1.out _ (rdm R.out B2.out)).mono ?_
          rintro e w3 ⟨rfl, hb3⟩
          have B3 := Lib.hid (B2.out.trans (hb3.mono B2.out.size))
          clear hb3 B2
          go_wp2_with fail
          all_goals
            refine (CE.out _ (rdm R.out B3.out) (rdm S.out B3.out)).mono ?_
            rintro e w4 ⟨rfl, q, rfl⟩
            go_wp2_with fail
            go_ret
            exact ⟨ret_bool F.out.symm, below_drewN B3.out q⟩
        · have F := Lib.hid (FN.out hq)
          have d1 : (y == t) = false := by simpa using hq
          rw [← ht] at d1
          clear FY FN hq ht
          go_enter Try.func32, Try.ntmps32
          go_wp2_with fail
          refine (C0.out _).mono ?_
          rintro e w' ⟨rfl, rfl⟩
          go_wp2_with fail
          refine (C1.out).mono ?_
          rintro e w' ⟨rfl, rfl⟩
          go_wp2_with fail
          refine (C2.out).mono ?_
          rintro e w' ⟨rfl, rfl⟩
          go_wp2_with fail
          refine (T2.out _ S.out).mono ?_
          rintro e w2 ⟨rfl, hb2⟩
          have B2 := Lib.hid hb2
          clear hb2
          go_wp2_with fail
          refine (T1.out _ (rdm R.out B2.out)).mono ?_
          rintro e w3 ⟨rfl, hb3⟩
          have B3 := Lib.hid (B2.out.trans (hb3.mono B2.out.size))
          clear hb3 B2
          go_wp2_with fail
          all_goals
            go_ret
            exact ⟨ret_bool F.out.symm, B3.out⟩
      · have hx2 : sh zs ss = false := by simpa using hx
        have C2 := Lib.hid (sharesI_of hx2 A D n m c d w.heap.size w N.out M.out hb hbm R.out S.out)
        have F := Lib.hid (fair_no (n := s) (zs := zs) (ss := ss) (fun c => hx c.2.2.1))
        clear hr hs hn hm hd hx hx2 h0
        go_enter Try.func32, Try.ntmps32
        go_wp2_with fail
        refine (C0.out _).mono ?_
        rintro e w' ⟨rfl, rfl⟩
        go_wp2_with fail
        refine (C1.out).mono ?_
        rintro e w' ⟨rfl, rfl⟩
        go_wp2_with fail
        refine (C2.out).mono ?_
        rintro e w' ⟨rfl, rfl⟩
        go_wp2_with fail
        go_ret
        exact ⟨ret_bool F.out.symm, Below.refl _ _⟩
    · have hd2 : dm zs = false := by simpa using hd
      have C1 := Lib.hid (demI_of hd2 A n c w.heap.size w N.out hb R.out)
      have F := Lib.hid (fair_no (n := s) (zs := zs) (ss := ss) (fun c => hd c.2.1))
      clear hr hs hn hm hd hd2 h0
      go_enter Try.func32, Try.ntmps32
      go_wp2_with fail
      refine (C0.out _).mono ?_
      rintro e w' ⟨rfl, rfl⟩
      go_wp2_with fail
      refine (C1.out).mono ?_
      rintro e w' ⟨rfl, rfl⟩
      go_wp2_with fail
      go_ret
      exact ⟨ret_bool F.out.symm, Below.refl _ _⟩
  · have C0 := Lib.hid (fun v => isSupply_of (iw_no (x := s) (a := 0) (b := 512) (by omega)) v)
    have F := Lib.hid (fair_no (n := s) (zs := zs) (ss := ss) (fun c => h0 c.1))
    clear hr hs hn hm h0
    go_enter Try.func32, Try.ntmps32
    go_wp2_with fail
    refine (C0.out _).mono ?_
    rintro e w' ⟨rfl, rfl⟩
    go_wp2_with fail
    go_ret
    exact ⟨ret_bool F.out.symm, Below.refl _ _⟩

end Go.Proofs.Ythlcmcpfpblmaaa.Wf5
