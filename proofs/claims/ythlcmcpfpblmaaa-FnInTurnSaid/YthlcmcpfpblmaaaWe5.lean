/- Shares of demands, and whether they are fair, of the program and of the model. -/
import Derived.Test.YthlcmcpfpblmaaaWu
import Derived.Test.YthlcmcpfpblmaaaWv
namespace Go.Proofs.Ythlcmcpfpblmaaa.We5
open Go.RowKit Go.Proofs.Ythlcmcpfpblmaaa.Mem Go.Proofs.Ythlcmcpfpblmaaa.Dm Go.Proofs.Ythlcmcpfpblmaaa.Ws Go.Proofs.Ythlcmcpfpblmaaa.Wp Go.Proofs.Ythlcmcpfpblmaaa.Wq Go.Proofs.Ythlcmcpfpblmaaa.Wl Go.Proofs.Ythlcmcpfpblmaaa.Rw
set_option linter.unusedVariables false
set_option linter.unusedSimpArgs false

set_option maxHeartbeats 1000000 in
theorem sharesI (A D : Option Addr) (n m c d : Nat) (zs ss : List Int) (B : Nat) (w : World) (hn : zs.length = n) (hm : ss.length = m) (hb : n ≤ 1048576) (hbm : m ≤ 1048576) (hr : Rd w B A (ints zs)) (hs : Rd w B D (ints ss)) :
    Calls Try.prog 51 #[.slice A n c, .slice D m d] w fun e w' => e = .returned (.bool (sh zs ss)) ∧ w = w' := by
  have R := Lib.hid hr
  have S := Lib.hid hs
  have N := Lib.hid hn
  have M := Lib.hid hm
  by_cases hl : m = n
  · subst hl
    clear hr hs hn hm
    have d0 : ((m : Int) != (m : Int)) = false := by simp
    go_enter Try.func51, Try.ntmps51
    go_wp2_with fail
    go_loop [14] (fun i => ∃ k : Nat, k ≤ m ∧ i = .int .i64 k ∧ Hid (okS zs ss k)) (fun i => m - (intOf i).toNat)
    case atStart => exact ⟨0, Nat.zero_le _, rfl, Lib.hid (okS_zero _ _)⟩
    case round =>
      obtain ⟨k, hk, rfl, HK⟩ := hrel
      by_cases hlt : k < m
      · obtain ⟨z, hz⟩ : ∃ z, zs[k]? = some z := ⟨_, List.getElem?_eq_getElem (by rw [N.out]; exact hlt)⟩
        obtain ⟨b1, o1, eA, hb1, c1⟩ := rd_cell R.out hz
        obtain ⟨s, hs⟩ : ∃ s, ss[k]? = some s := ⟨_, List.getElem?_eq_getElem (by rw [M.out]; exact hlt)⟩
        obtain ⟨b2, o2, eD, hb2, c2⟩ := rd_cell S.out hs
        have HZ := Lib.hid hz
        have HS := Lib.hid hs
        clear hz hs hb1 hb2
        subst eA eD
        by_cases hx : 0 ≤ s ∧ s ≤ z
        · have C := Lib.hid (fun v => isWithin_of (iw_yes hx) v)
          have K := Lib.hid (okS_succ HZ.out HS.out hx HK.out)
          clear hx
          go_wp2_with fail
          refine (C.out _).mono ?_
          rintro e w' ⟨rfl, rfl⟩
          go_wp2_with fail
          go_round
          case rel => exact ⟨k + 1, by omega, by go_num, K⟩
          case measure => simp [intOf]; omega
        · have C := Lib.hid (fun v => isWithin_of (iw_no (x := s) (a := 0) (b := z) (by omega)) v)
          have F := Lib.hid (sh_bad HZ.out HS.out (by omega))
          clear hx
          go_wp2_with fail
          refine (C.out _).mono ?_
          rintro e w' ⟨rfl, rfl⟩
          go_wp2_with fail
          go_ret
          exact ⟨ret_bool F.out.symm, rfl⟩
      · obtain rfl : k = m := by omega
        have F := Lib.hid (sh_yes (zs := zs) (ss := ss) (by rw [M.out, N.out]) (by rw [N.out]; exact HK.out))
        go_wp2_with fail
        go_ret
        exact ⟨ret_bool F.out.symm, rfl⟩
  · have F := Lib.hid (sh_len (zs := zs) (ss := ss) (by rw [M.out, N.out]; exact hl))
    have d0 : ((m : Int) != (n : Int)) = true := by simp; omega
    have d1 : ((m : Int) == (n : Int)) = false := by simp; omega
    clear hr hs hn hm
    go_enter Try.func51, Try.ntmps51
    go_wp2_with fail
    go_ret
    exact ⟨ret_bool F.out.symm, rfl⟩

/-- A truth, and only draws were made. -/
def TellsB (b : Bool) (w : World) (e : Ending) (w' : World) : Prop := e = .returned (.bool b) ∧ ∃ m, w' = w.drewN m

set_option maxHeartbeats 1000000 in
theorem sharesS (A D : Option Addr) (n m c d : Nat) (zs ss : List Int) (B : Nat) (w : World) (hn : zs.length = n) (hm : ss.length = m) (hb : n ≤ 1048576) (hbm : m ≤ 1048576) (hr : Rd w B A (ints zs)) (hs : Rd w B D (ints ss)) :
    Calls Try.prog 50 #[.slice A n c, .slice D m d] w (TellsB (sh zs ss) w) := by
  have R := Lib.hid hr
  have S := Lib.hid hs
  have N := Lib.hid hn
  have M := Lib.hid hm
  have hu : undef = Value.tuple #[] := rfl
  by_cases hl : m = n
  · subst hl
    clear hr hs hn hm
    have d0 : ((m : Int) != (m : Int)) = false := by simp
    have d1 : ((m : Int) == (m : Int)) = true := by simp
    go_enter Try.func50, Try.ntmps50
    go_wp2_with fail
    go_loopw [8] (fun i wr => ∃ k q : Nat, k ≤ m ∧ i = .int .i64 k ∧ Hid (okS zs ss k) ∧ wr = w.drewN q) (fun i _ => m - (intOf i).toNat)
    case atStart => exact ⟨0, 0, Nat.zero_le _, rfl, Lib.hid (okS_zero _ _), rfl⟩
    case round =>
      obtain ⟨k, q, hk, rfl, HK, rfl⟩ := hrel
      by_cases hlt : k < m
      · obtain ⟨z, hz⟩ : ∃ z, zs[k]? = some z := ⟨_, List.getElem?_eq_getElem (by rw [N.out]; exact hlt)⟩
        obtain ⟨b1, o1, eA, hb1, c1⟩ := rd_cell R.out hz
        obtain ⟨s, hs⟩ : ∃ s, ss[k]? = some s := ⟨_, List.getElem?_eq_getElem (by rw [M.out]; exact hlt)⟩
        obtain ⟨b2, o2, eD, hb2, c2⟩ := rd_cell S.out hs
        have HZ := Lib.hid hz
        have HS := Lib.hid hs
        clear hz hs hb1 hb2
        subst eA eD
        have k0 : (0 : Int) ≤ (k : Int) := by omega
        have k1 : (k : Int) < (m : Int) := by omega
        have e1 : (w.drewN q).cell? ⟨b1, o1 + k, none⟩ = some (.int .i64 z) := c1
        have e2 : (w.drewN q).cell? ⟨b2, o2 + k, none⟩ = some (.int .i64 s) := c2
        clear c1 c2
        obtain ⟨W, hW⟩ : ∃ W, W = w.drewN q := ⟨_, rfl⟩
        rw [← hW] at e1 e2 ⊢
        have HW := Lib.hid hW
        clear hW
        by_cases hx : 0 ≤ s ∧ s ≤ z
        · have C := Lib.hid (fun v => l1In_of (iw_yes hx) v)
          have K := Lib.hid (okS_succ HZ.out HS.out hx HK.out)
          clear hx
          go_wp2_with fail
          go_quiet ((go_at_call 41; exact Calls.quiet_of_same ((C.out _).mono fun _ _ k => ⟨k.1, k.2.symm⟩)))
          go_wp2_with fail
          go_roundw
          case rel => exact ⟨k + 1, q + nq, by omega, by go_num, K, by rw [HW.out, World.drewN_drewN]⟩
          case measure => simp [intOf]; omega
        · have C := Lib.hid (fun v => l1In_of (iw_no (x := s) (a := 0) (b := z) (by omega)) v)
          have F := Lib.hid (sh_bad HZ.out HS.out (by omega))
          clear hx
          go_wp2_with fail
          go_quiet ((go_at_call 41; exact Calls.quiet_of_same ((C.out _).mono fun _ _ k => ⟨k.1, k.2.symm⟩)))
          go_wp2_with fail
          go_ret
          exact ⟨ret_bool F.out.symm, q + nq, by rw [HW.out, World.drewN_drewN]⟩
      · obtain rfl : k = m := by omega
        have F := Lib.hid (sh_yes (zs := zs) (ss := ss) (by rw [M.out, N.out]) (by rw [N.out]; exact HK.out))
        go_wp2_with fail
        go_ret
        exact ⟨ret_bool F.out.symm, q, rfl⟩
  · have F := Lib.hid (sh_len (zs := zs) (ss := ss) (by rw [M.out, N.out]; exact hl))
    have d0 : ((m : Int) != (n : Int)) = true := by simp; omega
    have d1 : ((m : Int) == (n : Int)) = false := by simp; omega
    clear hr hs hn hm
    by_cases h0 : 0 < n
    · go_enter Try.func50, Try.ntmps50
      go_wp2_with fail
      refine wp_loop_rounds 1 ?_
      rw [rounds_succ]
      go_wp2_with fail
      go_quiet (fail)
      go_wp2_with fail
      go_ret
      exact ⟨ret_bool F.out.symm, _, rfl⟩
    · obtain rfl : n = 0 := by omega
      have d2 : ((m : Int) == 0) = false := by simp; omega
      go_enter Try.func50, Try.ntmps50
      go_wp2_with fail
      refine wp_loop_rounds 1 ?_
      rw [rounds_succ]
      go_wp2_with fail
      go_ret
      exact ⟨ret_bool F.out.symm, 0, rfl⟩

set_option maxHeartbeats 1000000 in
/-- The greatest of a list that is not empty. -/
theorem maxI (D : Option Addr) (m d : Nat) (ss : List Int) (B : Nat) (w : World) (hm : ss.length = m) (hb : m ≤ 1048576) (h1 : 0 < m) (hs : Rd w B D (ints ss)) :
    Calls Try.prog 63 #[.slice D m d] w fun e w' => (e = .returned (.int .i64 (mx ss)) ∧ Top ss m (mx ss)) ∧ w = w' := by
  have S := Lib.hid hs
  have M := Lib.hid hm
  obtain ⟨s, hs0⟩ : ∃ s, ss[0]? = some s := ⟨_, List.getElem?_eq_getElem (by omega)⟩
  obtain ⟨b1, o1, eD, hb1, c0⟩ := rd_cell hs hs0
  have T1 := Lib.hid (top_one hs0)
  have c1 : w.cell? ⟨b1, o1, none⟩ = some (.int .i64 s) := c0
  have d0 : decide ((m : Int) < 1) = false := decide_eq_false (by omega)
  clear hs hm hb1 hs0 c0
  subst eD
  go_enter Try.func63, Try.ntmps63
  go_wp2_with fail
  clear c1
  go_loop [3, 4] (fun v i => ∃ k : Nat, 1 ≤ k ∧ k ≤ m ∧ i = .int .i64 k ∧ ∃ x : Int, v = .int .i64 x ∧ Hid (Top ss k x)) (fun _ i => m - (intOf i).toNat)
  case atStart => exact ⟨1, Nat.le_refl _, by omega, rfl, s, rfl, T1⟩
  case round =>
    obtain ⟨k, hk1, hk, rfl, x, rfl, HT⟩ := hrel
    by_cases hlt : k < m
    · obtain ⟨y, hy⟩ : ∃ y, ss[k]? = some y := ⟨_, List.getElem?_eq_getElem (by rw [M.out]; exact hlt)⟩
      obtain ⟨b2, o2, eD, hb2, c2⟩ := rd_cell S.out hy
      have K := Lib.hid (top_succ hy HT.out)
      injection eD with eD
      injection eD with e3 e4
      subst e3 e4
      clear hy hb2
      rw [max_if] at K
      go_wp2_with fail
      go_round
      case rel => exact ⟨k + 1, by omega, by omega, by go_num, _, rfl, K⟩
      case measure => simp [intOf]; omega
    · obtain rfl : k = m := by omega
      go_wp2_with fail
      go_ret
      have F := mx_is (ss := ss) (x := x) (by rw [M.out]; exact HT.out)
      exact ⟨⟨ret_int F.symm, by rw [F]; exact HT.out⟩, rfl⟩

theorem sharesI_of {zs ss : List Int} {r : Bool} (e : sh zs ss = r) (A D : Option Addr) (n m c d B : Nat) (w : World) (hn : zs.length = n) (hm : ss.length = m) (hb : n ≤ 1048576) (hbm : m ≤ 1048576) (hr : Rd w B A (ints zs)) (hs : Rd w B D (ints ss)) :
    Calls Try.prog 51 #[.slice A n c, .slice D m d] w fun e w' => e = .returned (.bool r) ∧ w = w' := e ▸ sharesI A D n m c d zs ss B w hn hm hb hbm hr hs
theorem sharesS_of {zs ss : List Int} {r : Bool} (e : sh zs ss = r) (A D : Option Addr) (n m c d B : Nat) (w : World) (hn : zs.length = n) (hm : ss.length = m) (hb : n ≤ 1048576) (hbm : m ≤ 1048576) (hr : Rd w B A (ints zs)) (hs : Rd w B D (ints ss)) :
    Calls Try.prog 50 #[.slice A n c, .slice D m d] w (TellsB r w) := e ▸ sharesS A D n m c d zs ss B w hn hm hb hbm hr hs

set_option maxHeartbeats 1000000 in
/-- Whether no share is far below another one; as many shares as demands. -/
theorem evenI (A D : Option Addr) (n c d : Nat) (zs ss : List Int) (B : Nat) (w : World) (hn : zs.length = n) (hm : ss.length = n) (hb : n ≤ 8) (hd : okD ss) (hr : Rd w B A (ints zs)) (hs : Rd w B D (ints ss)) :
    Calls Try.prog 52 #[.slice A n c, .slice D n d] w (TellsB (evB zs ss) w) := by
  have R := Lib.hid hr
  have S := Lib.hid hs
  have N := Lib.hid hn
  have M := Lib.hid hm
  have HD := Lib.hid hd
  have hu : undef = Value.tuple #[] := rfl
  clear hr hs hn hm hd
  go_enter Try.func52, Try.ntmps52
  go_wp2_with fail
  go_loopw [9] (fun i wr => ∃ k q : Nat, k ≤ n ∧ i = .int .i64 k ∧ Hid (evenTo zs ss k) ∧ wr = w.drewN q) (fun i _ => n - (intOf i).toNat)
  case atStart => exact ⟨0, 0, Nat.zero_le _, rfl, Lib.hid (even_zero _ _), rfl⟩
  case round =>
    obtain ⟨k, q, hk, rfl, HK, rfl⟩ := hrel
    by_cases hlt : k < n
    · obtain ⟨z, hz⟩ : ∃ z, zs[k]? = some z := ⟨_, List.getElem?_eq_getElem (by rw [N.out]; exact hlt)⟩
      obtain ⟨b1, o1, eA, hb1, c1⟩ := rd_cell R.out hz
      obtain ⟨s, hs⟩ : ∃ s, ss[k]? = some s := ⟨_, List.getElem?_eq_getElem (by rw [M.out]; exact hlt)⟩
      obtain ⟨b2, o2, eD, hb2, c2⟩ := rd_cell S.out hs
      have HZ := Lib.hid hz
      have HS := Lib.hid hs
      clear hz hs hb1 hb2
      subst eA eD
      obtain ⟨s1, s2⟩ := HD.out s (List.mem_of_getElem? HS.out)
      have k0 : (0 : Int) ≤ (k : Int) := by omega
      have k1 : (k : Int) < (n : Int) := by omega
      have e1 : (w.drewN q).cell? ⟨b1, o1 + k, none⟩ = some (.int .i64 z) := c1
      have e2 : (w.drewN q).cell? ⟨b2, o2 + k, none⟩ = some (.int .i64 s) := c2
      have SD := Lib.hid (S.out.drewN q)
      clear c1 c2 S R
      obtain ⟨W, hW⟩ : ∃ W, W = w.drewN q := ⟨_, rfl⟩
      rw [← hW] at e1 e2 SD ⊢
      have HW := Lib.hid hW
      clear hW
      by_cases hx : s < z
      · have d1 : decide (s < z) = true := decide_eq_true hx
        have MX := fun q => maxI (some ⟨b2, o2, none⟩) n d ss B (W.drewN q) M.out (by omega) (by omega) (SD.out.drewN q)
        obtain ⟨_, _, ⟨_, TX⟩, _⟩ : ∃ (e : Ending) (w' : World), (e = .returned (.int .i64 (mx ss)) ∧ Top ss n (mx ss)) ∧ True := by
          have T := mx_top (ss := ss) (by have := M.out; omega)
          rw [M.out] at T
          exact ⟨_, W, ⟨rfl, T⟩, trivial⟩
        have CX := Lib.hid (fun q => (MX q).mono fun e w' k => (⟨k.1.1, k.2.symm⟩ : e = .returned (.int .i64 (mx ss)) ∧ w' = W.drewN q))
        have HX := Lib.hid hx
        have e3 : IntKind.i64.wrap (s + 1) = s + 1 := IntWalk.i64_in _ (by omega)
        have TT := Lib.hid TX
        generalize mx ss = x at CX TT
        clear MX TX hx
        by_cases hc : s + 1 < x
        · have d2 : decide (s + 1 < x) = true := decide_eq_true hc
          obtain ⟨⟨j, hj, ej⟩, _⟩ := TT.out
          have F := Lib.hid (evB_bad HZ.out HS.out ej HX.out hc)
          clear hc hj ej
          go_wp2_with fail
          go_quiet ((go_at_call 63; exact Calls.quiet_of_same (CX.out _)))
          go_wp2_with fail
          go_ret
          exact ⟨ret_bool F.out.symm, q + nq, by rw [HW.out, World.drewN_drewN]⟩
        · have d2 : decide (s + 1 < x) = false := decide_eq_false hc
          have K := Lib.hid (even_succ HK.out (evenAt_top HZ.out HS.out (by rw [M.out]; exact TT.out) (by omega)))
          clear hc
          go_wp2_with fail
          go_quiet ((go_at_call 63; exact Calls.quiet_of_same (CX.out _)))
          go_wp2_with fail
          go_roundw
          case rel => exact ⟨k + 1, q + nq, by omega, by go_num, K, by rw [HW.out, World.drewN_drewN]⟩
          case measure => simp [intOf]; omega
      · have d1 : decide (s < z) = false := decide_eq_false hx
        have K := Lib.hid (even_succ HK.out (evenAt_full HZ.out HS.out hx _))
        clear hx
        go_wp2_with fail
        go_quiet (fail)
        go_wp2_with fail
        go_roundw
        case rel => exact ⟨k + 1, q + nq, by omega, by go_num, K, by rw [HW.out, World.drewN_drewN]⟩
        case measure => simp [intOf]; omega
    · obtain rfl : k = n := by omega
      have F := Lib.hid (evB_yes (zs := zs) (ss := ss) (by rw [M.out]; exact HK.out))
      go_wp2_with fail
      go_ret
      exact ⟨ret_bool F.out.symm, q, rfl⟩

end Go.Proofs.Ythlcmcpfpblmaaa.We5
