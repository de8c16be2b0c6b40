/- The track of runs, of the program and of the model. -/
import Derived.Test.YtmbiomekbinplaaFx8
import Derived.Test.YtmbiomekbinplaaRn8
import Derived.Test.YtmbiomekbinplaaRo8
import Derived.Test.YtmbiomekbinplaaRp8
import Derived.Laws.StructEq
namespace Go.Proofs.Ytmbiomekbinplaa.Ru8
open Go.RowKit Go.Proofs.Ytmbiomekbinplaa.Mem Go.Proofs.Ytmbiomekbinplaa.Tk Go.Proofs.Ytmbiomekbinplaa.Ti8 Go.Proofs.Ytmbiomekbinplaa.Rw Go.Proofs.Ytmbiomekbinplaa.Meas Go.Proofs.Ytmbiomekbinplaa.Fw8
set_option linter.unusedVariables false
set_option linter.unusedSimpArgs false

open Go.Proofs.Ytmbiomekbinplaa.Fx8 Go.Proofs.Ytmbiomekbinplaa.Rn8 Go.Proofs.Ytmbiomekbinplaa.Ro8 Go.ChangeShapes Go.WideShapes Go.WideElems
theorem neqR (a b x y : Int) (w : World) : (binOp .neq 35 (.agg #[.int .i64 a, .int .i64 b]) (.agg #[.int .i64 x, .int .i64 y])).run Try.prog w = .ok (.bool (!((a == x) && (b == y)))) w := by
  rw [run_neq_struct]
  have e : (Op.equalIn 10000 35 (.agg #[.int .i64 a, .int .i64 b]) (.agg #[.int .i64 x, .int .i64 y])).run Try.prog w = .ok ((a == x) && (b == y)) w := by
    go_simp
    by_cases h : a = x <;> by_cases h2 : b = y <;> simp [h, h2]
  rw [e]; rfl
theorem take_ext {rs xs : List (Int × Int)} {k : Nat} {a b : Int × Int} (ha : rs[k]? = some a) (hb : xs[k]? = some b) (h : rs.take k = xs.take k) : rs.take (k + 1) = xs.take (k + 1) ↔ a = b := by
  obtain ⟨h1, rfl⟩ := List.getElem?_eq_some_iff.1 ha
  obtain ⟨h2, rfl⟩ := List.getElem?_eq_some_iff.1 hb
  rw [List.take_succ_eq_append_getElem h1, List.take_succ_eq_append_getElem h2, h]
  constructor
  · intro e; have := List.append_cancel_left e; simpa using this
  · intro e; rw [e]

set_option maxHeartbeats 1000000 in
theorem equalR (A B : Option Addr) (n c m d : Nat) (rs xs : List (Int × Int)) (w : World) (hn : rs.length = n) (hm : xs.length = m) (hb : n ≤ 1048576) (hb2 : m ≤ 1048576) (hr : Rd w w.heap.size A (rls rs)) (hx : Rd w w.heap.size B (rls xs)) :
    Calls Try.prog 38 #[.slice A n c, .slice B m d] w fun e w' => e = .returned (.bool (decide (rs = xs))) ∧ Below w.heap.size w w' := by
  have N := Lib.hid hn
  have M := Lib.hid hm
  have R := Lib.hid hr
  have X := Lib.hid hx
  by_cases hnm : n = m
  case neg =>
    have F := Lib.hid (show decide (rs = xs) = false from decide_eq_false (fun e => hnm (by rw [← hn, ← hm, e])))
    clear hn hm hr hx
    go_enter Try.func38, Try.ntmps38
    go_wp2_with fail
    go_ret
    exact ⟨ret_bool F.out.symm, Below.refl _ _⟩
  subst hnm
  clear hn hm hr hx
  go_enter Try.func38, Try.ntmps38
  go_wp2_with fail
  go_loopw [13] (fun i wr => ∃ k m : Nat, k ≤ n ∧ i = .int .i64 k ∧ Hid (rs.take k = xs.take k) ∧ wr = w.drewN m) (fun i _ => n - (intOf i).toNat)
  case atStart => exact ⟨0, 0, Nat.zero_le _, rfl, Lib.hid rfl, rfl⟩
  case round =>
    obtain ⟨k, m, hk, rfl, HT, rfl⟩ := hrel
    by_cases hlt : k < n
    · obtain ⟨⟨a, b⟩, ha⟩ : ∃ z, rs[k]? = some z := ⟨_, List.getElem?_eq_getElem (by rw [N.out]; exact hlt)⟩
      obtain ⟨⟨x, y⟩, hx⟩ : ∃ z, xs[k]? = some z := ⟨_, List.getElem?_eq_getElem (by rw [M.out]; exact hlt)⟩
      obtain ⟨z0, z1⟩ := rls_get ha
      obtain ⟨y0, y1⟩ := rls_get hx
      obtain ⟨b1, o1, eA, _, g1⟩ := R.out.get (k := k * 2) (by rw [rls_len, N.out]; omega)
      obtain ⟨b2, o2, eB, _, g2⟩ := X.out.get (k := k * 2) (by rw [rls_len, M.out]; omega)
      obtain ⟨W, hW⟩ : ∃ W, W = w.drewN m := ⟨_, rfl⟩
      rw [← hW]
      have c1 : W.cell? ⟨b1, o1 + k * 2, none⟩ = some (.int .i64 a) := by rw [hW]; exact g1 _ _ z0
      have c2 : W.cell? ⟨b1, o1 + k * 2 + 1, none⟩ = some (.int .i64 b) := by rw [hW]; exact g1 _ _ z1
      have c3 : W.cell? ⟨b2, o2 + k * 2, none⟩ = some (.int .i64 x) := by rw [hW]; exact g2 _ _ y0
      have c4 : W.cell? ⟨b2, o2 + k * 2 + 1, none⟩ = some (.int .i64 y) := by rw [hW]; exact g2 _ _ y1
      have HW := Lib.hid hW
      have HX := Lib.hid (take_ext ha hx HT.out)
      have NQ := neqR a b x y
      obtain ⟨r, hr⟩ : ∃ r, ((a == x) && (b == y)) = r := ⟨_, rfl⟩
      rw [hr] at NQ
      have HR := Lib.hid (show r = true ↔ rs.take (k + 1) = xs.take (k + 1) by rw [HX.out, ← hr, Bool.and_eq_true]; simp)
      have hlt' : (k : Int) < (n : Int) := by omega
      have hk0 : (0 : Int) ≤ (k : Int) := by omega
      clear g1 g2 z0 z1 y0 y1 ha hx hW hr HX
      subst eA eB
      cases r
      · have F := Lib.hid (show decide (rs = xs) = false from decide_eq_false (fun e => by have := HR.out.2 (by rw [e]); cases this))
        have NQ2 : ∀ w, (binOp .neq 35 (.agg #[.int .i64 a, .int .i64 b]) (.agg #[.int .i64 x, .int .i64 y])).run Try.prog w = .ok (.bool true) w := NQ
        clear NQ
        go_wp2_with fail
        go_quiet (fail)
        go_wp2_with fail
        go_ret
        refine ⟨ret_bool F.out.symm, ?_⟩
        rw [HW.out]
        exact below_drewN (below_drewN (Below.refl _ _) _) _
      · have NQ2 : ∀ w, (binOp .neq 35 (.agg #[.int .i64 a, .int .i64 b]) (.agg #[.int .i64 x, .int .i64 y])).run Try.prog w = .ok (.bool false) w := NQ
        clear NQ
        go_wp2_with fail
        go_quiet (fail)
        go_wp2_with fail
        go_roundw
        case rel => exact ⟨k + 1, m + nq, by omega, by go_num, Lib.hid (HR.out.1 (by first | rfl | trivial)), by rw [HW.out, World.drewN_drewN]⟩
        case measure => simp [intOf]; omega
    · obtain rfl : k = n := by omega
      have F := Lib.hid (show decide (rs = xs) = true from decide_eq_true (by have h9 := HT.out; rwa [← N.out, List.take_length, N.out, ← M.out, List.take_length] at h9))
      go_wp2_with fail
      go_ret
      exact ⟨ret_bool F.out.symm, below_drewN (Below.refl _ _) m⟩
theorem rk_bad {rs : List (Int × Int)} {k : Nat} {r : Int × Int} (h : rs[k]? = some r) (hb : r.2 < 1) : rkG rs = false := rkG_no (fun c => by have := (c.1 k r h).1; omega)
theorem rk_side {rs : List (Int × Int)} {k : Nat} {r q : Int × Int} (h : rs[k]? = some r) (h0 : 0 < k) (hq : rs[k - 1]? = some q) (e : q.1 = r.1) : rkG rs = false := rkG_no (fun c => (c.1 k r h).2 q h0 hq e)
theorem rk_long {rs : List (Int × Int)} {k : Nat} {r : Int × Int} (h : rs[k]? = some r) (hb : 64 < (ex (rs.take k)).length + r.2.toNat) : rkG rs = false :=
  rk_prefix (k + 1) (tk_long (by rw [ex_take h, List.length_append, List.length_replicate]; exact hb))

set_option maxHeartbeats 2000000 in
theorem ofRunsI (A : Option Addr) (n c : Nat) (rs : List (Int × Int)) (w : World) (hn : rs.length = n) (hb : n ≤ 1048576) (hr : Rd w w.heap.size A (rls rs)) :
    Calls Try.prog 14 #[.slice A n c] w (RowP w (rkL rs) (rkG rs)) := by
  obtain ⟨i0, hi, hz0, hz1, hz2⟩ := info_of infoI
  have N := Lib.hid hn
  have R := Lib.hid hr
  have O1 := Lib.hid (World.ownsRow_lit (base := w.heap.size) (e := 3) (size := 1) w #[] 0 (Nat.le_refl _) (Nat.zero_le _) rfl)
  have B1 := Lib.hid (show Below w.heap.size w (w.alloc (.cells #[] 3)) from (Below.refl _ _).alloc (Nat.le_refl _) _)
  clear hn hr
  go_enter Try.func14, Try.ntmps14
  go_wp2_with fail
  go_loopw [4, 10] (fun v i wr => ∃ k : Nat, k ≤ n ∧ (ex (rs.take k)).length ≤ 64 ∧ i = .int .i64 k ∧ (∃ gb gc, v = .slice (some ⟨gb, 0, none⟩) (ex (rs.take k)).length gc) ∧ Hid (wr.ownsRow w.heap.size 3 1 v (ex (rs.take k)).length (ints (ex (rs.take k)))) ∧ Hid (Below w.heap.size w wr)) (fun _ i _ => n - (intOf i).toNat)
  case atStart => exact ⟨0, Nat.zero_le _, by simp [ex], rfl, ⟨_, _, rfl⟩, O1, B1⟩
  case round =>
    obtain ⟨k, hk, h64, rfl, ⟨gb, gc, rfl⟩, OK, BK⟩ := hrel
    clear O1 B1
    by_cases hlt : k < n
    case neg =>
      obtain rfl : k = n := by omega
      have OE := Lib.hid OK.out
      have H64 := h64
      rw [show rs.take k = rs by rw [← N.out, List.take_length]] at OE H64 ⊢
      obtain ⟨q, hq⟩ : ∃ q, (ex rs).length = q := ⟨_, rfl⟩
      rw [hq] at OE H64 ⊢
      have HQ := Lib.hid hq
      have RR := Lib.hid (R.out.below BK.out)
      have C1 := Lib.hid (runsI (some ⟨gb, 0, none⟩) q gc (ex rs) wr hq (by omega) (Rd.own OE.out))
      obtain ⟨r, hr9⟩ : ∃ r, rkG rs = r := ⟨_, rfl⟩
      have FE := Lib.hid (show decide (rnV (ex rs) = rs) = r by
        rw [← hr9]
        cases hh : rkG rs
        · exact decide_eq_false (fun e => by rw [rk_found.1 e] at hh; cases hh)
        · exact decide_eq_true (rk_found.2 hh))
      have FL := Lib.hid (show rkL rs = bon r (ex rs) by unfold rkL; rw [hr9])
      have VL := Lib.hid (rnV_len (ex rs))
      have FR := Lib.hid hr9
      obtain ⟨xs, hxs⟩ : ∃ x, rnV (ex rs) = x := ⟨_, rfl⟩
      rw [hxs] at C1 FE VL
      clear hq hr9 OK hxs
      go_wp2_with fail
      refine C1.out.mono ?_
      rintro e w2 ⟨g2, c2, rfl, ho2, hb2⟩
      have O2 := Lib.hid (Rd.own ho2)
      have OE2 := Lib.hid (owns_below OE.out hb2)
      have B2 := Lib.hid (BK.out.trans (hb2.mono BK.out.size))
      have R2 := Lib.hid ((R.out.below B2.out).more B2.out.size)
      have EC := Lib.hid (FE.out ▸ equalR (some ⟨g2, 0, none⟩) A xs.length c2 k c xs rs w2 rfl N.out (by have := VL.out; omega) hb O2.out R2.out)
      obtain ⟨nl, hnl⟩ : ∃ l, xs.length = l := ⟨_, rfl⟩
      rw [hnl] at EC ⊢
      clear ho2 hb2 OE RR C1 hnl
      go_wp2_with fail
      refine EC.out.mono ?_
      rintro e w3 ⟨rfl, hb3⟩
      have OE3 := Lib.hid (owns_below OE2.out hb3)
      have B3 := Lib.hid (B2.out.trans (hb3.mono B2.out.size))
      have RN := Lib.hid (rowP_nil w3)
      clear hb3 OE2 B2 O2 R2 EC
      cases r
      · go_wp2_with fail
        go_ret2
        rw [show rkL rs = [] from FL.out, FR.out]
        exact RowP.from RN.out B3.out
      · go_wp2_with fail
        go_ret2
        rw [show rkL rs = ex rs from FL.out, FR.out]
        refine ⟨gb, gc, ?_, ?_, B3.out⟩
        · show _ = Ending.returned (.tuple #[.slice (some ⟨gb, 0, none⟩) (ex rs).length gc, .bool true])
          rw [HQ.out]; rfl
        · show w3.ownsRow _ _ _ (.slice (some ⟨gb, 0, none⟩) (ex rs).length gc) (ex rs).length (ints (ex rs))
          rw [HQ.out]; exact OE3.out
    obtain ⟨⟨l, x⟩, hz⟩ : ∃ z, rs[k]? = some z := ⟨_, List.getElem?_eq_getElem (by rw [N.out]; exact hlt)⟩
    obtain ⟨z0, z1⟩ := rls_get hz
    obtain ⟨b1, o1, eA, hb1, g1⟩ := (R.out.below BK.out).get (k := k * 2) (by rw [rls_len, N.out]; omega)
    have c1 : wr.cell? ⟨b1, o1 + k * 2, none⟩ = some (.int .i64 l) := g1 _ _ z0
    have c2 : wr.cell? ⟨b1, o1 + k * 2 + 1, none⟩ = some (.int .i64 x) := by rw [Nat.add_assoc]; exact g1 _ _ z1
    have EX := Lib.hid (ex_take hz)
    obtain ⟨L, hL⟩ : ∃ L, ex (rs.take k) = L := ⟨_, rfl⟩
    rw [hL] at OK h64 EX ⊢
    obtain ⟨q, hq⟩ : ∃ q, L.length = q := ⟨_, rfl⟩
    rw [hq] at OK h64 ⊢
    have HQ := Lib.hid hq
    have HZ := Lib.hid hz
    have HL := Lib.hid (show (ex (rs.take k)).length = q by rw [hL, hq])
    have p1 : b1 < wr.heap.size := World.block_lt_of_cell? wr _ c1
    have p2 : ∀ j, b1 < wr.heap.size + j := fun j => by omega
    clear hz z0 z1 g1 hL hq hb1
    by_cases hx : 1 ≤ x ∧ x ≤ 64 - (q : Int)
    case neg =>
      have FG := Lib.hid (show rkG rs = false by
        by_cases h1 : x < 1
        · exact rk_bad HZ.out h1
        · exact rk_long HZ.out (by rw [HL.out]; simp only []; omega))
      rw [rkL_no FG.out, FG.out]
      have C := Lib.hid (fun v => isWithin_of (iw_no (x := x) (a := 1) (b := 64 - (q : Int)) (by omega)) v)
      have BA := Lib.hid (show Below w.heap.size w (wr.alloc (.cells #[.int .i64 l, .int .i64 x] 35)) from BK.out.alloc BK.out.size _)
      clear hx OK BK EX HQ HZ HL
      subst eA
      go_wp2_with fail
      refine (C.out _).mono ?_
      rintro e w' ⟨rfl, rfl⟩
      go_wp2_with fail
      go_ret2
      exact RowP.from (by have h9 := rowP_nil (wr.alloc (.cells #[.int .i64 l, .int .i64 x] 35)); rw [show (wr.alloc (.cells #[.int .i64 l, .int .i64 x] 35)).heap.size = wr.heap.size + 1 by simp] at h9; exact h9) BA.out
    have C := Lib.hid (fun v => isWithin_of (iw_yes hx) v)
    obtain ⟨y, rfl⟩ := Int.eq_ofNat_of_zero_le (show 0 ≤ x by omega)
    have hy1 : 1 ≤ y := by omega
    have hy2 : y ≤ 64 := by omega
    have hy3 : q + y ≤ 64 := by omega
    have RP := Lib.hid (Rp8.repeat1 (wr.heap.size + 1) 0 1 l y ((wr.alloc (.cells #[.int .i64 l, .int .i64 (y : Int)] 35)).alloc (.cells #[.int .i64 l] 3)) hy1 hy2 (by go_simp))
    have OA := Lib.hid (show ((wr.alloc (.cells #[.int .i64 l, .int .i64 (y : Int)] 35)).alloc (.cells #[.int .i64 l] 3)).ownsRow w.heap.size 3 1 (.slice (some ⟨gb, 0, none⟩) q gc) q (ints L) from (OK.out.alloc _).alloc _)
    have BA := Lib.hid (show Below w.heap.size w ((wr.alloc (.cells #[.int .i64 l, .int .i64 (y : Int)] 35)).alloc (.cells #[.int .i64 l] 3)) from (BK.out.alloc BK.out.size _).alloc (by have := BK.out.size; simp; omega) _)
    have EI := Lib.hid (show ints L ++ ints (List.replicate y l) = ints (ex (rs.take (k + 1))) by rw [EX.out]; unfold ints; rw [List.map_append]; rfl)
    have EN := Lib.hid (show (ex (rs.take (k + 1))).length = q + y by rw [EX.out, List.length_append, HQ.out]; simp)
    clear hx OK BK EX HQ HZ HL
    subst eA
    go_wp2_with fail
    refine (C.out _).mono ?_
    rintro e w' ⟨rfl, rfl⟩
    go_wp2_with fail
    refine RP.out.mono ?_
    rintro e w7 ⟨g7, rfl, ho7, hb7⟩
    have O7 := Lib.hid (owns_below OA.out hb7)
    have B7 := Lib.hid (BA.out.trans (hb7.mono BA.out.size))
    have S7 := Lib.hid (show Rp8.Reads w7 ⟨g7, 0, none⟩ (ints (List.replicate y l)) from fun j v hv => by
      rw [add_plain, Nat.zero_add, ho7.cellAt j (by have := (List.getElem?_eq_some_iff.1 hv).1; rw [ints_len, List.length_replicate] at this; omega)]
      exact hv)
    have HS := Lib.hid (own_base O7.out)
    have HW := Lib.hid B7.out.size
    clear ho7 hb7 OA BA RP
    go_wp2_with (at_builtin; refine wpList_append_own _ rfl _ _ 24 rfl w.heap.size 3 i0 (.int .i64 0) 1 8 Try.underlying24 hi hz0 hz1 hz2 rfl (by decide) _ _ _ rfl O7.out ⟨g7, 0, none⟩ y y (ints (List.replicate y l)) rfl (by rw [ints_len, List.length_replicate, Nat.mul_one]) S7.out Rp8.one_cell (by unfold maxLen; omega) (by omega) HW.out ?_)
    intro v' w5 hown' hgrow hnil
    have hg : ∃ g c, v' = .slice (some ⟨g, 0, none⟩) (q + y) c := by
      rcases hown'.2 with ⟨_, e⟩ | ⟨g, cap, cur, e, _⟩
      · omega
      · exact ⟨g, cap, e⟩
    obtain ⟨g5, c5, rfl⟩ := hg
    rw [EI.out] at hown'
    have OO := Lib.hid hown'
    have BB := Lib.hid (B7.out.grown hgrow HW.out (fun j hj => HS.out j hj))
    clear hown' hgrow hnil O7 B7 S7 HS HW EI
    go_wp2_with fail
    go_roundw
    case rel => exact ⟨k + 1, by omega, by rw [EN.out]; exact hy3, by go_num, by rw [EN.out]; exact ⟨_, _, rfl⟩, by rw [EN.out]; exact OO, BB⟩
    case measure => simp [intOf]; omega
theorem tneI : (35 : TypeId) ≠ 3 := by decide

end Go.Proofs.Ytmbiomekbinplaa.Ru8
