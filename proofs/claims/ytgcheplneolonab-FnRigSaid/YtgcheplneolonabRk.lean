/- RemoveDevice of the program and of the model. -/
import Derived.Test.YtgcheplneolonabRm
import Derived.Test.YtgcheplneolonabOl
import Derived.Maps.AppendAt
namespace Go.Proofs.Ytgcheplneolonab.Rk
open Go.RowKit Go.ChangeShapes Go.WideShapes Go.WideElems Go.Deep Go.Proofs.Ytgcheplneolonab.Mem Go.Proofs.Ytgcheplneolonab.Rw Go.Proofs.Ytgcheplneolonab.Pw Go.Proofs.Ytgcheplneolonab.P2 Go.Proofs.Ytgcheplneolonab.Dd Go.Proofs.Ytgcheplneolonab.Dv Go.Proofs.Ytgcheplneolonab.Dl Go.Proofs.Ytgcheplneolonab.Ds Go.Proofs.Ytgcheplneolonab.Fd Go.Proofs.Ytgcheplneolonab.Ch Go.Proofs.Ytgcheplneolonab.Hn Go.Proofs.Ytgcheplneolonab.Po
set_option linter.unusedVariables false
set_option linter.unusedSimpArgs false
open Go.Proofs.Ytgcheplneolonab.Cm Go.Proofs.Ytgcheplneolonab.Pl Go.Proofs.Ytgcheplneolonab.Str Go.Proofs.Ytgcheplneolonab.Hd Go.Proofs.Ytgcheplneolonab.Jt Go.Proofs.Ytgcheplneolonab.Ho Go.Proofs.Ytgcheplneolonab.Pa Go.Proofs.Ytgcheplneolonab.Di Go.Proofs.Ytgcheplneolonab.Ig Go.Proofs.Ytgcheplneolonab.Ir Go.Proofs.Ytgcheplneolonab.Iq Go.Proofs.Ytgcheplneolonab.IsName Go.Proofs.Ytgcheplneolonab.Mo Go.Proofs.Ytgcheplneolonab.Sg Go.Proofs.Ytgcheplneolonab.Rm Go.Proofs.Ytgcheplneolonab.Ol
open Go.Proofs.Ytgcheplneolonab.Rw (owns_below owns_grown)

/-- Whether a device may be taken out; the list behind it. -/
noncomputable def rmG (zs : List D) (s : ByteArray) : Bool := rig zs && (decide (0 ≤ fd zs s) && decide ((olV zs s zs).length = 0))
noncomputable def rmL (zs : List D) (s : ByteArray) : List D := if rmG zs s = true then cut zs (fd zs s).toNat else zs
theorem rmL_no {zs : List D} {s : ByteArray} (h : rmG zs s = false) : rmL zs s = zs := by unfold rmL; rw [h]; rfl
theorem fd_lt {zs : List D} {s : ByteArray} (h : 0 ≤ fd zs s) : (fd zs s).toNat < zs.length := by
  rcases fd_cases zs s with e | ⟨j, e, h1, _⟩
  · rw [e] at h; exact absurd h (by decide)
  · rw [e]; exact h1
theorem rmL_len (zs : List D) (s : ByteArray) : (rmL zs s).length ≤ zs.length := by
  cases h : rmG zs s
  · rw [rmL_no h]; exact Nat.le_refl _
  · unfold rmL; rw [if_pos h]
    have h2 := h
    unfold rmG at h2
    rw [Bool.and_eq_true, Bool.and_eq_true] at h2
    rw [cut_len (fd_lt (of_decide_eq_true h2.2.1))]; omega

set_option maxRecDepth 100000 in
set_option maxHeartbeats 800000 in
theorem removeI (ad : Addr) (n0 c9 : Nat) (zs : List D) (s : ByteArray) (w : World) (hn : zs.length = n0) (hb : n0 ≤ 1048576) (hr : Rd w w.heap.size (some ad) (dls zs)) :
    Calls Try.prog 10 #[.slice (some ad) n0 c9, .string s] w (RowB w (rmL zs s) (rmG zs s)) := by
  have HR := Lib.hid hr
  have HN := Lib.hid hn
  have CF := Lib.hid (findI _ n0 c9 zs s w hn hb hr)
  have CR := Lib.hid (fun (W : World) (hW : Below w.heap.size w W) => rigI _ n0 c9 zs W hn hb ((hr.below hW).more hW.size))
  have CO := Lib.hid (fun (W : World) (hW : Below w.heap.size w W) => onI _ n0 c9 zs s W hn hb ((hr.below hW).more hW.size))
  have CC := Lib.hid (fun (W : World) (hW : Below w.heap.size w W) => cloneD _ n0 c9 zs W hn hb ((hr.below hW).more hW.size))
  obtain ⟨rr, hrr⟩ : ∃ r, rig zs = r := ⟨_, rfl⟩
  obtain ⟨k, hk⟩ : ∃ k, fd zs s = k := ⟨_, rfl⟩
  obtain ⟨L, hL⟩ : ∃ L, (olV zs s zs).length = L := ⟨_, rfl⟩
  have HG := Lib.hid (show rmG zs s = (rr && (decide (0 ≤ k) && decide (L = 0))) by unfold rmG; rw [hrr, hk, hL])
  have HF := Lib.hid (show 0 ≤ k → k.toNat < n0 from fun h => by rw [← hk] at h ⊢; rw [← hn]; exact fd_lt h)
  have HK := Lib.hid hk
  have HL := Lib.hid hL
  have hu : undef = Value.tuple #[] := rfl
  rw [hrr] at CR
  rw [hk] at CF
  clear hr hn hrr hk hL
  cases rr
  · have HG2 := Lib.hid (show rmG zs s = false by rw [HG.out]; rfl)
    go_enter Try.func10, Try.ntmps10
    go_wp2_with fail
    refine CF.out.mono ?_
    rintro e w1 ⟨rfl, hb1⟩
    have B1 := Lib.hid hb1
    clear hb1 CF
    go_wp2_with fail
    refine (CR.out _ B1.out).mono ?_
    rintro e w2 ⟨rfl, hb2⟩
    have B2 := Lib.hid (B1.out.trans (hb2.mono B1.out.size))
    clear hb2 CR B1
    go_wp2_with fail
    refine (CC.out _ B2.out).mono ?_
    rintro e w9 ⟨g, c, rfl, ho, hb9⟩
    have B9 := Lib.hid (B2.out.trans (hb9.mono B2.out.size))
    have RO := Lib.hid (Rw.owns_base ho (Nat.le_trans B2.out.size (ho.lt g rfl).1))
    clear ho hb9
    go_wp2_with fail
    go_returns
    have e1 : rmG zs s = false := HG2.out
    rw [rmL_no e1, e1]
    exact ⟨g, c, rfl, RO.out, B9.out⟩
  · by_cases h0 : k < 0
    · have HG2 := Lib.hid (show rmG zs s = false by rw [HG.out, decide_eq_false (by omega)]; rfl)
      go_enter Try.func10, Try.ntmps10
      go_wp2_with fail
      refine CF.out.mono ?_
      rintro e w1 ⟨rfl, hb1⟩
      have B1 := Lib.hid hb1
      clear hb1 CF
      go_wp2_with fail
      refine (CR.out _ B1.out).mono ?_
      rintro e w2 ⟨rfl, hb2⟩
      have B2 := Lib.hid (B1.out.trans (hb2.mono B1.out.size))
      clear hb2 CR B1
      go_wp2_with fail
      refine (CC.out _ B2.out).mono ?_
      rintro e w9 ⟨g, c, rfl, ho, hb9⟩
      have B9 := Lib.hid (B2.out.trans (hb9.mono B2.out.size))
      have RO := Lib.hid (Rw.owns_base ho (Nat.le_trans B2.out.size (ho.lt g rfl).1))
      clear ho hb9
      go_wp2_with fail
      go_returns
      have e1 : rmG zs s = false := HG2.out
      rw [rmL_no e1, e1]
      exact ⟨g, c, rfl, RO.out, B9.out⟩
    · obtain ⟨j, rfl⟩ : ∃ j : Nat, k = j := ⟨k.toNat, by omega⟩
      have hj : j < n0 := by have := HF.out (by omega); omega
      by_cases hl0 : L = 0
      · have HG2 := Lib.hid (show rmG zs s = true by rw [HG.out, decide_eq_true (by omega), decide_eq_true hl0]; rfl)
        have HC := Lib.hid (show rmL zs s = cut zs j by unfold rmL; rw [if_pos HG2.out, HK.out]; rfl)
        have HZ := Lib.hid (show (cut zs j).length = n0 - 1 by rw [← HN.out]; exact cut_len (by rw [HN.out]; exact hj))
        have hlp : ¬ (0 : Int) < (L : Int) := by omega
        go_enter Try.func10, Try.ntmps10
        go_wp2_with fail
        refine CF.out.mono ?_
        rintro e w1 ⟨rfl, hb1⟩
        have B1 := Lib.hid hb1
        clear hb1 CF
        go_wp2_with fail
        refine (CR.out _ B1.out).mono ?_
        rintro e w2 ⟨rfl, hb2⟩
        have B2 := Lib.hid (B1.out.trans (hb2.mono B1.out.size))
        clear hb2 CR B1
        go_wp2_with fail
        refine (CO.out _ B2.out).mono ?_
        rintro e w3 ⟨gg, cc, rfl, ho3, hb3⟩
        have B3 := Lib.hid (B2.out.trans (hb3.mono B2.out.size))
        rw [HL.out]
        clear hb3 ho3 CO B2
        go_wp2_with fail
        refine (CC.out _ B3.out).mono ?_
        rintro e w4 ⟨g, c, rfl, ho, hb4⟩
        rw [HN.out] at ho ⊢
        have B4 := Lib.hid (B3.out.trans (hb4.mono B3.out.size))
        have RO := Lib.hid (Rw.owns_base ho (Nat.le_trans B3.out.size (ho.lt g rfl).1))
        clear ho hb4 B3
        go_wp2_with fail
        refine (deleteD g c n0 j zs w.heap.size w4 HN.out hb hj RO.out).mono ?_
        rintro e w5 ⟨rfl, ho, hg⟩
        have B5 := Lib.hid (B4.out.grown hg B4.out.size (fun q hq => by cases hq; exact (RO.out.lt g rfl).1))
        have R5 := Lib.hid ho
        clear ho hg
        go_wp2_with fail
        go_returns
        rw [HC.out, HG2.out]
        exact ⟨g, c, by rw [HZ.out]; rfl, by rw [HZ.out]; exact R5.out, B5.out⟩
      · have HG2 := Lib.hid (show rmG zs s = false by rw [HG.out, decide_eq_false hl0]; simp)
        have hlp : (0 : Int) < (L : Int) := by omega
        go_enter Try.func10, Try.ntmps10
        go_wp2_with fail
        refine CF.out.mono ?_
        rintro e w1 ⟨rfl, hb1⟩
        have B1 := Lib.hid hb1
        clear hb1 CF
        go_wp2_with fail
        refine (CR.out _ B1.out).mono ?_
        rintro e w2 ⟨rfl, hb2⟩
        have B2 := Lib.hid (B1.out.trans (hb2.mono B1.out.size))
        clear hb2 CR B1
        go_wp2_with fail
        refine (CO.out _ B2.out).mono ?_
        rintro e w3 ⟨gg, cc, rfl, ho3, hb3⟩
        have B3 := Lib.hid (B2.out.trans (hb3.mono B2.out.size))
        rw [HL.out]
        clear hb3 ho3 CO B2
        go_wp2_with fail
        refine (CC.out _ B3.out).mono ?_
        rintro e w9 ⟨g, c, rfl, ho, hb9⟩
        have B9 := Lib.hid (B3.out.trans (hb9.mono B3.out.size))
        have RO := Lib.hid (Rw.owns_base ho (Nat.le_trans B3.out.size (ho.lt g rfl).1))
        clear ho hb9
        go_wp2_with fail
        go_returns
        have e1 : rmG zs s = false := HG2.out
        rw [rmL_no e1, e1]
        exact ⟨g, c, rfl, RO.out, B9.out⟩

theorem append_dev (w : World) (base g n c : Nat) (xs : List Value) (hown : w.ownsRow base 28 8 (.slice (some ⟨g, 0, none⟩) n c) n xs) (a : Addr) (m c2 : Nat) (news : List Value) (hl : news.length = m * 8) (hnews : ∀ j u, news[j]? = some u → w.cell? (a.add j) = some u) (h1 : ∀ u ∈ news, u.oneCell' = true) (hs : n + m ≤ 1048576) (hbase : base ≤ w.heap.size) :
    ∃ (g' c' : Nat) (w' : World), (Builtin.append_ #[24, 24] 24 #[.slice (some ⟨g, 0, none⟩) n c, .slice (some a) m c2]).run Try.prog w = .ok (.slice (some ⟨g', 0, none⟩) (n + m) c') w' ∧ w'.ownsRow base 28 8 (.slice (some ⟨g', 0, none⟩) (n + m) c') (n + m) (xs ++ news) ∧ w.grownBy w' (some g) := by
  obtain ⟨i0, hi, hz0, hz1, hz2⟩ := info_of infoD
  obtain ⟨v', w', hr, h2, h3, h4, _⟩ := run_append_own_at (P := Try.prog) w base 24 24 28 i0 (.agg #[.string ⟨#[]⟩, .int .i64 0, .string ⟨#[]⟩, .int .i64 0, .int .i64 0, .int .i64 0, .int .i64 0, .int .i64 0]) 8 80 Try.underlying24 hi hz0 hz1 hz2 rfl (by decide) _ n xs hown a m c2 news hl hnews h1 (by unfold maxLen; omega) (by omega) hbase
  have hg : ∃ g c, v' = .slice (some ⟨g, 0, none⟩) (n + m) c := by
    rcases h2.2 with ⟨e1, _⟩ | ⟨g, cap, cur, e1, _⟩
    · exact absurd (h4.1 e1).1 (by intro h; cases h)
    · exact ⟨g, cap, e1⟩
  obtain ⟨g', c', rfl⟩ := hg
  exact ⟨g', c', w', hr, h2, h3⟩

theorem step_append_run {ops : Array Oper} {o : Oper} {a : Act} {w w' : World} {K : Act → World → Prop} {Q : Exit → Act → World → Prop} {E : Prop}
    (hg : o.guard = none) (s x : Operand) (hop : o.op = Op.call { callee := Callee.builtin Builtin.append, args := #[s, x], argTypes := #[24, 24] }) (hty : o.type = 24)
    (v v2 v' : Value) (hs : a.eval s = v) (hx : a.eval x = v2) (hrun : (Builtin.append_ #[24, 24] 24 #[v, v2]).run Try.prog w = .ok v' w') (hK : K (a.put o.dst v') w') :
    if Region.wanted o (yielded ops a.tmps) = true then Oper.wp Try.prog o a w K Q else E := by
  have hw : Region.wanted o (yielded ops a.tmps) = true := by simp [Region.wanted, hg]
  rw [if_pos hw]
  unfold Oper.wp
  simp [execOp, hop, hty, resolve, invoke, builtin, hs, hx, hrun, Result.andThen]
  exact hK

end Go.Proofs.Ytgcheplneolonab.Rk
