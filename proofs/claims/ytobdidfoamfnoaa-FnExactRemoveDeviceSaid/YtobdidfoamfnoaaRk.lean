/- RemoveDevice of the program and of the model. -/
import Derived.Test.YtobdidfoamfnoaaRm
import Derived.Test.YtobdidfoamfnoaaOl
import Derived.Maps.AppendAt
namespace Go.Proofs.Ytobdidfoamfnoaa.Rk
open Go.RowKit Go.ChangeShapes Go.WideShapes Go.WideElems Go.Deep Go.Proofs.Ytobdidfoamfnoaa.Mem Go.Proofs.Ytobdidfoamfnoaa.Rw Go.Proofs.Ytobdidfoamfnoaa.Pw Go.Proofs.Ytobdidfoamfnoaa.P2 Go.Proofs.Ytobdidfoamfnoaa.Dd Go.Proofs.Ytobdidfoamfnoaa.Dv Go.Proofs.Ytobdidfoamfnoaa.Dl Go.Proofs.Ytobdidfoamfnoaa.Ds Go.Proofs.Ytobdidfoamfnoaa.Fd Go.Proofs.Ytobdidfoamfnoaa.Ch Go.Proofs.Ytobdidfoamfnoaa.Hn Go.Proofs.Ytobdidfoamfnoaa.Po
set_option linter.unusedVariables false
set_option linter.unusedSimpArgs false
open Go.Proofs.Ytobdidfoamfnoaa.Cm Go.Proofs.Ytobdidfoamfnoaa.Pl Go.Proofs.Ytobdidfoamfnoaa.Str Go.Proofs.Ytobdidfoamfnoaa.Hd Go.Proofs.Ytobdidfoamfnoaa.Jt Go.Proofs.Ytobdidfoamfnoaa.Ho Go.Proofs.Ytobdidfoamfnoaa.Pa Go.Proofs.Ytobdidfoamfnoaa.Di Go.Proofs.Ytobdidfoamfnoaa.Ig Go.Proofs.Ytobdidfoamfnoaa.Ir Go.Proofs.Ytobdidfoamfnoaa.Iq Go.Proofs.Ytobdidfoamfnoaa.IsName Go.Proofs.Ytobdidfoamfnoaa.Mo Go.Proofs.Ytobdidfoamfnoaa.Sg Go.Proofs.Ytobdidfoamfnoaa.Rm Go.Proofs.Ytobdidfoamfnoaa.Ol
open Go.Proofs.Ytobdidfoamfnoaa.Rw (owns_below owns_grown)

/-- Whether a device may be taken out; the list behind it. -/
noncomputable def rmG (zs : List D) (s : ByteArray) : Bool := rig zs && (decide (0 ≤ fd zs s) && decide ((olV zs s zs).length = 0))
noncomputable def rmL (zs : List D) (s : ByteArray) : List D := if rmG zs s = true then cut zs (fd zs s).toNat else zs
theorem rmL_no {zs : List D} {s : ByteArray} (h : rmG zs s = false) : rmL zs s = zs := by unfold rmL; rw [h]; rfl
theorem fd_lt {zs : List D} {s : ByteArray} (h : 0 ≤ fd zs s) : (fd zs s).toNat < zs.length := by
  rcases fd_cases zs s with e | ⟨j, e, h1, _⟩
  · rw [e] at h; exact absurd h (by decide)
  · rw [e]; exact h1
theorem rmL_len (zs : List D) (s : ByteArray) : (rmL zs s).length ≤ zs.length := by
  cases h : rmG zs s
  · rw [rmL_no h]; exact Nat.le_refl _
  · unfold rmL; rw [if_pos h]
    have h2 := h
    unfold rmG at h2
    rw [Bool.and_eq_true, Bool.and_eq_true] at h2
    rw [cut_len (fd_lt (of_decide_eq_true h2.2.1))]; omega

set_option maxRecDepth 100000 in
set_option maxHeartbeats 800000 in
theorem removeI (ad : Addr) (n0 c9 : Nat) (zs : List D) (s : ByteArray) (w : World) (hn : zs.length = n0) (hb : n0 ≤ 1048576) (hr : Rd w w.heap.size (some ad) (dls zs)) :
    Calls Try.prog 31 #[.slice (some ad) n0 c9, .string s] w (RowB w (rmL zs s) (rmG zs s)) := by
  have HR := Lib.hid hr
  have HN := Lib.hid hn
  have CF := Lib.hid (findI _ n0 c9 zs s w hn hb hr)
  have CR := Lib.hid (fun (W : World) (hW : Below w.heap.size w W) => rigI _ n0 c9 zs W hn hb ((hr.below hW).more hW.size))
  have CO := Lib.hid (fun (W : World) (hW : Below w.heap.size w W) => onI _ n0 c9 zs s W hn hb ((hr.below hW).more hW.size))
  have CC := Lib.hid (fun (W : World) (hW : Below w.heap.size w W) => cloneD _ n0 c9 zs W hn hb ((hr.below hW).more hW.size))
  obtain ⟨rr, hrr⟩ : ∃ r, rig zs = r := ⟨_, rfl⟩
  obtain ⟨k, hk⟩ : ∃ k, fd zs s = k := ⟨_, rfl⟩
  obtain ⟨L, hL⟩ : ∃ L, (olV zs s zs).length = L := ⟨_, rfl⟩
  have HG := Lib.hid (show rmG zs s = (rr && (decide (0 ≤ k) && decide (L = 0))) by unfold rmG; rw [hrr, hk, hL])
  have HF := Lib.hid (show 0 ≤ k → k.toNat < n0 from fun h => by rw [← hk] at h ⊢; rw [← hn]; exact fd_lt h)
  have HK := Lib.hid hk
  have HL := Lib.hid hL
  have hu : undef = Value.tuple #[] := rfl
  rw [hrr] at CR
  rw [hk] at CF
  clear hr hn hrr hk hL
  cases rr
  · have HG2 := Lib.hid (show rmG zs s = false by rw [HG.out]; rfl)
    go_enter Try.func31, Try.ntmps31
    go_wp2_with fail
    refine CF.out.mono ?_
    rintro e w1 ⟨rfl, hb1⟩
    have B1 := Lib.hid hb1
    clear hb1 CF
    go_wp2_with fail
    refine (CR.out _ B1.out).mono ?_
    rintro e w2 ⟨rfl, hb2⟩
    have B2 := Lib.hid (B1.out.trans (hb2.mono B1.out.size))
    clear hb2 CR B1
    go_wp2_with fail
    refine (CC.out _ B2.out).mono ?_
    rintro e w9 ⟨g, c, rfl, ho, hb9⟩
    have B9 := Lib.hid (B2.out.trans (hb9.mono B2.out.size))
    have RO := Lib.hid (Rw.owns_base ho (Nat.le_trans B2.out.size (ho.lt g rfl).1))
    clear ho hb9
    go_wp2_with fail
    go_returns
    have e1 : rmG zs s = false := HG2.out
    rw [rmL_no e1, e1]
    exact ⟨g, c, rfl, RO.out, B9.out⟩
  · by_cases h0 : k < 0
    · have HG2 := Lib.hid (show rmG zs s = false by rw [HG.out, decide_eq_false (by omega)]; rfl)
      go_enter Try.func31, Try.ntmps31
      go_wp2_with fail
      refine CF.out.mono ?_
      rintro e w1 ⟨rfl, hb1⟩
      have B1 := Lib.hid hb1
      clear hb1 CF
      go_wp2_with fail
      refine (CR.out _ B1.out).mono ?_
      rintro e w2 ⟨rfl, hb2⟩
      have B2 := Lib.hid (B1.out.trans (hb2.mono B1.out.size))
      clear hb2 CR B1
      go_wp2_with fail
      refine (CC.out _ B2.out).mono ?_
      rintro e w9 ⟨g, c, rfl, ho, hb9⟩
      have B9 := Lib.hid (B2.out.trans (hb9.mono B2.out.size))
      have RO := Lib.hid (Rw.owns_base ho (Nat.le_trans B2.out.size (ho.lt g rfl).1))
      clear ho hb9
      go_wp2_with fail
      go_returns
      have e1 : rmG zs s = false := HG2.out
      rw [rmL_no e1, e1]
      exact ⟨g, c, rfl, RO.out, B9.out⟩
    · obtain ⟨j, rfl⟩ : ∃ j : Nat, k = j := ⟨k.toNat, by omega⟩
      have hj : j < n0 := by have := HF.out (by omega); omega
      by_cases hl0 : L = 0
      · have HG2 := Lib.hid (show rmG zs s = true by rw [HG.out, decide_eq_true (by omega), decide_eq_true hl0]; rfl)
        have HC := Lib.hid (show rmL zs s = cut zs j by unfold rmL; rw [if_pos HG2.out, HK.out]; rfl)
        have HZ := Lib.hid (show (cut zs j).length = n0 - 1 by rw [← HN.out]; exact cut_len (by rw [HN.out]; exact hj))
        have hlp : ¬ (0 : Int) < (L : Int) := by omega
        go_enter Try.func31, Try.ntmps31
        go_wp2_with fail
        refine CF.out.mono ?_
        rintro e w1 ⟨rfl, hb1⟩
        have B1 := Lib.hid hb1
        clear hb1 CF
        go_wp2_with fail
        refine (CR.out _ B1.out).mono ?_
        rintro e w2 ⟨rfl, hb2⟩
        have B2 := Lib.hid (B1.out.trans (hb2.mono B1.out.size))
        clear hb2 CR B1
        go_wp2_with fail
        refine (CO.out _ B2.out).mono ?_
        rintro e w3 ⟨gg, cc, rfl, ho3, hb3⟩
        have B3 := Lib.hid (B2.out.trans (hb3.mono B2.out.size))
        rw [HL.out]
        clear hb3 ho3 CO B2
        go_wp2_with fail
        refine (CC.out _ B3.out).mono ?_
        rintro e w4 ⟨g, c, rfl, ho, hb4⟩
        rw [HN.out] at ho ⊢
        have B4 := Lib.hid (B3.out.trans (hb4.mono B3.out.size))
        have RO := Lib.hid (Rw.owns_base ho (Nat.le_trans B3.out.size (ho.lt g rfl).1))
        clear ho hb4 B3
        go_wp2_with fail
        refine (deleteD g c n0 j zs w.heap.size w4 HN.out hb hj RO.out).mono ?_
        rintro e w5 ⟨rfl, ho, hg⟩
        have B5 := Lib.hid (B4.out.grown hg B4.out.size (fun q hq => by cases hq; exact (RO.out.lt g rfl).1))
        have R5 := Lib.hid ho
        clear ho hg
        go_wp2_with fail
        go_returns
        rw [HC.out, HG2.out]
        exact ⟨g, c, by rw [HZ.out]; rfl, by rw [HZ.out]; exact R5.out, B5.out⟩
      · have HG2 := Lib.hid (show rmG zs s = false by rw [HG.out, decide_eq_false hl0]; simp)
        have hlp : (0 : Int) < (L : Int) := by omega
        go_enter Try.func31, Try.ntmps31
        go_wp2_with fail
        refine CF.out.mono ?_
        rintro e w1 ⟨rfl, hb1⟩
        have B1 := Lib.hid hb1
        clear hb1 CF
        go_wp2_with fail
        refine (CR.out _ B1.out).mono ?_
        rintro e w2 ⟨rfl, hb2⟩
        have B2 := Lib.hid (B1.out.trans (hb2.mono B1.out.size))
        clear hb2 CR B1
        go_wp2_with fail
        refine (CO.out _ B2.out).mono ?_
        rintro e w3 ⟨gg, cc, rfl, ho3, hb3⟩
        have B3 := Lib.hid (B2.out.trans (hb3.mono B2.out.size))
        rw [HL.out]
        clear hb3 ho3 CO B2
        go_wp2_with fail
        refine (CC.out _ B3.out).mono ?_
        rintro e w9 ⟨g, c, rfl, ho, hb9⟩
        have B9 := Lib.hid (B3.out.trans (hb9.mono B3.out.size))
        have RO := Lib.hid (Rw.owns_base ho (Nat.le_trans B3.out.size (ho.lt g rfl).1))
        clear ho hb9
        go_wp2_with fail
        go_returns
        have e1 : rmG zs s = false := HG2.out
        rw [rmL_no e1, e1]
        exact ⟨g, c, rfl, RO.out, B9.out⟩

theorem append_dev (w : World) (base g n c : Nat) (xs : List Value) (hown : w.ownsRow base 30 8 (.slice (some ⟨g, 0, none⟩) n c) n xs) (a : Addr) (m c2 : Nat) (news : List Value) (hl : news.length = m * 8) (hnews : ∀ j u, news[j]? = some u → w.cell? (a.add j) = some u) (h1 : ∀ u ∈ news, u.oneCell' = true) (hs : n + m ≤ 1048576) (hbase : base ≤ w.heap.size) :
    ∃ (g' c' : Nat) (w' : World), (Builtin.append_ #[36, 36] 36 #[.slice (some ⟨g, 0, none⟩) n c, .slice (some a) m c2]).run Try.prog w = .ok (.slice (some ⟨g', 0, none⟩) (n + m) c') w' ∧ w'.ownsRow base 30 8 (.slice (some ⟨g', 0, none⟩) (n + m) c') (n + m) (xs ++ news) ∧ w.grownBy w' (some g) := by
  obtain ⟨i0, hi, hz0, hz1, hz2⟩ := info_of infoD
  obtain ⟨v', w', hr, h2, h3, h4, _⟩ := run_append_own_at (P := Try.prog) w base 36 36 30 i0 (.agg #[.string ⟨#[]⟩, .int .i64 0, .string ⟨#[]⟩, .int .i64 0, .int .i64 0, .int .i64 0, .int .i64 0, .int .i64 0]) 8 80 Try.underlying36 hi hz0 hz1 hz2 rfl (by decide) _ n xs hown a m c2 news hl hnews h1 (by unfold maxLen; omega) (by omega) hbase
  have hg : ∃ g c, v' = .slice (some ⟨g, 0, none⟩) (n + m) c := by
    rcases h2.2 with ⟨e1, _⟩ | ⟨g, cap, cur, e1, _⟩
    · exact absurd (h4.1 e1).1 (by intro h; cases h)
    · exact ⟨g, cap, e1⟩
  obtain ⟨g', c', rfl⟩ := hg
  exact ⟨g', c', w', hr, h2, h3⟩

theorem step_append_run {ops : Array Oper} {o : Oper} {a : Act} {w w' : World} {K : Act → World → Prop} {Q : Exit → Act → World → Prop} {E : Prop}
    (hg : o.guard = none) (s x : Operand) (hop : o.op = Op.call { callee := Callee.builtin Builtin.append, args := #[s, x], argTypes := #[36, 36] }) (hty : o.type = 36)
    (v v2 v' : Value) (hs : a.eval s = v) (hx : a.eval x = v2) (hrun : (Builtin.append_ #[36, 36] 36 #[v, v2]).run Try.prog w = .ok v' w') (hK : K (a.put o.dst v') w') :
    if Region.wanted o (yielded ops a.tmps) = true then Oper.wp Try.prog o a w K Q else E := by
  have hw : Region.wanted o (yielded ops a.tmps) = true := by simp [Region.wanted, hg]
  rw [if_pos hw]
  unfold Oper.wp
  simp [execOp, hop, hty, resolve, invoke, builtin, hs, hx, hrun, Result.andThen]
  exact hK

set_option maxRecDepth 100000 in
set_option maxHeartbeats 800000 in
theorem removeS (b n0 c9 : Nat) (zs : List D) (s : ByteArray) (w : World) (hn : zs.length = n0) (hb : n0 ≤ 1048576) (hc : n0 ≤ c9) (hsz : ∀ z ∈ zs, z.nm.size ≤ 1048576 ∧ z.ln.size ≤ 1048576) (hr : Rd w w.heap.size (some ⟨b, 0, none⟩) (dls zs)) :
    Calls Try.prog 30 #[.slice (some ⟨b, 0, none⟩) n0 c9, .string s] w (RowB w (rmL zs s) (rmG zs s)) := by
  have HR := Lib.hid hr
  have HN := Lib.hid hn
  have CF := Lib.hid (findS _ n0 c9 zs s w hn hb hr)
  have CR := Lib.hid (fun (W : World) (hW : Below w.heap.size w W) => rigS _ n0 c9 zs W hn hb hsz ((hr.below hW).more hW.size))
  have CO := Lib.hid (fun (W : World) (hW : Below w.heap.size w W) => onS _ n0 c9 zs s W hn hb hsz ((hr.below hW).more hW.size))
  have CC := Lib.hid (fun (W : World) (hW : Below w.heap.size w W) => copiesD _ n0 c9 zs W hn hb ((hr.below hW).more hW.size))
  obtain ⟨rr, hrr⟩ : ∃ r, rig zs = r := ⟨_, rfl⟩
  obtain ⟨k, hk⟩ : ∃ k, fd zs s = k := ⟨_, rfl⟩
  obtain ⟨L, hL⟩ : ∃ L, (olV zs s zs).length = L := ⟨_, rfl⟩
  have HG := Lib.hid (show rmG zs s = (rr && (decide (0 ≤ k) && decide (L = 0))) by unfold rmG; rw [hrr, hk, hL])
  have HF := Lib.hid (show 0 ≤ k → k.toNat < n0 from fun h => by rw [← hk] at h ⊢; rw [← hn]; exact fd_lt h)
  have HK := Lib.hid hk
  have HL := Lib.hid hL
  have hu : undef = Value.tuple #[] := rfl
  rw [hrr] at CR
  rw [hk] at CF
  clear hr hn hrr hk hL hsz
  cases rr
  · have HG2 := Lib.hid (show rmG zs s = false by rw [HG.out]; rfl)
    go_enter Try.func30, Try.ntmps30
    go_wp2_with fail
    refine CF.out.mono ?_
    rintro e w1 ⟨rfl, hb1⟩
    have B1 := Lib.hid hb1
    clear hb1 CF
    go_wp2_with fail
    refine (CR.out _ B1.out).mono ?_
    rintro e w2 ⟨rfl, hb2⟩
    have B2 := Lib.hid (B1.out.trans (hb2.mono B1.out.size))
    clear hb2 CR B1
    go_wp2_with fail
    refine (CC.out _ B2.out).mono ?_
    rintro e w9 ⟨g, c, rfl, ho, hb9⟩
    have B9 := Lib.hid (B2.out.trans (hb9.mono B2.out.size))
    have RO := Lib.hid (Rw.owns_base ho (Nat.le_trans B2.out.size (ho.lt g rfl).1))
    clear ho hb9
    go_wp2_with fail
    go_returns
    have e1 : rmG zs s = false := HG2.out
    rw [rmL_no e1, e1]
    exact ⟨g, c, rfl, RO.out, B9.out⟩
  · by_cases h0 : k < 0
    · have HG2 := Lib.hid (show rmG zs s = false by rw [HG.out, decide_eq_false (by omega)]; rfl)
      go_enter Try.func30, Try.ntmps30
      go_wp2_with fail
      refine CF.out.mono ?_
      rintro e w1 ⟨rfl, hb1⟩
      have B1 := Lib.hid hb1
      clear hb1 CF
      go_wp2_with fail
      refine (CR.out _ B1.out).mono ?_
      rintro e w2 ⟨rfl, hb2⟩
      have B2 := Lib.hid (B1.out.trans (hb2.mono B1.out.size))
      clear hb2 CR B1
      go_wp2_with fail
      refine (CC.out _ B2.out).mono ?_
      rintro e w9 ⟨g, c, rfl, ho, hb9⟩
      have B9 := Lib.hid (B2.out.trans (hb9.mono B2.out.size))
      have RO := Lib.hid (Rw.owns_base ho (Nat.le_trans B2.out.size (ho.lt g rfl).1))
      clear ho hb9
      go_wp2_with fail
      go_returns
      have e1 : rmG zs s = false := HG2.out
      rw [rmL_no e1, e1]
      exact ⟨g, c, rfl, RO.out, B9.out⟩
    · obtain ⟨j, rfl⟩ : ∃ j : Nat, k = j := ⟨k.toNat, by omega⟩
      have hj : j < n0 := by have := HF.out (by omega); omega
      by_cases hl0 : L = 0
      · have HG2 := Lib.hid (show rmG zs s = true by rw [HG.out, decide_eq_true (by omega), decide_eq_true hl0]; rfl)
        have HC := Lib.hid (show rmL zs s = cut zs j by unfold rmL; rw [if_pos HG2.out, HK.out]; rfl)
        have HZ := Lib.hid (show (cut zs j).length = n0 - 1 by rw [← HN.out]; exact cut_len (by rw [HN.out]; exact hj))
        have hlp : ¬ (0 : Int) < (L : Int) := by omega
        go_enter Try.func30, Try.ntmps30
        go_wp2_with fail
        refine CF.out.mono ?_
        rintro e w1 ⟨rfl, hb1⟩
        have B1 := Lib.hid hb1
        clear hb1 CF
        go_wp2_with fail
        refine (CR.out _ B1.out).mono ?_
        rintro e w2 ⟨rfl, hb2⟩
        have B2 := Lib.hid (B1.out.trans (hb2.mono B1.out.size))
        clear hb2 CR B1
        go_wp2_with fail
        refine (CO.out _ B2.out).mono ?_
        rintro e w3 ⟨gg, cc, rfl, ho3, hb3⟩
        have B3 := Lib.hid (B2.out.trans (hb3.mono B2.out.size))
        rw [HL.out]
        clear hb3 ho3 CO B2
        go_wp2_with fail
        obtain ⟨m, hm⟩ : ∃ m, n0 - (j + 1) = m := ⟨_, rfl⟩
        obtain ⟨news, hnw⟩ : ∃ news, dls (zs.drop (j + 1)) = news := ⟨_, rfl⟩
        have hlen : news.length = m * 8 := by rw [← hnw, dls_len, List.length_drop, HN.out, hm]
        obtain ⟨A1, hA, hA2⟩ : ∃ A1 : Addr, (if c9 = j + 1 then some (⟨b, 0, none⟩ : Addr) else some ⟨b, (j + 1) * 8, none⟩) = some A1 ∧ (c9 ≠ j + 1 → A1 = ⟨b, (j + 1) * 8, none⟩) := by
          by_cases h : c9 = j + 1
          · exact ⟨⟨b, 0, none⟩, by simp [h], fun h2 => absurd h h2⟩
          · exact ⟨⟨b, (j + 1) * 8, none⟩, by simp [h], fun _ => rfl⟩
        have HSRC := Lib.hid (show ∀ W, Below w.heap.size w W → ∀ t u, news[t]? = some u → W.cell? (A1.add t) = some u from fun W hW t u hu => by
          have hl := (List.getElem?_eq_some_iff.1 hu).1
          have hne : c9 ≠ j + 1 := by omega
          rw [hA2 hne, Addr.add_lit]
          obtain ⟨b', o', e', _, hc⟩ := (HR.out.below hW).get (k := (j + 1) * 8 + t) (by rw [dls_len, HN.out]; omega)
          injection e' with e'
          injection e' with e1 e2 e3
          subst e1 e2
          rw [← hnw, (dls_part (zs := zs) (k := j + 1) (by rw [HN.out]; omega)).2, List.getElem?_drop] at hu
          have := hc _ u hu
          rw [Nat.zero_add] at this
          exact this)
        have s1 := Lib.hid hlen
        have s2 := Lib.hid (show ∀ u ∈ news, u.oneCell' = true from fun u hu => by rw [← hnw] at hu; exact dls_cell hu)
        have HT : (zs.take j).length = j := by rw [List.length_take, HN.out]; omega
        have CP := Lib.hid (show ∀ (W : World) (hW : Below w.heap.size w W), Calls Try.prog 60 #[.slice (some ⟨b, 0, none⟩) j c9] W (fun e w' => ∃ g c, e = .returned (.slice (some ⟨g, 0, none⟩) j c) ∧ w'.ownsRow W.heap.size 30 8 (.slice (some ⟨g, 0, none⟩) j c) j (dls (zs.take j)) ∧ Below W.heap.size W w') from fun W hW => by
          have := copiesD ⟨b, 0, none⟩ j c9 (zs.take j) W HT (by omega) (by rw [(dls_part (zs := zs) (k := j) (by rw [HN.out]; omega)).1]; exact rd_take ((HR.out.below hW).more hW.size) _)
          unfold RowD at this
          rw [HT] at this
          exact this)
        have HD := Lib.hid (show dls (zs.take j) ++ news = dls (cut zs j) by unfold cut; rw [dls_app, hnw])
        have hic : j ≤ c9 := by omega
        have hjc : j + 1 ≤ c9 := by omega
        have q0 : (0 : Int) ≤ (j : Int) + 1 := by omega
        have q1 : (j : Int) + 1 ≤ n0 := by omega
        have q2 : (n0 : Int) ≤ c9 := by omega
        have q3 : IntKind.i64.wrap ((j : Int) + 1) = (j : Int) + 1 := IntWalk.i64_in _ (by omega)
        have hjm : j + m = n0 - 1 := by omega
        clear HT hnw hA2 hlen
        refine wp_region_noPanic ?_
        refine wp_region_held_drew (S := (fun w' => Below w3.heap.size w3 w')) (by kernel_rfl) ?_ (fun hH => ?_)
        · exact (Below.refl _ _).drew
        refine wpAnyH_take (i := 0) (oi := { dst := some 26, op := _, type := _, pos := _, after := _, guard := _ }) (v := ?_) rfl (by kernel_rfl) (by kernel_rfl) (by kernel_rfl) (fun _ _ _ h => h) (Or.inl ⟨by rfl, ?_⟩) hH ?_
        rotate_left 1
        · intro W hSw
          (try dsimp only at hSw)
          go_simp
          (try with_reducible rfl)
        try simp only [Act.put, List.setIfInBounds_toArray, List.set_cons_zero, List.set_cons_succ]
        refine wpAnyH_take (i := 1) (oi := { dst := some 27, op := _, type := _, pos := _, after := _, guard := _ }) (v := ?_) rfl (by kernel_rfl) (by kernel_rfl) (by kernel_rfl) (fun _ _ _ h => h) (Or.inl ⟨by rfl, ?_⟩) hH ?_
        rotate_left 1
        · intro W hSw
          (try dsimp only at hSw)
          go_simp
          (try with_reducible rfl)
        try simp only [Act.put, List.setIfInBounds_toArray, List.set_cons_zero, List.set_cons_succ]
        refine wpAnyH_take (i := 2) (oi := { dst := some 28, op := _, type := _, pos := _, after := _, guard := _ }) (v := ?_) rfl (by kernel_rfl) (by kernel_rfl) (by kernel_rfl) (fun _ _ _ h => h) (Or.inl ⟨by rfl, ?_⟩) hH ?_
        rotate_left 1
        · intro W hSw
          (try dsimp only at hSw)
          go_simp
          (try with_reducible rfl)
        try simp only [Act.put, List.setIfInBounds_toArray, List.set_cons_zero, List.set_cons_succ]
        refine wpAnyH_take (i := 4) (oi := { dst := some 30, op := _, type := _, pos := _, after := _, guard := _ }) (v := ?_) rfl (by kernel_rfl) (by kernel_rfl) (by kernel_rfl) (fun _ _ _ h => h) (Or.inl ⟨by rfl, ?_⟩) hH ?_
        rotate_left 1
        · intro W hSw
          (try dsimp only at hSw)
          go_simp
          (try with_reducible rfl)
        try simp only [Act.put, List.setIfInBounds_toArray, List.set_cons_zero, List.set_cons_succ]
        refine wpAnyH_take (i := 5) (oi := { dst := some 31, op := _, type := _, pos := _, after := _, guard := _ }) (v := ?_) rfl (by kernel_rfl) (by kernel_rfl) (by kernel_rfl) (fun _ _ _ h => h) (Or.inl ⟨by rfl, ?_⟩) hH ?_
        rotate_left 1
        · intro W hSw
          (try dsimp only at hSw)
          go_simp
          (try with_reducible rfl)
        try simp only [Act.put, List.setIfInBounds_toArray, List.set_cons_zero, List.set_cons_succ]
        refine wpAnyH_take (i := 6) (oi := { dst := some 32, op := _, type := _, pos := _, after := _, guard := _ }) (v := ?_) rfl (by kernel_rfl) (by kernel_rfl) (by kernel_rfl) (fun _ _ _ h => h) (Or.inl ⟨by rfl, ?_⟩) hH ?_
        rotate_left 1
        · intro W hSw
          (try dsimp only at hSw)
          go_simp
          (try with_reducible rfl)
        try simp only [Act.put, List.setIfInBounds_toArray, List.set_cons_zero, List.set_cons_succ]
        refine wpAnyH_take (i := 7) (oi := { dst := some 33, op := _, type := _, pos := _, after := _, guard := _ }) (v := ?_) rfl (by kernel_rfl) (by kernel_rfl) (by kernel_rfl) (fun _ _ _ h => h) (Or.inl ⟨by rfl, ?_⟩) hH ?_
        rotate_left 1
        · intro W hSw
          (try dsimp only at hSw)
          go_simp
          (try with_reducible rfl)
        try simp only [Act.put, List.setIfInBounds_toArray, List.set_cons_zero, List.set_cons_succ]
        refine wpAnyH_ready (rs := [3]) (by kernel_rfl) (by simp) (AllReadyH.cons rfl (fun K hK => ?_) AllReadyH.nil)
        go_simp
        go_at_call 60; ((with_reducible refine (CP.out _ (B3.out.trans (hH.mono B3.out.size))).mono ?_); rintro e r1 ⟨g, c, rfl, ho, hb1⟩); go_wp2_with fail
        refine hK.out _ _ ?_ (fun hG => ?_)
        · exact hH.trans (hb1.mono hH.size)
        replace hH := hG
        clear hK K hG
        try simp only [Act.put, List.setIfInBounds_toArray, List.set_cons_zero, List.set_cons_succ]
        refine wpAnyH_ready (rs := [8]) (by kernel_rfl) (by simp) (AllReadyH.cons rfl (fun K hK => ?_) AllReadyH.nil)
        (obtain ⟨g9, c10, u9, hrun, ho9, hg9⟩ := append_dev r1 w.heap.size g j c _ (Rw.owns_base ho (Nat.le_trans (Nat.le_trans B3.out.size (show w3.heap.size ≤ _ from Nat.le_refl _)) (ho.lt g rfl).1)) A1 m (c9 - (j + 1)) news s1.out (HSRC.out r1 (B3.out.trans (hH.mono B3.out.size))) s2.out (by omega) (B3.out.trans (hH.mono B3.out.size)).size); refine step_append_run rfl (.tmp 29) (.tmp 33) rfl rfl _ _ _ (by simp [Act.eval, Act.put]) (by simp [Act.eval, Act.put]) hrun ?_; refine (show K (Act.put _ (some 34) _) _ from ?_)
        refine hK.out _ _ ?_ (fun hG => ?_)
        · exact Below.grown hH hg9 hH.size (fun q hq => by cases hq; exact Nat.le_trans (show w3.heap.size ≤ _ from Nat.le_refl _) (ho.lt g rfl).1)
        replace hH := hG
        clear hK K hG
        try simp only [Act.put, List.setIfInBounds_toArray, List.set_cons_zero, List.set_cons_succ]
        refine wpAnyH_take (i := 9) (oi := { dst := some 4, op := _, type := _, pos := _, after := _, guard := _ }) (v := ?_) rfl (by kernel_rfl) (by kernel_rfl) (by kernel_rfl) (fun _ _ _ h => h) (Or.inl ⟨by rfl, ?_⟩) hH ?_
        rotate_left 1
        · intro W hSw
          (try dsimp only at hSw)
          go_simp
          (try with_reducible rfl)
        try simp only [Act.put, List.setIfInBounds_toArray, List.set_cons_zero, List.set_cons_succ]
        refine wpAnyH_take (i := 10) (oi := { dst := some 5, op := _, type := _, pos := _, after := _, guard := _ }) (v := ?_) rfl (by kernel_rfl) (by kernel_rfl) (by kernel_rfl) (fun _ _ _ h => h) (Or.inl ⟨by rfl, ?_⟩) hH ?_
        rotate_left 1
        · intro W hSw
          (try dsimp only at hSw)
          go_simp
          (try with_reducible rfl)
        try simp only [Act.put, List.setIfInBounds_toArray, List.set_cons_zero, List.set_cons_succ]
        refine wpAnyH_done (by kernel_rfl) ?_ _
        refine NoPanic.normal ?_
        have B9 := Lib.hid (B3.out.trans (hH.mono B3.out.size))
        rw [HD.out] at ho9
        clear hH hg9 hrun ho
        go_wp2_with fail
        go_returns
        rw [HC.out, HG2.out]
        exact ⟨g9, c10, by rw [HZ.out, ← hjm]; rfl, by rw [HZ.out, ← hjm]; exact ho9, B9.out⟩
      · have HG2 := Lib.hid (show rmG zs s = false by rw [HG.out, decide_eq_false hl0]; simp)
        have hlp : (0 : Int) < (L : Int) := by omega
        go_enter Try.func30, Try.ntmps30
        go_wp2_with fail
        refine CF.out.mono ?_
        rintro e w1 ⟨rfl, hb1⟩
        have B1 := Lib.hid hb1
        clear hb1 CF
        go_wp2_with fail
        refine (CR.out _ B1.out).mono ?_
        rintro e w2 ⟨rfl, hb2⟩
        have B2 := Lib.hid (B1.out.trans (hb2.mono B1.out.size))
        clear hb2 CR B1
        go_wp2_with fail
        refine (CO.out _ B2.out).mono ?_
        rintro e w3 ⟨gg, cc, rfl, ho3, hb3⟩
        have B3 := Lib.hid (B2.out.trans (hb3.mono B2.out.size))
        rw [HL.out]
        clear hb3 ho3 CO B2
        go_wp2_with fail
        refine (CC.out _ B3.out).mono ?_
        rintro e w9 ⟨g, c, rfl, ho, hb9⟩
        have B9 := Lib.hid (B3.out.trans (hb9.mono B3.out.size))
        have RO := Lib.hid (Rw.owns_base ho (Nat.le_trans B3.out.size (ho.lt g rfl).1))
        clear ho hb9
        go_wp2_with fail
        go_returns
        have e1 : rmG zs s = false := HG2.out
        rw [rmL_no e1, e1]
        exact ⟨g, c, rfl, RO.out, B9.out⟩

end Go.Proofs.Ytobdidfoamfnoaa.Rk
