/- OnLine of the program and of the model. -/
import Derived.Test.YtdkihpnckkfneaaGreatSl
import Derived.Test.YtdkihpnckkfneaaGreatEqs
import Derived.Test.YtdkihpnckkfneaaGreatM11
import Derived.Maps.AppendAt
namespace Go.Proofs.YtdkihpnckkfneaaGreat.Ol
open Go.RowKit Go.ChangeShapes Go.WideShapes Go.WideElems Go.Deep Go.Proofs.YtdkihpnckkfneaaGreat.Mem Go.Proofs.YtdkihpnckkfneaaGreat.Rw Go.Proofs.YtdkihpnckkfneaaGreat.Pw Go.Proofs.YtdkihpnckkfneaaGreat.P2 Go.Proofs.YtdkihpnckkfneaaGreat.Dd Go.Proofs.YtdkihpnckkfneaaGreat.Dv Go.Proofs.YtdkihpnckkfneaaGreat.Dl Go.Proofs.YtdkihpnckkfneaaGreat.Ds Go.Proofs.YtdkihpnckkfneaaGreat.Fd Go.Proofs.YtdkihpnckkfneaaGreat.Ch Go.Proofs.YtdkihpnckkfneaaGreat.Hn Go.Proofs.YtdkihpnckkfneaaGreat.Po
set_option linter.unusedVariables false
set_option linter.unusedSimpArgs false
open Go.Proofs.YtdkihpnckkfneaaGreat.Ho Go.Proofs.YtdkihpnckkfneaaGreat.Pa Go.Proofs.YtdkihpnckkfneaaGreat.Di Go.Proofs.YtdkihpnckkfneaaGreat.Ig Go.Proofs.YtdkihpnckkfneaaGreat.Ir Go.Proofs.YtdkihpnckkfneaaGreat.Iq Go.Proofs.YtdkihpnckkfneaaGreat.IsName Go.Proofs.YtdkihpnckkfneaaGreat.Pu Go.Proofs.YtdkihpnckkfneaaGreat.Sl
open Go.Proofs.YtdkihpnckkfneaaGreat.Strs (infoStr)
open Go.Proofs.YtdkihpnckkfneaaGreat.Rw (owns_below owns_grown)

/-- Whether a device of a rig is on a line. -/
noncomputable def tB (zs : List D) (s : ByteArray) (d : D) : Bool := rig zs && (!(s.toList == []) && sb d.ln s)
/-- The names on a line. -/
noncomputable def olV (zs : List D) (s : ByteArray) (l : List D) : List ByteArray := (l.filter (tB zs s)).map D.nm
theorem olV_yes {zs : List D} {s : ByteArray} {k : Nat} {d : D} (hd : zs[k]? = some d) (h : tB zs s d = true) : olV zs s (zs.take (k + 1)) = olV zs s (zs.take k) ++ [d.nm] := by
  obtain ⟨hk, rfl⟩ := List.getElem?_eq_some_iff.1 hd
  unfold olV; rw [List.take_succ_eq_append_getElem hk, List.filter_append]; simp [h]
theorem olV_no {zs : List D} {s : ByteArray} {k : Nat} {d : D} (hd : zs[k]? = some d) (h : tB zs s d = false) : olV zs s (zs.take (k + 1)) = olV zs s (zs.take k) := by
  obtain ⟨hk, rfl⟩ := List.getElem?_eq_some_iff.1 hd
  unfold olV; rw [List.take_succ_eq_append_getElem hk, List.filter_append]; simp [h]
theorem olV_len (zs : List D) (s : ByteArray) (l : List D) : (olV zs s l).length ≤ l.length := by
  unfold olV; rw [List.length_map]; exact List.length_filter_le _ _
theorem olV_none {zs : List D} (s : ByteArray) (h : rig zs = false) (l : List D) : olV zs s l = [] := by
  have : l.filter (tB zs s) = [] := List.filter_eq_nil_iff.2 fun d _ => by unfold tB; rw [h]; simp
  unfold olV; rw [this]; rfl
/-- A row of the call's own that holds these names. -/
def RowS (w : World) (ns : List ByteArray) (e : Ending) (w' : World) : Prop :=
  ∃ g c, e = .returned (.slice (some ⟨g, 0, none⟩) ns.length c) ∧ w'.ownsRow w.heap.size 9 1 (.slice (some ⟨g, 0, none⟩) ns.length c) ns.length (Strs.strs ns) ∧ Below w.heap.size w w'
theorem own_mk {w : World} {base n : Nat} {v : Value} {xs : List Value} (h : w.ownsRow base 9 1 v (n + 1) xs) : ∃ g c, v = .slice (some ⟨g, 0, none⟩) (n + 1) c := by
  rcases h.2 with ⟨_, e⟩ | ⟨g, cap, cur, e, _⟩
  · omega
  · exact ⟨g, cap, e⟩
theorem own_base {w : World} {base n : Nat} {v : Value} {xs : List Value} (h : w.ownsRow base 9 1 v n xs) : ∀ k, v.ownBlock = some k → base ≤ k := fun k e => (h.lt k e).1
theorem strs_snoc (zs : List ByteArray) (z : ByteArray) : Strs.strs zs ++ [.string z] = Strs.strs (zs ++ [z]) := by simp [Strs.strs]
/-- A row of texts is no map, and no row of parts. -/
theorem ne_map {w : World} {base n b : Nat} {v : Value} {xs : List Value} {M : List (ByteArray × Nat)} (h : w.ownsRow base 9 1 v n xs) (k : Ls w b M) : v.ownBlock ≠ some b := by
  intro hb
  rcases h.2 with ⟨e1, _⟩ | ⟨g', cap, cur, e1, _, e3, _⟩
  · subst e1; cases hb
  · subst e1
    have hb : g' = b := Option.some.inj hb
    subst hb
    rw [show w.heap[g']? = _ from k] at e3
    cases e3
theorem ne_parts {w : World} {base base2 n n2 g c2 : Nat} {v : Value} {xs ys : List Value} (h : w.ownsRow base 9 1 v n xs) (k : w.ownsRow base2 111 1 (.slice (some ⟨g, 0, none⟩) n2 c2) n2 ys) : v.ownBlock ≠ some g := by
  intro hb
  rcases h.2 with ⟨e1, _⟩ | ⟨g', cap, cur, e1, _, e3, _⟩
  · subst e1; cases hb
  · subst e1
    have hb : g' = g := Option.some.inj hb
    subst hb
    rcases k.2 with ⟨f1, _⟩ | ⟨g2, cap2, cur2, f1, _, f3, _⟩
    · cases f1
    · injection f1 with f1
      injection f1 with f1
      injection f1 with f1
      subst f1
      rw [e3] at f3
      injection f3 with f3
      injection f3 with _ f3
      exact absurd f3 (by decide)

/-- The line of what hangs is the one that is asked for just if their channels are one. -/
theorem line_eq {zs : List D} (H : Rig zs) {M : List (ByteArray × Nat)} (hM : Made zs [] M) {W : World} (hG : Gd W M) (s : ByteArray) {k : Nat} {d : D} (hd : zs[k]? = some d) (hk : d.kd = 2 ∨ d.kd = 3) :
    tB zs s d = ((some ((lk M d.ln).getD 0) : Option Nat) == lk M s) := by
  unfold tB
  rw [rig_yes H, Bool.true_and]
  rcases kinds H hd with ⟨e, _⟩ | ⟨_, hl, _⟩
  · omega
  · cases hc : lk M d.ln with
    | none => exact absurd hc (hM.all d (mem_at hd) hk)
    | some c =>
      rw [Option.getD_some]
      cases hs : sb d.ln s
      · rw [Bool.and_false]
        cases hm : lk M s with
        | none => rfl
        | some c2 =>
          by_cases e : c = c2
          · subst e
            have := hG.2 _ _ _ hc hm
            rw [this] at hs
            rw [sb_self] at hs; cases hs
          · simp [e]
      · have e : d.ln = s := toList_inj (by unfold sb at hs; simpa using hs)
        rw [← e, hl, hc]; simp

end Go.Proofs.YtdkihpnckkfneaaGreat.Ol
namespace Go.Proofs.YtdkihpnckkfneaaGreat.Rk
open Go.RowKit Go.ChangeShapes Go.WideShapes Go.WideElems Go.Deep Go.Proofs.YtdkihpnckkfneaaGreat.Mem Go.Proofs.YtdkihpnckkfneaaGreat.Rw Go.Proofs.YtdkihpnckkfneaaGreat.Pw Go.Proofs.YtdkihpnckkfneaaGreat.P2 Go.Proofs.YtdkihpnckkfneaaGreat.Dd Go.Proofs.YtdkihpnckkfneaaGreat.Dv Go.Proofs.YtdkihpnckkfneaaGreat.Dl Go.Proofs.YtdkihpnckkfneaaGreat.Ds Go.Proofs.YtdkihpnckkfneaaGreat.Fd Go.Proofs.YtdkihpnckkfneaaGreat.Ch Go.Proofs.YtdkihpnckkfneaaGreat.Hn Go.Proofs.YtdkihpnckkfneaaGreat.Po
set_option linter.unusedVariables false
set_option linter.unusedSimpArgs false
open Go.Proofs.YtdkihpnckkfneaaGreat.Cm Go.Proofs.YtdkihpnckkfneaaGreat.Pl Go.Proofs.YtdkihpnckkfneaaGreat.Str Go.Proofs.YtdkihpnckkfneaaGreat.Hd Go.Proofs.YtdkihpnckkfneaaGreat.Jt Go.Proofs.YtdkihpnckkfneaaGreat.Ho Go.Proofs.YtdkihpnckkfneaaGreat.Pa Go.Proofs.YtdkihpnckkfneaaGreat.Di Go.Proofs.YtdkihpnckkfneaaGreat.Ig Go.Proofs.YtdkihpnckkfneaaGreat.Ir Go.Proofs.YtdkihpnckkfneaaGreat.Iq Go.Proofs.YtdkihpnckkfneaaGreat.IsName Go.Proofs.YtdkihpnckkfneaaGreat.Mo Go.Proofs.YtdkihpnckkfneaaGreat.Sg Go.Proofs.YtdkihpnckkfneaaGreat.Rm Go.Proofs.YtdkihpnckkfneaaGreat.Ol
open Go.Proofs.YtdkihpnckkfneaaGreat.Rw (owns_below owns_grown)

/-- Whether a device may be taken out; the list behind it. -/
noncomputable def rmG (zs : List D) (s : ByteArray) : Bool := rig zs && (decide (0 ≤ fd zs s) && decide ((olV zs s zs).length = 0))
noncomputable def rmL (zs : List D) (s : ByteArray) : List D := if rmG zs s = true then cut zs (fd zs s).toNat else zs
theorem rmL_no {zs : List D} {s : ByteArray} (h : rmG zs s = false) : rmL zs s = zs := by unfold rmL; rw [h]; rfl
theorem fd_lt {zs : List D} {s : ByteArray} (h : 0 ≤ fd zs s) : (fd zs s).toNat < zs.length := by
  rcases fd_cases zs s with e | ⟨j, e, h1, _⟩
  · rw [e] at h; exact absurd h (by decide)
  · rw [e]; exact h1
theorem rmL_len (zs : List D) (s : ByteArray) : (rmL zs s).length ≤ zs.length := by
  cases h : rmG zs s
  · rw [rmL_no h]; exact Nat.le_refl _
  · unfold rmL; rw [if_pos h]
    have h2 := h
    unfold rmG at h2
    rw [Bool.and_eq_true, Bool.and_eq_true] at h2
    rw [cut_len (fd_lt (of_decide_eq_true h2.2.1))]; omega

theorem append_dev (w : World) (base g n c : Nat) (xs : List Value) (hown : w.ownsRow base 36 8 (.slice (some ⟨g, 0, none⟩) n c) n xs) (a : Addr) (m c2 : Nat) (news : List Value) (hl : news.length = m * 8) (hnews : ∀ j u, news[j]? = some u → w.cell? (a.add j) = some u) (h1 : ∀ u ∈ news, u.oneCell' = true) (hs : n + m ≤ 1048576) (hbase : base ≤ w.heap.size) :
    ∃ (g' c' : Nat) (w' : World), (Builtin.append_ #[24, 24] 24 #[.slice (some ⟨g, 0, none⟩) n c, .slice (some a) m c2]).run Tryz.prog w = .ok (.slice (some ⟨g', 0, none⟩) (n + m) c') w' ∧ w'.ownsRow base 36 8 (.slice (some ⟨g', 0, none⟩) (n + m) c') (n + m) (xs ++ news) ∧ w.grownBy w' (some g) := by
  obtain ⟨i0, hi, hz0, hz1, hz2⟩ := info_of infoD
  obtain ⟨v', w', hr, h2, h3, h4, _⟩ := run_append_own_at (P := Tryz.prog) w base 24 24 36 i0 (.agg #[.string ⟨#[]⟩, .int .i64 0, .string ⟨#[]⟩, .int .i64 0, .int .i64 0, .int .i64 0, .int .i64 0, .int .i64 0]) 8 80 Tryz.underlying24 hi hz0 hz1 hz2 rfl (by decide) _ n xs hown a m c2 news hl hnews h1 (by unfold maxLen; omega) (by omega) hbase
  have hg : ∃ g c, v' = .slice (some ⟨g, 0, none⟩) (n + m) c := by
    rcases h2.2 with ⟨e1, _⟩ | ⟨g, cap, cur, e1, _⟩
    · exact absurd (h4.1 e1).1 (by intro h; cases h)
    · exact ⟨g, cap, e1⟩
  obtain ⟨g', c', rfl⟩ := hg
  exact ⟨g', c', w', hr, h2, h3⟩

theorem step_append_run {ops : Array Oper} {o : Oper} {a : Act} {w w' : World} {K : Act → World → Prop} {Q : Exit → Act → World → Prop} {E : Prop}
    (hg : o.guard = none) (s x : Operand) (hop : o.op = Op.call { callee := Callee.builtin Builtin.append, args := #[s, x], argTypes := #[24, 24] }) (hty : o.type = 24)
    (v v2 v' : Value) (hs : a.eval s = v) (hx : a.eval x = v2) (hrun : (Builtin.append_ #[24, 24] 24 #[v, v2]).run Tryz.prog w = .ok v' w') (hK : K (a.put o.dst v') w') :
    if Region.wanted o (yielded ops a.tmps) = true then Oper.wp Tryz.prog o a w K Q else E := by
  have hw : Region.wanted o (yielded ops a.tmps) = true := by simp [Region.wanted, hg]
  rw [if_pos hw]
  unfold Oper.wp
  simp [execOp, hop, hty, resolve, invoke, builtin, hs, hx, hrun, Result.andThen]
  exact hK

end Go.Proofs.YtdkihpnckkfneaaGreat.Rk
