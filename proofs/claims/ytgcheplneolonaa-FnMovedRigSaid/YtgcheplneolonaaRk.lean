/- RemoveDevice of the program and of the model. -/
import Derived.Test.YtgcheplneolonaaRm
import Derived.Test.YtgcheplneolonaaOl
import Derived.Maps.AppendAt
namespace Go.Proofs.Ytgcheplneolonaa.Rk
open Go.RowKit Go.ChangeShapes Go.WideShapes Go.WideElems Go.Deep Go.Proofs.Ytgcheplneolonaa.Mem Go.Proofs.Ytgcheplneolonaa.Rw Go.Proofs.Ytgcheplneolonaa.Pw Go.Proofs.Ytgcheplneolonaa.P2 Go.Proofs.Ytgcheplneolonaa.Dd Go.Proofs.Ytgcheplneolonaa.Dv Go.Proofs.Ytgcheplneolonaa.Dl Go.Proofs.Ytgcheplneolonaa.Ds Go.Proofs.Ytgcheplneolonaa.Fd Go.Proofs.Ytgcheplneolonaa.Ch Go.Proofs.Ytgcheplneolonaa.Hn Go.Proofs.Ytgcheplneolonaa.Po
set_option linter.unusedVariables false
set_option linter.unusedSimpArgs false
open Go.Proofs.Ytgcheplneolonaa.Cm Go.Proofs.Ytgcheplneolonaa.Pl Go.Proofs.Ytgcheplneolonaa.Str Go.Proofs.Ytgcheplneolonaa.Hd Go.Proofs.Ytgcheplneolonaa.Jt Go.Proofs.Ytgcheplneolonaa.Ho Go.Proofs.Ytgcheplneolonaa.Pa Go.Proofs.Ytgcheplneolonaa.Di Go.Proofs.Ytgcheplneolonaa.Ig Go.Proofs.Ytgcheplneolonaa.Ir Go.Proofs.Ytgcheplneolonaa.Iq Go.Proofs.Ytgcheplneolonaa.IsName Go.Proofs.Ytgcheplneolonaa.Mo Go.Proofs.Ytgcheplneolonaa.Sg Go.Proofs.Ytgcheplneolonaa.Rm Go.Proofs.Ytgcheplneolonaa.Ol
open Go.Proofs.Ytgcheplneolonaa.Rw (owns_below owns_grown)

/-- Whether a device may be taken out; the list behind it. -/
noncomputable def rmG (zs : List D) (s : ByteArray) : Bool := rig zs && (decide (0 ≤ fd zs s) && decide ((olV zs s zs).length = 0))
noncomputable def rmL (zs : List D) (s : ByteArray) : List D := if rmG zs s = true then cut zs (fd zs s).toNat else zs
theorem rmL_no {zs : List D} {s : ByteArray} (h : rmG zs s = false) : rmL zs s = zs := by unfold rmL; rw [h]; rfl
theorem fd_lt {zs : List D} {s : ByteArray} (h : 0 ≤ fd zs s) : (fd zs s).toNat < zs.length := by
  rcases fd_cases zs s with e | ⟨j, e, h1, _⟩
  · rw [e] at h; exact absurd h (by decide)
  · rw [e]; exact h1
theorem rmL_len (zs : List D) (s : ByteArray) : (rmL zs s).length ≤ zs.length := by
  cases h : rmG zs s
  · rw [rmL_no h]; exact Nat.le_refl _
  · unfold rmL; rw [if_pos h]
    have h2 := h
    unfold rmG at h2
    rw [Bool.and_eq_true, Bool.and_eq_true] at h2
    rw [cut_len (fd_lt (of_decide_eq_true h2.2.1))]; omega

theorem append_dev (w : World) (base g n c : Nat) (xs : List Value) (hown : w.ownsRow base 31 8 (.slice (some ⟨g, 0, none⟩) n c) n xs) (a : Addr) (m c2 : Nat) (news : List Value) (hl : news.length = m * 8) (hnews : ∀ j u, news[j]? = some u → w.cell? (a.add j) = some u) (h1 : ∀ u ∈ news, u.oneCell' = true) (hs : n + m ≤ 1048576) (hbase : base ≤ w.heap.size) :
    ∃ (g' c' : Nat) (w' : World), (Builtin.append_ #[24, 24] 24 #[.slice (some ⟨g, 0, none⟩) n c, .slice (some a) m c2]).run Try.prog w = .ok (.slice (some ⟨g', 0, none⟩) (n + m) c') w' ∧ w'.ownsRow base 31 8 (.slice (some ⟨g', 0, none⟩) (n + m) c') (n + m) (xs ++ news) ∧ w.grownBy w' (some g) := by
  obtain ⟨i0, hi, hz0, hz1, hz2⟩ := info_of infoD
  obtain ⟨v', w', hr, h2, h3, h4, _⟩ := run_append_own_at (P := Try.prog) w base 24 24 31 i0 (.agg #[.string ⟨#[]⟩, .int .i64 0, .string ⟨#[]⟩, .int .i64 0, .int .i64 0, .int .i64 0, .int .i64 0, .int .i64 0]) 8 80 Try.underlying24 hi hz0 hz1 hz2 rfl (by decide) _ n xs hown a m c2 news hl hnews h1 (by unfold maxLen; omega) (by omega) hbase
  have hg : ∃ g c, v' = .slice (some ⟨g, 0, none⟩) (n + m) c := by
    rcases h2.2 with ⟨e1, _⟩ | ⟨g, cap, cur, e1, _⟩
    · exact absurd (h4.1 e1).1 (by intro h; cases h)
    · exact ⟨g, cap, e1⟩
  obtain ⟨g', c', rfl⟩ := hg
  exact ⟨g', c', w', hr, h2, h3⟩

theorem step_append_run {ops : Array Oper} {o : Oper} {a : Act} {w w' : World} {K : Act → World → Prop} {Q : Exit → Act → World → Prop} {E : Prop}
    (hg : o.guard = none) (s x : Operand) (hop : o.op = Op.call { callee := Callee.builtin Builtin.append, args := #[s, x], argTypes := #[24, 24] }) (hty : o.type = 24)
    (v v2 v' : Value) (hs : a.eval s = v) (hx : a.eval x = v2) (hrun : (Builtin.append_ #[24, 24] 24 #[v, v2]).run Try.prog w = .ok v' w') (hK : K (a.put o.dst v') w') :
    if Region.wanted o (yielded ops a.tmps) = true then Oper.wp Try.prog o a w K Q else E := by
  have hw : Region.wanted o (yielded ops a.tmps) = true := by simp [Region.wanted, hg]
  rw [if_pos hw]
  unfold Oper.wp
  simp [execOp, hop, hty, resolve, invoke, builtin, hs, hx, hrun, Result.andThen]
  exact hK

end Go.Proofs.Ytgcheplneolonaa.Rk
