/- A device that was added: found, removed again; in lists. -/
import Derived.Test.YtgcheplneolonabZ4
import Derived.Test.YtgcheplneolonabLm6
import Derived.Test.YtgcheplneolonabRk
namespace Go.Proofs.Ytgcheplneolonab.Fr6
open Go.RowKit Go.ChangeShapes Go.WideShapes Go.WideElems Go.Deep Go.Proofs.Ytgcheplneolonab.Mem Go.Proofs.Ytgcheplneolonab.Rw Go.Proofs.Ytgcheplneolonab.Pw Go.Proofs.Ytgcheplneolonab.P2 Go.Proofs.Ytgcheplneolonab.Dd Go.Proofs.Ytgcheplneolonab.Dv Go.Proofs.Ytgcheplneolonab.Dl Go.Proofs.Ytgcheplneolonab.Ds Go.Proofs.Ytgcheplneolonab.Fd Go.Proofs.Ytgcheplneolonab.Ch Go.Proofs.Ytgcheplneolonab.Hn Go.Proofs.Ytgcheplneolonab.Po
set_option linter.unusedVariables false
set_option linter.unusedSimpArgs false
open Go.Proofs.Ytgcheplneolonab.Ho Go.Proofs.Ytgcheplneolonab.Ig Go.Proofs.Ytgcheplneolonab.Rz Go.Proofs.Ytgcheplneolonab.Pu Go.Proofs.Ytgcheplneolonab.Ol Go.Proofs.Ytgcheplneolonab.Rm Go.Proofs.Ytgcheplneolonab.Rk Go.Proofs.Ytgcheplneolonab.Adn Go.Proofs.Ytgcheplneolonab.Ms6 Go.Proofs.Ytgcheplneolonab.Lm6

theorem dB_name {d : D} (h : dB d = true) : (d.nm.toList == []) = false := by
  unfold dB devB at h
  rw [Bool.and_eq_true] at h
  exact name_full h.1
/-- A device does not hang on itself. -/
theorem dB_line {d : D} (h : dB d = true) : sb d.ln d.nm = false := by
  have hn := dB_name h
  unfold dB devB at h
  rw [Bool.and_eq_true] at h
  have h2 := h.2
  by_cases k1 : d.kd = 1
  · rw [if_pos k1] at h2
    unfold pumpB at h2
    rw [Bool.and_eq_true, Bool.and_eq_true] at h2
    have e : d.ln = ⟨#[]⟩ := sb_iff.1 h2.2.1
    cases c : sb d.ln d.nm
    · rfl
    · have e2 := sb_iff.1 c
      rw [← e2, e] at hn
      simp [ByteArray.toList_eq] at hn
  · rw [if_neg k1] at h2
    have lb : ∀ {n l : ByteArray}, lineB n l = true → sb l n = false := fun {n l} h => by
      unfold lineB at h
      rw [Bool.and_eq_true] at h
      simpa using h.2
    by_cases k2 : d.kd = 2
    · rw [if_pos k2] at h2
      unfold nozB at h2
      rw [Bool.and_eq_true] at h2
      exact lb h2.1
    · rw [if_neg k2] at h2
      by_cases k3 : d.kd = 3
      · rw [if_pos k3] at h2
        unfold lampB at h2
        rw [Bool.and_eq_true] at h2
        exact lb h2.1
      · rw [if_neg k3] at h2; cases h2
theorem cut_perm {ys : List D} {p : Nat} {d : D} (hd : ys[p]? = some d) : ys.Perm (d :: cut ys p) := by
  obtain ⟨hp, e⟩ := List.getElem?_eq_some_iff.1 hd
  unfold cut
  have : ys = ys.take p ++ d :: ys.drop (p + 1) := by
    rw [← e, List.getElem_cons_drop, List.take_append_drop]
  refine (List.Perm.of_eq this).trans ?_
  exact List.perm_middle
theorem cut_ord {ys : List D} (h : Ord ys) (p : Nat) : Ord (cut ys p) := by
  unfold cut
  have e : ys = ys.take (p + 1) ++ ys.drop (p + 1) := (List.take_append_drop _ _).symm
  refine List.Pairwise.sublist ?_ h
  conv => rhs; rw [e]
  refine List.Sublist.append_right ?_ _
  rw [show ys.take p = (ys.take (p + 1)).take p by rw [List.take_take]; congr 1; omega]
  exact List.take_sublist _ _
/-- What adding a device makes. -/
theorem added {zs : List D} {d : D} (h : adG zs d = true) : ∃ p : Nat, p < (insD zs d).length ∧ (insD zs d)[p]? = some d ∧ Rig (insD zs d) ∧ fd (insD zs d) d.nm = (p : Int) ∧ rmG (insD zs d) d.nm = true ∧ rmL (insD zs d) d.nm = zs := by
  have h2 := h
  unfold adG at h2
  rw [Bool.and_eq_true, Bool.and_eq_true, Bool.and_eq_true, Bool.and_eq_true] at h2
  obtain ⟨hz, hd, hf, _, _⟩ := h2
  have hz := rig_of hz
  have hn := fd_none.1 (of_decide_eq_true hf)
  have hr : Rig (insD zs d) := by have := ad_rig (d := d) hz; rw [adL_yes h] at this; exact this
  obtain ⟨p, hp, e⟩ := List.getElem_of_mem (ins_mem.2 (Or.inl rfl) : d ∈ insD zs d)
  have hg : (insD zs d)[p]? = some d := by rw [List.getElem?_eq_getElem hp, e]
  have hfd := fd_at hr hg
  have no : ∀ x ∈ insD zs d, tB (insD zs d) d.nm x = false := fun x hx => by
    unfold tB
    rw [rig_yes hr, dB_name hd]
    show sb x.ln d.nm = false
    rcases ins_mem.1 hx with rfl | hx
    · exact dB_line hd
    · cases c : sb x.ln d.nm
      · rfl
      · exfalso
        have hl := sb_iff.1 c
        obtain ⟨k, hk, ek⟩ := List.getElem_of_mem hx
        rcases kinds hz (show zs[k]? = some x by rw [List.getElem?_eq_getElem hk, ek]) with ⟨_, k1⟩ | ⟨_, _, q, y, hfq, hy, _⟩
        · rw [hl] at k1
          have := dB_name hd
          rw [k1] at this; cases this
        · have := hn y (List.mem_of_getElem? hy)
          rw [fd_name hfq hy, hl, sb_iff.2 rfl] at this; cases this
  have hol : (olV (insD zs d) d.nm (insD zs d)).length = 0 := by
    unfold olV
    rw [List.filter_eq_nil_iff.2 (fun x hx => by rw [no x hx]; decide)]; rfl
  have hrg : rmG (insD zs d) d.nm = true := by
    unfold rmG
    rw [rig_yes hr, hfd, hol, decide_eq_true (show (0 : Int) ≤ (p : Int) by omega)]; rfl
  refine ⟨p, hp, hg, hr, hfd, hrg, ?_⟩
  unfold rmL
  rw [if_pos hrg, hfd, Int.toNat_natCast]
  refine ord_eq (cut_ord (rig_set.1 hr).2.1 p) (rig_set.1 hz).2.1 ?_
  exact ((cut_perm hg).symm.trans (ins_perm zs d)).cons_inv
/-- Whether a device of a rig may be removed. -/
theorem may_go {ys : List D} (H : Rig ys) {k : Nat} {d : D} (hd : ys[k]? = some d) : rmG ys d.nm = decide ((olV ys d.nm ys).length = 0) := by
  unfold rmG
  rw [rig_yes H, fd_at H hd, decide_eq_true (show (0 : Int) ≤ (k : Int) by omega)]; rfl
end Go.Proofs.Ytgcheplneolonab.Fr6
