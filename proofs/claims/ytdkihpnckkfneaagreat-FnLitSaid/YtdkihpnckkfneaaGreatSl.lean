/- SameLine of the program and of the model. -/
import Derived.Test.YtdkihpnckkfneaaGreatM11
namespace Go.Proofs.YtdkihpnckkfneaaGreat.Sl
open Go.RowKit Go.ChangeShapes Go.WideShapes Go.WideElems Go.Deep Go.Proofs.YtdkihpnckkfneaaGreat.Mem Go.Proofs.YtdkihpnckkfneaaGreat.Rw Go.Proofs.YtdkihpnckkfneaaGreat.Pw Go.Proofs.YtdkihpnckkfneaaGreat.P2 Go.Proofs.YtdkihpnckkfneaaGreat.Dd Go.Proofs.YtdkihpnckkfneaaGreat.Dv Go.Proofs.YtdkihpnckkfneaaGreat.Dl Go.Proofs.YtdkihpnckkfneaaGreat.Ds Go.Proofs.YtdkihpnckkfneaaGreat.Fd Go.Proofs.YtdkihpnckkfneaaGreat.Ch Go.Proofs.YtdkihpnckkfneaaGreat.Hn Go.Proofs.YtdkihpnckkfneaaGreat.Po
set_option linter.unusedVariables false
set_option linter.unusedSimpArgs false
open Go.Proofs.YtdkihpnckkfneaaGreat.Ho Go.Proofs.YtdkihpnckkfneaaGreat.Pa Go.Proofs.YtdkihpnckkfneaaGreat.Di Go.Proofs.YtdkihpnckkfneaaGreat.Ig Go.Proofs.YtdkihpnckkfneaaGreat.Ir Go.Proofs.YtdkihpnckkfneaaGreat.Iq Go.Proofs.YtdkihpnckkfneaaGreat.IsName Go.Proofs.YtdkihpnckkfneaaGreat.Pu

/-- The line of the device of a name; none if there is none. -/
def lnOf (zs : List D) (s : ByteArray) : ByteArray := if fd zs s < 0 then ⟨#[]⟩ else match zs[(fd zs s).toNat]? with | some d => d.ln | none => ⟨#[]⟩
theorem lnOf_no {zs : List D} {s : ByteArray} (h : fd zs s = -1) : lnOf zs s = ⟨#[]⟩ := by unfold lnOf; rw [h]; rfl
theorem lnOf_at {zs : List D} {s : ByteArray} {j : Nat} {d : D} (h : fd zs s = (j : Int)) (hd : zs[j]? = some d) : lnOf zs s = d.ln := by unfold lnOf; rw [h, if_neg (by omega), Int.toNat_natCast, hd]
theorem nil_list : (⟨#[]⟩ : ByteArray).toList = [] := by simp [ByteArray.toList_eq]
noncomputable def sameV (zs : List D) (a b : ByteArray) : Bool := rig zs && (!((lnOf zs a).toList == []) && ((lnOf zs a).toList == (lnOf zs b).toList))
/-- The channel of the device of a name. -/
def lineC (zs : List D) (M : List (ByteArray × Nat)) (s : ByteArray) : Option Nat :=
  if fd zs s < 0 then none else match zs[(fd zs s).toNat]? with | some d => if d.kd = 2 ∨ d.kd = 3 then some ((lk M d.ln).getD 0) else none | none => none
theorem lineC_no {zs : List D} {M : List (ByteArray × Nat)} {s : ByteArray} (h : fd zs s = -1) : lineC zs M s = none := by unfold lineC; rw [h]; rfl
theorem lineC_at {zs : List D} {M : List (ByteArray × Nat)} {s : ByteArray} {j : Nat} {d : D} (h : fd zs s = (j : Int)) (hd : zs[j]? = some d) : lineC zs M s = if d.kd = 2 ∨ d.kd = 3 then some ((lk M d.ln).getD 0) else none := by
  unfold lineC; rw [h, if_neg (by omega), Int.toNat_natCast, hd]
theorem toList_inj {a b : ByteArray} (h : a.toList = b.toList) : a = b := by
  rw [ByteArray.toList_eq, ByteArray.toList_eq] at h
  obtain ⟨⟨x⟩⟩ := a
  obtain ⟨⟨y⟩⟩ := b
  simp at h
  rw [h]
/-- Of a rig: the line of a name is empty, and there is no channel; or it is not, and its channel is that of the line. -/
theorem line_cases {zs : List D} (H : Rig zs) {M0 M : List (ByteArray × Nat)} (hM : Made zs M0 M) (s : ByteArray) :
    ((lnOf zs s).toList == []) = true ∧ lineC zs M s = none ∨ ((lnOf zs s).toList == []) = false ∧ ∃ c, lineC zs M s = some c ∧ lk M (lnOf zs s) = some c := by
  rcases fd_cases zs s with hf | ⟨j, hf, _, d, hd, _⟩
  · exact Or.inl ⟨by rw [lnOf_no hf, nil_list]; rfl, lineC_no hf⟩
  · rw [lnOf_at hf hd, lineC_at hf hd]
    rcases kinds H hd with ⟨k, hl⟩ | ⟨k, hl, _⟩
    · exact Or.inl ⟨hl, by rw [if_neg (by omega)]⟩
    · refine Or.inr ⟨hl, ?_⟩
      rw [if_pos k]
      cases hm : lk M d.ln with
      | none => exact absurd hm (hM.all d (mem_at hd) k)
      | some c => exact ⟨c, rfl, rfl⟩
/-- Two are on one line just if their channels are one. -/
theorem same_none {zs : List D} (H : Rig zs) {M0 M : List (ByteArray × Nat)} (hM : Made zs M0 M) {a b : ByteArray} (h : lineC zs M a = none) : sameV zs a b = false := by
  unfold sameV
  rcases line_cases H hM a with ⟨e, _⟩ | ⟨_, c, e, _⟩
  · rw [e]; simp
  · rw [h] at e; cases e
theorem same_some {zs : List D} (H : Rig zs) {M0 M : List (ByteArray × Nat)} (hM : Made zs M0 M) {W : World} (hG : Gd W M) {a b : ByteArray} {c : Nat} (h : lineC zs M a = some c) : sameV zs a b = ((some c : Option Nat) == lineC zs M b) := by
  unfold sameV
  rw [rig_yes H, Bool.true_and]
  rcases line_cases H hM a with ⟨_, e⟩ | ⟨e, c', e1, e2⟩
  · rw [h] at e; cases e
  · rw [h] at e1; cases e1
    rw [e, Bool.not_false, Bool.true_and]
    rcases line_cases H hM b with ⟨f, f1⟩ | ⟨f, c2, f1, f2⟩
    · rw [f1]
      have : (lnOf zs b).toList = [] := by simpa using f
      rw [this, e]; rfl
    · rw [f1]
      by_cases hc : c = c2
      · subst hc
        have := hG.2 _ _ _ e2 f2
        rw [this]; simp
      · have hn : (lnOf zs a).toList ≠ (lnOf zs b).toList := fun q => by
          have := toList_inj q
          rw [this, f2] at e2
          cases e2; exact hc rfl
        rw [show ((lnOf zs a).toList == (lnOf zs b).toList) = false by simpa using hn]
        simp [hc]

theorem run_chanEq (a b : Option Nat) (w : World) : (binOp .eql 129 (.chan a) (.chan b)).run Tryz.prog w = .ok (.bool (a == b)) w := by kernel_rfl
theorem run_chanNe (a b : Option Nat) (w : World) : (binOp .neq 129 (.chan a) (.chan b)).run Tryz.prog w = .ok (.bool (!(a == b))) w := by kernel_rfl

end Go.Proofs.YtdkihpnckkfneaaGreat.Sl
