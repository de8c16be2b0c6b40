/- SameLine of the program and of the model. -/
import Derived.Test.YtgcheplneolonaaPu
namespace Go.Proofs.Ytgcheplneolonaa.Sl
open Go.RowKit Go.ChangeShapes Go.WideShapes Go.WideElems Go.Deep Go.Proofs.Ytgcheplneolonaa.Mem Go.Proofs.Ytgcheplneolonaa.Rw Go.Proofs.Ytgcheplneolonaa.Pw Go.Proofs.Ytgcheplneolonaa.P2 Go.Proofs.Ytgcheplneolonaa.Dd Go.Proofs.Ytgcheplneolonaa.Dv Go.Proofs.Ytgcheplneolonaa.Dl Go.Proofs.Ytgcheplneolonaa.Ds Go.Proofs.Ytgcheplneolonaa.Fd Go.Proofs.Ytgcheplneolonaa.Ch Go.Proofs.Ytgcheplneolonaa.Hn Go.Proofs.Ytgcheplneolonaa.Po
set_option linter.unusedVariables false
set_option linter.unusedSimpArgs false
open Go.Proofs.Ytgcheplneolonaa.Ho Go.Proofs.Ytgcheplneolonaa.Pa Go.Proofs.Ytgcheplneolonaa.Di Go.Proofs.Ytgcheplneolonaa.Ig Go.Proofs.Ytgcheplneolonaa.Ir Go.Proofs.Ytgcheplneolonaa.Iq Go.Proofs.Ytgcheplneolonaa.IsName Go.Proofs.Ytgcheplneolonaa.Pu

/-- The line of the device of a name; none if there is none. -/
def lnOf (zs : List D) (s : ByteArray) : ByteArray := if fd zs s < 0 then ⟨#[]⟩ else match zs[(fd zs s).toNat]? with | some d => d.ln | none => ⟨#[]⟩
theorem lnOf_no {zs : List D} {s : ByteArray} (h : fd zs s = -1) : lnOf zs s = ⟨#[]⟩ := by unfold lnOf; rw [h]; rfl
theorem lnOf_at {zs : List D} {s : ByteArray} {j : Nat} {d : D} (h : fd zs s = (j : Int)) (hd : zs[j]? = some d) : lnOf zs s = d.ln := by unfold lnOf; rw [h, if_neg (by omega), Int.toNat_natCast, hd]
theorem nil_list : (⟨#[]⟩ : ByteArray).toList = [] := by simp [ByteArray.toList_eq]
noncomputable def sameV (zs : List D) (a b : ByteArray) : Bool := rig zs && (!((lnOf zs a).toList == []) && ((lnOf zs a).toList == (lnOf zs b).toList))
/-- The channel of the device of a name. -/
def lineC (zs : List D) (M : List (ByteArray × Nat)) (s : ByteArray) : Option Nat :=
  if fd zs s < 0 then none else match zs[(fd zs s).toNat]? with | some d => if d.kd = 2 ∨ d.kd = 3 then some ((lk M d.ln).getD 0) else none | none => none
theorem lineC_no {zs : List D} {M : List (ByteArray × Nat)} {s : ByteArray} (h : fd zs s = -1) : lineC zs M s = none := by unfold lineC; rw [h]; rfl
theorem lineC_at {zs : List D} {M : List (ByteArray × Nat)} {s : ByteArray} {j : Nat} {d : D} (h : fd zs s = (j : Int)) (hd : zs[j]? = some d) : lineC zs M s = if d.kd = 2 ∨ d.kd = 3 then some ((lk M d.ln).getD 0) else none := by
  unfold lineC; rw [h, if_neg (by omega), Int.toNat_natCast, hd]
theorem toList_inj {a b : ByteArray} (h : a.toList = b.toList) : a = b := by
  rw [ByteArray.toList_eq, ByteArray.toList_eq] at h
  obtain ⟨⟨x⟩⟩ := a
  obtain ⟨⟨y⟩⟩ := b
  simp at h
  rw [h]
/-- Of a rig: the line of a name is empty, and there is no channel; or it is not, and its channel is that of the line. -/
theorem line_cases {zs : List D} (H : Rig zs) {M0 M : List (ByteArray × Nat)} (hM : Made zs M0 M) (s : ByteArray) :
    ((lnOf zs s).toList == []) = true ∧ lineC zs M s = none ∨ ((lnOf zs s).toList == []) = false ∧ ∃ c, lineC zs M s = some c ∧ lk M (lnOf zs s) = some c := by
  rcases fd_cases zs s with hf | ⟨j, hf, _, d, hd, _⟩
  · exact Or.inl ⟨by rw [lnOf_no hf, nil_list]; rfl, lineC_no hf⟩
  · rw [lnOf_at hf hd, lineC_at hf hd]
    rcases kinds H hd with ⟨k, hl⟩ | ⟨k, hl, _⟩
    · exact Or.inl ⟨hl, by rw [if_neg (by omega)]⟩
    · refine Or.inr ⟨hl, ?_⟩
      rw [if_pos k]
      cases hm : lk M d.ln with
      | none => exact absurd hm (hM.all d (mem_at hd) k)
      | some c => exact ⟨c, rfl, rfl⟩
/-- Two are on one line just if their channels are one. -/
theorem same_none {zs : List D} (H : Rig zs) {M0 M : List (ByteArray × Nat)} (hM : Made zs M0 M) {a b : ByteArray} (h : lineC zs M a = none) : sameV zs a b = false := by
  unfold sameV
  rcases line_cases H hM a with ⟨e, _⟩ | ⟨_, c, e, _⟩
  · rw [e]; simp
  · rw [h] at e; cases e
theorem same_some {zs : List D} (H : Rig zs) {M0 M : List (ByteArray × Nat)} (hM : Made zs M0 M) {W : World} (hG : Gd W M) {a b : ByteArray} {c : Nat} (h : lineC zs M a = some c) : sameV zs a b = ((some c : Option Nat) == lineC zs M b) := by
  unfold sameV
  rw [rig_yes H, Bool.true_and]
  rcases line_cases H hM a with ⟨_, e⟩ | ⟨e, c', e1, e2⟩
  · rw [h] at e; cases e
  · rw [h] at e1; cases e1
    rw [e, Bool.not_false, Bool.true_and]
    rcases line_cases H hM b with ⟨f, f1⟩ | ⟨f, c2, f1, f2⟩
    · rw [f1]
      have : (lnOf zs b).toList = [] := by simpa using f
      rw [this, e]; rfl
    · rw [f1]
      by_cases hc : c = c2
      · subst hc
        have := hG.2 _ _ _ e2 f2
        rw [this]; simp
      · have hn : (lnOf zs a).toList ≠ (lnOf zs b).toList := fun q => by
          have := toList_inj q
          rw [this, f2] at e2
          cases e2; exact hc rfl
        rw [show ((lnOf zs a).toList == (lnOf zs b).toList) = false by simpa using hn]
        simp [hc]

theorem run_chanEq (a b : Option Nat) (w : World) : (binOp .eql 52 (.chan a) (.chan b)).run Try.prog w = .ok (.bool (a == b)) w := by kernel_rfl
theorem run_chanNe (a b : Option Nat) (w : World) : (binOp .neq 52 (.chan a) (.chan b)).run Try.prog w = .ok (.bool (!(a == b))) w := by kernel_rfl

theorem lineG (n : ByteArray) (k : Int) (l : ByteArray) (x y h t m : Int) (c : Nat) (w : World) : Calls Try.prog 88 #[hv n k l x y h t m c] w fun e w' => e = .returned (.chan (some c)) ∧ Below w.heap.size w w' := by
  go_enter Try.func88, Try.ntmps88
  go_wp2_with fail
  go_returns
  exact ⟨rfl, by first | go_grown | exact Below.refl _ _⟩

set_option maxHeartbeats 4000000 in
theorem lineOf (A : Option Addr) (n0 c9 g : Nat) (zs : List D) (M : List (ByteArray × Nat)) (s : ByteArray) (w : World) (hn : zs.length = n0) (hb : n0 ≤ 1048576) (hr : Rd w w.heap.size A (dls zs)) (hp : ∀ (j : Nat) (d : D), zs[j]? = some d → w.cell? ⟨g, j, none⟩ = some (ptM M d)) :
    Calls Try.prog 22 #[.slice A n0 c9, .slice (some ⟨g, 0, none⟩) n0 n0, .string s] w fun e w' => e = .returned (.chan (lineC zs M s)) ∧ Below w.heap.size w w' := by
  have CF := Lib.hid (findI A n0 c9 zs s w hn hb hr)
  rcases fd_cases zs s with hf | ⟨j, hf, hj, d, hd, _⟩
  · rw [lineC_no hf]
    rw [hf] at CF
    clear hf hr hp hn
    go_enter Try.func22, Try.ntmps22
    go_wp2_with fail
    refine CF.out.mono ?_
    rintro e w1 ⟨rfl, hb1⟩
    have B1 := Lib.hid hb1
    clear hb1 CF
    go_wp2_with fail
    go_returns
    exact ⟨rfl, B1.out⟩
  · rw [lineC_at hf hd]
    rw [hf] at CF
    have hj0 : j < n0 := by omega
    have hneg : ¬ (j : Int) < 0 := by omega
    have hc := hp j d hd
    obtain ⟨n, q, l, x, y, h, t, m⟩ := d
    unfold ptM at hc
    simp only [] at hc ⊢
    generalize (lk M l).getD 0 = c at hc ⊢
    clear hf hd hp hr hn hj
    by_cases q1 : q = 1
    · subst q1
      rw [if_neg (by decide)]
      rw [show pt n 1 l x y h t m c = .iface 88 (va n 1 l x y h t m) from rfl] at hc
      have ta := as_pump
      go_enter Try.func22, Try.ntmps22
      go_wp2_with fail
      refine CF.out.mono ?_
      rintro e w1 ⟨rfl, hb1⟩
      have B1 := Lib.hid hb1
      have c1 := cell_below hb1 hc
      clear hb1 CF hc
      go_wp2_with fail
      go_returns
      exact ⟨rfl, B1.out⟩
    by_cases q2 : q = 2
    · subst q2
      rw [if_pos (by decide)]
      rw [show pt n 2 l x y h t m c = .iface 93 (hv n 2 l x y h t m c) from rfl] at hc
      have ta := as_nozzle
      go_enter Try.func22, Try.ntmps22
      go_wp2_with fail
      refine CF.out.mono ?_
      rintro e w1 ⟨rfl, hb1⟩
      have B1 := Lib.hid hb1
      have c1 := cell_below hb1 hc
      clear hb1 CF hc
      go_wp2_with fail
      refine (lineG _ _ _ _ _ _ _ _ _ _).mono ?_
      rintro e w2 ⟨rfl, hb2⟩
      have B2 := Lib.hid (B1.out.trans (hb2.mono B1.out.size))
      clear hb2
      go_wp2_with fail
      go_returns
      exact ⟨rfl, B2.out⟩
    by_cases q3 : q = 3
    · subst q3
      rw [if_pos (by decide)]
      rw [show pt n 3 l x y h t m c = .iface 94 (hv n 3 l x y h t m c) from rfl] at hc
      have ta := as_lamp
      go_enter Try.func22, Try.ntmps22
      go_wp2_with fail
      refine CF.out.mono ?_
      rintro e w1 ⟨rfl, hb1⟩
      have B1 := Lib.hid hb1
      have c1 := cell_below hb1 hc
      clear hb1 CF hc
      go_wp2_with fail
      refine (lineG _ _ _ _ _ _ _ _ _ _).mono ?_
      rintro e w2 ⟨rfl, hb2⟩
      have B2 := Lib.hid (B1.out.trans (hb2.mono B1.out.size))
      clear hb2
      go_wp2_with fail
      go_returns
      exact ⟨rfl, B2.out⟩
    rw [if_neg (by omega)]
    rw [show pt n q l x y h t m c = .nilIface by simp [pt, q1, q2, q3]] at hc
    have ta := as_nil
    clear q1 q2 q3
    go_enter Try.func22, Try.ntmps22
    go_wp2_with fail
    refine CF.out.mono ?_
    rintro e w1 ⟨rfl, hb1⟩
    have B1 := Lib.hid hb1
    have c1 := cell_below hb1 hc
    clear hb1 CF hc
    go_wp2_with fail
    go_returns
    exact ⟨rfl, B1.out⟩

set_option maxHeartbeats 4000000 in
theorem sameI (A : Option Addr) (n0 c9 : Nat) (zs : List D) (a b : ByteArray) (w : World) (hn : zs.length = n0) (hb : n0 ≤ 1048576) (hsz : ∀ z ∈ zs, z.nm.size ≤ 1048576 ∧ z.ln.size ≤ 1048576) (hr : Rd w w.heap.size A (dls zs)) :
    Calls Try.prog 9 #[.slice A n0 c9, .string a, .string b] w fun e w' => e = .returned (.bool (sameV zs a b)) ∧ Below w.heap.size w w' := by
  have HR := Lib.hid hr
  have HN := Lib.hid hn
  have hmm := @run_makeMap Try.prog
  have q1 := run_chanEq
  have q2 := run_chanNe
  have CR := Lib.hid (rigI A n0 c9 zs w hn hb hr)
  clear hr hn hsz
  by_cases hrig : rig zs = true
  · have HH := Lib.hid (rig_of hrig)
    rw [hrig] at CR
    clear hrig
    obtain ⟨r, hr9⟩ : ∃ r, sameV zs a b = r := ⟨_, rfl⟩
    rw [hr9]
    have HR9 := Lib.hid hr9
    clear hr9
    go_enter Try.func9, Try.ntmps9
    go_wp2_with fail
    refine CR.out.mono ?_
    rintro e w1 ⟨rfl, hb1⟩
    have B1 := Lib.hid hb1
    have R1 := Lib.hid (HR.out.below hb1)
    have CP := Lib.hid (partsOf A n0 c9 w1.heap.size zs [] w.heap.size (w1.alloc (.map #[] 0)) HN.out hb (by have := hb1.size; simp; omega) (R1.out.below (by have := hb1.size; exact Below.mono (by go_grown) this)) (by
      have hs := hb1.size
      rcases R1.out with h | ⟨b', o', e, hb', _⟩
      · exact Or.inr h
      · refine Or.inl ?_; rw [e]; simp; omega) (Ls.made w1) (Gd.nil _))
    clear hb1 CR
    go_wp2_with fail
    refine CP.out.mono ?_
    rintro e w2 ⟨g, M, rfl, HP⟩
    have HP := Lib.hid HP
    have W2 := Lib.hid (show Below w1.heap.size w1 w2 from Below.grown (by go_grown) HP.out.grown (by simp) (fun k hk => by cases hk; exact Nat.le_refl _))
    have B2 := Lib.hid (B1.out.trans (W2.out.mono B1.out.size))
    have hpart : ∀ (j : Nat) (d : D), zs[j]? = some d → w2.cell? ⟨g, j, none⟩ = some (ptM M d) := fun j d hd => by
      have := HP.out.row.cellAt j (by show j < n0 * 1; have := (List.getElem?_eq_some_iff.1 hd).1; rw [HN.out] at this; omega)
      rw [List.getElem?_map, hd, Option.map_some] at this
      exact this
    have L1 := Lib.hid (lineOf A n0 c9 g zs M a w2 HN.out hb ((HR.out.below B2.out).more B2.out.size) hpart)
    have L2 := Lib.hid (fun (W : World) (hW : Below w2.heap.size w2 W) => lineOf A n0 c9 g zs M b W HN.out hb (((HR.out.below (B2.out.trans (hW.mono B2.out.size))).more (Nat.le_trans B2.out.size hW.size))) (fun j d hd => cell_below hW (hpart j d hd)))
    clear hpart CP
    have SN := Lib.hid (same_none (b := b) HH.out HP.out.made (a := a))
    have SS := Lib.hid (fun c => same_some (b := b) (a := a) (c := c) HH.out HP.out.made HP.out.gd)
    rw [HR9.out] at SN SS
    generalize lineC zs M a = ca at *
    generalize lineC zs M b = cb at *
    clear hmm
    cases ca with
    | none =>
      obtain rfl := SN.out rfl
      clear SN SS
      go_wp2_with fail
      refine L1.out.mono ?_
      rintro e w3 ⟨rfl, hb3⟩
      have B3 := Lib.hid (B2.out.trans (hb3.mono B2.out.size))
      clear hb3
      go_wp2_with fail
      go_returns
      exact ⟨rfl, B3.out⟩
    | some c =>
      have e9 : (((some c : Option Nat)) == none) = false := rfl
      obtain rfl := SS.out c rfl
      clear SN SS HR9
      go_wp2_with fail
      refine L1.out.mono ?_
      rintro e w3 ⟨rfl, hb3⟩
      have W3 := Lib.hid hb3
      have B3 := Lib.hid (B2.out.trans (hb3.mono B2.out.size))
      clear hb3
      go_wp2_with fail
      refine (L2.out _ W3.out).mono ?_
      rintro e w4 ⟨rfl, hb4⟩
      have B4 := Lib.hid (B3.out.trans (hb4.mono B3.out.size))
      clear hb4
      go_wp2_with fail
      go_returns
      exact ⟨rfl, B4.out⟩
  · have hf : rig zs = false := by simpa using hrig
    have HP := Lib.hid (show sameV zs a b = false by unfold sameV; rw [hf]; rfl)
    rw [hf] at CR
    rw [HP.out]
    clear hf hrig
    go_enter Try.func9, Try.ntmps9
    go_wp2_with fail
    refine CR.out.mono ?_
    rintro e w1 ⟨rfl, hb1⟩
    have B1 := Lib.hid hb1
    clear hb1 CR
    go_wp2_with fail
    go_returns
    exact ⟨rfl, B1.out⟩

end Go.Proofs.Ytgcheplneolonaa.Sl
