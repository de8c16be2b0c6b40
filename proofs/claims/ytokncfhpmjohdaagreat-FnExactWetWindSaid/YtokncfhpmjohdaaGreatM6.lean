/- The program's parts of a device: what partOf makes of it, and whether each kind is sound. -/
import Derived.Test.YtokncfhpmjohdaaGreatM5
import Derived.Stop.Asserts
set_option linter.unusedVariables false
set_option linter.unusedSimpArgs false
namespace Go.Proofs.YtokncfhpmjohdaaGreat.Po
open Go.RowKit Go.Proofs.YtokncfhpmjohdaaGreat.Cm Go.Proofs.YtokncfhpmjohdaaGreat.Pl Go.Proofs.YtokncfhpmjohdaaGreat.Str Go.Proofs.YtokncfhpmjohdaaGreat.Pw Go.Proofs.YtokncfhpmjohdaaGreat.P2 Go.Proofs.YtokncfhpmjohdaaGreat.Hd Go.Proofs.YtokncfhpmjohdaaGreat.Jt Go.Proofs.YtokncfhpmjohdaaGreat.Dd Go.Proofs.YtokncfhpmjohdaaGreat.IsName Go.Proofs.YtokncfhpmjohdaaGreat.Ds Go.Proofs.YtokncfhpmjohdaaGreat.Ch Go.Proofs.YtokncfhpmjohdaaGreat.Hn
set_option linter.unusedVariables false
set_option linter.unusedSimpArgs false

/-- The part that is made of a device. -/
def pt (n : ByteArray) (k : Int) (l : ByteArray) (x y h t m : Int) (c : Nat) : Value :=
  if k = 1 then .iface 198 (va n 1 l x y h t m) else if k = 2 then .iface 204 (hv n 2 l x y h t m c) else if k = 3 then .iface 205 (hv n 3 l x y h t m c) else .nilIface

/-- What is known behind partOf. -/
structure Parted (w : World) (b : Nat) (M : List (ByteArray × Nat)) (k : Int) (s : ByteArray) (M' : List (ByteArray × Nat)) (c : Nat) (w' : World) : Prop where
  ls : Ls w' b M'
  gd : Gd w' M'
  here : k = 2 ∨ k = 3 → lk M' s = some c
  old : ∀ q v, lk M q = some v → lk M' q = some v
  new : ∀ q, (k = 2 ∨ k = 3 → q ≠ s) → lk M' q = lk M q
  grown : w.grownBy w' (some b)

set_option maxHeartbeats 2000000 in
theorem partOf (n : ByteArray) (k : Int) (l : ByteArray) (x y h t m : Int) (b : Nat) (M : List (ByteArray × Nat)) (w : World) (hL : Ls w b M) (hG : Gd w M) :
    Calls Tryz.prog 145 #[.map (some b), va n k l x y h t m] w fun e w' => ∃ M' c, e = .returned (pt n k l x y h t m c) ∧ Parted w b M k l M' c w' := by
  have CH := Lib.hid (fun k => hang n k l x y h t m b M (w.alloc (.cells (ca n k l x y h t m) 98)) (hL.alloc _) (hG.more (by simp)))
  by_cases k1 : k = 1
  · subst k1
    go_enter Tryz.func145, Tryz.ntmps145
    go_wp2_with fail
    go_returns
    exact ⟨M, 0, rfl, hL.alloc _, hG.more (by simp), (by omega), fun _ _ h => h, fun _ _ => rfl, World.grownBy_alloc _ _ _⟩
  by_cases k2 : k = 2
  · subst k2
    clear k1
    go_enter Tryz.func145, Tryz.ntmps145
    go_wp2_with fail
    refine (CH.out _).mono ?_
    rintro e w1 ⟨M', c, rfl, HU⟩
    have HU := Lib.hid HU
    go_wp2_with fail
    go_returns
    exact ⟨M', c, rfl, HU.out.ls, HU.out.gd, fun _ => HU.out.here, HU.out.old, fun q hq => HU.out.new q (hq (Or.inl rfl)), Rw.grown_trans (World.grownBy_alloc _ _ _) HU.out.grown⟩
  by_cases k3 : k = 3
  · subst k3
    clear k1 k2
    go_enter Tryz.func145, Tryz.ntmps145
    go_wp2_with fail
    refine (CH.out _).mono ?_
    rintro e w1 ⟨M', c, rfl, HU⟩
    have HU := Lib.hid HU
    go_wp2_with fail
    go_returns
    exact ⟨M', c, rfl, HU.out.ls, HU.out.gd, fun _ => HU.out.here, HU.out.old, fun q hq => HU.out.new q (hq (Or.inr rfl)), Rw.grown_trans (World.grownBy_alloc _ _ _) HU.out.grown⟩
  · go_enter Tryz.func145, Tryz.ntmps145
    go_wp2_with fail
    go_returns
    exact ⟨M, 0, by simp [pt, k1, k2, k3], hL.alloc _, hG.more (by simp), (by omega), fun _ _ h => h, fun _ _ => rfl, World.grownBy_alloc _ _ _⟩

theorem isSupply_of {m : Int} {b : Bool} (e : iw m 0 512 = b) (w : World) : Calls Tryz.prog 160 #[.int .i64 m] w fun e w' => e = .returned (.bool b) ∧ w = w' := by
  go_enter Tryz.func160, Tryz.ntmps160
  go_wp2_with fail
  refine (isWithin_of e _).mono ?_
  rintro e w' ⟨rfl, rfl⟩
  go_wp2_with fail
  go_returns
  exact ⟨rfl, rfl⟩

set_option maxHeartbeats 1000000 in
theorem pumpSound (n l : ByteArray) (x y h t m : Int) (w : World) :
    Calls Tryz.prog 232 #[va n 1 l x y h t m] w fun e w' => e = .returned (.bool (pumpB l x y h t m)) ∧ Below w.heap.size w w' := by
  unfold pumpB
  obtain ⟨b5, h5⟩ : ∃ b, iw m 0 512 = b := ⟨_, rfl⟩
  obtain ⟨q1, hq1⟩ : ∃ b, (sb l ⟨#[]⟩ && zb [x, y, h, t]) = b := ⟨_, rfl⟩
  rw [h5, hq1]
  have C5 := Lib.hid (isSupply_of h5)
  have E1 := eq_pump (n := n) (m := m) hq1
  clear h5 hq1
  cases b5 <;> cases q1
  all_goals
    simp only [Bool.true_and, Bool.false_and, Bool.and_true, Bool.and_false]
    go_enter Tryz.func232, Tryz.ntmps232
    go_wp2_with fail
    try (refine (C5.out _).mono ?_; rintro e w' ⟨rfl, rfl⟩; go_wp2_with fail)
    go_returns
    exact ⟨rfl, by go_grown⟩

set_option maxHeartbeats 1000000 in
theorem hasLine (n : ByteArray) (k : Int) (l : ByteArray) (x y h t m : Int) (c : Nat) (w : World) :
    Calls Tryz.prog 235 #[hv n k l x y h t m c] w fun e w' => e = .returned (.bool (lineB n l)) ∧ Below w.heap.size w w' := by
  have cl := IsName.impl l
  unfold lineB
  generalize nameB l = bl at *
  have HL := Lib.hid cl
  clear cl
  obtain ⟨d, hs⟩ : ∃ d, sb l n = d := ⟨_, rfl⟩
  rw [hs]
  have s1 : (l.toList == n.toList) = d := hs
  have s2 : (l.toList != n.toList) = !d := by rw [← hs]; rfl
  clear hs
  cases bl <;> cases d
  all_goals
    simp only [Bool.true_and, Bool.false_and, Bool.not_true, Bool.not_false] at s2 ⊢
    go_enter Tryz.func235, Tryz.ntmps235
    go_wp2_with fail
    refine (HL.out _).mono ?_
    rintro e w' ⟨rfl, rfl⟩
    go_wp2_with fail
    go_returns
    exact ⟨rfl, by go_grown⟩

theorem jetOf (n : ByteArray) (k : Int) (l : ByteArray) (x y h t m : Int) (c : Nat) (w : World) :
    Calls Tryz.prog 240 #[hv n k l x y h t m c] w fun e w' => e = .returned (jv x y h t 1) ∧ Below w.heap.size w w' := by
  go_enter Tryz.func240, Tryz.ntmps240
  go_wp2_with fail
  go_returns
  exact ⟨rfl, by go_grown⟩

set_option maxHeartbeats 2000000 in
theorem nozSound (n l : ByteArray) (x y h t m : Int) (c : Nat) (w : World) :
    Calls Tryz.prog 237 #[hv n 2 l x y h t m c] w fun e w' => e = .returned (.bool (nozB n l x y h t m)) ∧ Below w.heap.size w w' := by
  have hl := hasLine n 2 l x y h t m c
  unfold nozB
  generalize lineB n l = d at *
  obtain ⟨bj, hj⟩ : ∃ b, jt x y h t 1 = b := ⟨_, rfl⟩
  obtain ⟨b6, h6⟩ : ∃ b, iw m 0 32 = b := ⟨_, rfl⟩
  rw [hj, h6]
  have CJ := Lib.hid (isJetI_of hj)
  have C6 := Lib.hid (isWithin_of h6)
  have HL := Lib.hid hl
  clear hj h6 hl
  cases d <;> cases bj
  all_goals
    simp only [Bool.true_and, Bool.false_and]
    go_enter Tryz.func237, Tryz.ntmps237
    go_wp2_with fail
    refine (HL.out _).mono ?_
    rintro e w1 ⟨rfl, hb⟩
    obtain ⟨hc, hf⟩ := open_below hb
    have H1 := Lib.hid (show Below w.heap.size w w1 from Below.trans (by go_grown) (hb.mono (by first | (simp; done) | (simp; omega))))
    have p1 : w.heap.size < w1.heap.size := by have := hb.size; simp at this; omega
    have q7 : w1.cell? ⟨w.heap.size, 7, none⟩ = some (.int .i64 m) := (hb.cell (by simp)).trans (by simp [go_sem])
    clear hb
    go_wp2_with fail
    first | (go_returns; exact ⟨rfl, by first | exact H1.out | exact H1.out.alloc H1.out.size _⟩) | skip
    all_goals (refine (jetOf _ _ _ _ _ _ _ _ _ _).mono ?_; rintro e w2 ⟨rfl, hb⟩; obtain ⟨hc2, hf2⟩ := open_below hb; have H2 := Lib.hid (H1.out.trans (hb.mono H1.out.size)); have p2 : w.heap.size < w2.heap.size := Nat.lt_of_lt_of_le p1 hb.size; have r7 := (hb.cell (p := ⟨w.heap.size, 7, none⟩) p1).trans q7; clear hb H1; have H1 := H2; clear H2; go_wp2_with fail)
    all_goals (refine (CJ.out _).mono ?_; rintro e w' ⟨rfl, rfl⟩; go_wp2_with fail)
    all_goals try (refine (C6.out _).mono ?_; rintro e w' ⟨rfl, rfl⟩; go_wp2_with fail)
    all_goals go_returns
    all_goals exact ⟨rfl, by first | exact H1.out | exact H1.out.alloc H1.out.size _⟩

set_option maxHeartbeats 2000000 in
theorem lampSound (n l : ByteArray) (x y h t m : Int) (c : Nat) (w : World) :
    Calls Tryz.prog 244 #[hv n 3 l x y h t m c] w fun e w' => e = .returned (.bool (lampB n l x y h t m)) ∧ Below w.heap.size w w' := by
  have hl := hasLine n 3 l x y h t m c
  unfold lampB
  generalize lineB n l = d at *
  obtain ⟨bp, hp⟩ : ∃ b, (ms x && ms y) = b := ⟨_, rfl⟩
  obtain ⟨q3, hq3⟩ : ∃ b, zb [h, t, m] = b := ⟨_, rfl⟩
  rw [hp, hq3]
  have CP := Lib.hid (isPlaceI_of hp)
  have E3 := eq_lamp (n := n) (l := l) (x := x) (y := y) hq3
  have HL := Lib.hid hl
  clear hp hq3 hl
  cases q3 <;> cases d
  all_goals
    simp only [Bool.true_and, Bool.false_and, Bool.and_true, Bool.and_false]
    go_enter Tryz.func244, Tryz.ntmps244
    go_wp2_with fail
    first
      | (refine (HL.out _).mono ?_
         rintro e w1 ⟨rfl, hb⟩
         obtain ⟨hc, hf⟩ := open_below hb
         have H1 := Lib.hid (show Below w.heap.size w w1 from Below.trans (by go_grown) (hb.mono (by first | (simp; done) | (simp; omega))))
         clear hb
         go_wp2_with fail
         try (refine (CP.out _).mono ?_; rintro e w' ⟨rfl, rfl⟩; go_wp2_with fail)
         go_returns
         exact ⟨rfl, by first | exact H1.out | exact H1.out.alloc H1.out.size _⟩)
      | (go_returns; exact ⟨rfl, by go_grown⟩)

end Go.Proofs.YtokncfhpmjohdaaGreat.Po
namespace Go.Proofs.YtokncfhpmjohdaaGreat.Ho
open Go.RowKit Go.ChangeShapes Go.WideShapes Go.WideElems Go.Deep Go.Proofs.YtokncfhpmjohdaaGreat.Mem Go.Proofs.YtokncfhpmjohdaaGreat.Rw Go.Proofs.YtokncfhpmjohdaaGreat.Pw Go.Proofs.YtokncfhpmjohdaaGreat.P2 Go.Proofs.YtokncfhpmjohdaaGreat.Dd Go.Proofs.YtokncfhpmjohdaaGreat.Dv Go.Proofs.YtokncfhpmjohdaaGreat.Dl Go.Proofs.YtokncfhpmjohdaaGreat.Ds Go.Proofs.YtokncfhpmjohdaaGreat.Fd Go.Proofs.YtokncfhpmjohdaaGreat.Ch Go.Proofs.YtokncfhpmjohdaaGreat.Hn Go.Proofs.YtokncfhpmjohdaaGreat.Po
set_option linter.unusedVariables false
set_option linter.unusedSimpArgs false

/-- Whether the device at place i is of kind q. -/
def kAt (zs : List D) (i q : Int) : Bool := if i < 0 then false else match zs[i.toNat]? with | some d => d.kd == q | none => false
theorem kAt_no (zs : List D) (q : Int) : kAt zs (-1) q = false := rfl
theorem kAt_yes {zs : List D} {j : Nat} {d : D} (h : zs[j]? = some d) (q : Int) : kAt zs (j : Int) q = (d.kd == q) := by
  unfold kAt; rw [if_neg (by omega), Int.toNat_natCast, h]
/-- Whether what a device hangs on is there, and of its kind. -/
def hgV (zs : List D) (k : Int) (s : ByteArray) : Bool := if k = 2 then kAt zs (fd zs s) 1 else if k = 3 then kAt zs (fd zs s) 2 else true
theorem hgV_2 (zs : List D) (s : ByteArray) : hgV zs 2 s = kAt zs (fd zs s) 1 := rfl
theorem hgV_3 (zs : List D) (s : ByteArray) : hgV zs 3 s = kAt zs (fd zs s) 2 := rfl
theorem hgV_o {k : Int} (h2 : k ≠ 2) (h3 : k ≠ 3) (zs : List D) (s : ByteArray) : hgV zs k s = true := by unfold hgV; rw [if_neg h2, if_neg h3]

set_option maxHeartbeats 4000000 in
theorem hangsS (A : Option Addr) (n0 c0 : Nat) (zs : List D) (n : ByteArray) (k : Int) (s : ByteArray) (x y h t m : Int) (w : World) (hn : zs.length = n0) (hb : n0 ≤ 1048576) (hr : Rd w w.heap.size A (dls zs)) :
    Calls Tryz.prog 118 #[.slice A n0 c0, va n k s x y h t m] w fun e w' => e = .returned (.bool (hgV zs k s)) ∧ Below w.heap.size w w' := by
  have HN := Lib.hid hn
  have CF := Lib.hid (findS A n0 c0 zs s (w.alloc (.cells (ca n k s x y h t m) 98)) hn hb ((hr.below (by go_grown)).more (by simp)))
  have HR := Lib.hid hr
  clear hr hn
  by_cases k2 : k = 2
  · subst k2
    rw [hgV_2]
    rcases fd_cases zs s with hf | ⟨j, hf, hj, d, hd, _⟩
    · rw [hf, kAt_no]
      rw [hf] at CF
      clear hf
      go_enter Tryz.func118, Tryz.ntmps118
      go_wp2_with fail
      refine CF.out.mono ?_
      rintro e w1 ⟨rfl, hb⟩
      obtain ⟨hc, hf9⟩ := open_below hb
      have H1 := Lib.hid (show Below w.heap.size w w1 from Below.trans (by go_grown) (hb.mono (by simp)))
      have KD : w1.cell? ⟨w.heap.size, 1, none⟩ = some (.int .i64 2) := (hb.cell (by simp)).trans (by simp [go_sem])
      clear hb CF
      go_wp2_with fail
      go_returns
      exact ⟨rfl, H1.out⟩
    · rw [hf, kAt_yes hd]
      rw [hf] at CF
      have hj0 : j < n0 := by rw [← HN.out]; exact hj
      obtain ⟨b, o, eA, hbl, hcell⟩ := HR.out.get (k := j * 8) (by rw [dls_len, HN.out]; omega)
      have hd2 := (dls_get hd).2.1
      have cK : w.cell? ⟨b, o + j * 8 + 1, none⟩ = some (.int .i64 d.kd) := by rw [Nat.add_assoc]; exact hcell _ _ hd2
      generalize d.kd = q at *
      subst eA
      clear hcell hd2 hd hj hf
      obtain ⟨r, hr⟩ : ∃ r, (q == 1) = r := ⟨_, rfl⟩
      rw [hr]
      have hq : decide (q = 1) = r := by rw [← hr]; by_cases e : q = 1 <;> simp [e]
      cases r
      all_goals
        go_enter Tryz.func118, Tryz.ntmps118
        go_wp2_with fail
        refine CF.out.mono ?_
        rintro e w1 ⟨rfl, hb⟩
        obtain ⟨hc, hf9⟩ := open_below hb
        have H1 := Lib.hid (show Below w.heap.size w w1 from Below.trans (by go_grown) (hb.mono (by simp)))
        have KD : w1.cell? ⟨w.heap.size, 1, none⟩ = some (.int .i64 2) := (hb.cell (by simp)).trans (by simp [go_sem])
        clear hb CF
        have hB1 : b < w1.heap.size := Nat.lt_of_lt_of_le hbl H1.out.size
        have cK1 := (H1.out.cell (p := ⟨b, o + j * 8 + 1, none⟩) hbl).trans cK
        go_wp2_with fail
        go_returns
        exact ⟨rfl, H1.out⟩
  by_cases k3 : k = 3
  · subst k3
    rw [hgV_3]
    rcases fd_cases zs s with hf | ⟨j, hf, hj, d, hd, _⟩
    · rw [hf, kAt_no]
      rw [hf] at CF
      clear hf k2
      go_enter Tryz.func118, Tryz.ntmps118
      go_wp2_with fail
      refine CF.out.mono ?_
      rintro e w1 ⟨rfl, hb⟩
      obtain ⟨hc, hf9⟩ := open_below hb
      have H1 := Lib.hid (show Below w.heap.size w w1 from Below.trans (by go_grown) (hb.mono (by simp)))
      have KD : w1.cell? ⟨w.heap.size, 1, none⟩ = some (.int .i64 3) := (hb.cell (by simp)).trans (by simp [go_sem])
      clear hb CF
      go_wp2_with fail
      go_returns
      exact ⟨rfl, H1.out⟩
    · rw [hf, kAt_yes hd]
      rw [hf] at CF
      have hj0 : j < n0 := by rw [← HN.out]; exact hj
      obtain ⟨b, o, eA, hbl, hcell⟩ := HR.out.get (k := j * 8) (by rw [dls_len, HN.out]; omega)
      have hd2 := (dls_get hd).2.1
      have cK : w.cell? ⟨b, o + j * 8 + 1, none⟩ = some (.int .i64 d.kd) := by rw [Nat.add_assoc]; exact hcell _ _ hd2
      generalize d.kd = q at *
      subst eA
      clear hcell hd2 hd hj hf k2
      obtain ⟨r, hr⟩ : ∃ r, (q == 2) = r := ⟨_, rfl⟩
      rw [hr]
      have hq : decide (q = 2) = r := by rw [← hr]; by_cases e : q = 2 <;> simp [e]
      cases r
      all_goals
        go_enter Tryz.func118, Tryz.ntmps118
        go_wp2_with fail
        refine CF.out.mono ?_
        rintro e w1 ⟨rfl, hb⟩
        obtain ⟨hc, hf9⟩ := open_below hb
        have H1 := Lib.hid (show Below w.heap.size w w1 from Below.trans (by go_grown) (hb.mono (by simp)))
        have KD : w1.cell? ⟨w.heap.size, 1, none⟩ = some (.int .i64 3) := (hb.cell (by simp)).trans (by simp [go_sem])
        clear hb CF
        have hB1 : b < w1.heap.size := Nat.lt_of_lt_of_le hbl H1.out.size
        have cK1 := (H1.out.cell (p := ⟨b, o + j * 8 + 1, none⟩) hbl).trans cK
        go_wp2_with fail
        go_returns
        exact ⟨rfl, H1.out⟩
  rw [hgV_o k2 k3]
  generalize fd zs s = i at *
  go_enter Tryz.func118, Tryz.ntmps118
  go_wp2_with fail
  refine CF.out.mono ?_
  rintro e w1 ⟨rfl, hb⟩
  obtain ⟨hc, hf9⟩ := open_below hb
  have H1 := Lib.hid (show Below w.heap.size w w1 from Below.trans (by go_grown) (hb.mono (by simp)))
  have KD : w1.cell? ⟨w.heap.size, 1, none⟩ = some (.int .i64 k) := (hb.cell (by simp)).trans (by simp [go_sem])
  clear hb CF
  go_wp2_with fail
  go_returns
  exact ⟨rfl, H1.out⟩
end Go.Proofs.YtokncfhpmjohdaaGreat.Ho
namespace Go.Proofs.YtokncfhpmjohdaaGreat.Pa
open Go.RowKit Go.ChangeShapes Go.WideShapes Go.WideElems Go.Deep Go.Proofs.YtokncfhpmjohdaaGreat.Mem Go.Proofs.YtokncfhpmjohdaaGreat.Rw Go.Proofs.YtokncfhpmjohdaaGreat.Pw Go.Proofs.YtokncfhpmjohdaaGreat.P2 Go.Proofs.YtokncfhpmjohdaaGreat.Dd Go.Proofs.YtokncfhpmjohdaaGreat.Dv Go.Proofs.YtokncfhpmjohdaaGreat.Dl Go.Proofs.YtokncfhpmjohdaaGreat.Ds Go.Proofs.YtokncfhpmjohdaaGreat.Fd Go.Proofs.YtokncfhpmjohdaaGreat.Ch Go.Proofs.YtokncfhpmjohdaaGreat.Hn Go.Proofs.YtokncfhpmjohdaaGreat.Po
set_option linter.unusedVariables false
set_option linter.unusedSimpArgs false
open Go.Proofs.YtokncfhpmjohdaaGreat.Ho

/-- The part of a device, by the channels of these lines. -/
def ptM (M : List (ByteArray × Nat)) (d : D) : Value := pt d.nm d.kd d.ln d.x d.y d.hd d.tl d.ms ((lk M d.ln).getD 0)
/-- What the lines are behind these devices. -/
structure Made (zs : List D) (M M' : List (ByteArray × Nat)) : Prop where
  all : ∀ d ∈ zs, d.kd = 2 ∨ d.kd = 3 → lk M' d.ln ≠ none
  old : ∀ q v, lk M q = some v → lk M' q = some v
  new : ∀ q, (∀ d ∈ zs, d.kd = 2 ∨ d.kd = 3 → q ≠ d.ln) → lk M' q = lk M q
theorem Made.nil (M : List (ByteArray × Nat)) : Made [] M M := ⟨fun _ h => (by cases h), fun _ _ h => h, fun _ _ => rfl⟩
theorem pt_eq {n : ByteArray} {k : Int} {l : ByteArray} {x y h t m : Int} {c c' : Nat} (e : k = 2 ∨ k = 3 → c = c') : pt n k l x y h t m c = pt n k l x y h t m c' := by
  unfold pt
  by_cases k1 : k = 1
  · simp [k1]
  by_cases k2 : k = 2
  · rw [e (Or.inl k2)]
  by_cases k3 : k = 3
  · rw [e (Or.inr k3)]
  · simp [k1, k2, k3]
theorem ptM_old {M M' : List (ByteArray × Nat)} {d : D} (h : d.kd = 2 ∨ d.kd = 3 → lk M d.ln ≠ none) (ho : ∀ q v, lk M q = some v → lk M' q = some v) : ptM M' d = ptM M d := by
  unfold ptM
  refine pt_eq fun e => ?_
  cases hm : lk M d.ln with
  | none => exact absurd hm (h e)
  | some v => rw [ho _ _ hm]
theorem Made.snoc {zs : List D} {d : D} {M M1 M2 : List (ByteArray × Nat)} {c : Nat} (h : Made zs M M1) (here : d.kd = 2 ∨ d.kd = 3 → lk M2 d.ln = some c) (old : ∀ q v, lk M1 q = some v → lk M2 q = some v)
    (new : ∀ q, (d.kd = 2 ∨ d.kd = 3 → q ≠ d.ln) → lk M2 q = lk M1 q) : Made (zs ++ [d]) M M2 := by
  refine ⟨fun e he hk => ?_, fun q v hq => old q v (h.old q v hq), fun q hq => ?_⟩
  · rcases List.mem_append.1 he with he | he
    · cases hm : lk M1 e.ln with
      | none => exact absurd hm (h.all e he hk)
      | some v => rw [old _ _ hm]; simp
    · obtain rfl := List.mem_singleton.1 he
      rw [here hk]; simp
  · rw [new q (fun hk => hq d (by simp) hk)]
    exact h.new q (fun e he hk => hq e (by simp [he]) hk)
theorem gthen {a b c : World} {r r' : Option Nat} (h : a.grownBy b r) (k : b.grownBy c r') (hr : ∀ j, r' = some j → a.heap.size ≤ j ∨ r = some j) : a.grownBy c r :=
  ⟨k.os.trans h.os, k.tape.trans h.tape, k.output.trans h.output, Nat.le_trans h.size k.size, fun i hi hne => (k.block i (Nat.lt_of_lt_of_le hi h.size) (fun e => (hr i e.symm).elim (fun q => by omega) (fun q => hne q.symm))).trans (h.block i hi hne)⟩

theorem pt_form (n : ByteArray) (k : Int) (l : ByteArray) (x y h t m : Int) (c : Nat) : (∃ T u, pt n k l x y h t m c = .iface T u) ∨ pt n k l x y h t m c = .nilIface := by
  unfold pt
  split
  · exact Or.inl ⟨_, _, rfl⟩
  · split
    · exact Or.inl ⟨_, _, rfl⟩
    · split
      · exact Or.inl ⟨_, _, rfl⟩
      · exact Or.inr rfl
theorem infoP : (Tryz.prog.info? 180).map (fun i => (i.zero, i.size, i.bytes)) = some (some .nilIface, 1, 16) := by kernel_rfl
theorem made_nil (n : Nat) : (madeCells #[Value.nilIface] (n * 1)).toList = List.replicate n .nilIface := by
  apply List.ext_getElem?
  intro j
  rw [Array.getElem?_toList, List.getElem?_replicate]
  simp only [madeCells]
  by_cases h : j < n
  · simp [h, Nat.mod_one]
  · simp [h]

/-- What is known behind partsOf. -/
structure Parts (w : World) (b n : Nat) (zs : List D) (M : List (ByteArray × Nat)) (g : Nat) (M' : List (ByteArray × Nat)) (w' : World) : Prop where
  new : w.heap.size ≤ g
  row : w'.ownsRow w.heap.size 180 1 (.slice (some ⟨g, 0, none⟩) n n) n (zs.map (ptM M'))
  made : Made zs M M'
  ls : Ls w' b M'
  gd : Gd w' M'
  grown : w.grownBy w' (some b)

set_option maxHeartbeats 4000000 in
theorem partsOf (A : Option Addr) (n0 cp b0 : Nat) (zs : List D) (M : List (ByteArray × Nat)) (H : Nat) (w : World) (hn : zs.length = n0) (hb : n0 ≤ 1048576) (hH : H ≤ w.heap.size) (hr : Rd w H A (dls zs)) (hrb : A.map (·.block) ≠ some b0 ∨ dls zs = []) (hL : Ls w b0 M) (hG : Gd w M) :
    Calls Tryz.prog 142 #[.map (some b0), .slice A n0 cp] w fun e w' => ∃ g M', e = .returned (.slice (some ⟨g, 0, none⟩) n0 n0) ∧ Parts w b0 n0 zs M g M' w' := by
  obtain ⟨i0, hi, hz0, hz1, hz2⟩ := info_of infoP
  have hbl := hL.lt
  have HR := Lib.hid hr
  have HN := Lib.hid hn
  have HX := Lib.hid hrb
  have HH := Lib.hid hH
  have H0 := Lib.hid (And.intro hL hG)
  clear hr hn hrb hL hG hH
  go_enter Tryz.func142, Tryz.ntmps142
  go_wp2_with (at_make; refine wpList_make_full _ rfl _ _ 175 rfl w.heap.size 180 i0 .nilIface 1 Tryz.underlying175 hi hz0 hz1 .i64 .i64 n0 n0 n0 rfl rfl rfl rfl (by rw [hz2]; omega) (by unfold maxLen; omega) (Nat.le_refl _) ?_; intro w1 hown hgrow; clear hi hz0 hz1 hz2)
  have G0 := Lib.hid (show w.grownBy w1 (some b0) from gthen (World.grownBy.refl _ _) hgrow (fun j hj => by cases hj))
  have R0 := Lib.hid (show w1.ownsRow w.heap.size 180 1 (.slice (some ⟨w.heap.size, 0, none⟩) n0 n0) n0 (mixed (zs.map (ptM M)) (List.replicate n0 .nilIface) 0) by
    rw [mixed_zero, ← made_nil]; exact hown)
  have L1 := Lib.hid (H0.out.1.grown hgrow (by simp))
  have D1 := Lib.hid (H0.out.2.more hgrow.size)
  clear hown hgrow
  go_loopw [13] (fun i wr => ∃ (k : Nat) (Mk : List (ByteArray × Nat)), k ≤ n0 ∧ i = .int .i64 k ∧ Hid (wr.ownsRow w.heap.size 180 1 (.slice (some ⟨w.heap.size, 0, none⟩) n0 n0) n0 (mixed (zs.map (ptM Mk)) (List.replicate n0 .nilIface) k)) ∧ Hid (Ls wr b0 Mk) ∧ Hid (Gd wr Mk) ∧ Hid (Made (zs.take k) M Mk) ∧ Hid (w.grownBy wr (some b0))) (fun i _ => n0 - (intOf i).toNat)
  case atStart => exact ⟨0, M, Nat.zero_le _, rfl, R0, L1, D1, Lib.hid (by rw [List.take_zero]; exact Made.nil M), G0⟩
  case round =>
    obtain ⟨k, Mk, hk, rfl, RK, LK, DK, MK, GK⟩ := hrel
    by_cases hlt : k < n0
    · obtain ⟨z, hz⟩ : ∃ z, zs[k]? = some z := ⟨_, List.getElem?_eq_getElem (by rw [HN.out]; exact hlt)⟩
      have hzz := hz
      have hRk : Rd wr H A (dls zs) := by
        rcases HR.out with h | ⟨b', o', e, hb', hx⟩
        · exact Or.inl h
        · refine Or.inr ⟨b', o', e, hb', fun j v hv => GK.out.cell (hx j v hv) (fun c => ?_)⟩
          rcases HX.out with h1 | h1
          · apply h1; rw [e]; exact c
          · rw [h1] at hv; cases hv
      have tk : zs.take (k + 1) = zs.take k ++ [z] := by obtain ⟨hk', rfl⟩ := List.getElem?_eq_some_iff.1 hz; exact List.take_succ_eq_append_getElem hk'
      obtain ⟨n, q, l, x, y, h, t, m⟩ := z
      obtain ⟨b1, o1, eA, hbl2, hcell⟩ := (hRk).get (k := k * 8) (by rw [dls_len, HN.out]; omega)
      obtain ⟨z0, z1, z2, z3, z4, z5, z6, z7⟩ := dls_get hz
      have c0 := hcell (k * 8) _ z0
      have c1 := hcell (k * 8 + 1) _ z1
      rw [← Nat.add_assoc] at c1
      have c2 := hcell (k * 8 + 2) _ z2
      rw [← Nat.add_assoc] at c2
      have c3 := hcell (k * 8 + 3) _ z3
      rw [← Nat.add_assoc] at c3
      have c4 := hcell (k * 8 + 4) _ z4
      rw [← Nat.add_assoc] at c4
      have c5 := hcell (k * 8 + 5) _ z5
      rw [← Nat.add_assoc] at c5
      have c6 := hcell (k * 8 + 6) _ z6
      rw [← Nat.add_assoc] at c6
      have c7 := hcell (k * 8 + 7) _ z7
      rw [← Nat.add_assoc] at c7
      clear hcell z0 z1 z2 z3 z4 z5 z6 z7 hz
      subst eA
      have CP := Lib.hid (partOf n q l x y h t m b0 Mk (wr.alloc (.cells (ca n q l x y h t m) 98)) (LK.out.alloc _) (DK.out.more (by simp)))
      have TK := Lib.hid tk
      have ZZ := Lib.hid hzz
      clear hRk tk hzz hbl2
      go_wp2_with fail
      refine CP.out.mono ?_
      rintro e w2 ⟨M2, c, rfl, HP⟩
      have g2 := HP.grown
      have R2 := owns_grown (RK.out.alloc (.cells (ca n q l x y h t m) 98)) g2 (fun u hu e => by cases hu; injection e with e; (have e' : b0 = w.heap.size := e); omega)
      have eM : ptM M2 ⟨n, q, l, x, y, h, t, m⟩ = pt n q l x y h t m c := by
        unfold ptM
        exact pt_eq fun e => by rw [HP.here e]; rfl
      have mE : mixed (zs.map (ptM Mk)) (List.replicate n0 .nilIface) k = mixed (zs.map (ptM M2)) (List.replicate n0 .nilIface) k := by
        unfold mixed
        rw [← List.map_take, ← List.map_take]
        congr 1
        exact List.map_congr_left fun d hd => (ptM_old (MK.out.all d hd) HP.old).symm
      rw [mE] at R2
      have hlen : (List.replicate n0 Value.nilIface).length = (zs.map (ptM M2)).length := by rw [List.length_replicate, List.length_map, HN.out]
      have e0 : w2.cell? ⟨w.heap.size, k, none⟩ = some .nilIface := (R2.cellAt k (by show k < n0 * 1; omega)).trans (mixed_at hlen (Nat.le_refl _) (by rw [List.getElem?_replicate, if_pos hlt]))
      have f0 := R2.frozenAt k
      obtain ⟨r3, g3⟩ := R2.stored k (pt n q l x y h t m c)
      rw [mixed_put hlen (by rw [List.getElem?_map, ZZ.out]; simp [eM])] at r3
      have RR := Lib.hid r3
      have GG := Lib.hid (show w.grownBy (w2.setCell ⟨w.heap.size, k, none⟩ (pt n q l x y h t m c)) (some b0) from gthen (grown_trans (grown_trans GK.out (World.grownBy_alloc _ _ _)) g2) g3 (fun j hj => by cases hj; exact Or.inl (Nat.le_refl _)))
      have LL := Lib.hid (show Ls (w2.setCell ⟨w.heap.size, k, none⟩ (pt n q l x y h t m c)) b0 M2 from HP.ls.set (by show w.heap.size ≠ b0; omega) _)
      have DD := Lib.hid (show Gd (w2.setCell ⟨w.heap.size, k, none⟩ (pt n q l x y h t m c)) M2 from HP.gd.more (by simp))
      have MM := Lib.hid (show Made (zs.take (k + 1)) M M2 by rw [TK.out]; exact Made.snoc MK.out HP.here HP.old HP.new)
      have hsz : w.heap.size < w2.heap.size := World.block_lt_of_cell? w2 _ e0
      clear HP g2 R2 eM mE hlen r3 g3 RK LK DK MK GK TK ZZ CP c0 c1 c2 c3 c4 c5 c6 c7
      have PF := pt_form n q l x y h t m c
      generalize pt n q l x y h t m c = V at *
      rcases PF with ⟨T, u, rfl⟩ | rfl
      all_goals go_wp2_with fail
      all_goals go_roundw
      case rel => exact ⟨k + 1, M2, by omega, by go_num, RR, LL, DD, MM, GG⟩
      case measure => simp [intOf]; omega
      case rel => exact ⟨k + 1, M2, by omega, by go_num, RR, LL, DD, MM, GG⟩
      case measure => simp [intOf]; omega
    · obtain rfl : k = n0 := by omega
      go_wp2_with fail
      go_ret
      refine ⟨w.heap.size, Mk, rfl, Nat.le_refl _, ?_, ?_, LK.out, DK.out, GK.out⟩
      · have := RK.out
        rw [show k = (zs.map (ptM Mk)).length by rw [List.length_map, HN.out], mixed_all (by rw [List.length_replicate])] at this
        rw [List.length_map, HN.out] at this
        exact this
      · have := MK.out
        rw [List.take_of_length_le (by rw [HN.out]; exact Nat.le_refl _)] at this
        exact this

end Go.Proofs.YtokncfhpmjohdaaGreat.Pa
namespace Go.Proofs.YtokncfhpmjohdaaGreat.Di
open Go.RowKit Go.Proofs.YtokncfhpmjohdaaGreat.Cm Go.Proofs.YtokncfhpmjohdaaGreat.Pl Go.Proofs.YtokncfhpmjohdaaGreat.Str Go.Proofs.YtokncfhpmjohdaaGreat.Pw Go.Proofs.YtokncfhpmjohdaaGreat.P2 Go.Proofs.YtokncfhpmjohdaaGreat.Hd Go.Proofs.YtokncfhpmjohdaaGreat.Jt Go.Proofs.YtokncfhpmjohdaaGreat.Dd Go.Proofs.YtokncfhpmjohdaaGreat.IsName Go.Proofs.YtokncfhpmjohdaaGreat.Ds Go.Proofs.YtokncfhpmjohdaaGreat.Ch Go.Proofs.YtokncfhpmjohdaaGreat.Hn Go.Proofs.YtokncfhpmjohdaaGreat.Po
set_option linter.unusedVariables false
set_option linter.unusedSimpArgs false

set_option maxHeartbeats 4000000 in
theorem isDeviceI (n : ByteArray) (k : Int) (l : ByteArray) (x y h t m : Int) (w : World) :
    Calls Tryz.prog 105 #[va n k l x y h t m] w fun e w' => e = .returned (.bool (devB n k l x y h t m)) ∧ Below w.heap.size w w' := by
  have cn := IsName.impl n
  have L0 : Ls ((w.alloc (.cells (ca n k l x y h t m) 98)).alloc (.map #[] 0)) (w.heap.size + 1) [] := by
    have := Ls.made (w.alloc (.cells (ca n k l x y h t m) 98)); simpa using this
  have hmm := @run_makeMap Tryz.prog
  have CP := Lib.hid (partOf n k l x y h t m (w.heap.size + 1) [] _ L0 (Gd.nil _))
  clear L0
  unfold devB
  generalize nameB n = bn at *
  have HN := Lib.hid cn
  clear cn
  have hm0 : True := trivial
  by_cases k1 : k = 1
  · subst k1
    have S := Lib.hid (pumpSound n l x y h t m)
    rw [if_pos rfl]
    generalize pumpB l x y h t m = r at *
    clear hm0
    cases bn <;> cases r
    all_goals
      simp only [Bool.true_and, Bool.false_and]
      go_enter Tryz.func105, Tryz.ntmps105
      go_wp2_with fail
      refine (CP.out).mono ?_
      rintro e w1 ⟨M', c, rfl, HP⟩
      have p0 : w.heap.size < w1.heap.size := by have := HP.grown.size; simp at this; omega
      have c0 : w1.cell? ⟨w.heap.size, 0, none⟩ = some (.string n) := HP.grown.cell (by simp [go_sem]) (by simp)
      have H1 := Lib.hid (show Below w.heap.size w w1 from Below.grown (by go_grown) HP.grown (by simp; omega) (fun k hk => by cases hk; omega))
      clear HP
      rw [show pt n 1 l x y h t m c = .iface 198 (va n 1 l x y h t m) from rfl]
      go_wp2_with fail
      refine (HN.out _).mono ?_
      rintro e w' ⟨rfl, rfl⟩
      go_wp2_with fail
      first
        | (go_returns; exact ⟨rfl, H1.out⟩)
        | (refine (S.out _).mono ?_
           rintro e w2 ⟨rfl, hb⟩
           have H2 := Lib.hid (H1.out.trans (hb.mono H1.out.size))
           clear hb
           go_wp2_with fail
           go_returns
           exact ⟨rfl, H2.out⟩)
  by_cases k2 : k = 2
  · subst k2
    have S := Lib.hid (nozSound n l x y h t m)
    rw [if_neg k1, if_pos rfl]; clear k1
    generalize nozB n l x y h t m = r at *
    clear hm0
    cases bn <;> cases r
    all_goals
      simp only [Bool.true_and, Bool.false_and]
      go_enter Tryz.func105, Tryz.ntmps105
      go_wp2_with fail
      refine (CP.out).mono ?_
      rintro e w1 ⟨M', c, rfl, HP⟩
      have p0 : w.heap.size < w1.heap.size := by have := HP.grown.size; simp at this; omega
      have c0 : w1.cell? ⟨w.heap.size, 0, none⟩ = some (.string n) := HP.grown.cell (by simp [go_sem]) (by simp)
      have H1 := Lib.hid (show Below w.heap.size w w1 from Below.grown (by go_grown) HP.grown (by simp; omega) (fun k hk => by cases hk; omega))
      clear HP
      rw [show pt n 2 l x y h t m c = .iface 204 (hv n 2 l x y h t m c) from rfl]
      go_wp2_with fail
      refine (HN.out _).mono ?_
      rintro e w' ⟨rfl, rfl⟩
      go_wp2_with fail
      first
        | (go_returns; exact ⟨rfl, H1.out⟩)
        | (refine (S.out c _).mono ?_
           rintro e w2 ⟨rfl, hb⟩
           have H2 := Lib.hid (H1.out.trans (hb.mono H1.out.size))
           clear hb
           go_wp2_with fail
           go_returns
           exact ⟨rfl, H2.out⟩)
  by_cases k3 : k = 3
  · subst k3
    have S := Lib.hid (lampSound n l x y h t m)
    rw [if_neg k1, if_neg k2, if_pos rfl]; clear k1 k2
    generalize lampB n l x y h t m = r at *
    clear hm0
    cases bn <;> cases r
    all_goals
      simp only [Bool.true_and, Bool.false_and]
      go_enter Tryz.func105, Tryz.ntmps105
      go_wp2_with fail
      refine (CP.out).mono ?_
      rintro e w1 ⟨M', c, rfl, HP⟩
      have p0 : w.heap.size < w1.heap.size := by have := HP.grown.size; simp at this; omega
      have c0 : w1.cell? ⟨w.heap.size, 0, none⟩ = some (.string n) := HP.grown.cell (by simp [go_sem]) (by simp)
      have H1 := Lib.hid (show Below w.heap.size w w1 from Below.grown (by go_grown) HP.grown (by simp; omega) (fun k hk => by cases hk; omega))
      clear HP
      rw [show pt n 3 l x y h t m c = .iface 205 (hv n 3 l x y h t m c) from rfl]
      go_wp2_with fail
      refine (HN.out _).mono ?_
      rintro e w' ⟨rfl, rfl⟩
      go_wp2_with fail
      first
        | (go_returns; exact ⟨rfl, H1.out⟩)
        | (refine (S.out c _).mono ?_
           rintro e w2 ⟨rfl, hb⟩
           have H2 := Lib.hid (H1.out.trans (hb.mono H1.out.size))
           clear hb
           go_wp2_with fail
           go_returns
           exact ⟨rfl, H2.out⟩)
  rw [if_neg k1, if_neg k2, if_neg k3, Bool.and_false]
  have PT := Lib.hid (show ∀ c, pt n k l x y h t m c = .nilIface from fun c => by simp [pt, k1, k2, k3])
  clear k1 k2 k3 hm0
  cases bn
  all_goals
    go_enter Tryz.func105, Tryz.ntmps105
    go_wp2_with fail
    refine (CP.out).mono ?_
    rintro e w1 ⟨M', c, rfl, HP⟩
    have H1 := Lib.hid (show Below w.heap.size w w1 from Below.grown (by go_grown) HP.grown (by simp; omega) (fun k hk => by cases hk; omega))
    clear HP
    rw [PT.out]
    go_wp2_with fail
    go_returns
    exact ⟨rfl, H1.out⟩
end Go.Proofs.YtokncfhpmjohdaaGreat.Di
