/- What a device hangs on, of the model; names compared, of the program. -/
import Derived.Test.YtgcheplneolonabFd
import Derived.Test.YtgcheplneolonabPo
namespace Go.Proofs.Ytgcheplneolonab.Ho
open Go.RowKit Go.ChangeShapes Go.WideShapes Go.WideElems Go.Deep Go.Proofs.Ytgcheplneolonab.Mem Go.Proofs.Ytgcheplneolonab.Rw Go.Proofs.Ytgcheplneolonab.Pw Go.Proofs.Ytgcheplneolonab.P2 Go.Proofs.Ytgcheplneolonab.Dd Go.Proofs.Ytgcheplneolonab.Dv Go.Proofs.Ytgcheplneolonab.Dl Go.Proofs.Ytgcheplneolonab.Ds Go.Proofs.Ytgcheplneolonab.Fd Go.Proofs.Ytgcheplneolonab.Ch Go.Proofs.Ytgcheplneolonab.Hn Go.Proofs.Ytgcheplneolonab.Po
set_option linter.unusedVariables false
set_option linter.unusedSimpArgs false

/-- Whether the device at place i is of kind q. -/
def kAt (zs : List D) (i q : Int) : Bool := if i < 0 then false else match zs[i.toNat]? with | some d => d.kd == q | none => false
theorem kAt_no (zs : List D) (q : Int) : kAt zs (-1) q = false := rfl
theorem kAt_yes {zs : List D} {j : Nat} {d : D} (h : zs[j]? = some d) (q : Int) : kAt zs (j : Int) q = (d.kd == q) := by
  unfold kAt; rw [if_neg (by omega), Int.toNat_natCast, h]
/-- Whether what a device hangs on is there, and of its kind. -/
def hgV (zs : List D) (k : Int) (s : ByteArray) : Bool := if k = 2 then kAt zs (fd zs s) 1 else if k = 3 then kAt zs (fd zs s) 2 else true
theorem hgV_2 (zs : List D) (s : ByteArray) : hgV zs 2 s = kAt zs (fd zs s) 1 := rfl
theorem hgV_3 (zs : List D) (s : ByteArray) : hgV zs 3 s = kAt zs (fd zs s) 2 := rfl
theorem hgV_o {k : Int} (h2 : k ≠ 2) (h3 : k ≠ 3) (zs : List D) (s : ByteArray) : hgV zs k s = true := by unfold hgV; rw [if_neg h2, if_neg h3]

set_option maxHeartbeats 4000000 in
theorem hangsS (A : Option Addr) (n0 c0 : Nat) (zs : List D) (n : ByteArray) (k : Int) (s : ByteArray) (x y h t m : Int) (w : World) (hn : zs.length = n0) (hb : n0 ≤ 1048576) (hr : Rd w w.heap.size A (dls zs)) :
    Calls Try.prog 36 #[.slice A n0 c0, va n k s x y h t m] w fun e w' => e = .returned (.bool (hgV zs k s)) ∧ Below w.heap.size w w' := by
  have HN := Lib.hid hn
  have CF := Lib.hid (findS A n0 c0 zs s (w.alloc (.cells (ca n k s x y h t m) 28)) hn hb ((hr.below (by go_grown)).more (by simp)))
  have HR := Lib.hid hr
  clear hr hn
  by_cases k2 : k = 2
  · subst k2
    rw [hgV_2]
    rcases fd_cases zs s with hf | ⟨j, hf, hj, d, hd, _⟩
    · rw [hf, kAt_no]
      rw [hf] at CF
      clear hf
      go_enter Try.func36, Try.ntmps36
      go_wp2_with fail
      refine CF.out.mono ?_
      rintro e w1 ⟨rfl, hb⟩
      obtain ⟨hc, hf9⟩ := open_below hb
      have H1 := Lib.hid (show Below w.heap.size w w1 from Below.trans (by go_grown) (hb.mono (by simp)))
      have KD : w1.cell? ⟨w.heap.size, 1, none⟩ = some (.int .i64 2) := (hb.cell (by simp)).trans (by simp [go_sem])
      clear hb CF
      go_wp2_with fail
      go_returns
      exact ⟨rfl, H1.out⟩
    · rw [hf, kAt_yes hd]
      rw [hf] at CF
      have hj0 : j < n0 := by rw [← HN.out]; exact hj
      obtain ⟨b, o, eA, hbl, hcell⟩ := HR.out.get (k := j * 8) (by rw [dls_len, HN.out]; omega)
      have hd2 := (dls_get hd).2.1
      have cK : w.cell? ⟨b, o + j * 8 + 1, none⟩ = some (.int .i64 d.kd) := by rw [Nat.add_assoc]; exact hcell _ _ hd2
      generalize d.kd = q at *
      subst eA
      clear hcell hd2 hd hj hf
      obtain ⟨r, hr⟩ : ∃ r, (q == 1) = r := ⟨_, rfl⟩
      rw [hr]
      have hq : decide (q = 1) = r := by rw [← hr]; by_cases e : q = 1 <;> simp [e]
      cases r
      all_goals
        go_enter Try.func36, Try.ntmps36
        go_wp2_with fail
        refine CF.out.mono ?_
        rintro e w1 ⟨rfl, hb⟩
        obtain ⟨hc, hf9⟩ := open_below hb
        have H1 := Lib.hid (show Below w.heap.size w w1 from Below.trans (by go_grown) (hb.mono (by simp)))
        have KD : w1.cell? ⟨w.heap.size, 1, none⟩ = some (.int .i64 2) := (hb.cell (by simp)).trans (by simp [go_sem])
        clear hb CF
        have hB1 : b < w1.heap.size := Nat.lt_of_lt_of_le hbl H1.out.size
        have cK1 := (H1.out.cell (p := ⟨b, o + j * 8 + 1, none⟩) hbl).trans cK
        go_wp2_with fail
        go_returns
        exact ⟨rfl, H1.out⟩
  by_cases k3 : k = 3
  · subst k3
    rw [hgV_3]
    rcases fd_cases zs s with hf | ⟨j, hf, hj, d, hd, _⟩
    · rw [hf, kAt_no]
      rw [hf] at CF
      clear hf k2
      go_enter Try.func36, Try.ntmps36
      go_wp2_with fail
      refine CF.out.mono ?_
      rintro e w1 ⟨rfl, hb⟩
      obtain ⟨hc, hf9⟩ := open_below hb
      have H1 := Lib.hid (show Below w.heap.size w w1 from Below.trans (by go_grown) (hb.mono (by simp)))
      have KD : w1.cell? ⟨w.heap.size, 1, none⟩ = some (.int .i64 3) := (hb.cell (by simp)).trans (by simp [go_sem])
      clear hb CF
      go_wp2_with fail
      go_returns
      exact ⟨rfl, H1.out⟩
    · rw [hf, kAt_yes hd]
      rw [hf] at CF
      have hj0 : j < n0 := by rw [← HN.out]; exact hj
      obtain ⟨b, o, eA, hbl, hcell⟩ := HR.out.get (k := j * 8) (by rw [dls_len, HN.out]; omega)
      have hd2 := (dls_get hd).2.1
      have cK : w.cell? ⟨b, o + j * 8 + 1, none⟩ = some (.int .i64 d.kd) := by rw [Nat.add_assoc]; exact hcell _ _ hd2
      generalize d.kd = q at *
      subst eA
      clear hcell hd2 hd hj hf k2
      obtain ⟨r, hr⟩ : ∃ r, (q == 2) = r := ⟨_, rfl⟩
      rw [hr]
      have hq : decide (q = 2) = r := by rw [← hr]; by_cases e : q = 2 <;> simp [e]
      cases r
      all_goals
        go_enter Try.func36, Try.ntmps36
        go_wp2_with fail
        refine CF.out.mono ?_
        rintro e w1 ⟨rfl, hb⟩
        obtain ⟨hc, hf9⟩ := open_below hb
        have H1 := Lib.hid (show Below w.heap.size w w1 from Below.trans (by go_grown) (hb.mono (by simp)))
        have KD : w1.cell? ⟨w.heap.size, 1, none⟩ = some (.int .i64 3) := (hb.cell (by simp)).trans (by simp [go_sem])
        clear hb CF
        have hB1 : b < w1.heap.size := Nat.lt_of_lt_of_le hbl H1.out.size
        have cK1 := (H1.out.cell (p := ⟨b, o + j * 8 + 1, none⟩) hbl).trans cK
        go_wp2_with fail
        go_returns
        exact ⟨rfl, H1.out⟩
  rw [hgV_o k2 k3]
  generalize fd zs s = i at *
  go_enter Try.func36, Try.ntmps36
  go_wp2_with fail
  refine CF.out.mono ?_
  rintro e w1 ⟨rfl, hb⟩
  obtain ⟨hc, hf9⟩ := open_below hb
  have H1 := Lib.hid (show Below w.heap.size w w1 from Below.trans (by go_grown) (hb.mono (by simp)))
  have KD : w1.cell? ⟨w.heap.size, 1, none⟩ = some (.int .i64 k) := (hb.cell (by simp)).trans (by simp [go_sem])
  clear hb CF
  go_wp2_with fail
  go_returns
  exact ⟨rfl, H1.out⟩
end Go.Proofs.Ytgcheplneolonab.Ho
