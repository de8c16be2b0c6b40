/- Whether a device is valid, of the program. -/
import Derived.Test.YtejeikfgmiadhabGreatM11
namespace Go.Proofs.YtejeikfgmiadhabGreat.Di
open Go.RowKit Go.Proofs.YtejeikfgmiadhabGreat.Cm Go.Proofs.YtejeikfgmiadhabGreat.Pl Go.Proofs.YtejeikfgmiadhabGreat.Str Go.Proofs.YtejeikfgmiadhabGreat.Pw Go.Proofs.YtejeikfgmiadhabGreat.P2 Go.Proofs.YtejeikfgmiadhabGreat.Hd Go.Proofs.YtejeikfgmiadhabGreat.Jt Go.Proofs.YtejeikfgmiadhabGreat.Dd Go.Proofs.YtejeikfgmiadhabGreat.IsName Go.Proofs.YtejeikfgmiadhabGreat.Ds Go.Proofs.YtejeikfgmiadhabGreat.Ch Go.Proofs.YtejeikfgmiadhabGreat.Hn Go.Proofs.YtejeikfgmiadhabGreat.Po
set_option linter.unusedVariables false
set_option linter.unusedSimpArgs false

set_option maxHeartbeats 4000000 in
theorem isDeviceI (n : ByteArray) (k : Int) (l : ByteArray) (x y h t m : Int) (w : World) :
    Calls Tryz.prog 116 #[va n k l x y h t m] w fun e w' => e = .returned (.bool (devB n k l x y h t m)) ∧ Below w.heap.size w w' := by
  have cn := IsName.impl n
  have L0 : Ls ((w.alloc (.cells (ca n k l x y h t m) 102)).alloc (.map #[] 0)) (w.heap.size + 1) [] := by
    have := Ls.made (w.alloc (.cells (ca n k l x y h t m) 102)); simpa using this
  have hmm := @run_makeMap Tryz.prog
  have CP := Lib.hid (partOf n k l x y h t m (w.heap.size + 1) [] _ L0 (Gd.nil _))
  clear L0
  unfold devB
  generalize nameB n = bn at *
  have HN := Lib.hid cn
  clear cn
  have hm0 : True := trivial
  by_cases k1 : k = 1
  · subst k1
    have S := Lib.hid (pumpSound n l x y h t m)
    rw [if_pos rfl]
    generalize pumpB l x y h t m = r at *
    clear hm0
    cases bn <;> cases r
    all_goals
      simp only [Bool.true_and, Bool.false_and]
      go_enter Tryz.func116, Tryz.ntmps116
      go_wp2_with fail
      refine (CP.out).mono ?_
      rintro e w1 ⟨M', c, rfl, HP⟩
      have p0 : w.heap.size < w1.heap.size := by have := HP.grown.size; simp at this; omega
      have c0 : w1.cell? ⟨w.heap.size, 0, none⟩ = some (.string n) := HP.grown.cell (by simp [go_sem]) (by simp)
      have H1 := Lib.hid (show Below w.heap.size w w1 from Below.grown (by go_grown) HP.grown (by simp; omega) (fun k hk => by cases hk; omega))
      clear HP
      rw [show pt n 1 l x y h t m c = .iface 200 (va n 1 l x y h t m) from rfl]
      go_wp2_with fail
      refine (HN.out _).mono ?_
      rintro e w' ⟨rfl, rfl⟩
      go_wp2_with fail
      first
        | (go_returns; exact ⟨rfl, H1.out⟩)
        | (refine (S.out _).mono ?_
           rintro e w2 ⟨rfl, hb⟩
           have H2 := Lib.hid (H1.out.trans (hb.mono H1.out.size))
           clear hb
           go_wp2_with fail
           go_returns
           exact ⟨rfl, H2.out⟩)
  by_cases k2 : k = 2
  · subst k2
    have S := Lib.hid (nozSound n l x y h t m)
    rw [if_neg k1, if_pos rfl]; clear k1
    generalize nozB n l x y h t m = r at *
    clear hm0
    cases bn <;> cases r
    all_goals
      simp only [Bool.true_and, Bool.false_and]
      go_enter Tryz.func116, Tryz.ntmps116
      go_wp2_with fail
      refine (CP.out).mono ?_
      rintro e w1 ⟨M', c, rfl, HP⟩
      have p0 : w.heap.size < w1.heap.size := by have := HP.grown.size; simp at this; omega
      have c0 : w1.cell? ⟨w.heap.size, 0, none⟩ = some (.string n) := HP.grown.cell (by simp [go_sem]) (by simp)
      have H1 := Lib.hid (show Below w.heap.size w w1 from Below.grown (by go_grown) HP.grown (by simp; omega) (fun k hk => by cases hk; omega))
      clear HP
      rw [show pt n 2 l x y h t m c = .iface 206 (hv n 2 l x y h t m c) from rfl]
      go_wp2_with fail
      refine (HN.out _).mono ?_
      rintro e w' ⟨rfl, rfl⟩
      go_wp2_with fail
      first
        | (go_returns; exact ⟨rfl, H1.out⟩)
        | (refine (S.out c _).mono ?_
           rintro e w2 ⟨rfl, hb⟩
           have H2 := Lib.hid (H1.out.trans (hb.mono H1.out.size))
           clear hb
           go_wp2_with fail
           go_returns
           exact ⟨rfl, H2.out⟩)
  by_cases k3 : k = 3
  · subst k3
    have S := Lib.hid (lampSound n l x y h t m)
    rw [if_neg k1, if_neg k2, if_pos rfl]; clear k1 k2
    generalize lampB n l x y h t m = r at *
    clear hm0
    cases bn <;> cases r
    all_goals
      simp only [Bool.true_and, Bool.false_and]
      go_enter Tryz.func116, Tryz.ntmps116
      go_wp2_with fail
      refine (CP.out).mono ?_
      rintro e w1 ⟨M', c, rfl, HP⟩
      have p0 : w.heap.size < w1.heap.size := by have := HP.grown.size; simp at this; omega
      have c0 : w1.cell? ⟨w.heap.size, 0, none⟩ = some (.string n) := HP.grown.cell (by simp [go_sem]) (by simp)
      have H1 := Lib.hid (show Below w.heap.size w w1 from Below.grown (by go_grown) HP.grown (by simp; omega) (fun k hk => by cases hk; omega))
      clear HP
      rw [show pt n 3 l x y h t m c = .iface 207 (hv n 3 l x y h t m c) from rfl]
      go_wp2_with fail
      refine (HN.out _).mono ?_
      rintro e w' ⟨rfl, rfl⟩
      go_wp2_with fail
      first
        | (go_returns; exact ⟨rfl, H1.out⟩)
        | (refine (S.out c _).mono ?_
           rintro e w2 ⟨rfl, hb⟩
           have H2 := Lib.hid (H1.out.trans (hb.mono H1.out.size))
           clear hb
           go_wp2_with fail
           go_returns
           exact ⟨rfl, H2.out⟩)
  rw [if_neg k1, if_neg k2, if_neg k3, Bool.and_false]
  have PT := Lib.hid (show ∀ c, pt n k l x y h t m c = .nilIface from fun c => by simp [pt, k1, k2, k3])
  clear k1 k2 k3 hm0
  cases bn
  all_goals
    go_enter Tryz.func116, Tryz.ntmps116
    go_wp2_with fail
    refine (CP.out).mono ?_
    rintro e w1 ⟨M', c, rfl, HP⟩
    have H1 := Lib.hid (show Below w.heap.size w w1 from Below.grown (by go_grown) HP.grown (by simp; omega) (fun k hk => by cases hk; omega))
    clear HP
    rw [PT.out]
    go_wp2_with fail
    go_returns
    exact ⟨rfl, H1.out⟩
end Go.Proofs.YtejeikfgmiadhabGreat.Di
