/- A device taken out of a list: copies of the model, Delete of the library at devices. -/
import Derived.Test.YtgcheplneolonabSg
import Derived.Lib.SliceRun
import Derived.Deep.RegionLaw
import Derived.Deep.DeepCutAuto
namespace Go.Proofs.Ytgcheplneolonab.Rm
open Go.RowKit Go.ChangeShapes Go.WideShapes Go.WideElems Go.Deep Go.Proofs.Ytgcheplneolonab.Mem Go.Proofs.Ytgcheplneolonab.Rw Go.Proofs.Ytgcheplneolonab.Pw Go.Proofs.Ytgcheplneolonab.P2 Go.Proofs.Ytgcheplneolonab.Dd Go.Proofs.Ytgcheplneolonab.Dv Go.Proofs.Ytgcheplneolonab.Dl Go.Proofs.Ytgcheplneolonab.Ds Go.Proofs.Ytgcheplneolonab.Fd Go.Proofs.Ytgcheplneolonab.Ch Go.Proofs.Ytgcheplneolonab.Hn Go.Proofs.Ytgcheplneolonab.Po
set_option linter.unusedVariables false
set_option linter.unusedSimpArgs false
open Go.Proofs.Ytgcheplneolonab.Cm Go.Proofs.Ytgcheplneolonab.Pl Go.Proofs.Ytgcheplneolonab.Str Go.Proofs.Ytgcheplneolonab.Hd Go.Proofs.Ytgcheplneolonab.Jt Go.Proofs.Ytgcheplneolonab.Ho Go.Proofs.Ytgcheplneolonab.Pa Go.Proofs.Ytgcheplneolonab.Di Go.Proofs.Ytgcheplneolonab.Ig Go.Proofs.Ytgcheplneolonab.Ir Go.Proofs.Ytgcheplneolonab.Iq Go.Proofs.Ytgcheplneolonab.IsName Go.Proofs.Ytgcheplneolonab.Mo Go.Proofs.Ytgcheplneolonab.Tr Go.Proofs.Ytgcheplneolonab.Sg
open Go.Proofs.Ytgcheplneolonab.Rw (owns_below owns_grown)

/-- Cells written over a list, one after another. -/
def layL : List Value → Nat → List Value → List Value
  | xs, _, [] => xs
  | xs, o, u :: r => layL (xs.set o u) (o + 1) r
theorem layL_len : ∀ (r xs : List Value) (o : Nat), (layL xs o r).length = xs.length
  | [], _, _ => rfl
  | u :: r, xs, o => by rw [layL, layL_len r]; simp
theorem layL_get : ∀ (r xs : List Value) (o : Nat), o + r.length ≤ xs.length → ∀ t, (layL xs o r)[t]? = if t < o then xs[t]? else if t < o + r.length then r[t - o]? else xs[t]?
  | [], xs, o, _, t => by
    rw [layL]
    split
    · rfl
    · rw [if_neg (by simp only [List.length_nil]; omega)]
  | u :: r, xs, o, h, t => by
    simp only [List.length_cons] at h
    rw [layL, layL_get r (xs.set o u) (o + 1) (by rw [List.length_set]; omega) t]
    by_cases c1 : t < o
    · rw [if_pos (by omega), if_pos c1, List.getElem?_set_ne (by omega)]
    · rw [if_neg c1]
      by_cases c2 : t = o
      · subst c2
        rw [if_pos (by omega), if_pos (by simp only [List.length_cons]; omega), Nat.sub_self, List.getElem?_set_self (by omega)]; rfl
      · rw [if_neg (by omega)]
        by_cases c3 : t < o + (r.length + 1)
        · rw [if_pos (by omega), if_pos (by simp only [List.length_cons]; exact c3), show t - o = (t - (o + 1)) + 1 by omega, List.getElem?_cons_succ]
        · rw [if_neg (by omega), if_neg (by simp only [List.length_cons]; exact c3), List.getElem?_set_ne (by omega)]
theorem gtrans {a b c : World} {row : Option Nat} (h : a.grownBy b row) (k : b.grownBy c row) : a.grownBy c row :=
  ⟨k.os.trans h.os, k.tape.trans h.tape, k.output.trans h.output, Nat.le_trans h.size k.size, fun i hi hne => (k.block i (Nat.lt_of_lt_of_le hi h.size) hne).trans (h.block i hi hne)⟩
theorem owns_lay {base : Nat} {e : TypeId} {size g n cap : Nat} : ∀ (r : List Value) (o : Nat) (w : World) (xs : List Value), w.ownsRow base e size (.slice (some ⟨g, 0, none⟩) n cap) n xs → (w.setCells g o r).ownsRow base e size (.slice (some ⟨g, 0, none⟩) n cap) n (layL xs o r) ∧ w.grownBy (w.setCells g o r) (some g)
  | [], _, w, _, h => ⟨h, World.grownBy.refl _ _⟩
  | u :: r, o, w, xs, h => by
    obtain ⟨h1, g1⟩ := h.stored o u
    obtain ⟨h2, g2⟩ := owns_lay r (o + 1) _ _ h1
    exact ⟨h2, gtrans g1 g2⟩
theorem owns_fewer {w : World} {base : Nat} {e : TypeId} {size g n cap : Nat} {xs : List Value} (h : w.ownsRow base e size (.slice (some ⟨g, 0, none⟩) n cap) n xs) {m : Nat} (hm : m ≤ n) : w.ownsRow base e size (.slice (some ⟨g, 0, none⟩) m cap) m (xs.take (m * size)) := by
  rcases h.2 with ⟨h', _⟩ | ⟨g', cap', cur, h', hb, hg, hnc, hcm, hcs, htake⟩
  · simp at h'
  · simp only [Value.slice.injEq, Option.some.injEq, Addr.mk.injEq, and_true, true_and] at h'
    obtain ⟨rfl, rfl⟩ := h'
    have hle : m * size ≤ n * size := Nat.mul_le_mul_right _ hm
    refine ⟨by rw [List.length_take, h.1]; omega, .inr ⟨g, cap, cur, rfl, hb, hg, by omega, hcm, hcs, ?_⟩⟩
    rw [← htake, List.take_take, Nat.min_eq_left hle]
theorem owns_cap {w : World} {base : Nat} {e : TypeId} {size g n cap : Nat} {xs : List Value} (h : w.ownsRow base e size (.slice (some ⟨g, 0, none⟩) n cap) n xs) : n ≤ cap ∧ cap ≤ maxLen := by
  rcases h.2 with ⟨h', _⟩ | ⟨g', cap', cur, h', hb, hg, hnc, hcm, hcs, htake⟩
  · simp at h'
  · simp only [Value.slice.injEq, Option.some.injEq, Addr.mk.injEq, and_true, true_and] at h'
    obtain ⟨rfl, rfl⟩ := h'
    exact ⟨hnc, hcm⟩
theorem rd_take {w : World} {B : Nat} {A : Option Addr} {xs : List Value} (h : Rd w B A xs) (k : Nat) : Rd w B A (xs.take k) := by
  rcases h with h | ⟨b, o, e, hb, hc⟩
  · exact Or.inl (by rw [h]; simp)
  · exact Or.inr ⟨b, o, e, hb, fun j u hj => hc j u (by rw [List.getElem?_take] at hj; split at hj; exact hj; cases hj)⟩

theorem dls_app (xs ys : List D) : dls (xs ++ ys) = dls xs ++ dls ys := by unfold dls; rw [List.flatMap_append]
theorem dls_part {zs : List D} {k : Nat} (h : k ≤ zs.length) : dls (zs.take k) = (dls zs).take (k * 8) ∧ dls (zs.drop k) = (dls zs).drop (k * 8) := by
  have e : dls zs = dls (zs.take k) ++ dls (zs.drop k) := by rw [← dls_app, List.take_append_drop]
  have l : (dls (zs.take k)).length = k * 8 := by rw [dls_len, List.length_take]; omega
  rw [e, ← l]
  exact ⟨(List.take_left).symm, (List.drop_left).symm⟩
/-- The list without its j-th. -/
def cut (zs : List D) (j : Nat) : List D := zs.take j ++ zs.drop (j + 1)
theorem cut_len {zs : List D} {j : Nat} (h : j < zs.length) : (cut zs j).length = zs.length - 1 := by unfold cut; simp; omega
theorem cut_lay {zs : List D} {j : Nat} (h : j < zs.length) {z : List Value} (hz : z.length = 8) : (layL (layL (dls zs) (j * 8) (dls (zs.drop (j + 1)))) ((zs.length - 1) * 8) z).take ((zs.length - 1) * 8) = dls (cut zs j) := by
  have l0 := dls_len zs
  have l1 : (dls (zs.drop (j + 1))).length = (zs.length - (j + 1)) * 8 := by rw [dls_len, List.length_drop]
  have l2 : (dls (zs.take j)).length = j * 8 := by rw [dls_len, List.length_take]; omega
  unfold cut
  rw [dls_app]
  apply List.ext_getElem?
  intro t
  rw [List.getElem?_take]
  by_cases c : t < (zs.length - 1) * 8
  · rw [if_pos c, layL_get _ _ _ (by rw [layL_len, hz, l0]; omega), if_pos c, layL_get _ _ _ (by rw [l1, l0]; omega)]
    by_cases c1 : t < j * 8
    · rw [if_pos c1, List.getElem?_append_left (by omega), (dls_part (Nat.le_of_lt h)).1, List.getElem?_take, if_pos c1]
    · rw [if_neg c1, if_pos (by omega), List.getElem?_append_right (by omega), l2]
  · rw [if_neg c, List.getElem?_eq_none (by rw [List.length_append, l1, l2]; omega)]

set_option maxRecDepth 100000 in
set_option maxHeartbeats 400000 in
theorem copiesD (a : Addr) (n0 c9 : Nat) (zs : List D) (w : World) (hn : zs.length = n0) (hb : n0 ≤ 1048576) (hr : Rd w w.heap.size (some a) (dls zs)) :
    Calls Try.prog 37 #[.slice (some a) n0 c9] w (RowD w zs) := by
  obtain ⟨i0, hi, hz0, hz1, hz2⟩ := info_of infoD
  have R0 := Lib.hid (World.ownsRow_lit (base := w.heap.size) (e := 28) (size := 8) w #[] 0 (Nat.le_refl _) (Nat.zero_le _) rfl)
  have HC := Lib.hid (show ∀ j u, (dls zs)[j]? = some u → (w.alloc (.cells #[] 28)).cell? (a.add j) = some u by
    intro j u hj
    have hl := (List.getElem?_eq_some_iff.1 hj).1
    obtain ⟨b, o, e, hbl, hc⟩ := hr.get hl
    injection e with e
    subst e
    have := hc j u hj
    rw [show (⟨b, o, none⟩ : Addr).add j = ⟨b, o + j, none⟩ by simp [Addr.add]]
    exact cell_alloc this)
  have HN := Lib.hid hn
  have HW := Lib.hid (show w.heap.size ≤ (w.alloc (.cells #[] 28)).heap.size by simp)
  clear hr hn
  go_enter Try.func37, Try.ntmps37
  go_wp2_with (at_builtin; refine wpList_append_own _ rfl _ _ 24 rfl w.heap.size 28 i0 (.agg #[.string ⟨#[]⟩, .int .i64 0, .string ⟨#[]⟩, .int .i64 0, .int .i64 0, .int .i64 0, .int .i64 0, .int .i64 0]) 8 80 Try.underlying24 hi hz0 hz1 hz2 rfl (by decide) _ _ _ rfl R0.out a n0 _ (dls zs) rfl (by rw [dls_len, HN.out]) HC.out (fun u hu => dls_cell hu) (by unfold maxLen; omega) (by omega) HW.out ?_; intro v' w5 hown' hgrow hnil)
  have hg : ∃ g c, v' = .slice (some ⟨g, 0, none⟩) n0 c := by
    rcases hown'.2 with ⟨e1, _⟩ | ⟨g, cap, cur, e1, _⟩
    · exact absurd (hnil.1 e1).1 (by intro h; cases h)
    · exact ⟨g, cap, by rw [e1, Nat.zero_add]⟩
  obtain ⟨g, c, rfl⟩ := hg
  have RO := Lib.hid (show w5.ownsRow w.heap.size 28 8 (.slice (some ⟨g, 0, none⟩) n0 c) n0 (dls zs) by
    have := hown'; rw [Nat.zero_add] at this; exact this)
  have B5 := Lib.hid (show Below w.heap.size w w5 from Below.grown (by go_grown) hgrow (by simp) (fun j hj => by cases hj; exact Nat.le_refl _))
  clear hown' hgrow hnil R0 HC
  go_wp2_with fail
  go_ret
  exact ⟨g, c, by rw [HN.out]; rfl, by rw [HN.out]; exact RO.out, B5.out⟩

set_option maxRecDepth 100000 in
set_option maxHeartbeats 800000 in
theorem deleteD (g cO n0 j : Nat) (zs : List D) (base : Nat) (w : World) (hn : zs.length = n0) (hb : n0 ≤ 1048576) (hj : j < n0) (ho : w.ownsRow base 28 8 (.slice (some ⟨g, 0, none⟩) n0 cO) n0 (dls zs)) :
    Calls Try.prog 29 #[.slice (some ⟨g, 0, none⟩) n0 cO, .int .i64 (j : Int), .int .i64 ((j : Int) + 1)] w fun e w' => e = .returned (.slice (some ⟨g, 0, none⟩) (n0 - 1) cO) ∧ w'.ownsRow base 28 8 (.slice (some ⟨g, 0, none⟩) (n0 - 1) cO) (n0 - 1) (dls (cut zs j)) ∧ w.grownBy w' (some g) := by
  obtain ⟨i0, hi, hz0, hz1, hz2⟩ := info_of infoD
  obtain ⟨hc1, hc2⟩ := owns_cap ho
  unfold maxLen at hc2
  obtain ⟨m, hm⟩ : ∃ m, n0 - (j + 1) = m := ⟨_, rfl⟩
  obtain ⟨news, hnw⟩ : ∃ news, dls (zs.drop (j + 1)) = news := ⟨_, rfl⟩
  have hlen : news.length = m * 8 := by rw [← hnw, dls_len, List.length_drop, hn, hm]
  have ho2 := ho.drew
  have hget : ∀ t u, news[t]? = some u → w.drew.cell? ⟨g, (j + 1) * 8 + t, none⟩ = some u := by
    intro t u hu
    have hl := (List.getElem?_eq_some_iff.1 hu).1
    rw [ho2.cellAt _ (by omega)]
    rw [← hnw, (dls_part (zs := zs) (k := j + 1) (by omega)).2, List.getElem?_drop] at hu
    exact hu
  obtain ⟨A, hA, hsrc⟩ : ∃ A : Addr, (if cO = j + 1 then some (⟨g, 0, none⟩ : Addr) else some ⟨g, (j + 1) * 8, none⟩) = some A ∧ Hid (∀ t u, news[t]? = some u → w.drew.cell? (A.add t) = some u) := by
    by_cases h : cO = j + 1
    · refine ⟨⟨g, 0, none⟩, by simp [h], Lib.hid fun t u hu => ?_⟩
      have h0 : news.length = 0 := by rw [hlen]; omega
      rw [List.length_eq_zero_iff.1 h0] at hu
      simp at hu
    · exact ⟨⟨g, (j + 1) * 8, none⟩, by simp [h], Lib.hid fun t u hu => by rw [Addr.add_lit]; exact hget t u hu⟩
  have s1 : Hid (news.length = m * 8) := Lib.hid hlen
  have s2 : Hid (∀ u ∈ news, u.oneCell' = true) := Lib.hid fun u hu => by rw [← hnw] at hu; exact dls_cell hu
  have s3 : Hid (∀ t, t < news.length → (w.drew.cell? ⟨g, 0 + j * 8 + t, none⟩).isSome = true ∧ w.drew.frozen? ⟨g, 0 + j * 8 + t, none⟩ = false) := Lib.hid fun t ht => by
    rw [Nat.zero_add]
    refine ⟨?_, ho2.frozenAt _⟩
    rw [ho2.cellAt _ (by omega), List.getElem?_eq_getElem (by rw [dls_len]; omega)]; rfl
  obtain ⟨W1, hW1⟩ : ∃ W1, w.drew.setCells g (0 + j * 8) news = W1 := ⟨_, rfl⟩
  obtain ⟨o1, g1⟩ := owns_lay news (0 + j * 8) w.drew (dls zs) ho2
  rw [hW1] at o1 g1
  have g1d : w.grownBy W1 (some g) := ⟨g1.os, g1.tape, g1.output, g1.size, g1.block⟩
  obtain ⟨z, hz⟩ : ∃ z, dls [⟨⟨#[]⟩, 0, ⟨#[]⟩, 0, 0, 0, 0, 0⟩] = z := ⟨_, rfl⟩
  have hz8 : z.length = 8 := by rw [← hz, dls_len]; rfl
  obtain ⟨o2, g2⟩ := owns_lay z ((n0 - 1) * 8) W1 _ o1
  have o3 := owns_fewer o2 (m := n0 - 1) (by omega)
  have hfin : W1.setCells g ((n0 - 1) * 8) z = W1.setCells g ((n0 - 1) * 8) z := rfl
  have e3 : (layL (layL (dls zs) (0 + j * 8) news) ((n0 - 1) * 8) z).take ((n0 - 1) * 8) = dls (cut zs j) := by
    rw [Nat.zero_add, ← hnw, ← hn]; exact cut_lay (by omega) hz8
  rw [e3] at o3
  have O3 := Lib.hid o3
  have G3 := Lib.hid (show w.grownBy (W1.setCells g ((n0 - 1) * 8) z) (some g) from gtrans (show w.grownBy W1 (some g) from g1d) g2)
  have hcl : ∀ ty, (Builtin.clear_ #[24] ty #[.slice (some ⟨g, (n0 - 1) * 8, none⟩) 1 (cO - (n0 - 1))]).run Try.prog W1 = .ok (.tuple #[]) (W1.setCells g ((n0 - 1) * 8) z) := by
    intro ty
    have hst := run_storeCells_cells (P := Try.prog) g ((n0 - 1) * 8) z 0 W1 (fun k hk => by rw [hz8] at hk; rw [Nat.add_zero, o1.cellAt _ (by omega), List.getElem?_eq_getElem (by rw [layL_len, dls_len]; omega)]; rfl) (fun k hk => o1.frozenAt _) (fun v hv => by rw [← hz] at hv; exact dls_cell hv)
    have hzv : ∀ w, (zeroValue 28).run Try.prog w = .ok (.agg #[.string ⟨#[]⟩, .int .i64 0, .string ⟨#[]⟩, .int .i64 0, .int .i64 0, .int .i64 0, .int .i64 0, .int .i64 0]) w := by
      intro w
      have h30 : Try.t28.zero = some (.agg #[.string ⟨#[]⟩, .int .i64 0, .string ⟨#[]⟩, .int .i64 0, .int .i64 0, .int .i64 0, .int .i64 0, .int .i64 0]) := by kernel_rfl
      simp [zeroValue, h30]
    have hzc : (Builtin.zeroCells (Value.agg #[.string ⟨#[]⟩, .int .i64 0, .string ⟨#[]⟩, .int .i64 0, .int .i64 0, .int .i64 0, .int .i64 0, .int .i64 0]).cells 1).toList = z := by rw [← hz]; kernel_rfl
    simp only [Nat.add_zero] at hst
    simp [Builtin.clear_, run_underlying Try.underlying24, hzv, hzc, hst]
  have hW : Hid (W1 = w.drew.setCells g (0 + j * 8) news) := Lib.hid hW1.symm
  have hne : ¬ ((j : Int) = (j : Int) + 1) := by omega
  have q1 : (j : Int) + 1 ≤ n0 := by omega
  have q2 : (n0 : Int) ≤ cO := by omega
  have hjm : j + m = n0 - 1 := by omega
  have hcl2 : ∀ ty, (Builtin.clear_ #[24] ty #[.slice (some ⟨g, (n0 - 1) * 8, none⟩) (n0 - (n0 - 1)) (cO - (n0 - 1))]).run Try.prog W1 = .ok (.tuple #[]) (W1.setCells g ((n0 - 1) * 8) z) := by
    intro ty
    rw [show n0 - (n0 - 1) = 1 by omega]
    exact hcl ty
  have hic : j ≤ cO := by omega
  have q0 : (0 : Int) ≤ (j : Int) + 1 := by omega
  have hjc : j + 1 ≤ cO := by omega
  have hcm : ¬ cO = j + m := by omega
  have hjm2 : j + m ≤ n0 := by omega
  have hm9 : n0 - (j + 1) = m := hm
  clear hcl
  clear hW1 o1 g1 o2 g2 o3 e3 hz hz8 ho ho2 hget hnw hlen hfin g1d
  go_enter Try.func29, Try.ntmps29
  go_wp2_with fail
  go_region_law (refine step_append_room rfl (.tmp 22) (.tmp 25) 24 rfl 28 i0 8 Try.underlying24 hi hz1 g 0 j cO (by simp [Act.eval, Act.put]) A m (cO - (j + 1)) news (by simp [Act.eval, Act.put]) s1.out hsrc.out s2.out (by omega) s3.out ?_; rw [← hW.out])
  go_wp2
  go_ret
  exact ⟨rfl, O3.out, G3.out⟩

end Go.Proofs.Ytgcheplneolonab.Rm
