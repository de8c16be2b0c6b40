/- EndOf of the model. -/
import Derived.Test.YtedijideojmmlaaEd
import Derived.Test.YtedijideojmmlaaHc
import Derived.Test.YtedijideojmmlaaSm7
import Derived.Deep.DeepCutAuto
namespace Go.Proofs.Ytedijideojmmlaa.Em7
open Go.RowKit Go.ChangeShapes Go.WideShapes Go.WideElems Go.Deep Go.Proofs.Ytedijideojmmlaa.Mem Go.Proofs.Ytedijideojmmlaa.Rw Go.Proofs.Ytedijideojmmlaa.P2 Go.Proofs.Ytedijideojmmlaa.Cd Go.Proofs.Ytedijideojmmlaa.Cv Go.Proofs.Ytedijideojmmlaa.Cl Go.Proofs.Ytedijideojmmlaa.Cs
set_option linter.unusedVariables false
set_option linter.unusedSimpArgs false
open Go.Proofs.Ytedijideojmmlaa.Sd Go.Proofs.Ytedijideojmmlaa.Tn Go.Proofs.Ytedijideojmmlaa.Ld Go.Proofs.Ytedijideojmmlaa.Hc Go.Proofs.Ytedijideojmmlaa.Sm7 Go.Proofs.Ytedijideojmmlaa.Ed

theorem l1Max (a b : Int) (w : World) : Calls Try.prog 48 #[.int .i64 a, .int .i64 b] w fun e w' => e = .returned (.int .i64 (max a b)) ∧ w = w' := by
  by_cases h : b < a
  · have e : max a b = a := by omega
    rw [e]
    go_enter Try.func48, Try.ntmps48
    go_wp2
    all_goals go_returns
    all_goals first | exact ⟨rfl, rfl⟩ | (exfalso; omega)
  · have e : max a b = b := by omega
    rw [e]
    go_enter Try.func48, Try.ntmps48
    go_wp2
    all_goals go_returns
    all_goals first | exact ⟨rfl, rfl⟩ | (exfalso; omega) | (have e2 : a = b := by omega
                                                             subst e2; exact ⟨rfl, rfl⟩)

/-- What the first k cues lead to. -/
def Part (zs : List C) (sc : Bool) (k : Nat) (v : Int) : Prop := (0 ≤ v ∧ v ≤ 80) ∧ (sc = true → ∀ i d, i < k → LastAt zs i d → d.tk + d.rp ≤ v) ∧ (v = 0 ∨ (sc = true ∧ ∃ i d, LastAt zs i d ∧ v = d.tk + d.rp))
theorem part_skip {zs : List C} {sc : Bool} {k : Nat} {v : Int} (h : Part zs sc k v) (hn : sc = true → ∀ d, ¬ LastAt zs k d) : Part zs sc (k + 1) v :=
  ⟨h.1, fun hs i d hi hl => by
    by_cases e : i = k
    · subst e; exact absurd hl (hn hs d)
    · exact h.2.1 hs i d (by omega) hl, h.2.2⟩
theorem part_take {zs : List C} {k : Nat} {v : Int} {d : C} (h : Part zs true k v) (hd : LastAt zs k d) (hb : 0 ≤ d.tk + d.rp ∧ d.tk + d.rp ≤ 80) : Part zs true (k + 1) (max v (d.tk + d.rp)) := by
  refine ⟨by have := h.1; omega, fun hs i e hi hl => ?_, ?_⟩
  · by_cases c : i = k
    · subst c
      have := hl.1.symm.trans hd.1
      cases this; omega
    · have := h.2.1 hs i e (by omega) hl; omega
  · by_cases q : v ≤ d.tk + d.rp
    · rw [Int.max_eq_right q]; exact Or.inr ⟨rfl, k, d, hd, rfl⟩
    · rw [Int.max_eq_left (by omega)]; exact h.2.2
theorem part_end {zs : List C} {sc : Bool} {k : Nat} {v : Int} (hsc : score zs = sc) (h : Part zs sc k v) (hk : zs.length = k) : v = endV zs := by
  cases sc
  · rw [endV_no hsc]
    rcases h.2.2 with e | ⟨e, _⟩
    · exact e
    · cases e
  · refine endV_is hsc ⟨h.1.1, fun i d hl => h.2.1 rfl i d (by have := (List.getElem?_eq_some_iff.1 hl.1).1; omega) hl, ?_⟩
    rcases h.2.2 with e | ⟨_, e⟩
    · exact Or.inl e
    · exact Or.inr e

set_option maxHeartbeats 1000000 in
set_option maxRecDepth 100000 in
theorem endS (A : Option Addr) (n0 c9 : Nat) (zs : List C) (w : World) (hn : zs.length = n0) (hb : n0 ≤ 1048576) (hc9 : n0 ≤ c9) (hc8 : c9 ≤ 9223372036854775807) (hsz : ∀ z ∈ zs, z.nm.size ≤ 1048576) (hr : Rd w w.heap.size A (dls zs)) :
    Calls Try.prog 21 #[.slice A n0 c9] w fun e w' => e = .returned (.int .i64 (endV zs)) ∧ Below w.heap.size w w' := by
  have hu : undef = Value.tuple #[] := rfl
  have HR := Lib.hid hr
  have HN := Lib.hid hn
  have CS := Lib.hid (fun (W : World) (hW : Below w.heap.size w W) => scoreS A n0 c9 zs W hn hb hsz ((hr.below hW).more hW.size))
  obtain ⟨sc, hsc⟩ : ∃ r, score zs = r := ⟨_, rfl⟩
  rw [hsc] at CS
  have HSC := Lib.hid hsc
  have HV := Lib.hid (show sc = true → ∀ x ∈ zs, cB x = true from fun h => score_all (hsc.trans h))
  clear hr hn hsz hsc
  go_enter Try.func21, Try.ntmps21
  go_wp2_with fail
  go_loopw [3, 11] (fun v i wr => ∃ (k : Nat) (q : Int), k ≤ n0 ∧ i = .int .i64 k ∧ v = .int .i64 q ∧ Hid (Part zs sc k q) ∧ Hid (Below w.heap.size w wr)) (fun _ i _ => n0 - (intOf i).toNat)
  case atStart => exact ⟨0, 0, Nat.zero_le _, rfl, rfl, Lib.hid ⟨⟨Int.le_refl _, by decide⟩, fun _ i d h => by omega, Or.inl rfl⟩, Lib.hid (Below.refl _ _)⟩
  case round =>
    obtain ⟨k, q, hk, rfl, rfl, PK, BK⟩ := hrel
    by_cases hlt : k < n0
    · obtain ⟨z, hz⟩ : ∃ z, zs[k]? = some z := ⟨_, List.getElem?_eq_getElem (by rw [HN.out]; exact hlt)⟩
      have HZ := Lib.hid hz
      have hcb : sc = true → 0 ≤ z.tk + z.rp ∧ z.tk + z.rp ≤ 80 := fun h => by have := cB_in (HV.out h z (mem_at hz)); omega
      have HCB := Lib.hid hcb
      obtain ⟨t, n, l, r⟩ := z
      obtain ⟨b0, o0, eA, hbl, hcell⟩ := (HR.out.below BK.out).get (k := k * 4) (by rw [dls_len, HN.out]; omega)
      have zz := dls_get hz
      have c0 := hcell _ _ zz.1
      have c1 := hcell _ _ zz.2.1
      rw [← Nat.add_assoc] at c1
      have c2 := hcell _ _ zz.2.2.1
      rw [← Nat.add_assoc] at c2
      have c3 := hcell _ _ zz.2.2.2
      rw [← Nat.add_assoc] at c3
      clear zz hz hcell hbl hcb
      subst eA
      have W1B := Lib.hid (BK.out.alloc BK.out.size (.cells (ca t n l r) 28))
      have HX := Lib.hid (R4.new wr (.int .i64 t) (.string n) (.int .i64 l) (.int .i64 r) 28)
      have hk1 : wrap64 ((k : Int) + 1) = ((k + 1 : Nat) : Int) := by rw [IntWalk.wrap64_in _ (by omega)]; omega
      have q1 : k + 1 ≤ n0 := by omega
      have q2 : k + 1 ≤ c9 := by omega
      obtain ⟨m, hm⟩ : ∃ m, n0 - (k + 1) = m := ⟨_, rfl⟩
      have hm2 : k + 1 + m = n0 := by omega
      rcases Decidable.em (c9 = k + 1) with hac | hac
      · have HM2 := Lib.hid hm2
        obtain rfl : m = 0 := by omega
        subst hac
        clear hm2
        go_upto_region 6 with fail
        generalize wr.alloc (.cells (ca t n l r) 28) = W1 at *
        obtain ⟨wo, rfl⟩ : ∃ wo, wo = wr := ⟨_, rfl⟩
        have hxl : wo.heap.size < W1.heap.size := HX.out.lt
        go_wp2_with fail
        have HLT := Lib.hid hlt
        have hm9 : n0 - (k + 1) ≤ 1048576 := by omega
        rw [hm] at hm9
        clear hm
        go_loopw [6, 21] (fun bv i wr => ∃ (j : Nat) (bb : Bool), j ≤ 0 ∧ i = .int .i64 j ∧ bv = .bool bb ∧ Hid (bb = true ↔ ∀ i e, i < j → zs[k + 1 + i]? = some e → e.nm ≠ n) ∧ Hid (Below W1.heap.size W1 wr)) (fun _ i _ => 0 - (intOf i).toNat)
        case atStart => exact ⟨0, true, Nat.zero_le _, rfl, rfl, Lib.hid ⟨(fun _ i e h => by omega), (fun _ => rfl)⟩, Lib.hid (Below.refl _ _)⟩
        case round =>
          obtain ⟨j, bb, hj, rfl, rfl, JK, BI⟩ := hrel
          · obtain rfl : j = 0 := by omega
            have HLA := Lib.hid (show bb = true ↔ LastAt zs k ⟨t, n, l, r⟩ from ⟨(fun h => ⟨HZ.out, fun i e hi he => by
              have := JK.out.1 h (i - (k + 1)) e (by have := (List.getElem?_eq_some_iff.1 he).1; rw [HN.out] at this; have := HM2.out; omega) (by rw [show k + 1 + (i - (k + 1)) = i by omega]; exact he)
              exact this⟩), (fun h => JK.out.2 fun i e hi he => h.2 _ e (by omega) he)⟩)
            have B5 := Lib.hid (W1B.out.trans (BI.out.mono W1B.out.size))
            have CS2 := CS.out wr B5.out
            have hx0 : wr.cell? ⟨wo.heap.size, 0, none⟩ = some (.int .i64 t) := cell_below BI.out HX.out.c0
            have hx1 : wr.cell? ⟨wo.heap.size, 1, none⟩ = some (.string n) := cell_below BI.out HX.out.c1
            have hx3 : wr.cell? ⟨wo.heap.size, 3, none⟩ = some (.int .i64 r) := cell_below BI.out HX.out.c3
            have CS2 := Lib.hid CS2
            cases sc
            · have PN := Lib.hid (part_skip PK.out (fun h => by cases h) : Part zs false (k + 1) q)
              go_wp2_with fail
              with_reducible refine CS2.out.mono ?_
              rintro e w5 ⟨rfl, hb9⟩
              have B6 := Lib.hid (B5.out.trans (hb9.mono B5.out.size))
              clear hb9
              go_wp2_with fail
              go_roundw
              case rel => first | exact ⟨k + 1, q, by have := HLT.out; omega, by go_num, rfl, PN, B6⟩ | ((repeat apply Exists.intro); exact ⟨⟨k + 1, q, by have := HLT.out; omega, by go_num, rfl, PN, B6⟩, rfl⟩)
              case measure => (have := HLT.out; simp [intOf]; omega)
            cases bb
            · have PN := Lib.hid (part_skip PK.out (fun _ d hd => by
                have e := hd.1.symm.trans HZ.out
                cases e
                exact absurd (HLA.out.2 hd) (by decide)) : Part zs true (k + 1) q)
              go_wp2_with fail
              with_reducible refine CS2.out.mono ?_
              rintro e w5 ⟨rfl, hb9⟩
              have B6 := Lib.hid (B5.out.trans (hb9.mono B5.out.size))
              clear hb9
              go_wp2_with fail
              go_roundw
              case rel => first | exact ⟨k + 1, q, by have := HLT.out; omega, by go_num, rfl, PN, B6⟩ | ((repeat apply Exists.intro); exact ⟨⟨k + 1, q, by have := HLT.out; omega, by go_num, rfl, PN, B6⟩, rfl⟩)
              case measure => (have := HLT.out; simp [intOf]; omega)
            · have hb80 := HCB.out rfl
              (try simp only [] at hb80)
              have PN := Lib.hid (part_take PK.out (HLA.out.1 rfl) hb80)
              have hw : wrap64 (t + r) = t + r := IntWalk.wrap64_in _ (by omega)
              have CM := l1Max q (t + r)
              obtain ⟨v, hv⟩ : ∃ v, max q (t + r) = v := ⟨_, rfl⟩
              (try simp only [] at PN)
              rw [hv] at CM PN
              have CM := Lib.hid CM
              clear hv hb80
              go_wp2_with fail
              with_reducible refine CS2.out.mono ?_
              rintro e w5 ⟨rfl, hb9⟩
              have B6 := Lib.hid (B5.out.trans (hb9.mono B5.out.size))
              have y0 := cell_below hb9 hx0
              have y3 := cell_below hb9 hx3
              clear hb9
              go_wp2_with fail
              refine (CM.out _).mono ?_
              rintro e w6 ⟨rfl, rfl⟩
              go_wp2_with fail
              go_roundw
              case rel => first | exact ⟨k + 1, v, by have := HLT.out; omega, by go_num, rfl, PN, B6⟩ | ((repeat apply Exists.intro); exact ⟨⟨k + 1, v, by have := HLT.out; omega, by go_num, rfl, PN, B6⟩, rfl⟩)
              case measure => (have := HLT.out; simp [intOf]; omega)
      · have HM2 := Lib.hid hm2
        clear hm2
        go_upto_region 6 with fail
        generalize wr.alloc (.cells (ca t n l r) 28) = W1 at *
        obtain ⟨wo, rfl⟩ : ∃ wo, wo = wr := ⟨_, rfl⟩
        have hxl : wo.heap.size < W1.heap.size := HX.out.lt
        go_wp2_with fail
        have HLT := Lib.hid hlt
        have hm9 : n0 - (k + 1) ≤ 1048576 := by omega
        rw [hm] at hm9
        clear hm hac
        go_loopw [6, 21] (fun bv i wr => ∃ (j : Nat) (bb : Bool), j ≤ m ∧ i = .int .i64 j ∧ bv = .bool bb ∧ Hid (bb = true ↔ ∀ i e, i < j → zs[k + 1 + i]? = some e → e.nm ≠ n) ∧ Hid (Below W1.heap.size W1 wr)) (fun _ i _ => m - (intOf i).toNat)
        case atStart => exact ⟨0, true, Nat.zero_le _, rfl, rfl, Lib.hid ⟨(fun _ i e h => by omega), (fun _ => rfl)⟩, Lib.hid (Below.refl _ _)⟩
        case round =>
          obtain ⟨j, bb, hj, rfl, rfl, JK, BI⟩ := hrel
          by_cases hjt : j < m
          · obtain ⟨y, hy⟩ : ∃ y, zs[k + 1 + j]? = some y := ⟨_, List.getElem?_eq_getElem (by rw [HN.out]; have := HM2.out; omega)⟩
            have HY := Lib.hid hy
            obtain ⟨ty, ny, ly, ry⟩ := y
            have hbw : Below w.heap.size w wr := W1B.out.trans (BI.out.mono W1B.out.size)
            obtain ⟨b1, o1, eA, hbl, hcell⟩ := (HR.out.below hbw).get (k := (k + 1 + j) * 4) (by rw [dls_len, HN.out]; have := HM2.out; omega)
            injection eA with eA
            injection eA with e1 e2 e3
            subst e1 e2
            have zz := dls_get hy
            have d0 : wr.cell? ⟨b0, o0 + (k + 1) * 4 + j * 4, none⟩ = some (.int .i64 ty) := by rw [show o0 + (k + 1) * 4 + j * 4 = o0 + (k + 1 + j) * 4 by omega]; exact hcell _ _ zz.1
            have d1 : wr.cell? ⟨b0, o0 + (k + 1) * 4 + j * 4 + 1, none⟩ = some (.string ny) := by rw [show o0 + (k + 1) * 4 + j * 4 + 1 = o0 + ((k + 1 + j) * 4 + 1) by omega]; exact hcell _ _ zz.2.1
            have d2 : wr.cell? ⟨b0, o0 + (k + 1) * 4 + j * 4 + 2, none⟩ = some (.int .i64 ly) := by rw [show o0 + (k + 1) * 4 + j * 4 + 2 = o0 + ((k + 1 + j) * 4 + 2) by omega]; exact hcell _ _ zz.2.2.1
            have d3 : wr.cell? ⟨b0, o0 + (k + 1) * 4 + j * 4 + 3, none⟩ = some (.int .i64 ry) := by rw [show o0 + (k + 1) * 4 + j * 4 + 3 = o0 + ((k + 1 + j) * 4 + 3) by omega]; exact hcell _ _ zz.2.2.2
            have hx1 : wr.cell? ⟨wo.heap.size, 1, none⟩ = some (.string n) := cell_below BI.out HX.out.c1
            have BN := Lib.hid (BI.out.alloc BI.out.size (.cells (ca ty ny ly ry) 28))
            have hxi : wo.heap.size < wr.heap.size := Nat.lt_of_lt_of_le hxl BI.out.size
            clear hcell zz hy hbw hbl
            cases bb
            · have JN := Lib.hid (show false = true ↔ ∀ i e, i < j + 1 → zs[k + 1 + i]? = some e → e.nm ≠ n from ⟨(fun h => by cases h), (fun h => JK.out.2 fun i e hi he => h i e (by omega) he)⟩)
              go_wp2_with fail
              go_roundw
              case rel => (refine ⟨j + 1, false, by omega, by go_num, rfl, ?_⟩; first | exact ⟨JN, BN⟩ | exact JN)
              case measure => simp [intOf]; omega
            · cases hyn : (ny.toList == n.toList)
              · have JN := Lib.hid (show true = true ↔ ∀ i e, i < j + 1 → zs[k + 1 + i]? = some e → e.nm ≠ n from ⟨(fun _ i e hi he => by
                  by_cases c : i = j
                  · subst c; rw [HY.out] at he; cases he; intro e2; rw [bl_eq.2 e2] at hyn; cases hyn
                  · exact JK.out.1 rfl i e (by omega) he), (fun _ => rfl)⟩)
                go_wp2_with fail
                go_roundw
                case rel => (refine ⟨j + 1, true, by omega, by go_num, rfl, ?_⟩; first | exact ⟨JN, BN⟩ | exact JN)
                case measure => simp [intOf]; omega
              · have JN := Lib.hid (show false = true ↔ ∀ i e, i < j + 1 → zs[k + 1 + i]? = some e → e.nm ≠ n from ⟨(fun h => by cases h), (fun h => absurd (bl_eq.1 hyn) (h j _ (by omega) HY.out))⟩)
                go_wp2_with fail
                go_roundw
                case rel => (refine ⟨j + 1, false, by omega, by go_num, rfl, ?_⟩; first | exact ⟨JN, BN⟩ | exact JN)
                case measure => simp [intOf]; omega
          · obtain rfl : j = m := by omega
            have HLA := Lib.hid (show bb = true ↔ LastAt zs k ⟨t, n, l, r⟩ from ⟨(fun h => ⟨HZ.out, fun i e hi he => by
              have := JK.out.1 h (i - (k + 1)) e (by have := (List.getElem?_eq_some_iff.1 he).1; rw [HN.out] at this; have := HM2.out; omega) (by rw [show k + 1 + (i - (k + 1)) = i by omega]; exact he)
              exact this⟩), (fun h => JK.out.2 fun i e hi he => h.2 _ e (by omega) he)⟩)
            have B5 := Lib.hid (W1B.out.trans (BI.out.mono W1B.out.size))
            have CS2 := CS.out wr B5.out
            have hx0 : wr.cell? ⟨wo.heap.size, 0, none⟩ = some (.int .i64 t) := cell_below BI.out HX.out.c0
            have hx1 : wr.cell? ⟨wo.heap.size, 1, none⟩ = some (.string n) := cell_below BI.out HX.out.c1
            have hx3 : wr.cell? ⟨wo.heap.size, 3, none⟩ = some (.int .i64 r) := cell_below BI.out HX.out.c3
            have CS2 := Lib.hid CS2
            cases sc
            · have PN := Lib.hid (part_skip PK.out (fun h => by cases h) : Part zs false (k + 1) q)
              go_wp2_with fail
              with_reducible refine CS2.out.mono ?_
              rintro e w5 ⟨rfl, hb9⟩
              have B6 := Lib.hid (B5.out.trans (hb9.mono B5.out.size))
              clear hb9
              go_wp2_with fail
              go_roundw
              case rel => first | exact ⟨k + 1, q, by have := HLT.out; omega, by go_num, rfl, PN, B6⟩ | ((repeat apply Exists.intro); exact ⟨⟨k + 1, q, by have := HLT.out; omega, by go_num, rfl, PN, B6⟩, rfl⟩)
              case measure => (have := HLT.out; simp [intOf]; omega)
            cases bb
            · have PN := Lib.hid (part_skip PK.out (fun _ d hd => by
                have e := hd.1.symm.trans HZ.out
                cases e
                exact absurd (HLA.out.2 hd) (by decide)) : Part zs true (k + 1) q)
              go_wp2_with fail
              with_reducible refine CS2.out.mono ?_
              rintro e w5 ⟨rfl, hb9⟩
              have B6 := Lib.hid (B5.out.trans (hb9.mono B5.out.size))
              clear hb9
              go_wp2_with fail
              go_roundw
              case rel => first | exact ⟨k + 1, q, by have := HLT.out; omega, by go_num, rfl, PN, B6⟩ | ((repeat apply Exists.intro); exact ⟨⟨k + 1, q, by have := HLT.out; omega, by go_num, rfl, PN, B6⟩, rfl⟩)
              case measure => (have := HLT.out; simp [intOf]; omega)
            · have hb80 := HCB.out rfl
              (try simp only [] at hb80)
              have PN := Lib.hid (part_take PK.out (HLA.out.1 rfl) hb80)
              have hw : wrap64 (t + r) = t + r := IntWalk.wrap64_in _ (by omega)
              have CM := l1Max q (t + r)
              obtain ⟨v, hv⟩ : ∃ v, max q (t + r) = v := ⟨_, rfl⟩
              (try simp only [] at PN)
              rw [hv] at CM PN
              have CM := Lib.hid CM
              clear hv hb80
              go_wp2_with fail
              with_reducible refine CS2.out.mono ?_
              rintro e w5 ⟨rfl, hb9⟩
              have B6 := Lib.hid (B5.out.trans (hb9.mono B5.out.size))
              have y0 := cell_below hb9 hx0
              have y3 := cell_below hb9 hx3
              clear hb9
              go_wp2_with fail
              refine (CM.out _).mono ?_
              rintro e w6 ⟨rfl, rfl⟩
              go_wp2_with fail
              go_roundw
              case rel => first | exact ⟨k + 1, v, by have := HLT.out; omega, by go_num, rfl, PN, B6⟩ | ((repeat apply Exists.intro); exact ⟨⟨k + 1, v, by have := HLT.out; omega, by go_num, rfl, PN, B6⟩, rfl⟩)
              case measure => (have := HLT.out; simp [intOf]; omega)
    · obtain rfl : k = n0 := by omega
      have HE := Lib.hid (part_end HSC.out PK.out HN.out)
      go_wp2_with fail
      go_ret
      exact ⟨by rw [HE.out]; (try rfl), BK.out⟩
end Go.Proofs.Ytedijideojmmlaa.Em7
