/- EndOf of the program. -/
import Derived.Test.YtedijideojmmlaaEh
import Derived.Test.YtedijideojmmlaaSi7
import Derived.Deep.DeepCutAuto
namespace Go.Proofs.Ytedijideojmmlaa.Ei7
open Go.RowKit Go.ChangeShapes Go.WideShapes Go.WideElems Go.Deep Go.Proofs.Ytedijideojmmlaa.Mem Go.Proofs.Ytedijideojmmlaa.Rw Go.Proofs.Ytedijideojmmlaa.P2 Go.Proofs.Ytedijideojmmlaa.Cd Go.Proofs.Ytedijideojmmlaa.Cv Go.Proofs.Ytedijideojmmlaa.Cl Go.Proofs.Ytedijideojmmlaa.Cs
set_option linter.unusedVariables false
set_option linter.unusedSimpArgs false
open Go.Proofs.Ytedijideojmmlaa.Sd Go.Proofs.Ytedijideojmmlaa.Ld Go.Proofs.Ytedijideojmmlaa.Si7 Go.Proofs.Ytedijideojmmlaa.Ed Go.Proofs.Ytedijideojmmlaa.Eh
open Go.ChangeMaps (setBlock)

theorem heap_set {w : World} {r : Nat} {o : Obj} (h : r < w.heap.size) : (setBlock w r o).heap[r]? = some o ∧ ∀ j, j ≠ r → (setBlock w r o).heap[j]? = w.heap[j]? := by
  have h2 : w.heap[r]? = some w.heap[r] := Array.getElem?_eq_getElem h
  exact MapKept.heap_set (o' := o) h2
theorem below_set {B : Nat} {a w : World} {r : Nat} {o : Obj} (h : Below B a w) (hr : B ≤ r) (hl : r < w.heap.size) : Below B a (setBlock w r o) := by
  refine ⟨h.os, h.tape, h.output, ?_, fun k hk => ((heap_set hl).2 k (by omega)).trans (h.block k hk)⟩
  have := h.size
  show a.heap.size ≤ (w.heap.setIfInBounds r o).size
  simp; exact this

set_option maxHeartbeats 8000000 in
set_option maxRecDepth 100000 in
theorem endI (A : Option Addr) (n0 c9 : Nat) (zs : List C) (w : World) (hn : zs.length = n0) (hb : n0 ≤ 1048576) (hr : Rd w w.heap.size A (dls zs)) :
    Calls Try.prog 20 #[.slice A n0 c9] w fun e w' => e = .returned (.int .i64 (endV zs)) ∧ Below w.heap.size w w' := by
  have hu : undef = Value.tuple #[] := rfl
  have hmm := @run_makeMap Try.prog
  have HR := Lib.hid hr
  have HN := Lib.hid hn
  have CS := Lib.hid (scoreI A n0 c9 zs w hn hb hr)
  obtain ⟨sc, hsc⟩ : ∃ r, score zs = r := ⟨_, rfl⟩
  rw [hsc] at CS
  have HSC := Lib.hid hsc
  clear hr hn hsc
  cases sc
  · have HE := Lib.hid (endV_no HSC.out)
    go_enter Try.func20, Try.ntmps20
    go_wp2_with fail
    refine CS.out.mono ?_
    rintro e w2 ⟨rfl, hb9⟩
    have B2 := Lib.hid hb9
    clear hb9
    go_wp2_with fail
    go_returns
    exact ⟨by rw [HE.out]; (try rfl), B2.out⟩
  have HE := Lib.hid (endV_yes HSC.out)
  have HV := Lib.hid (show ∀ x ∈ zs, cB x = true from score_all HSC.out)
  go_enter Try.func20, Try.ntmps20
  go_wp2_with fail
  refine CS.out.mono ?_
  rintro e w2 ⟨rfl, hb9⟩
  have B2 := Lib.hid hb9
  clear hb9
  have L0 := Lib.hid (Ls.made w2)
  have M0 := Lib.hid (show Below w2.heap.size w2 (w2.alloc (.map #[] 0)) from (Below.refl _ _).alloc (Nat.le_refl _) _)
  go_wp2_with fail
  go_loopw [15] (fun i wr => ∃ k : Nat, k ≤ n0 ∧ i = .int .i64 k ∧ Hid (Ls wr w2.heap.size (ends (zs.take k))) ∧ Hid (Below w2.heap.size w2 wr)) (fun i _ => n0 - (intOf i).toNat)
  case atStart => exact ⟨0, Nat.zero_le _, rfl, L0, M0⟩
  case round =>
    obtain ⟨k, hk, rfl, LK, BK⟩ := hrel
    clear hmm L0 M0
    by_cases hlt : k < n0
    · obtain ⟨z, hz⟩ : ∃ z, zs[k]? = some z := ⟨_, List.getElem?_eq_getElem (by rw [HN.out]; exact hlt)⟩
      have hcb := cB_in (HV.out z (mem_at hz))
      have HP := Lib.hid (show ends (zs.take (k + 1)) = upd (ends (zs.take k)) z.nm (z.tk + z.rp) by
        obtain ⟨hk', e⟩ := List.getElem?_eq_some_iff.1 hz
        rw [List.take_succ_eq_append_getElem hk', ends_snoc, e])
      obtain ⟨t, n, l, r⟩ := z
      obtain ⟨b, o, eA, hbl, hcell⟩ := ((HR.out.below B2.out).more B2.out.size |>.below BK.out).get (k := k * 4) (by rw [dls_len, HN.out]; omega)
      have zz := dls_get hz
      simp only [] at hcb HP
      have c0 := hcell _ _ zz.1
      have c1 := hcell _ _ zz.2.1
      rw [← Nat.add_assoc] at c1
      have c2 := hcell _ _ zz.2.2.1
      rw [← Nat.add_assoc] at c2
      have c3 := hcell _ _ zz.2.2.2
      rw [← Nat.add_assoc] at c3
      have hw : wrap64 (t + r) = t + r := IntWalk.wrap64_in _ (by omega)
      clear hcell zz hz hbl hcb
      subst eA
      have LA := Lib.hid (LK.out.alloc (.cells (ca t n l r) 28))
      have BA := Lib.hid (BK.out.alloc BK.out.size (.cells (ca t n l r) 28))
      obtain ⟨M, hM⟩ : ∃ M, ends (zs.take k) = M := ⟨_, rfl⟩
      rw [hM] at LA HP
      clear hM LK
      go_wp2_with (at_mapUpdate; refine wpList_put _ rfl _ _ _ rfl w2.heap.size M rfl LA.out n rfl (wrap64 (t + r)) rfl ?_; intro w5 hL5 hg5)
      rw [hw] at hL5
      have L5 := Lib.hid (show Ls w5 w2.heap.size (ends (zs.take (k + 1))) by rw [HP.out]; exact hL5)
      have B5 := Lib.hid (BA.out.grown hg5 BA.out.size (fun j hj => by cases hj; exact Nat.le_refl _))
      clear hL5 hg5 LA BA BK
      go_wp2_with fail
      go_roundw
      case rel => first | exact ⟨k + 1, by omega, by go_num, L5, B5⟩ | ((repeat apply Exists.intro); exact ⟨⟨k + 1, by omega, by go_num, L5, B5⟩, rfl⟩)
      case measure => simp [intOf]; omega
    · obtain rfl : k = n0 := by omega
      obtain ⟨M, hM⟩ : ∃ M, ends zs = M := ⟨_, rfl⟩
      have LF := Lib.hid (show Ls wr w2.heap.size M by have := LK.out; rw [List.take_of_length_le (by rw [HN.out]; exact Nat.le_refl _), hM] at this; exact this)
      have HMX := Lib.hid (show maxM M = endV zs by rw [HE.out, hM])
      have HPOS := Lib.hid (show ∀ k v, (k, v) ∈ M → 0 ≤ v from fun k v h => by
        rw [← hM] at h
        obtain ⟨i, d, a, b, c⟩ := ((ends_good zs).2 k v).1 h
        have := cB_in (HV.out d (List.mem_of_getElem? a.1))
        omega)
      obtain ⟨wo, rfl⟩ : ∃ wo, wo = wr := ⟨_, rfl⟩
      have hrg := run_range_map (P := Try.prog) wo 65 9 3 w2.heap.size ⟨enE M 0⟩ M.length Try.underlying65 LF.out
      have hol : ∀ x ∈ (⟨enE M 0⟩ : Array MapEntry).toList, x.born < M.length := fun x hx => by
        obtain ⟨_, _, _, _, _, _, h⟩ := enE_mem hx
        omega
      have HOL := Lib.hid hol
      have HBN := Lib.hid (enE_born M 0)
      have hls : w2.heap.size < wo.heap.size := LF.out.lt
      have HB0 := Lib.hid (show (wo.alloc (.mapIter (some w2.heap.size) M.length #[] M.length)).heap[wo.heap.size]? = some (.mapIter (some w2.heap.size) M.length #[] M.length) from heap_alloc_new wo _)
      have HM0 := Lib.hid (LF.out.alloc (.mapIter (some w2.heap.size) M.length #[] M.length))
      have BB0 := Lib.hid ((B2.out.trans (BK.out.mono B2.out.size)).alloc (Nat.le_trans B2.out.size BK.out.size) (.mapIter (some w2.heap.size) M.length #[] M.length))
      clear hol hM LK BK
      go_wp2_with fail
      go_loopw [6] (fun s wr => ∃ seen : Array Nat, s = .int .i64 (seenMax (enE M 0) seen) ∧ Hid (wr.heap[wo.heap.size]? = some (.mapIter (some w2.heap.size) M.length seen M.length)) ∧ Hid (Ls wr w2.heap.size M) ∧ Hid (Below w.heap.size w wr)) (fun _ wr => (leftOf ⟨enE M 0⟩ (wr.iterSeen wo.heap.size)).size)
      case atStart => exact ⟨#[], by rw [seenMax_none], HB0, HM0, BB0⟩
      case round =>
        obtain ⟨seen, rfl, IK, LK, BK⟩ := hrel
        clear hrg HB0 HM0 BB0
        have law := run_next_at (P := Try.prog) wr 0 wo.heap.size w2.heap.size M.length M.length seen ⟨enE M 0⟩ M.length IK.out LK.out HOL.out (Nat.le_refl _)
        have hst := seen_at IK.out
        rcases law with ⟨h0, hrun⟩ | ⟨e, he, w1, hal, hrun⟩
        · have hnx : ∀ ty, (Instr.next (.pointer (some ⟨wo.heap.size, 0, none⟩)) false ty).run Try.prog wr = .ok (.tuple #[.bool false]) wr := fun _ => hrun
          have HF := Lib.hid (show seenMax (enE M 0) seen = endV zs by rw [seenMax_all seen M 0 (fun x hx => all_seen _ seen h0 x hx) HPOS.out, HMX.out])
          generalize seenMax (enE M 0) seen = q at *
          go_wp2_with fail
          go_ret
          exact ⟨by rw [HF.out]; (try rfl), BK.out⟩
        · have hml := mem_left he
          obtain ⟨nk, v, _, hkey, hval, _⟩ := enE_mem (show e ∈ enE M 0 from hml.1)
          have hsh := left_shrinks _ seen e he
          have hsm : seenMax (enE M 0) (seen.push e.born) = if seenMax (enE M 0) seen < v then v else seenMax (enE M 0) seen := by
            rw [seenMax_push seen e hml.2 (enE M 0) HBN.out hml.1, hval]
            show max (seenMax (enE M 0) seen) v = _
            split <;> omega
          have hw1 : w1.heap = wr.heap := by rcases hal with rfl | rfl <;> rfl
          have IL : wo.heap.size < w1.heap.size := by rw [hw1]; exact (Array.getElem?_eq_some_iff.1 IK.out).1
          have I2 := (heap_set (o := .mapIter (some w2.heap.size) M.length (seen.push e.born) M.length) IL).1
          have L2 : Ls (setBlock w1 wo.heap.size (.mapIter (some w2.heap.size) M.length (seen.push e.born) M.length)) w2.heap.size M := by
            unfold Ls
            rw [(heap_set IL).2 _ (by omega), hw1]; exact LK.out
          have B3 : Below w.heap.size w (setBlock w1 wo.heap.size (.mapIter (some w2.heap.size) M.length (seen.push e.born) M.length)) := by
            refine below_set ?_ (by have := B2.out.size; omega) IL
            rcases hal with rfl | rfl
            · exact BK.out
            · exact BK.out.drew
          have hen := run_entry_at (P := Try.prog) (setBlock w1 wo.heap.size (.mapIter (some w2.heap.size) M.length (seen.push e.born) M.length)) wo.heap.size w2.heap.size M.length seen ⟨enE M 0⟩ M.length e I2 L2 hml.1 HBN.out
          rw [hkey, hval] at hrun hen
          have hnx : ∀ ty, (Instr.next (.pointer (some ⟨wo.heap.size, 0, none⟩)) false ty).run Try.prog wr = _ := fun _ => hrun
          have HS2 := Lib.hid hsm
          have HSH := Lib.hid hsh
          have HST := Lib.hid hst
          have HI2 := Lib.hid I2
          have HL2 := Lib.hid L2
          have HB3 := Lib.hid B3
          obtain ⟨q, hq⟩ : ∃ q, seenMax (enE M 0) seen = q := ⟨_, rfl⟩
          rw [hq] at HS2 ⊢
          obtain ⟨seen2, hs2⟩ : ∃ s, seen.push e.born = s := ⟨_, rfl⟩
          rw [hs2] at HS2 HSH HI2 HL2 HB3 hen hnx
          obtain ⟨w3, hw3⟩ : ∃ x, setBlock w1 wo.heap.size (.mapIter (some w2.heap.size) M.length seen2 M.length) = x := ⟨_, rfl⟩
          rw [hw3] at HI2 HL2 HB3 hen hnx
          clear hw3 hs2 hq I2 L2 B3 hrun hml hkey hval hsh hsm hw1 IL hal he hst
          go_wp2_with fail
          go_roundw
          case rel => exact ⟨seen2, by rw [HS2.out]; (try rfl), HI2, HL2, HB3⟩
          case measure =>
            rw [seen_at HI2.out, HST.out]
            exact HSH.out
end Go.Proofs.Ytedijideojmmlaa.Ei7
