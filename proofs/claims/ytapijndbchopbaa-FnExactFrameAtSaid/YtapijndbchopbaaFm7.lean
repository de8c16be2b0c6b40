/- FrameAt of the model and of the program. -/
import Derived.Test.YtapijndbchopbaaLm7
import Derived.Test.YtapijndbchopbaaLi7
import Derived.Test.YtapijndbchopbaaInts
namespace Go.Proofs.Ytapijndbchopbaa.Fm7
open Go.RowKit Go.ChangeShapes Go.WideShapes Go.WideElems Go.Deep Go.Proofs.Ytapijndbchopbaa.Mem Go.Proofs.Ytapijndbchopbaa.Rw Go.Proofs.Ytapijndbchopbaa.P2 Go.Proofs.Ytapijndbchopbaa.Cd Go.Proofs.Ytapijndbchopbaa.Cv Go.Proofs.Ytapijndbchopbaa.Cl Go.Proofs.Ytapijndbchopbaa.Cs
set_option linter.unusedVariables false
set_option linter.unusedSimpArgs false
open Go.Proofs.Ytapijndbchopbaa.Sd Go.Proofs.Ytapijndbchopbaa.Tn Go.Proofs.Ytapijndbchopbaa.Oc Go.Proofs.Ytapijndbchopbaa.Ld Go.Proofs.Ytapijndbchopbaa.Lm7 Go.Proofs.Ytapijndbchopbaa.Li7
open Go.Proofs.Ytapijndbchopbaa.Rw (owns_below owns_grown grown_trans grown_refl)
open Go.Proofs.Ytapijndbchopbaa.Strs (strs strs_len strs_get)

/-- The levels of these names. -/
noncomputable def frV (zs : List C) (ss : List ByteArray) (t : Int) : List Int := ss.map fun s => levV zs s t
theorem frV_len (zs : List C) (ss : List ByteArray) (t : Int) : (frV zs ss t).length = ss.length := by simp [frV]
/-- A list of the call's own that holds these numbers. -/
def RowI (w : World) (ds : List Int) (e : Ending) (w' : World) : Prop :=
  ∃ g c, e = .returned (.slice (some ⟨g, 0, none⟩) ds.length c) ∧ w'.ownsRow w.heap.size 3 1 (.slice (some ⟨g, 0, none⟩) ds.length c) ds.length (ints ds) ∧ Below w.heap.size w w'
theorem own_mk {w : World} {base n : Nat} {v : Value} {xs : List Value} (h : w.ownsRow base 3 1 v (n + 1) xs) : ∃ g c, v = .slice (some ⟨g, 0, none⟩) (n + 1) c := by
  rcases h.2 with ⟨_, e⟩ | ⟨g, cap, cur, e, _⟩
  · omega
  · exact ⟨g, cap, e⟩
theorem own_base {w : World} {base n : Nat} {v : Value} {xs : List Value} (h : w.ownsRow base 3 1 v n xs) : ∀ k, v.ownBlock = some k → base ≤ k := fun k e => (h.lt k e).1
theorem ints_snoc (zs : List Int) (z : Int) : ints zs ++ [.int .i64 z] = ints (zs ++ [z]) := by simp [ints]

set_option maxHeartbeats 4000000 in
set_option maxRecDepth 100000 in
theorem frameS (A : Option Addr) (n0 c9 : Nat) (zs : List C) (B : Option Addr) (m0 c8 : Nat) (ss : List ByteArray) (t : Int) (w : World) (hn : zs.length = n0) (hb : n0 ≤ 1048576) (hm : ss.length = m0) (hb2 : m0 ≤ 1048576) (wt : (Lit.int .i64 t).wf = true) (hsz : ∀ z ∈ zs, z.nm.size ≤ 1048576) (hr : Rd w w.heap.size A (dls zs)) (hs : Rd w w.heap.size B (strs ss)) :
    Calls Try.prog 30 #[.slice A n0 c9, .slice B m0 c8, .int .i64 t] w (RowI w (frV zs ss t)) := by
  have hu : undef = Value.tuple #[] := rfl
  have HM := Lib.hid hm
  have HT := Lib.hid hs
  have CL := Lib.hid (fun (s : ByteArray) (W : World) (hW : Below w.heap.size w W) => levelS A n0 c9 zs s t W hn hb wt hsz ((hr.below hW).more hW.size))
  have R0 := Lib.hid (World.ownsRow_lit (base := w.heap.size) (e := 3) (size := 1) w #[] 0 (Nat.le_refl _) (Nat.zero_le _) rfl)
  have B0 := Lib.hid (show Below w.heap.size w (w.alloc (.cells #[] 3)) from (Below.refl _ _).alloc (Nat.le_refl _) _)
  obtain ⟨i0, hi, hz0, hz1, hz2⟩ := info_of Ints.infoInt
  clear hr hn hm hs hsz
  go_enter Try.func30, Try.ntmps30
  go_wp2_with fail
  go_loopw [7, 13] (fun v i wr => ∃ k : Nat, k ≤ m0 ∧ i = .int .i64 k ∧ (∃ g c, v = .slice (some ⟨g, 0, none⟩) k c) ∧ Hid (wr.ownsRow w.heap.size 3 1 v k (ints (frV zs (ss.take k) t))) ∧ Hid (Below w.heap.size w wr)) (fun _ i _ => m0 - (intOf i).toNat)
  case atStart => exact ⟨0, Nat.zero_le _, rfl, ⟨_, _, rfl⟩, R0, B0⟩
  case round =>
    obtain ⟨k, hk, rfl, ⟨gb, gc, rfl⟩, RK, BK⟩ := hrel
    clear R0 B0
    by_cases hlt : k < m0
    · obtain ⟨z, hz⟩ : ∃ z, ss[k]? = some z := ⟨_, List.getElem?_eq_getElem (by rw [HM.out]; exact hlt)⟩
      have TW := HT.out.below BK.out
      obtain ⟨b, o, eA, hbl, hcell⟩ := TW.get (k := k) (by rw [strs_len, HM.out]; omega)
      have c1 : wr.cell? ⟨b, o + k, none⟩ = some (.string z) := hcell _ _ (strs_get hz)
      have HP := Lib.hid (show ints (frV zs (ss.take (k + 1)) t) = ints (frV zs (ss.take k) t) ++ [.int .i64 (levV zs z t)] by
        obtain ⟨hk', e⟩ := List.getElem?_eq_some_iff.1 hz
        rw [ints_snoc, List.take_succ_eq_append_getElem hk', e]; unfold frV; rw [List.map_append]; rfl)
      have CZ := CL.out z
      obtain ⟨v, hv⟩ : ∃ v, levV zs z t = v := ⟨_, rfl⟩
      rw [hv] at CZ HP
      have CZ := Lib.hid CZ
      clear hcell hz hbl TW hv
      subst eA
      go_wp2_with fail
      refine (CZ.out _ BK.out).mono ?_
      rintro e w3 ⟨rfl, hb3⟩
      have R3 := Lib.hid (owns_below RK.out hb3)
      have B3 := Lib.hid (BK.out.trans (hb3.mono BK.out.size))
      have hown := R3.out.alloc
      clear hb3 RK BK c1 CZ
      go_wp2_with (at_builtin; refine wpList_append_own _ rfl _ _ 46 rfl w.heap.size 3 i0 (.int .i64 0) 1 8 Try.underlying46 hi hz0 hz1 hz2 rfl (by decide) _ _ _ rfl (hown _) ⟨w3.heap.size, 0, none⟩ 1 1 [.int .i64 v] rfl rfl (by intro j u hj; match j, hj with | 0, hj => (simp at hj; subst hj; simp [Addr.add])) (by intro u hu9; simp at hu9; rcases hu9 with rfl; rfl) (by unfold maxLen; omega) (by omega) (by have := B3.out.size; simp; omega) ?_; intro v' w5 hown' hgrow hnil)
      rw [← HP.out] at hown'
      obtain ⟨g5, c5, rfl⟩ := own_mk hown'
      have R6 := Lib.hid hown'
      have B6 := Lib.hid ((B3.out.alloc B3.out.size _).grown hgrow (by have := B3.out.size; simp; omega) (fun j hj => own_base R3.out j hj))
      clear hown' hgrow hnil hown R3 B3
      go_wp2_with fail
      go_roundw
      case rel => first | exact ⟨k + 1, by omega, by go_num, ⟨_, _, rfl⟩, R6, B6⟩ | ((repeat apply Exists.intro); exact ⟨⟨k + 1, by omega, by go_num, ⟨_, _, rfl⟩, R6, B6⟩, rfl⟩)
      case measure => simp [intOf]; omega
    · obtain rfl : k = m0 := by omega
      have HF := Lib.hid (show ss.take k = ss by rw [List.take_of_length_le (by rw [HM.out]; exact Nat.le_refl _)])
      rw [HF.out] at RK
      have HL := Lib.hid (show (frV zs ss t).length = k by rw [frV_len, HM.out])
      go_wp2_with fail
      go_returns
      exact ⟨gb, gc, by rw [HL.out]; first | done | rfl, by rw [HL.out]; exact RK.out, BK.out⟩

set_option maxHeartbeats 4000000 in
set_option maxRecDepth 100000 in
theorem frameI (A : Option Addr) (n0 c9 : Nat) (zs : List C) (B : Option Addr) (m0 c8 : Nat) (ss : List ByteArray) (t : Int) (w : World) (hn : zs.length = n0) (hb : n0 ≤ 1048576) (hm : ss.length = m0) (hb2 : m0 ≤ 1048576) (wt : (Lit.int .i64 t).wf = true) (hr : Rd w w.heap.size A (dls zs)) (hs : Rd w w.heap.size B (strs ss)) :
    Calls Try.prog 32 #[.slice A n0 c9, .slice B m0 c8, .int .i64 t] w (RowI w (frV zs ss t)) := by
  have hu : undef = Value.tuple #[] := rfl
  have HM := Lib.hid hm
  have HT := Lib.hid hs
  have CL := Lib.hid (fun (s : ByteArray) (W : World) (hW : Below w.heap.size w W) => levelI A n0 c9 zs s t W hn hb wt ((hr.below hW).more hW.size))
  obtain ⟨i0, hi, hz0, hz1, hz2⟩ := info_of Ints.infoInt
  have HL := Lib.hid (show (ints (frV zs ss t)).length = m0 by rw [ints_len, frV_len, hm])
  clear hr hn hm hs
  go_enter Try.func32, Try.ntmps32
  go_wp2_with (at_make; refine wpList_make_full _ rfl _ _ 46 rfl w.heap.size 3 i0 (.int .i64 0) 1 Try.underlying46 hi hz0 hz1 .i64 .i64 m0 m0 m0 rfl rfl rfl rfl (by rw [hz2]; omega) (by unfold maxLen; omega) (Nat.le_refl _) ?_; intro w1 hown hgrow; clear hi hz0 hz1 hz2)
  have R0 := Lib.hid (show w1.ownsRow w.heap.size 3 1 (.slice (some ⟨w.heap.size, 0, none⟩) m0 m0) m0 (filled (ints (frV zs ss t)) (.int .i64 0) 0) by
    rw [filled_zero, HL.out]; rw [Ints.made_ints] at hown; exact hown)
  have B0 := Lib.hid (show Below w.heap.size w w1 from (Below.refl _ _).grown hgrow (Nat.le_refl _) (fun k hk => by cases hk))
  clear hown hgrow
  go_loopw [15] (fun i wr => ∃ k : Nat, k ≤ m0 ∧ i = .int .i64 k ∧ Hid (wr.ownsRow w.heap.size 3 1 (.slice (some ⟨w.heap.size, 0, none⟩) m0 m0) m0 (filled (ints (frV zs ss t)) (.int .i64 0) k)) ∧ Hid (Below w.heap.size w wr)) (fun i _ => m0 - (intOf i).toNat)
  case atStart => exact ⟨0, Nat.zero_le _, rfl, R0, B0⟩
  case round =>
    obtain ⟨k, hk, rfl, RK, BK⟩ := hrel
    clear R0 B0
    by_cases hlt : k < m0
    · obtain ⟨z, hz⟩ : ∃ z, ss[k]? = some z := ⟨_, List.getElem?_eq_getElem (by rw [HM.out]; exact hlt)⟩
      have TW := HT.out.below BK.out
      obtain ⟨b, o, eA, hbl, hcell⟩ := TW.get (k := k) (by rw [strs_len, HM.out]; omega)
      have c1 : wr.cell? ⟨b, o + k, none⟩ = some (.string z) := hcell _ _ (strs_get hz)
      have HP : (ints (frV zs ss t))[k]? = some (.int .i64 (levV zs z t)) := by
        unfold frV ints; rw [List.getElem?_map, List.getElem?_map, hz]; rfl
      have CZ := CL.out z
      obtain ⟨v, hv⟩ : ∃ v, levV zs z t = v := ⟨_, rfl⟩
      rw [hv] at CZ HP
      have HP := Lib.hid HP
      have CZ := Lib.hid CZ
      clear hcell hz hbl TW hv
      subst eA
      go_wp2_with fail
      refine (CZ.out _ BK.out).mono ?_
      rintro e w3 ⟨rfl, hb3⟩
      have R3 := owns_below RK.out hb3
      have B3 := Lib.hid (BK.out.trans (hb3.mono BK.out.size))
      have e1 : w3.cell? ⟨w.heap.size, k, none⟩ = some (.int .i64 0) := (R3.cellAt k (by omega)).trans (filled_get (by have := HL.out; omega))
      have f1 := R3.frozenAt k
      obtain ⟨r1, r2⟩ := R3.stored k (.int .i64 v)
      rw [filled_put (z := .int .i64 0) HP.out] at r1
      have R6 := Lib.hid r1
      have B6 := Lib.hid (B3.out.grown r2 (by exact B3.out.size) (fun g hg => by cases hg; exact Nat.le_refl _))
      clear hb3 RK BK c1 CZ r1 r2 R3 B3
      go_wp2_with fail
      go_roundw
      case rel => first | exact ⟨k + 1, by omega, by go_num, R6, B6⟩ | ((repeat apply Exists.intro); exact ⟨⟨k + 1, by omega, by go_num, R6, B6⟩, rfl⟩)
      case measure => simp [intOf]; omega
    · obtain rfl : k = m0 := by omega
      have HF := Lib.hid (show (frV zs ss t).length = k by rw [frV_len, HM.out])
      have RF := Lib.hid (show wr.ownsRow w.heap.size 3 1 (.slice (some ⟨w.heap.size, 0, none⟩) k k) k (ints (frV zs ss t)) by
        have := RK.out
        rw [show filled (ints (frV zs ss t)) (.int .i64 0) k = ints (frV zs ss t) by have := filled_all (ints (frV zs ss t)) (.int .i64 0); rw [HL.out] at this; exact this] at this
        exact this)
      go_wp2_with fail
      go_returns
      exact ⟨w.heap.size, k, by rw [HF.out]; first | done | rfl, by rw [HF.out]; exact RF.out, BK.out⟩
end Go.Proofs.Ytapijndbchopbaa.Fm7
