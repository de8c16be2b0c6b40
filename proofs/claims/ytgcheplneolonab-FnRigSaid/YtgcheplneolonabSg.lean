/- ShiftRig of the program and of the model: copies of lists of devices, and one device moved. -/
import Derived.Test.YtgcheplneolonabTr
import Derived.Lib.SliceRun
namespace Go.Proofs.Ytgcheplneolonab.Sg
open Go.RowKit Go.ChangeShapes Go.WideShapes Go.WideElems Go.Deep Go.Proofs.Ytgcheplneolonab.Mem Go.Proofs.Ytgcheplneolonab.Rw Go.Proofs.Ytgcheplneolonab.Pw Go.Proofs.Ytgcheplneolonab.P2 Go.Proofs.Ytgcheplneolonab.Dd Go.Proofs.Ytgcheplneolonab.Dv Go.Proofs.Ytgcheplneolonab.Dl Go.Proofs.Ytgcheplneolonab.Ds Go.Proofs.Ytgcheplneolonab.Fd Go.Proofs.Ytgcheplneolonab.Ch Go.Proofs.Ytgcheplneolonab.Hn Go.Proofs.Ytgcheplneolonab.Po
set_option linter.unusedVariables false
set_option linter.unusedSimpArgs false
open Go.Proofs.Ytgcheplneolonab.Cm Go.Proofs.Ytgcheplneolonab.Pl Go.Proofs.Ytgcheplneolonab.Str Go.Proofs.Ytgcheplneolonab.Hd Go.Proofs.Ytgcheplneolonab.Jt Go.Proofs.Ytgcheplneolonab.Ho Go.Proofs.Ytgcheplneolonab.Pa Go.Proofs.Ytgcheplneolonab.Di Go.Proofs.Ytgcheplneolonab.Ig Go.Proofs.Ytgcheplneolonab.Ir Go.Proofs.Ytgcheplneolonab.Iq Go.Proofs.Ytgcheplneolonab.IsName Go.Proofs.Ytgcheplneolonab.Mo Go.Proofs.Ytgcheplneolonab.Tr
open Go.Proofs.Ytgcheplneolonab.Rw (owns_below owns_grown)

theorem dls_cell {zs : List D} {v : Value} (h : v ∈ dls zs) : v.oneCell' = true := by
  unfold dls at h
  obtain ⟨d, _, hd⟩ := List.mem_flatMap.1 h
  unfold dc at hd
  simp at hd
  rcases hd with rfl | rfl | rfl | rfl | rfl | rfl | rfl | rfl <;> rfl

set_option maxRecDepth 100000 in
set_option maxHeartbeats 400000 in
theorem cloneD (a : Addr) (n0 c9 : Nat) (zs : List D) (w : World) (hn : zs.length = n0) (hb : n0 ≤ 1048576) (hr : Rd w w.heap.size (some a) (dls zs)) :
    Calls Try.prog 24 #[.slice (some a) n0 c9] w (RowD w zs) := by
  obtain ⟨i0, hi, hz0, hz1, hz2⟩ := info_of infoD
  have qT : ∀ (w : World) (a : Option Addr) (n c n' c' : Nat), (binOp .eql 24 (.slice a n c) (.slice none n' c')).run Try.prog w = .ok (.bool a.isNone) w := fun w a n c n' c' => Lib.run_eql_slice_nil w _ _ a n c n' c' Try.underlying24
  have R0 := Lib.hid (World.ownsRow_lit (base := w.heap.size) (e := 28) (size := 8) w #[] 0 (Nat.le_refl _) (Nat.zero_le _) rfl)
  have HC := Lib.hid (show ∀ j u, (dls zs)[j]? = some u → (w.alloc (.cells #[] 28)).cell? (a.add j) = some u by
    intro j u hj
    have hl := (List.getElem?_eq_some_iff.1 hj).1
    obtain ⟨b, o, e, hbl, hc⟩ := hr.get hl
    injection e with e
    subst e
    have := hc j u hj
    rw [show (⟨b, o, none⟩ : Addr).add j = ⟨b, o + j, none⟩ by simp [Addr.add]]
    exact cell_alloc this)
  have HN := Lib.hid hn
  have HW := Lib.hid (show w.heap.size ≤ (w.alloc (.cells #[] 28)).heap.size by simp)
  clear hr hn
  go_enter Try.func24, Try.ntmps24
  go_wp2_with (at_builtin; refine wpList_append_own _ rfl _ _ 24 rfl w.heap.size 28 i0 (.agg #[.string ⟨#[]⟩, .int .i64 0, .string ⟨#[]⟩, .int .i64 0, .int .i64 0, .int .i64 0, .int .i64 0, .int .i64 0]) 8 80 Try.underlying24 hi hz0 hz1 hz2 rfl (by decide) _ _ _ rfl R0.out a n0 _ (dls zs) rfl (by rw [dls_len, HN.out]) HC.out (fun u hu => dls_cell hu) (by unfold maxLen; omega) (by omega) HW.out ?_; intro v' w5 hown' hgrow hnil)
  have hg : ∃ g c, v' = .slice (some ⟨g, 0, none⟩) n0 c := by
    rcases hown'.2 with ⟨e1, _⟩ | ⟨g, cap, cur, e1, _⟩
    · exact absurd (hnil.1 e1).1 (by intro h; cases h)
    · exact ⟨g, cap, by rw [e1, Nat.zero_add]⟩
  obtain ⟨g, c, rfl⟩ := hg
  have RO := Lib.hid (show w5.ownsRow w.heap.size 28 8 (.slice (some ⟨g, 0, none⟩) n0 c) n0 (dls zs) by
    have := hown'; rw [Nat.zero_add] at this; exact this)
  have B5 := Lib.hid (show Below w.heap.size w w5 from Below.grown (by go_grown) hgrow (by simp) (fun j hj => by cases hj; exact Nat.le_refl _))
  clear hown' hgrow hnil R0 HC
  go_wp2_with fail
  go_ret
  exact ⟨g, c, by rw [HN.out]; rfl, by rw [HN.out]; exact RO.out, B5.out⟩

end Go.Proofs.Ytgcheplneolonab.Sg
