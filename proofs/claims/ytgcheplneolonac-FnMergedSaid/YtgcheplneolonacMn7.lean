/- MergeScores of the program, at two empty lists. -/
import Derived.Test.YtgcheplneolonacMi7
import Derived.Test.YtgcheplneolonacCn7
import Derived.Shelf.SlSortCmp.NoneTotal
namespace Go.Proofs.Ytgcheplneolonac.Mn7
open Go.RowKit Go.ChangeShapes Go.WideShapes Go.WideElems Go.Deep Go.Proofs.Ytgcheplneolonac.Mem Go.Proofs.Ytgcheplneolonac.Rw Go.Proofs.Ytgcheplneolonac.P2 Go.Proofs.Ytgcheplneolonac.Cd Go.Proofs.Ytgcheplneolonac.Cv Go.Proofs.Ytgcheplneolonac.Cl Go.Proofs.Ytgcheplneolonac.Cs
set_option linter.unusedVariables false
set_option linter.unusedSimpArgs false
open Go.Proofs.Ytgcheplneolonac.Sd Go.Proofs.Ytgcheplneolonac.Oc Go.Proofs.Ytgcheplneolonac.Cr Go.Proofs.Ytgcheplneolonac.Cq Go.Proofs.Ytgcheplneolonac.Si7 Go.Proofs.Ytgcheplneolonac.Mg Go.Proofs.Ytgcheplneolonac.Cn7

theorem score_nil : score [] = true := score_yes (score_set.2 ⟨by simp, List.Pairwise.nil, fun d hd => by cases hd⟩)
theorem merge_nil : mgG [] [] = true ∧ mgL [] [] = [] := by
  have h : mgG [] [] = true := by unfold mgG; rw [score_nil, mg_nil]; rfl
  exact ⟨h, by rw [mgL_yes h, mg_nil]⟩
theorem rdn (W : World) (A : Option Addr) : Rd W W.heap.size A (dls []) := Or.inl rfl

set_option maxHeartbeats 1000000 in
theorem mergeN (a b : Addr) (c9 c8 : Nat) (w : World) :
    Calls Try.prog 13 #[.slice (some a) 0 c9, .slice (some b) 0 c8] w fun e w' => e = .returned (.tuple #[.slice none 0 0, .bool true]) ∧ Below w.heap.size w w' := by
  have hu : undef = Value.tuple #[] := rfl
  have CA := Lib.hid (fun W => score_nil ▸ scoreI (some a) 0 c9 [] W rfl (by omega) (rdn W _))
  have CB := Lib.hid (fun W => score_nil ▸ scoreI (some b) 0 c8 [] W rfl (by omega) (rdn W _))
  have CN := Lib.hid (fun W => score_nil ▸ scoreI none 0 0 [] W rfl (by omega) (rdn W _))
  have CO := Lib.hid (fun (W : World) => concatN W.heap.size 0 a b c9 c8 (W.alloc (.cells #[.slice (some a) 0 c9, .slice (some b) 0 c8] 24)) (cell_here rfl) (cell_here rfl))
  have hs : ∀ (fv : Value) (W : World), Calls Try.prog 28 #[.slice none 0 0, fv] W fun e w' => e = .returned (.tuple #[]) ∧ w' = W := fun fv W => AnyF.slices_SortFunc_none Try.sortC none 0 fv W
  have HS := Lib.hid hs
  clear hs
  go_enter Try.func13, Try.ntmps13
  go_wp2_with fail
  refine (CA.out _).mono ?_
  rintro e w1 ⟨rfl, hb⟩
  have B1 := Lib.hid hb
  clear hb
  go_wp2_with fail
  refine (CB.out _).mono ?_
  rintro e w2 ⟨rfl, hb⟩
  have B2 := Lib.hid (B1.out.trans (hb.mono B1.out.size))
  clear hb
  go_wp2_with fail
  refine (CO.out _).mono ?_
  rintro e w3 ⟨rfl, hb⟩
  have BA := B2.out.alloc B2.out.size (.cells #[.slice (some a) 0 c9, .slice (some b) 0 c8] 24)
  have B3 := Lib.hid (BA.trans (hb.mono BA.size))
  clear hb BA
  go_wp2_with fail
  refine (HS.out _ _).mono ?_
  rintro e w4 ⟨rfl, rfl⟩
  go_wp2_with fail
  refine (CN.out _).mono ?_
  rintro e w5 ⟨rfl, hb⟩
  have B5 := Lib.hid (B3.out.trans (hb.mono B3.out.size))
  clear hb
  go_wp2_with fail
  go_returns
  exact ⟨rfl, B5.out⟩

end Go.Proofs.Ytgcheplneolonac.Mn7
