/- Where the drop of a jet lands, of the program and of the model. -/
import Derived.Test.YtejeikfgmiadhabFq
set_option linter.unusedVariables false
set_option linter.unusedSimpArgs false
namespace Go.Proofs.Ytejeikfgmiadhab.Dp
open Go.RowKit Go.Proofs.Ytejeikfgmiadhab.Cx Go.Proofs.Ytejeikfgmiadhab.Cm Go.Proofs.Ytejeikfgmiadhab.Pl Go.Proofs.Ytejeikfgmiadhab.Str Go.Proofs.Ytejeikfgmiadhab.Pw Go.Proofs.Ytejeikfgmiadhab.P2 Go.Proofs.Ytejeikfgmiadhab.Hd Go.Proofs.Ytejeikfgmiadhab.Sf Go.Proofs.Ytejeikfgmiadhab.Jt
set_option linter.unusedVariables false
set_option linter.unusedSimpArgs false

/-- Where the drop lands, and whether it does. -/
def landV (x y h t l : Int) : Value := told2 (inF x y h t l (fl x y h t l)) (wy x (tx h.toNat t 0) (fl x y h t l).toNat) (wy y (ty h.toNat t 0) (fl x y h t l).toNat)
theorem J5.set2 {w : World} {b b' i j : Nat} {u v : Value} {x y h t l : Int} (e : b' ≠ b) (k : J5 w b x y h t l) : J5 ((w.setCell ⟨b', i, none⟩ u).setCell ⟨b', j, none⟩ v) b x y h t l :=
  have f : ∀ o c, w.cell? ⟨b, o, none⟩ = some c → ((w.setCell ⟨b', i, none⟩ u).setCell ⟨b', j, none⟩ v).cell? ⟨b, o, none⟩ = some c := fun o c h => (World.cell?_setCell_other _ _ _ _ (by simp [e])).trans ((World.cell?_setCell_other _ _ _ _ (by simp [e])).trans h)
  ⟨f _ _ k.1, f _ _ k.2.1, f _ _ k.2.2.1, f _ _ k.2.2.2.1, f _ _ k.2.2.2.2⟩
theorem fl_le (x y h t l : Int) : -9223372036854775808 ≤ fl x y h t l ∧ fl x y h t l ≤ 9223372036854775807 := by
  cases hj : jt x y h t l
  · rw [fl_no hj]; omega
  · have := (jt_iff.1 hj).2.2.2.2
    rw [fl_yes hj]; omega

set_option maxHeartbeats 2000000 in
set_option maxRecDepth 100000 in
theorem landI (x y h t l : Int) (w : World) :
    Calls Try.prog 55 #[jv x y h t l] w fun e w' => e = .returned (landV x y h t l) ∧ Below w.heap.size w w' := by
  have F := flightI x y h t l
  have P := (placeI x y h t l (fl x y h t l))
  obtain ⟨X, Y, B, e⟩ : ∃ X Y B, landV x y h t l = .tuple #[.agg #[.int .i64 X, .int .i64 Y], .bool B] := ⟨_, _, _, rfl⟩
  unfold landV at *
  rw [e] at P ⊢
  clear e
  generalize fl x y h t l = f at *
  replace F := Lib.hid F
  replace P := Lib.hid P
  go_enter Try.func55, Try.ntmps55
  go_wp2_with fail
  go_region_held3 (fun w' => w'.cell? ⟨w.heap.size, 0, none⟩ = some (.int .i64 x) ∧ w'.cell? ⟨w.heap.size, 1, none⟩ = some (.int .i64 y) ∧ w'.cell? ⟨w.heap.size, 2, none⟩ = some (.int .i64 h) ∧ w'.cell? ⟨w.heap.size, 3, none⟩ = some (.int .i64 t) ∧ w'.cell? ⟨w.heap.size, 4, none⟩ = some (.int .i64 l)) ((first | (with_reducible exact hJ) | (with_reducible exact hJ2) | exact J5.drew (J5.alloc (J5.new _ _ _ _ _ _ _)) | exact J5.set2 (by omega) hJ2))
    (first
      | (go_at_call 58; ((with_reducible refine (F.out _).mono ?_); rintro e v ⟨rfl, hb⟩; have hJ := J5.below (J5.drew (J5.alloc (J5.new w x y h t l 48))) hb; have hR := Lib.hid (R2.below (R2.drew (jw_r w x y h t l)) hb); have HB := Lib.hid (show Below w.heap.size w v from Below.trans (by go_grown) (hb.mono (by go_size))); clear hb))
      | (go_at_call 66; ((with_reducible refine (P.out _).mono ?_); rintro e v2 ⟨rfl, hb⟩; have hJ2 := J5.below hJ hb; have HR := Lib.hid (R2.below hR.out hb); have HB2 := Lib.hid (HB.out.trans (hb.mono HB.out.size)); have z0 := HR.out.c0; have z1 := HR.out.c1; have f0 := HR.out.f0; have f1 := HR.out.f1; have hsz := HB2.out.size; clear hb)))
  all_goals go_wp2_with fail
  all_goals have s0 := HR.out.s0
  all_goals have s1 := HR.out.s1
  all_goals (try simp only [Exit.inBlock, Exit.then])
  all_goals refine bodyPost_ret (by simp [results, Try.results55, go_sem, z0, z1, s0, s1]; try rfl) rfl ?_
  all_goals exact ⟨rfl, HB2.out.trans (by go_grown)⟩

set_option maxHeartbeats 2000000 in
set_option maxRecDepth 100000 in
theorem landS (x y h t l : Int) (w : World) :
    Calls Try.prog 29 #[jv x y h t l] w fun e w' => e = .returned (landV x y h t l) ∧ Below w.heap.size w w' := by
  have F := flightS x y h t l
  have P := (placeS x y h t l (fl x y h t l) (fl_le x y h t l).2 (fl_le x y h t l).1)
  obtain ⟨X, Y, B, e⟩ : ∃ X Y B, landV x y h t l = .tuple #[.agg #[.int .i64 X, .int .i64 Y], .bool B] := ⟨_, _, _, rfl⟩
  unfold landV at *
  rw [e] at P ⊢
  clear e
  generalize fl x y h t l = f at *
  replace F := Lib.hid F
  replace P := Lib.hid P
  go_enter Try.func29, Try.ntmps29
  go_wp2_with fail
  go_region_held3 (fun w' => w'.cell? ⟨w.heap.size, 0, none⟩ = some (.int .i64 x) ∧ w'.cell? ⟨w.heap.size, 1, none⟩ = some (.int .i64 y) ∧ w'.cell? ⟨w.heap.size, 2, none⟩ = some (.int .i64 h) ∧ w'.cell? ⟨w.heap.size, 3, none⟩ = some (.int .i64 t) ∧ w'.cell? ⟨w.heap.size, 4, none⟩ = some (.int .i64 l)) ((first | (with_reducible exact hJ) | (with_reducible exact hJ2) | exact J5.drew (J5.alloc (J5.new _ _ _ _ _ _ _)) | exact J5.set2 (by omega) hJ2))
    (first
      | (go_at_call 31; ((with_reducible refine (F.out _).mono ?_); rintro e v ⟨rfl, hb⟩; have hJ := J5.below (J5.drew (J5.alloc (J5.new w x y h t l 48))) hb; have hR := Lib.hid (R2.below (R2.drew (jw_r w x y h t l)) hb); have HB := Lib.hid (show Below w.heap.size w v from Below.trans (by go_grown) (hb.mono (by go_size))); clear hb))
      | (go_at_call 45; ((with_reducible refine (P.out _).mono ?_); rintro e v2 ⟨rfl, hb⟩; have hJ2 := J5.below hJ hb; have HR := Lib.hid (R2.below hR.out hb); have HB2 := Lib.hid (HB.out.trans (hb.mono HB.out.size)); have z0 := HR.out.c0; have z1 := HR.out.c1; have f0 := HR.out.f0; have f1 := HR.out.f1; have hsz := HB2.out.size; clear hb)))
  all_goals go_wp2_with fail
  all_goals have s0 := HR.out.s0
  all_goals have s1 := HR.out.s1
  all_goals (try simp only [Exit.inBlock, Exit.then])
  all_goals refine bodyPost_ret (by simp [results, Try.results29, go_sem, z0, z1, s0, s1]; try rfl) rfl ?_
  all_goals exact ⟨rfl, HB2.out.trans (by go_grown)⟩

end Go.Proofs.Ytejeikfgmiadhab.Dp
