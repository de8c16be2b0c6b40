/- The place of a jet's drop at a tick, and where it lands, of the program and of the model. -/
import Derived.Test.YtejeikfgmiadhabFp
set_option linter.unusedVariables false
set_option linter.unusedSimpArgs false
namespace Go.Proofs.Ytejeikfgmiadhab.Dp
open Go.RowKit Go.Proofs.Ytejeikfgmiadhab.Cx Go.Proofs.Ytejeikfgmiadhab.Cm Go.Proofs.Ytejeikfgmiadhab.Pl Go.Proofs.Ytejeikfgmiadhab.Str Go.Proofs.Ytejeikfgmiadhab.Pw Go.Proofs.Ytejeikfgmiadhab.P2 Go.Proofs.Ytejeikfgmiadhab.Hd Go.Proofs.Ytejeikfgmiadhab.Sf Go.Proofs.Ytejeikfgmiadhab.Jt
set_option linter.unusedVariables false
set_option linter.unusedSimpArgs false

theorem told2_no {c : Bool} {a b : Int} (h : c = false) : told2 c a b = .tuple #[.agg #[.int .i64 0, .int .i64 0], .bool false] := by subst h; rfl
theorem told2_yes {c : Bool} {a b : Int} (h : c = true) : told2 c a b = .tuple #[.agg #[.int .i64 a, .int .i64 b], .bool true] := by subst h; rfl
theorem inF_no {x y h t l n : Int} (k : jt x y h t l = false ∨ n < 0 ∨ l + 1 < n) : inF x y h t l n = false := by
  rw [← Bool.not_eq_true, inF_iff]
  rintro ⟨h1, h2, h3⟩
  rcases k with k | k | k
  · rw [k] at h1; cases h1
  · omega
  · omega

/-- A result of two cells in a block that is old by now. -/
structure R2 (w : World) (b : Nat) : Prop where
  c0 : w.cell? ⟨b, 0, none⟩ = some (.int .i64 0)
  c1 : w.cell? ⟨b, 1, none⟩ = some (.int .i64 0)
  f0 : w.frozen? ⟨b, 0, none⟩ = false
  f1 : w.frozen? ⟨b, 1, none⟩ = false
theorem R2.below {w w' : World} {b : Nat} (k : R2 w b) (hb : Below w.heap.size w w') : R2 w' b :=
  ⟨cell_below hb k.c0, cell_below hb k.c1, (hb.frozen (World.block_lt_of_cell? w _ k.c0)).trans k.f0, (hb.frozen (World.block_lt_of_cell? w _ k.c1)).trans k.f1⟩
theorem R2.alloc {w : World} {b : Nat} {o : Obj} (k : R2 w b) : R2 (w.alloc o) b := k.below (by go_grown)
theorem R2.drew {w : World} {b : Nat} (k : R2 w b) : R2 w.drew b := ⟨k.c0, k.c1, k.f0, k.f1⟩
theorem R2.s0 {w : World} {b : Nat} (k : R2 w b) (P Q : Value) : ((w.setCell ⟨b, 0, none⟩ P).setCell ⟨b, 1, none⟩ Q).cell? ⟨b, 0, none⟩ = some P := set2_0 (by rw [k.c0]; rfl)
theorem R2.s1 {w : World} {b : Nat} (k : R2 w b) (P Q : Value) : ((w.setCell ⟨b, 0, none⟩ P).setCell ⟨b, 1, none⟩ Q).cell? ⟨b, 1, none⟩ = some Q := set2_1 (by rw [k.c1]; rfl)
theorem R2.new (w : World) : R2 (w.alloc (.cells #[.int .i64 0, .int .i64 0] 32)) w.heap.size := by constructor <;> simp [go_sem]
theorem R2.lt {w : World} {b : Nat} (k : R2 w b) : b < w.heap.size := World.block_lt_of_cell? w _ k.c0

abbrev jw (w : World) (x y h t l : Int) : World := (w.alloc (.cells (jc x y h t l) 48)).alloc (.cells #[.int .i64 0, .int .i64 0] 32)
theorem jw_r (w : World) (x y h t l : Int) : R2 (jw w x y h t l) (w.heap.size + 1) := by
  have := R2.new (w.alloc (.cells (jc x y h t l) 48))
  rw [World.size_alloc] at this; exact this

set_option maxHeartbeats 2000000 in
set_option maxRecDepth 100000 in
theorem placeS (x y h t l n : Int) (hn : n ≤ 9223372036854775807) (hn2 : -9223372036854775808 ≤ n) (w : World) :
    Calls Try.prog 45 #[jv x y h t l, .int .i64 n] w fun e w' => e = .returned (told2 (inF x y h t l n) (wy x (tx h.toNat t 0) n.toNat) (wy y (ty h.toNat t 0) n.toNat)) ∧ Below w.heap.size w w' := by
  cases hj : jt x y h t l
  · rw [told2_no (inF_no (Or.inl hj))]
    have C := Lib.hid (isJetS_of hj)
    clear hj
    go_enter Try.func45, Try.ntmps45
    go_wp2_with fail
    refine (C.out _).mono ?_
    rintro e w' ⟨rfl, rfl⟩
    go_wp2_with fail
    go_returns
    exact ⟨rfl, by go_grown⟩
  have C := Lib.hid (isJetS_of hj)
  have F := flightS x y h t l
  rw [fl_yes hj] at F
  replace F := Lib.hid F
  by_cases c1 : n < 0
  · rw [told2_no (inF_no (Or.inr (Or.inl c1)))]
    clear hj
    go_enter Try.func45, Try.ntmps45
    go_wp2_with fail
    refine (C.out _).mono ?_
    rintro e w' ⟨rfl, rfl⟩
    go_wp2_with fail
    go_returns
    exact ⟨rfl, by go_grown⟩
  by_cases c2 : l + 1 < n
  · rw [told2_no (inF_no (Or.inr (Or.inr c2)))]
    clear hj
    go_enter Try.func45, Try.ntmps45
    go_wp2_with fail
    refine (C.out _).mono ?_
    rintro e w' ⟨rfl, rfl⟩
    go_wp2_with fail
    refine (F.out _).mono ?_
    rintro e w1 ⟨rfl, hb⟩
    have R := (jw_r w x y h t l).alloc.below hb
    have HB := Lib.hid (show Below w.heap.size w w1 from Below.trans (by go_grown) (hb.mono (by go_size)))
    have hsz := HB.out.size
    have z0 := R.c0
    have z1 := R.c1
    have f0 := R.f0
    have f1 := R.f1
    have HR := Lib.hid R
    clear hb R
    go_wp2_with fail
    have s0 := HR.out.s0
    have s1 := HR.out.s1
    (try simp only [Exit.inBlock, Exit.then])
    refine bodyPost_ret (by simp [results, Try.results45, go_sem, z0, z1, s0, s1]; try rfl) rfl ?_
    exact ⟨rfl, HB.out.trans (by go_grown)⟩
  · obtain ⟨N, rfl⟩ : ∃ N : Nat, n = N := ⟨n.toNat, by omega⟩
    rw [told2_yes (inF_iff.2 ⟨hj, by omega, by omega⟩), Int.toNat_natCast]
    have P := Lib.hid (l3Place hj (N := N) (by omega))
    generalize wy x (tx h.toNat t 0) N = X at *
    generalize wy y (ty h.toNat t 0) N = Y at *
    clear hj
    go_enter Try.func45, Try.ntmps45
    go_wp2_with fail
    refine (C.out _).mono ?_
    rintro e w' ⟨rfl, rfl⟩
    go_wp2_with fail
    refine (F.out _).mono ?_
    rintro e w1 ⟨rfl, hb⟩
    have R := Lib.hid ((jw_r w x y h t l).alloc.below hb)
    have J := J5.below (J5.alloc (J5.alloc (J5.new w x y h t l 48))) hb
    obtain ⟨j0, j1, j2, j3, j4⟩ := J
    have HB := Lib.hid (show Below w.heap.size w w1 from Below.trans (by go_grown) (hb.mono (by go_size)))
    clear hb
    go_wp2_with fail
    refine (P.out _).mono ?_
    rintro e w2 ⟨rfl, hb⟩
    have R := R.out.below hb
    have HB := Lib.hid (HB.out.trans (hb.mono HB.out.size))
    have hsz := HB.out.size
    have z0 := R.c0
    have z1 := R.c1
    have f0 := R.f0
    have f1 := R.f1
    have HR := Lib.hid R
    clear hb R j0 j1 j2 j3 j4
    go_wp2_with fail
    have s0 := HR.out.s0
    have s1 := HR.out.s1
    (try simp only [Exit.inBlock, Exit.then])
    refine bodyPost_ret (by simp [results, Try.results45, go_sem, z0, z1, s0, s1]; try rfl) rfl ?_
    exact ⟨rfl, HB.out.trans (by go_grown)⟩

theorem toldAt {w : World} {b : Nat} {X Y P Q l : Int} {N : Nat} (o : Ok X Y P Q l) (hN : (N : Int) ≤ l + 1) (h : At w b X Y P Q l N) :
    ∃ re im, w.cell? ⟨b, 0, none⟩ = some (.complex .f32 re im) ∧ ∀ w, Calls Try.prog 76 #[.complex .f32 re im] w fun e w' => e = .returned (.tuple #[agg2 (wy X P N) (wy Y Q N), .bool true]) ∧ w' = w.alloc (.cells #[.int .i64 (wy X P N), .int .i64 (wy Y Q N)] 32) := by
  have hl := o.l
  have b1 := wy_le (k := N) o.x o.p (by omega)
  have b2 := wy_le (k := N) o.y o.q (by omega)
  obtain ⟨x, y, p, q, g, s, hD, i1, i2, i3, i4, i5, i6⟩ := h
  exact ⟨x, y, hD.c0, toldYes (by omega) (by omega) i1 i2⟩

set_option maxHeartbeats 2000000 in
set_option maxRecDepth 100000 in
theorem placeI (x y h t l n : Int) (w : World) :
    Calls Try.prog 66 #[jv x y h t l, .int .i64 n] w fun e w' => e = .returned (told2 (inF x y h t l n) (wy x (tx h.toNat t 0) n.toNat) (wy y (ty h.toNat t 0) n.toNat)) ∧ Below w.heap.size w w' := by
  cases hc : inF x y h t l n
  · rw [told2_no rfl]
    have C := Lib.hid (inFlightI hc)
    clear hc
    go_enter Try.func66, Try.ntmps66
    go_wp2_with fail
    refine (C.out _).mono ?_
    rintro e w1 ⟨rfl, hb⟩
    have R := (jw_r w x y h t l).below hb
    have HB := Lib.hid (show Below w.heap.size w w1 from Below.trans (by go_grown) (hb.mono (by go_size)))
    have hsz := HB.out.size
    have z0 := R.c0
    have z1 := R.c1
    have f0 := R.f0
    have f1 := R.f1
    have HR := Lib.hid R
    clear hb R
    go_wp2_with fail
    have s0 := HR.out.s0
    have s1 := HR.out.s1
    (try simp only [Exit.inBlock, Exit.then])
    refine bodyPost_ret (by simp [results, Try.results66, go_sem, z0, z1, s0, s1]; try rfl) rfl ?_
    exact ⟨rfl, HB.out.trans (by go_grown)⟩
  · rw [told2_yes rfl]
    have C := Lib.hid (inFlightI hc)
    obtain ⟨hj, h1, h2⟩ := inF_iff.1 hc
    obtain ⟨N, rfl⟩ : ∃ N : Nat, n = N := ⟨n.toNat, by omega⟩
    rw [Int.toNat_natCast]
    have D := Lib.hid (dropAt hj h2)
    have T := (fun w' b => toldAt (w := w') (b := b) (ok_of hj) h2)
    generalize wy x (tx h.toNat t 0) N = X at *
    generalize wy y (ty h.toNat t 0) N = Y at *
    replace T := Lib.hid T
    clear hc hj h1 h2
    go_enter Try.func66, Try.ntmps66
    go_wp2_with fail
    refine (C.out _).mono ?_
    rintro e w1 ⟨rfl, hb⟩
    have R := Lib.hid ((jw_r w x y h t l).below hb)
    obtain ⟨j0, j1, j2, j3, j4⟩ := J5.below (J5.alloc (J5.new w x y h t l 48)) hb
    have HB := Lib.hid (show Below w.heap.size w w1 from Below.trans (by go_grown) (hb.mono (by go_size)))
    clear hb
    go_wp2_with fail
    refine (D.out _).mono ?_
    rintro e w2 ⟨b, rfl, hb2, hA, hb⟩
    obtain ⟨re, im, k0, K⟩ := T.out _ _ hA
    replace K := Lib.hid K
    have R := Lib.hid (R.out.below hb)
    have HB := Lib.hid (HB.out.trans (hb.mono HB.out.size))
    have hsz := HB.out.size
    clear hb hb2 hA j0 j1 j2 j3 j4 T
    go_wp2_with fail
    refine (K.out _).mono ?_
    rintro e w' ⟨rfl, rfl⟩
    have R := R.out.alloc (o := .cells #[.int .i64 X, .int .i64 Y] 32)
    have z0 := R.c0
    have z1 := R.c1
    have f0 := R.f0
    have f1 := R.f1
    have HR := Lib.hid R
    clear R k0
    go_wp2_with fail
    have s0 := HR.out.s0
    have s1 := HR.out.s1
    (try simp only [Exit.inBlock, Exit.then])
    refine bodyPost_ret (by simp [results, Try.results66, go_sem, z0, z1, s0, s1]; try rfl) rfl ?_
    exact ⟨rfl, HB.out.trans (by go_grown)⟩

end Go.Proofs.Ytejeikfgmiadhab.Dp
