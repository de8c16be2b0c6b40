/- The box of the sums of a rose, of the program and of the model. -/
import Derived.Test.YtokncfhpmjohdaaGreatM22
import Derived.Test.YtokncfhpmjohdaaGreatM21
import Derived.Test.YtokncfhpmjohdaaGreatFf
set_option linter.unusedVariables false
set_option linter.unusedSimpArgs false
namespace Go.Proofs.YtokncfhpmjohdaaGreat.Wy
open Go.RowKit Go.Proofs.YtokncfhpmjohdaaGreat.Flt Go.Proofs.YtokncfhpmjohdaaGreat.Meas Go.Proofs.YtokncfhpmjohdaaGreat.Mem Go.Proofs.YtokncfhpmjohdaaGreat.Rw Go.Proofs.YtokncfhpmjohdaaGreat.Bk Go.Proofs.YtokncfhpmjohdaaGreat.Cx Go.Proofs.YtokncfhpmjohdaaGreat.Cm Go.Proofs.YtokncfhpmjohdaaGreat.Jt Go.Proofs.YtokncfhpmjohdaaGreat.Pl Go.Proofs.YtokncfhpmjohdaaGreat.Str Go.Proofs.YtokncfhpmjohdaaGreat.Pw Go.Proofs.YtokncfhpmjohdaaGreat.P2 Go.Proofs.YtokncfhpmjohdaaGreat.Gs Go.Proofs.YtokncfhpmjohdaaGreat.Wm Go.Proofs.YtokncfhpmjohdaaGreat.Wi Go.Proofs.YtokncfhpmjohdaaGreat.Wa Go.Proofs.YtokncfhpmjohdaaGreat.Wb Go.Proofs.YtokncfhpmjohdaaGreat.Wc Go.Proofs.YtokncfhpmjohdaaGreat.We Go.Proofs.YtokncfhpmjohdaaGreat.Pls Go.Proofs.YtokncfhpmjohdaaGreat.Bi Go.Proofs.YtokncfhpmjohdaaGreat.Bo Go.Proofs.YtokncfhpmjohdaaGreat.Bx Go.Proofs.YtokncfhpmjohdaaGreat.Tb Go.Proofs.YtokncfhpmjohdaaGreat.Wr Go.Proofs.YtokncfhpmjohdaaGreat.Wx
set_option linter.unusedVariables false
set_option linter.unusedSimpArgs false

/-- Words that tell these places. -/
def Wo (zs : List (Int × Int)) (ws : List (Nat × Nat)) : Prop := ws.length = zs.length ∧ ∀ (k : Nat) x y, zs[k]? = some (x, y) → ∃ a b, ws[k]? = some (a, b) ∧ I32 x a ∧ I32 y b
theorem Wo.set {zs : List (Int × Int)} {ws : List (Nat × Nat)} (h : Wo zs ws) (k : Nat) {x y : Int} {a b : Nat} (hx : I32 x a) (hy : I32 y b) : Wo (zs.set k (x, y)) (ws.set k (a, b)) := by
  refine ⟨by rw [List.length_set, List.length_set]; exact h.1, fun j u v hj => ?_⟩
  rw [List.getElem?_set] at hj
  by_cases e : k = j
  · subst e
    rw [if_pos rfl] at hj
    by_cases hl : k < zs.length
    · rw [if_pos hl] at hj
      injection hj with hj
      injection hj with e1 e2
      subst e1 e2
      exact ⟨a, b, by rw [List.getElem?_set, if_pos rfl, if_pos (by rw [h.1]; exact hl)], hx, hy⟩
    · rw [if_neg hl] at hj; cases hj
  · rw [if_neg e] at hj
    obtain ⟨a', b', h1, h2⟩ := h.2 j u v hj
    exact ⟨a', b', by rw [List.getElem?_set, if_neg e]; exact h1, h2⟩

def sc (t : Int) (p : Int × Int) : Int × Int := (t * p.1, t * p.2)
abbrev z4 : Array Value := #[.int .i64 0, .int .i64 0, .int .i64 0, .int .i64 0]

end Go.Proofs.YtokncfhpmjohdaaGreat.Wy
namespace Go.Proofs.YtokncfhpmjohdaaGreat.Bxi
open Go.RowKit Go.Proofs.YtokncfhpmjohdaaGreat.Cm Go.Proofs.YtokncfhpmjohdaaGreat.Pl Go.Proofs.YtokncfhpmjohdaaGreat.Str Go.Proofs.YtokncfhpmjohdaaGreat.Pw Go.Proofs.YtokncfhpmjohdaaGreat.P2
set_option linter.unusedVariables false

def bx (x y z u : Int) : Bool := (ms x && ms y) && (ms z && ms u) && decide (x ≤ z) && decide (y ≤ u)
theorem isBoxI (x y z u : Int) (w : World) : Calls Tryz.prog 86 #[.agg #[.int .i64 x, .int .i64 y, .int .i64 z, .int .i64 u]] w fun e w' => e = .returned (.bool (bx x y z u)) ∧ Below w.heap.size w w' := by
  unfold bx
  cases p : (ms x && ms y)
  · have C1 := Lib.hid (isPlaceI_of p)
    clear p
    go_enter Tryz.func86, Tryz.ntmps86
    go_wp2_with fail
    refine (C1.out _).mono ?_
    rintro e w' ⟨rfl, rfl⟩
    go_wp2_with fail
    go_returns
    exact ⟨rfl, by go_grown⟩
  cases q : (ms z && ms u)
  · have C1 := Lib.hid (isPlaceI_of p)
    have C2 := Lib.hid (isPlaceI_of q)
    clear p q
    go_enter Tryz.func86, Tryz.ntmps86
    go_wp2_with fail
    refine (C1.out _).mono ?_
    rintro e w' ⟨rfl, rfl⟩
    go_wp2_with fail
    refine (C2.out _).mono ?_
    rintro e w' ⟨rfl, rfl⟩
    go_wp2_with fail
    go_returns
    exact ⟨rfl, by go_grown⟩
  · have C1 := Lib.hid (isPlaceI_of p)
    have C2 := Lib.hid (isPlaceI_of q)
    clear p q
    by_cases h1 : x ≤ z <;> by_cases h2 : y ≤ u
    all_goals
      go_enter Tryz.func86, Tryz.ntmps86
      go_wp2_with fail
      refine (C1.out _).mono ?_
      rintro e w' ⟨rfl, rfl⟩
      go_wp2_with fail
      refine (C2.out _).mono ?_
      rintro e w' ⟨rfl, rfl⟩
      go_wp2_with fail
      all_goals first | omega | skip
      all_goals go_returns
      all_goals refine ⟨?_, by go_grown⟩
      all_goals first | (simp [*]; done) | (simp [*]; omega)

end Go.Proofs.YtokncfhpmjohdaaGreat.Bxi
namespace Go.Proofs.YtokncfhpmjohdaaGreat.Dp
open Go.RowKit Go.Proofs.YtokncfhpmjohdaaGreat.Cx Go.Proofs.YtokncfhpmjohdaaGreat.Cm Go.Proofs.YtokncfhpmjohdaaGreat.Pl Go.Proofs.YtokncfhpmjohdaaGreat.Str Go.Proofs.YtokncfhpmjohdaaGreat.Pw Go.Proofs.YtokncfhpmjohdaaGreat.P2 Go.Proofs.YtokncfhpmjohdaaGreat.Hd Go.Proofs.YtokncfhpmjohdaaGreat.Sf Go.Proofs.YtokncfhpmjohdaaGreat.Jt
set_option linter.unusedVariables false
set_option linter.unusedSimpArgs false

theorem hg_one (l : Int) : hg l 1 = l := by unfold hg; simp

set_option maxHeartbeats 1000000 in
theorem flightS (x y h t l : Int) (w : World) : Calls Tryz.prog 76 #[jv x y h t l] w fun e w' => e = .returned (.int .i64 (fl x y h t l)) ∧ Below w.heap.size w w' := by
  cases hj : jt x y h t l
  · rw [fl_no hj]
    have C := Lib.hid (isJetS_of hj)
    clear hj
    go_enter Tryz.func76, Tryz.ntmps76
    go_wp2_with fail
    refine (C.out _).mono ?_
    rintro e w' ⟨rfl, rfl⟩
    go_wp2_with fail
    go_returns
    exact ⟨rfl, by go_grown⟩
  · rw [fl_yes hj]
    have hl := (jt_iff.1 hj).2.2.2.2
    have C := Lib.hid (isJetS_of hj)
    have H1 := Lib.hid (hg_one l)
    clear hj
    go_enter Tryz.func76, Tryz.ntmps76
    go_wp2_with fail
    refine (C.out _).mono ?_
    rintro e w' ⟨rfl, rfl⟩
    go_wp2_with fail
    go_loop [3, 4, 5] (fun a b c => ∃ (k : Nat) (H s : Int), 1 ≤ k ∧ (k : Int) ≤ l + 1 ∧ a = .int .i64 k ∧ b = .int .i64 H ∧ c = .int .i64 s ∧ Hid (H = hg l k) ∧ Hid (s = l - 2 * k)) (fun a _ _ => (l + 1 - intOf a).toNat)
    case atStart => exact ⟨1, l, l - 2, by omega, by omega, rfl, rfl, rfl, Lib.hid H1.out.symm, Lib.hid (by omega)⟩
    case round =>
      obtain ⟨k, H, s, k1, k2, rfl, rfl, rfl, HH, HS⟩ := hrel
      have b3 := hg_le (k := k) k2 hl.2
      have b4 := hg_nonneg (l := l) (k := k) k2
      rw [← HH.out] at b3 b4
      have b5 : -66 ≤ s ∧ s ≤ 32 := by have := HS.out; omega
      have NX := Lib.hid (show H + s = hg l (k + 1) by rw [HH.out, HS.out, hg_succ])
      have NS := Lib.hid (show s - 2 = l - 2 * ((k + 1 : Nat) : Int) by rw [HS.out]; omega)
      by_cases hlt : (k : Int) ≤ l
      · have hpos : 0 < H := by have := hg_pos (l := l) k1 hlt; rw [← HH.out] at this; exact this
        go_wp2_with fail
        go_round
        case rel => exact ⟨k + 1, H + s, s - 2, by omega, by omega, by go_num, rfl, rfl, NX, NS⟩
        case measure => simp [intOf]; omega
      · have hz : ¬ 0 < H := by have := hg_end (l := l) (k := k) (by omega); rw [← HH.out] at this; omega
        have RI := Lib.hid (ret_i (show (k : Int) = l + 1 by omega))
        go_wp2_with fail
        go_returns
        exact ⟨RI.out, by go_grown⟩

end Go.Proofs.YtokncfhpmjohdaaGreat.Dp
namespace Go.Proofs.YtokncfhpmjohdaaGreat.Dp
open Go.RowKit Go.Proofs.YtokncfhpmjohdaaGreat.Cx Go.Proofs.YtokncfhpmjohdaaGreat.Cm Go.Proofs.YtokncfhpmjohdaaGreat.Pl Go.Proofs.YtokncfhpmjohdaaGreat.Str Go.Proofs.YtokncfhpmjohdaaGreat.Pw Go.Proofs.YtokncfhpmjohdaaGreat.P2 Go.Proofs.YtokncfhpmjohdaaGreat.Hd Go.Proofs.YtokncfhpmjohdaaGreat.Sf Go.Proofs.YtokncfhpmjohdaaGreat.Jt
set_option linter.unusedVariables false
set_option linter.unusedSimpArgs false

theorem tx_mul (k : Nat) (n t : Int) : tx k (n * t) 0 = n * tx k t 0 := by
  unfold tx; split <;> simp [Int.mul_neg]
theorem ty_mul (k : Nat) (n t : Int) : ty k (n * t) 0 = n * ty k t 0 := by
  unfold ty; split <;> simp [Int.mul_neg]

theorem mul_le {N : Nat} {P : Int} (hN : N ≤ 33) (hP : -16 ≤ P ∧ P ≤ 16) : -528 ≤ (N : Int) * P ∧ (N : Int) * P ≤ 528 := by
  have h1 : (N : Int) * P ≤ (N : Int) * 16 := Int.mul_le_mul_of_nonneg_left hP.2 (by omega)
  have h2 : (N : Int) * (-16) ≤ (N : Int) * P := Int.mul_le_mul_of_nonneg_left hP.1 (by omega)
  omega

abbrev agg2 (x y : Int) : Value := .agg #[.int .i64 x, .int .i64 y]

set_option maxHeartbeats 2000000 in
set_option maxRecDepth 100000 in
theorem l3Place {x y h t l : Int} {N : Nat} (hj : jt x y h t l = true) (hN : (N : Int) ≤ l + 1) (w : World) :
    Calls Tryz.prog 153 #[jv x y h t l, .int .i64 N] w fun e w' => e = .returned (agg2 (wy x (tx h.toNat t 0) N) (wy y (ty h.toNat t 0) N)) ∧ Below w.heap.size w w' := by
  obtain ⟨hx, hy, hh, ht, hl⟩ := jt_iff.1 hj
  have o := ok_of hj
  have bt := mul_le (N := N) (P := t) (by omega) (by omega)
  have bp := mul_le (N := N) (by omega) o.p
  have bq := mul_le (N := N) (by omega) o.q
  have m1 : IntKind.i64.wrap ((N : Int) * t) = (N : Int) * t := IntWalk.i64_in _ (by omega)
  have LT := l2Turn h (x := (N : Int) * t) (y := 0) (by omega) (by omega)
  rw [show h % 4 = h by omega, tx_mul, ty_mul] at LT
  unfold wy
  generalize (N : Int) * tx h.toNat t 0 = X at *
  generalize (N : Int) * ty h.toNat t 0 = Y at *
  have LA := Lib.hid (l2Add x y X Y (IntWalk.wrap64_in _ (by omega)) (IntWalk.wrap64_in _ (by omega)))
  have m2 : wrap64 ((N : Int) * t) = (N : Int) * t := IntWalk.wrap64_in _ (by omega)
  replace LT := Lib.hid LT
  clear hj hN hx hy hh ht hl o bt bp bq
  go_enter Tryz.func153, Tryz.ntmps153
  go_wp2_with fail
  go_region_held3 (fun w' => w'.cell? ⟨w.heap.size, 0, none⟩ = some (.int .i64 x) ∧ w'.cell? ⟨w.heap.size, 1, none⟩ = some (.int .i64 y) ∧ w'.cell? ⟨w.heap.size, 2, none⟩ = some (.int .i64 h) ∧ w'.cell? ⟨w.heap.size, 3, none⟩ = some (.int .i64 t) ∧ w'.cell? ⟨w.heap.size, 4, none⟩ = some (.int .i64 l)) ((repeat (first | (with_reducible exact J5.new _ _ _ _ _ _ _) | (with_reducible refine J5.drew ?_) | (with_reducible refine J5.alloc ?_))))
    (first
      | (go_at_call 81; ((with_reducible refine (LT.out _).mono ?_); rintro e w' ⟨rfl, rfl⟩))
      | (go_at_call 78; ((with_reducible refine (LA.out _).mono ?_); rintro e w' ⟨rfl, rfl⟩)))
  all_goals go_wp2_with fail
  all_goals go_returns
  all_goals exact ⟨rfl, by go_grown⟩

end Go.Proofs.YtokncfhpmjohdaaGreat.Dp
namespace Go.Proofs.YtokncfhpmjohdaaGreat.Dp
open Go.RowKit Go.Proofs.YtokncfhpmjohdaaGreat.Cx Go.Proofs.YtokncfhpmjohdaaGreat.Cm Go.Proofs.YtokncfhpmjohdaaGreat.Pl Go.Proofs.YtokncfhpmjohdaaGreat.Str Go.Proofs.YtokncfhpmjohdaaGreat.Pw Go.Proofs.YtokncfhpmjohdaaGreat.P2 Go.Proofs.YtokncfhpmjohdaaGreat.Hd Go.Proofs.YtokncfhpmjohdaaGreat.Sf Go.Proofs.YtokncfhpmjohdaaGreat.Jt
set_option linter.unusedVariables false
set_option linter.unusedSimpArgs false

theorem told2_no {c : Bool} {a b : Int} (h : c = false) : told2 c a b = .tuple #[.agg #[.int .i64 0, .int .i64 0], .bool false] := by subst h; rfl
theorem told2_yes {c : Bool} {a b : Int} (h : c = true) : told2 c a b = .tuple #[.agg #[.int .i64 a, .int .i64 b], .bool true] := by subst h; rfl
theorem inF_no {x y h t l n : Int} (k : jt x y h t l = false ∨ n < 0 ∨ l + 1 < n) : inF x y h t l n = false := by
  rw [← Bool.not_eq_true, inF_iff]
  rintro ⟨h1, h2, h3⟩
  rcases k with k | k | k
  · rw [k] at h1; cases h1
  · omega
  · omega

/-- A result of two cells in a block that is old by now. -/
structure R2 (w : World) (b : Nat) : Prop where
  c0 : w.cell? ⟨b, 0, none⟩ = some (.int .i64 0)
  c1 : w.cell? ⟨b, 1, none⟩ = some (.int .i64 0)
  f0 : w.frozen? ⟨b, 0, none⟩ = false
  f1 : w.frozen? ⟨b, 1, none⟩ = false
theorem R2.below {w w' : World} {b : Nat} (k : R2 w b) (hb : Below w.heap.size w w') : R2 w' b :=
  ⟨cell_below hb k.c0, cell_below hb k.c1, (hb.frozen (World.block_lt_of_cell? w _ k.c0)).trans k.f0, (hb.frozen (World.block_lt_of_cell? w _ k.c1)).trans k.f1⟩
theorem R2.alloc {w : World} {b : Nat} {o : Obj} (k : R2 w b) : R2 (w.alloc o) b := k.below (by go_grown)
theorem R2.drew {w : World} {b : Nat} (k : R2 w b) : R2 w.drew b := ⟨k.c0, k.c1, k.f0, k.f1⟩
theorem R2.s0 {w : World} {b : Nat} (k : R2 w b) (P Q : Value) : ((w.setCell ⟨b, 0, none⟩ P).setCell ⟨b, 1, none⟩ Q).cell? ⟨b, 0, none⟩ = some P := set2_0 (by rw [k.c0]; rfl)
theorem R2.s1 {w : World} {b : Nat} (k : R2 w b) (P Q : Value) : ((w.setCell ⟨b, 0, none⟩ P).setCell ⟨b, 1, none⟩ Q).cell? ⟨b, 1, none⟩ = some Q := set2_1 (by rw [k.c1]; rfl)
theorem R2.new (w : World) : R2 (w.alloc (.cells #[.int .i64 0, .int .i64 0] 44)) w.heap.size := by constructor <;> simp [go_sem]
theorem R2.lt {w : World} {b : Nat} (k : R2 w b) : b < w.heap.size := World.block_lt_of_cell? w _ k.c0

abbrev jw (w : World) (x y h t l : Int) : World := (w.alloc (.cells (jc x y h t l) 69)).alloc (.cells #[.int .i64 0, .int .i64 0] 44)
theorem jw_r (w : World) (x y h t l : Int) : R2 (jw w x y h t l) (w.heap.size + 1) := by
  have := R2.new (w.alloc (.cells (jc x y h t l) 69))
  rw [World.size_alloc] at this; exact this

set_option maxHeartbeats 2000000 in
set_option maxRecDepth 100000 in
theorem placeS (x y h t l n : Int) (hn : n ≤ 9223372036854775807) (hn2 : -9223372036854775808 ≤ n) (w : World) :
    Calls Tryz.prog 122 #[jv x y h t l, .int .i64 n] w fun e w' => e = .returned (told2 (inF x y h t l n) (wy x (tx h.toNat t 0) n.toNat) (wy y (ty h.toNat t 0) n.toNat)) ∧ Below w.heap.size w w' := by
  cases hj : jt x y h t l
  · rw [told2_no (inF_no (Or.inl hj))]
    have C := Lib.hid (isJetS_of hj)
    clear hj
    go_enter Tryz.func122, Tryz.ntmps122
    go_wp2_with fail
    refine (C.out _).mono ?_
    rintro e w' ⟨rfl, rfl⟩
    go_wp2_with fail
    go_returns
    exact ⟨rfl, by go_grown⟩
  have C := Lib.hid (isJetS_of hj)
  have F := flightS x y h t l
  rw [fl_yes hj] at F
  replace F := Lib.hid F
  by_cases c1 : n < 0
  · rw [told2_no (inF_no (Or.inr (Or.inl c1)))]
    clear hj
    go_enter Tryz.func122, Tryz.ntmps122
    go_wp2_with fail
    refine (C.out _).mono ?_
    rintro e w' ⟨rfl, rfl⟩
    go_wp2_with fail
    go_returns
    exact ⟨rfl, by go_grown⟩
  by_cases c2 : l + 1 < n
  · rw [told2_no (inF_no (Or.inr (Or.inr c2)))]
    clear hj
    go_enter Tryz.func122, Tryz.ntmps122
    go_wp2_with fail
    refine (C.out _).mono ?_
    rintro e w' ⟨rfl, rfl⟩
    go_wp2_with fail
    refine (F.out _).mono ?_
    rintro e w1 ⟨rfl, hb⟩
    have R := (jw_r w x y h t l).alloc.below hb
    have HB := Lib.hid (show Below w.heap.size w w1 from Below.trans (by go_grown) (hb.mono (by go_size)))
    have hsz := HB.out.size
    have z0 := R.c0
    have z1 := R.c1
    have f0 := R.f0
    have f1 := R.f1
    have HR := Lib.hid R
    clear hb R
    go_wp2_with fail
    have s0 := HR.out.s0
    have s1 := HR.out.s1
    (try simp only [Exit.inBlock, Exit.then])
    refine bodyPost_ret (by simp [results, Tryz.results122, go_sem, z0, z1, s0, s1]; try rfl) rfl ?_
    exact ⟨rfl, HB.out.trans (by go_grown)⟩
  · obtain ⟨N, rfl⟩ : ∃ N : Nat, n = N := ⟨n.toNat, by omega⟩
    rw [told2_yes (inF_iff.2 ⟨hj, by omega, by omega⟩), Int.toNat_natCast]
    have P := Lib.hid (l3Place hj (N := N) (by omega))
    generalize wy x (tx h.toNat t 0) N = X at *
    generalize wy y (ty h.toNat t 0) N = Y at *
    clear hj
    go_enter Tryz.func122, Tryz.ntmps122
    go_wp2_with fail
    refine (C.out _).mono ?_
    rintro e w' ⟨rfl, rfl⟩
    go_wp2_with fail
    refine (F.out _).mono ?_
    rintro e w1 ⟨rfl, hb⟩
    have R := Lib.hid ((jw_r w x y h t l).alloc.below hb)
    have J := J5.below (J5.alloc (J5.alloc (J5.new w x y h t l 69))) hb
    obtain ⟨j0, j1, j2, j3, j4⟩ := J
    have HB := Lib.hid (show Below w.heap.size w w1 from Below.trans (by go_grown) (hb.mono (by go_size)))
    clear hb
    go_wp2_with fail
    refine (P.out _).mono ?_
    rintro e w2 ⟨rfl, hb⟩
    have R := R.out.below hb
    have HB := Lib.hid (HB.out.trans (hb.mono HB.out.size))
    have hsz := HB.out.size
    have z0 := R.c0
    have z1 := R.c1
    have f0 := R.f0
    have f1 := R.f1
    have HR := Lib.hid R
    clear hb R j0 j1 j2 j3 j4
    go_wp2_with fail
    have s0 := HR.out.s0
    have s1 := HR.out.s1
    (try simp only [Exit.inBlock, Exit.then])
    refine bodyPost_ret (by simp [results, Tryz.results122, go_sem, z0, z1, s0, s1]; try rfl) rfl ?_
    exact ⟨rfl, HB.out.trans (by go_grown)⟩

theorem toldAt {w : World} {b : Nat} {X Y P Q l : Int} {N : Nat} (o : Ok X Y P Q l) (hN : (N : Int) ≤ l + 1) (h : At w b X Y P Q l N) :
    ∃ re im, w.cell? ⟨b, 0, none⟩ = some (.complex .f32 re im) ∧ ∀ w, Calls Tryz.prog 151 #[.complex .f32 re im] w fun e w' => e = .returned (.tuple #[agg2 (wy X P N) (wy Y Q N), .bool true]) ∧ w' = w.alloc (.cells #[.int .i64 (wy X P N), .int .i64 (wy Y Q N)] 44) := by
  have hl := o.l
  have b1 := wy_le (k := N) o.x o.p (by omega)
  have b2 := wy_le (k := N) o.y o.q (by omega)
  obtain ⟨x, y, p, q, g, s, hD, i1, i2, i3, i4, i5, i6⟩ := h
  exact ⟨x, y, hD.c0, toldYes (by omega) (by omega) i1 i2⟩

set_option maxHeartbeats 2000000 in
set_option maxRecDepth 100000 in
theorem placeI (x y h t l n : Int) (w : World) :
    Calls Tryz.prog 168 #[jv x y h t l, .int .i64 n] w fun e w' => e = .returned (told2 (inF x y h t l n) (wy x (tx h.toNat t 0) n.toNat) (wy y (ty h.toNat t 0) n.toNat)) ∧ Below w.heap.size w w' := by
  cases hc : inF x y h t l n
  · rw [told2_no rfl]
    have C := Lib.hid (inFlightI hc)
    clear hc
    go_enter Tryz.func168, Tryz.ntmps168
    go_wp2_with fail
    refine (C.out _).mono ?_
    rintro e w1 ⟨rfl, hb⟩
    have R := (jw_r w x y h t l).below hb
    have HB := Lib.hid (show Below w.heap.size w w1 from Below.trans (by go_grown) (hb.mono (by go_size)))
    have hsz := HB.out.size
    have z0 := R.c0
    have z1 := R.c1
    have f0 := R.f0
    have f1 := R.f1
    have HR := Lib.hid R
    clear hb R
    go_wp2_with fail
    have s0 := HR.out.s0
    have s1 := HR.out.s1
    (try simp only [Exit.inBlock, Exit.then])
    refine bodyPost_ret (by simp [results, Tryz.results168, go_sem, z0, z1, s0, s1]; try rfl) rfl ?_
    exact ⟨rfl, HB.out.trans (by go_grown)⟩
  · rw [told2_yes rfl]
    have C := Lib.hid (inFlightI hc)
    obtain ⟨hj, h1, h2⟩ := inF_iff.1 hc
    obtain ⟨N, rfl⟩ : ∃ N : Nat, n = N := ⟨n.toNat, by omega⟩
    rw [Int.toNat_natCast]
    have D := Lib.hid (dropAt hj h2)
    have T := (fun w' b => toldAt (w := w') (b := b) (ok_of hj) h2)
    generalize wy x (tx h.toNat t 0) N = X at *
    generalize wy y (ty h.toNat t 0) N = Y at *
    replace T := Lib.hid T
    clear hc hj h1 h2
    go_enter Tryz.func168, Tryz.ntmps168
    go_wp2_with fail
    refine (C.out _).mono ?_
    rintro e w1 ⟨rfl, hb⟩
    have R := Lib.hid ((jw_r w x y h t l).below hb)
    obtain ⟨j0, j1, j2, j3, j4⟩ := J5.below (J5.alloc (J5.new w x y h t l 69)) hb
    have HB := Lib.hid (show Below w.heap.size w w1 from Below.trans (by go_grown) (hb.mono (by go_size)))
    clear hb
    go_wp2_with fail
    refine (D.out _).mono ?_
    rintro e w2 ⟨b, rfl, hb2, hA, hb⟩
    obtain ⟨re, im, k0, K⟩ := T.out _ _ hA
    replace K := Lib.hid K
    have R := Lib.hid (R.out.below hb)
    have HB := Lib.hid (HB.out.trans (hb.mono HB.out.size))
    have hsz := HB.out.size
    clear hb hb2 hA j0 j1 j2 j3 j4 T
    go_wp2_with fail
    refine (K.out _).mono ?_
    rintro e w' ⟨rfl, rfl⟩
    have R := R.out.alloc (o := .cells #[.int .i64 X, .int .i64 Y] 44)
    have z0 := R.c0
    have z1 := R.c1
    have f0 := R.f0
    have f1 := R.f1
    have HR := Lib.hid R
    clear R k0
    go_wp2_with fail
    have s0 := HR.out.s0
    have s1 := HR.out.s1
    (try simp only [Exit.inBlock, Exit.then])
    refine bodyPost_ret (by simp [results, Tryz.results168, go_sem, z0, z1, s0, s1]; try rfl) rfl ?_
    exact ⟨rfl, HB.out.trans (by go_grown)⟩

end Go.Proofs.YtokncfhpmjohdaaGreat.Dp
namespace Go.Proofs.YtokncfhpmjohdaaGreat.Dp
open Go.RowKit Go.Proofs.YtokncfhpmjohdaaGreat.Cx Go.Proofs.YtokncfhpmjohdaaGreat.Cm Go.Proofs.YtokncfhpmjohdaaGreat.Pl Go.Proofs.YtokncfhpmjohdaaGreat.Str Go.Proofs.YtokncfhpmjohdaaGreat.Pw Go.Proofs.YtokncfhpmjohdaaGreat.P2 Go.Proofs.YtokncfhpmjohdaaGreat.Hd Go.Proofs.YtokncfhpmjohdaaGreat.Sf Go.Proofs.YtokncfhpmjohdaaGreat.Jt
set_option linter.unusedVariables false
set_option linter.unusedSimpArgs false

/-- Where the drop lands, and whether it does. -/
def landV (x y h t l : Int) : Value := told2 (inF x y h t l (fl x y h t l)) (wy x (tx h.toNat t 0) (fl x y h t l).toNat) (wy y (ty h.toNat t 0) (fl x y h t l).toNat)
theorem J5.set2 {w : World} {b b' i j : Nat} {u v : Value} {x y h t l : Int} (e : b' ≠ b) (k : J5 w b x y h t l) : J5 ((w.setCell ⟨b', i, none⟩ u).setCell ⟨b', j, none⟩ v) b x y h t l :=
  have f : ∀ o c, w.cell? ⟨b, o, none⟩ = some c → ((w.setCell ⟨b', i, none⟩ u).setCell ⟨b', j, none⟩ v).cell? ⟨b, o, none⟩ = some c := fun o c h => (World.cell?_setCell_other _ _ _ _ (by simp [e])).trans ((World.cell?_setCell_other _ _ _ _ (by simp [e])).trans h)
  ⟨f _ _ k.1, f _ _ k.2.1, f _ _ k.2.2.1, f _ _ k.2.2.2.1, f _ _ k.2.2.2.2⟩
theorem fl_le (x y h t l : Int) : -9223372036854775808 ≤ fl x y h t l ∧ fl x y h t l ≤ 9223372036854775807 := by
  cases hj : jt x y h t l
  · rw [fl_no hj]; omega
  · have := (jt_iff.1 hj).2.2.2.2
    rw [fl_yes hj]; omega

set_option maxHeartbeats 2000000 in
set_option maxRecDepth 100000 in
theorem landI (x y h t l : Int) (w : World) :
    Calls Tryz.prog 135 #[jv x y h t l] w fun e w' => e = .returned (landV x y h t l) ∧ Below w.heap.size w w' := by
  have F := flightI x y h t l
  have P := (placeI x y h t l (fl x y h t l))
  obtain ⟨X, Y, B, e⟩ : ∃ X Y B, landV x y h t l = .tuple #[.agg #[.int .i64 X, .int .i64 Y], .bool B] := ⟨_, _, _, rfl⟩
  unfold landV at *
  rw [e] at P ⊢
  clear e
  generalize fl x y h t l = f at *
  replace F := Lib.hid F
  replace P := Lib.hid P
  go_enter Tryz.func135, Tryz.ntmps135
  go_wp2_with fail
  go_region_held3 (fun w' => w'.cell? ⟨w.heap.size, 0, none⟩ = some (.int .i64 x) ∧ w'.cell? ⟨w.heap.size, 1, none⟩ = some (.int .i64 y) ∧ w'.cell? ⟨w.heap.size, 2, none⟩ = some (.int .i64 h) ∧ w'.cell? ⟨w.heap.size, 3, none⟩ = some (.int .i64 t) ∧ w'.cell? ⟨w.heap.size, 4, none⟩ = some (.int .i64 l)) ((first | (with_reducible exact hJ) | (with_reducible exact hJ2) | exact J5.drew (J5.alloc (J5.new _ _ _ _ _ _ _)) | exact J5.set2 (by omega) hJ2))
    (first
      | (go_at_call 132; ((with_reducible refine (F.out _).mono ?_); rintro e v ⟨rfl, hb⟩; have hJ := J5.below (J5.drew (J5.alloc (J5.new w x y h t l 69))) hb; have hR := Lib.hid (R2.below (R2.drew (jw_r w x y h t l)) hb); have HB := Lib.hid (show Below w.heap.size w v from Below.trans (by go_grown) (hb.mono (by go_size))); clear hb))
      | (go_at_call 168; ((with_reducible refine (P.out _).mono ?_); rintro e v2 ⟨rfl, hb⟩; have hJ2 := J5.below hJ hb; have HR := Lib.hid (R2.below hR.out hb); have HB2 := Lib.hid (HB.out.trans (hb.mono HB.out.size)); have z0 := HR.out.c0; have z1 := HR.out.c1; have f0 := HR.out.f0; have f1 := HR.out.f1; have hsz := HB2.out.size; clear hb)))
  all_goals go_wp2_with fail
  all_goals have s0 := HR.out.s0
  all_goals have s1 := HR.out.s1
  all_goals (try simp only [Exit.inBlock, Exit.then])
  all_goals refine bodyPost_ret (by simp [results, Tryz.results135, go_sem, z0, z1, s0, s1]; try rfl) rfl ?_
  all_goals exact ⟨rfl, HB2.out.trans (by go_grown)⟩

set_option maxHeartbeats 2000000 in
set_option maxRecDepth 100000 in
theorem landS (x y h t l : Int) (w : World) :
    Calls Tryz.prog 75 #[jv x y h t l] w fun e w' => e = .returned (landV x y h t l) ∧ Below w.heap.size w w' := by
  have F := flightS x y h t l
  have P := (placeS x y h t l (fl x y h t l) (fl_le x y h t l).2 (fl_le x y h t l).1)
  obtain ⟨X, Y, B, e⟩ : ∃ X Y B, landV x y h t l = .tuple #[.agg #[.int .i64 X, .int .i64 Y], .bool B] := ⟨_, _, _, rfl⟩
  unfold landV at *
  rw [e] at P ⊢
  clear e
  generalize fl x y h t l = f at *
  replace F := Lib.hid F
  replace P := Lib.hid P
  go_enter Tryz.func75, Tryz.ntmps75
  go_wp2_with fail
  go_region_held3 (fun w' => w'.cell? ⟨w.heap.size, 0, none⟩ = some (.int .i64 x) ∧ w'.cell? ⟨w.heap.size, 1, none⟩ = some (.int .i64 y) ∧ w'.cell? ⟨w.heap.size, 2, none⟩ = some (.int .i64 h) ∧ w'.cell? ⟨w.heap.size, 3, none⟩ = some (.int .i64 t) ∧ w'.cell? ⟨w.heap.size, 4, none⟩ = some (.int .i64 l)) ((first | (with_reducible exact hJ) | (with_reducible exact hJ2) | exact J5.drew (J5.alloc (J5.new _ _ _ _ _ _ _)) | exact J5.set2 (by omega) hJ2))
    (first
      | (go_at_call 76; ((with_reducible refine (F.out _).mono ?_); rintro e v ⟨rfl, hb⟩; have hJ := J5.below (J5.drew (J5.alloc (J5.new w x y h t l 69))) hb; have hR := Lib.hid (R2.below (R2.drew (jw_r w x y h t l)) hb); have HB := Lib.hid (show Below w.heap.size w v from Below.trans (by go_grown) (hb.mono (by go_size))); clear hb))
      | (go_at_call 122; ((with_reducible refine (P.out _).mono ?_); rintro e v2 ⟨rfl, hb⟩; have hJ2 := J5.below hJ hb; have HR := Lib.hid (R2.below hR.out hb); have HB2 := Lib.hid (HB.out.trans (hb.mono HB.out.size)); have z0 := HR.out.c0; have z1 := HR.out.c1; have f0 := HR.out.f0; have f1 := HR.out.f1; have hsz := HB2.out.size; clear hb)))
  all_goals go_wp2_with fail
  all_goals have s0 := HR.out.s0
  all_goals have s1 := HR.out.s1
  all_goals (try simp only [Exit.inBlock, Exit.then])
  all_goals refine bodyPost_ret (by simp [results, Tryz.results75, go_sem, z0, z1, s0, s1]; try rfl) rfl ?_
  all_goals exact ⟨rfl, HB2.out.trans (by go_grown)⟩

end Go.Proofs.YtokncfhpmjohdaaGreat.Dp
