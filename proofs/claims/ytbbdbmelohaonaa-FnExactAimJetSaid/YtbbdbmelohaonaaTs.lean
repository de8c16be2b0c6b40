/- A jet that is turned or moved, of the model; the laws' own comparison of jets. -/
import Derived.Test.YtbbdbmelohaonaaSh
import Derived.Test.YtbbdbmelohaonaaHdS
import Derived.Test.YtbbdbmelohaonaaJl
namespace Go.Proofs.Ytbbdbmelohaonaa.Dr4
open Go.RowKit Go.Proofs.Ytbbdbmelohaonaa.Cx Go.Proofs.Ytbbdbmelohaonaa.Cm Go.Proofs.Ytbbdbmelohaonaa.Pl Go.Proofs.Ytbbdbmelohaonaa.Str Go.Proofs.Ytbbdbmelohaonaa.Pw Go.Proofs.Ytbbdbmelohaonaa.P2 Go.Proofs.Ytbbdbmelohaonaa.Hd Go.Proofs.Ytbbdbmelohaonaa.Jt Go.Proofs.Ytbbdbmelohaonaa.Dp
set_option linter.unusedVariables false
set_option linter.unusedSimpArgs false

theorem eqJet (x y h t l : Int) (w : World) : Calls Try.prog 36 #[jv x y h t l, jv x y h t l] w fun e w' => e = .returned (.bool true) ∧ Below w.heap.size w w' := by
  go_enter Try.func36, Try.ntmps36
  go_wp2_with (go_at_call 24; ((with_reducible refine (eqPlace _ _ _).mono ?_); rintro e w' ⟨rfl, rfl⟩))
  all_goals go_returns
  all_goals exact ⟨rfl, by go_grown⟩

theorem toPlaceB (x y : Int) (w : World) : Calls Try.prog 34 #[.agg #[.int .i64 x, .int .i64 y]] w fun e w' => e = .returned (.agg #[.int .i64 x, .int .i64 y]) ∧ Below w.heap.size w w' :=
  (toPlace x y w).mono fun e w' k => ⟨k.1, by rw [k.2]; go_grown⟩

set_option maxHeartbeats 2000000 in
set_option maxRecDepth 100000 in
theorem turnJetS (x y h t l n : Int) (w : World) : Calls Try.prog 37 #[jv x y h t l, .int .i64 n] w fun e w' => e = .returned (turnV x y h t l n) ∧ Below w.heap.size w w' := by
  cases hj : jt x y h t l
  · rw [turnV_no hj]
    have C := Lib.hid (isJetS_of hj)
    clear hj
    go_enter Try.func37, Try.ntmps37
    go_wp2_with fail
    refine (C.out _).mono ?_
    rintro e w' ⟨rfl, rfl⟩
    go_wp2_with fail
    go_returns
    exact ⟨rfl, by go_grown⟩
  · rw [turnV_yes hj]
    have C := Lib.hid (isJetS_of hj)
    obtain ⟨hx, hy, _⟩ := jt_iff.1 hj
    have T := (l2Turn n (x := x) (y := y) (by omega) (by omega))
    have H := Lib.hid (turnHeadingS h n)
    generalize tx (n % 4).toNat x y = X at *
    generalize ty (n % 4).toNat x y = Y at *
    generalize th h n = R at *
    replace T := Lib.hid T
    clear hj hx hy
    go_enter Try.func37, Try.ntmps37
    go_wp2_with fail
    refine (C.out _).mono ?_
    rintro e w' ⟨rfl, rfl⟩
    go_wp2_with fail
    go_region_held3 (fun w' => w'.cell? ⟨w.heap.size, 0, none⟩ = some (.int .i64 x) ∧ w'.cell? ⟨w.heap.size, 1, none⟩ = some (.int .i64 y) ∧ w'.cell? ⟨w.heap.size, 2, none⟩ = some (.int .i64 h) ∧ w'.cell? ⟨w.heap.size, 3, none⟩ = some (.int .i64 t) ∧ w'.cell? ⟨w.heap.size, 4, none⟩ = some (.int .i64 l)) ((repeat (first | (with_reducible exact J5.new _ _ _ _ _ _ _) | (with_reducible refine J5.drew ?_) | (with_reducible refine J5.alloc ?_))))
      (first
        | (go_at_call 61; ((with_reducible refine (T.out _).mono ?_); rintro e w' ⟨rfl, rfl⟩))
        | (go_at_call 62; ((with_reducible refine (H.out _).mono ?_); rintro e w' ⟨rfl, rfl⟩)))
    all_goals go_wp2_with fail
    all_goals go_returns
    all_goals exact ⟨rfl, by go_grown⟩

theorem l2AddW (x y a b : Int) (w : World) :
    Calls Try.prog 65 #[.agg #[.int .i64 x, .int .i64 y], .agg #[.int .i64 a, .int .i64 b]] w fun e w' => e = .returned (.agg #[.int .i64 (wrap64 (x + a)), .int .i64 (wrap64 (y + b))]) ∧ w' = ((w.alloc (.cells #[.int .i64 x, .int .i64 y] 27)).alloc (.cells #[.int .i64 a, .int .i64 b] 27)).alloc (.cells #[.int .i64 (wrap64 (x + a)), .int .i64 (wrap64 (y + b))] 27) := by
  go_enter Try.func65, Try.ntmps65
  go_wp2
  go_returns
  exact ⟨rfl, rfl⟩

set_option maxHeartbeats 2000000 in
set_option maxRecDepth 100000 in
theorem shiftJetS (x y h t l a b : Int) (w : World) : Calls Try.prog 39 #[jv x y h t l, .agg #[.int .i64 a, .int .i64 b]] w fun e w' => e = .returned (shV x y h t l a b) ∧ Below w.heap.size w w' := by
  have A := l2AddW x y a b
  cases hj : jt x y h t l
  · rw [shV_no (by unfold shB; rw [hj]; rfl)]
    have C := Lib.hid (isJetS_of hj)
    generalize wrap64 (x + a) = X at *
    generalize wrap64 (y + b) = Y at *
    replace A := Lib.hid A
    clear hj
    go_enter Try.func39, Try.ntmps39
    go_wp2_with fail
    refine (A.out _).mono ?_
    rintro e w' ⟨rfl, rfl⟩
    go_wp2_with fail
    refine (C.out _).mono ?_
    rintro e w' ⟨rfl, rfl⟩
    go_wp2_with fail
    go_returns
    exact ⟨rfl, by go_grown⟩
  have C := Lib.hid (isJetS_of hj)
  cases hp : (ms a && ms b)
  · rw [shV_no (by unfold shB; rw [hp, Bool.and_false, Bool.false_and])]
    have P := Lib.hid (isPlaceS_of hp)
    generalize wrap64 (x + a) = X at *
    generalize wrap64 (y + b) = Y at *
    replace A := Lib.hid A
    clear hj hp
    go_enter Try.func39, Try.ntmps39
    go_wp2_with fail
    refine (A.out _).mono ?_
    rintro e w' ⟨rfl, rfl⟩
    go_wp2_with fail
    refine (C.out _).mono ?_
    rintro e w' ⟨rfl, rfl⟩
    go_wp2_with fail
    refine (P.out _).mono ?_
    rintro e w' ⟨rfl, rfl⟩
    go_wp2_with fail
    go_returns
    exact ⟨rfl, by go_grown⟩
  have P := Lib.hid (isPlaceS_of hp)
  obtain ⟨h1, h2⟩ := pl_yes (pl_of hj)
  obtain ⟨h3, h4⟩ := pl_yes hp
  rw [IntWalk.wrap64_in (x + a) (by omega), IntWalk.wrap64_in (y + b) (by omega)] at A
  have hq : shB x y h t l a b = jt (x + a) (y + b) h t l := by unfold shB; rw [hj, hp]; rfl
  have C2 := isJetS (x + a) (y + b) h t l
  cases hk : jt (x + a) (y + b) h t l
  · rw [shV_no (hq.trans hk)]
    rw [hk] at C2
    replace C2 := Lib.hid C2
    replace A := Lib.hid A
    clear hj hp h1 h2 h3 h4 hq hk
    generalize x + a = X at *
    generalize y + b = Y at *
    go_enter Try.func39, Try.ntmps39
    go_wp2_with fail
    refine (A.out _).mono ?_
    rintro e w' ⟨rfl, rfl⟩
    go_wp2_with fail
    refine (C.out _).mono ?_
    rintro e w' ⟨rfl, rfl⟩
    go_wp2_with fail
    refine (P.out _).mono ?_
    rintro e w' ⟨rfl, rfl⟩
    go_wp2_with fail
    refine (C2.out _).mono ?_
    rintro e w' ⟨rfl, rfl⟩
    go_wp2_with fail
    go_returns
    exact ⟨rfl, by go_grown⟩
  · rw [shV_yes (hq.trans hk)]
    rw [hk] at C2
    replace C2 := Lib.hid C2
    replace A := Lib.hid A
    clear hj hp h1 h2 h3 h4 hq hk
    generalize x + a = X at *
    generalize y + b = Y at *
    go_enter Try.func39, Try.ntmps39
    go_wp2_with fail
    refine (A.out _).mono ?_
    rintro e w' ⟨rfl, rfl⟩
    go_wp2_with fail
    refine (C.out _).mono ?_
    rintro e w' ⟨rfl, rfl⟩
    go_wp2_with fail
    refine (P.out _).mono ?_
    rintro e w' ⟨rfl, rfl⟩
    go_wp2_with fail
    refine (C2.out _).mono ?_
    rintro e w' ⟨rfl, rfl⟩
    go_wp2_with fail
    go_returns
    exact ⟨rfl, by go_grown⟩

end Go.Proofs.Ytbbdbmelohaonaa.Dr4
