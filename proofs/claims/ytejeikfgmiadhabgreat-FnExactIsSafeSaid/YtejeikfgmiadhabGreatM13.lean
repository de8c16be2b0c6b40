/- Lists of cues that a call makes. -/
import Derived.Test.YtejeikfgmiadhabGreatM12
import Derived.Laws.AppendOwn
import Derived.Laws.OwnMore
import Derived.OwnWalk
import Derived.Test.YtejeikfgmiadhabGreatM3
import Derived.Lib.Hide
import Derived.Laws.Externs
set_option linter.unusedVariables false
set_option linter.unusedSimpArgs false
namespace Go.Proofs.YtejeikfgmiadhabGreat.Oc
open Go.RowKit Go.ChangeShapes Go.WideShapes Go.WideElems Go.Deep Go.Proofs.YtejeikfgmiadhabGreat.Mem Go.Proofs.YtejeikfgmiadhabGreat.Rw Go.Proofs.YtejeikfgmiadhabGreat.P2 Go.Proofs.YtejeikfgmiadhabGreat.Cd Go.Proofs.YtejeikfgmiadhabGreat.Cv Go.Proofs.YtejeikfgmiadhabGreat.Cl Go.Proofs.YtejeikfgmiadhabGreat.Cs
set_option linter.unusedVariables false
set_option linter.unusedSimpArgs false
open Go.Proofs.YtejeikfgmiadhabGreat.Sd Go.Proofs.YtejeikfgmiadhabGreat.Tn
open Go.Proofs.YtejeikfgmiadhabGreat.Rw (owns_below owns_grown)

/-- A list of the call's own that holds these cues. -/
def RowC (w : World) (ds : List C) (e : Ending) (w' : World) : Prop :=
  ∃ g c, e = .returned (.slice (some ⟨g, 0, none⟩) ds.length c) ∧ w'.ownsRow w.heap.size 127 4 (.slice (some ⟨g, 0, none⟩) ds.length c) ds.length (dls ds) ∧ Below w.heap.size w w'
/-- .. and whether it has all of them. -/
def RowB (w : World) (ds : List C) (r : Bool) (e : Ending) (w' : World) : Prop :=
  ∃ g c, e = .returned (.tuple #[.slice (some ⟨g, 0, none⟩) ds.length c, .bool r]) ∧ w'.ownsRow w.heap.size 127 4 (.slice (some ⟨g, 0, none⟩) ds.length c) ds.length (dls ds) ∧ Below w.heap.size w w'
theorem own_mk {w : World} {base n : Nat} {v : Value} {xs : List Value} (h : w.ownsRow base 127 4 v (n + 1) xs) : ∃ g c, v = .slice (some ⟨g, 0, none⟩) (n + 1) c := by
  rcases h.2 with ⟨_, e⟩ | ⟨g, cap, cur, e, _⟩
  · omega
  · exact ⟨g, cap, e⟩
theorem own_drew {w : World} {base n : Nat} {v : Value} {xs : List Value} (h : w.ownsRow base 127 4 v n xs) : w.drew.ownsRow base 127 4 v n xs := ⟨h.1, h.2⟩
theorem own_drewN {w : World} {base n : Nat} {v : Value} {xs : List Value} (m : Nat) (h : w.ownsRow base 127 4 v n xs) : (w.drewN m).ownsRow base 127 4 v n xs := ⟨h.1, h.2⟩
theorem own_base {w : World} {base n : Nat} {v : Value} {xs : List Value} (h : w.ownsRow base 127 4 v n xs) : ∀ k, v.ownBlock = some k → base ≤ k := fun k e => (h.lt k e).1

/-- The cues of these names. -/
noncomputable def pick (zs : List C) (ss : List ByteArray) : List C := zs.filter fun d => hasN ss d.nm
noncomputable def only (zs : List C) (ss : List ByteArray) : List C := if score zs = true then pick zs ss else []
theorem only_no {zs : List C} (h : score zs = false) (ss : List ByteArray) : only zs ss = [] := by unfold only; rw [h]; rfl
theorem only_yes {zs : List C} (h : score zs = true) (ss : List ByteArray) : only zs ss = pick zs ss := by unfold only; rw [if_pos h]
theorem pick_len (zs : List C) (ss : List ByteArray) : (pick zs ss).length ≤ zs.length := List.length_filter_le _ _
theorem only_len (zs : List C) (ss : List ByteArray) : (only zs ss).length ≤ zs.length := by
  unfold only; split
  · exact pick_len _ _
  · exact Nat.zero_le _
theorem pick_yes {zs : List C} {ss : List ByteArray} {k : Nat} {d : C} (h : zs[k]? = some d) (hn : hasN ss d.nm = true) : pick (zs.take (k + 1)) ss = pick (zs.take k) ss ++ [d] := by
  obtain ⟨hk, rfl⟩ := List.getElem?_eq_some_iff.1 h
  unfold pick
  rw [List.take_succ_eq_append_getElem hk, List.filter_append]
  simp [hn]
theorem pick_no {zs : List C} {ss : List ByteArray} {k : Nat} {d : C} (h : zs[k]? = some d) (hn : hasN ss d.nm = false) : pick (zs.take (k + 1)) ss = pick (zs.take k) ss := by
  obtain ⟨hk, rfl⟩ := List.getElem?_eq_some_iff.1 h
  unfold pick
  rw [List.take_succ_eq_append_getElem hk, List.filter_append]
  simp [hn]
end Go.Proofs.YtejeikfgmiadhabGreat.Oc
namespace Go.Proofs.YtejeikfgmiadhabGreat.Times
open Go.RowKit Go.Proofs.YtejeikfgmiadhabGreat.Flt Go.Proofs.YtejeikfgmiadhabGreat.Meas

def good (x n : Int) : Bool := decide (-4096 ≤ x ∧ x ≤ 4096 ∧ (x = 0 ∨ -4096 ≤ n ∧ n ≤ 4096 ∧ -4096 ≤ x * n ∧ x * n ≤ 4096))
def val (x n : Int) : Int := if good x n = true then x * n else 0

/-- What a way of the walk ends in. -/
theorem fin {x n v : Int} {b : Bool} (h : good x n = b ∧ val x n = v) : Ending.returned (.tuple #[.int .i64 v, .bool b]) = .returned (.tuple #[.int .i64 (val x n), .bool (good x n)]) := by rw [h.1, h.2]

theorem isMeasure_impl (x : Int) (w : World) (h1 : -4096 ≤ x) (h2 : x ≤ 4096) : Calls Tryz.prog 175 #[.int .i64 x] w fun e w' => e = .returned (.bool true) ∧ w = w' := by
  go_enter Tryz.func175, Tryz.ntmps175
  go_wp2
  go_ret
  exact ⟨rfl, rfl⟩
theorem isMeasure_impl_no (x : Int) (w : World) (h : x < -4096 ∨ 4096 < x) : Calls Tryz.prog 175 #[.int .i64 x] w fun e w' => e = .returned (.bool false) ∧ w = w' := by
  rcases h with h | h
  · go_enter Tryz.func175, Tryz.ntmps175
    go_wp2
    go_ret
    exact ⟨rfl, rfl⟩
  · have hd : decide (x ≤ 4096) = false := decide_eq_false (by omega)
    go_enter Tryz.func175, Tryz.ntmps175
    go_wp2
    go_ret
    exact ⟨rfl, rfl⟩
theorem isMeasure_spec (x : Int) (w : World) (h1 : -4096 ≤ x) (h2 : x ≤ 4096) : Calls Tryz.prog 125 #[.int .i64 x] w fun e w' => e = .returned (.bool true) ∧ w = w' := by
  go_enter Tryz.func125, Tryz.ntmps125
  go_wp2
  go_ret
  exact ⟨rfl, rfl⟩
theorem isMeasure_spec_no (x : Int) (w : World) (h : x < -4096 ∨ 4096 < x) : Calls Tryz.prog 125 #[.int .i64 x] w fun e w' => e = .returned (.bool false) ∧ w = w' := by
  rcases h with h | h
  · go_enter Tryz.func125, Tryz.ntmps125
    go_wp2
    go_ret
    exact ⟨rfl, rfl⟩
  · have hd : decide (x ≤ 4096) = false := decide_eq_false (by omega)
    go_enter Tryz.func125, Tryz.ntmps125
    go_wp2
    go_ret
    exact ⟨rfl, rfl⟩

theorem mulN (x n : Int) (hx : x.natAbs < 16777216) (hn : n.natAbs < 16777216) (h : x * n ≠ 0 ∨ (0 ≤ x ∧ 0 ≤ n)) (w : World) :
    (binOp .mul 146 (.float .f32 (f32 x)) (.float .f32 (floatOfInt .f32 n))).run Tryz.prog w = .ok (.float .f32 (f32 (x * n))) w :=
  run_float_arith w .mul _ .f32 _ _ _ (mul_fl Ieee.single x n (-3) 0 (fits32 x hx) (fits0 n hn) h)

theorem eM : f32 16777216 = 1241513984 := by decide
end Go.Proofs.YtejeikfgmiadhabGreat.Times
namespace Go.Proofs.YtejeikfgmiadhabGreat.Ramp
open Go.RowKit Go.Proofs.YtejeikfgmiadhabGreat.Flt Go.Proofs.YtejeikfgmiadhabGreat.Meas Go.Proofs.YtejeikfgmiadhabGreat.Times

theorem widen (K p : Int) (hK : K.natAbs < 16777216) (hp : -149 ≤ p) (hq : p ≤ 100) : floatToFloatBits .f32 (fl Ieee.single K p) .f64 = some (fl Ieee.double K p) := by
  have h1 := fits_single K p hK hp hq
  have h2 := fits_double K p (by omega) (by omega) (by omega)
  have e : FloatKind.f64.encode (FloatKind.f32.decode (fl Ieee.single K p)) = fl Ieee.double K p := rewrite_fl Ieee.single Ieee.double K p h1
  obtain ⟨s, m, x, hr⟩ := read_number Ieee.single K p h1
  obtain ⟨s2, m2, x2, hr2⟩ := read_number Ieee.double K p h2
  have hr' : FloatKind.f32.decode (fl Ieee.single K p) = .number s m x := hr
  have hr2' : FloatKind.f64.decode (fl Ieee.double K p) = .number s2 m2 x2 := hr2
  unfold floatToFloatBits
  rw [if_neg (by decide), hr']
  rw [hr'] at e
  simp only [e, hr2', Ieee.Datum.isInfinity]
  rfl

/-- What the model's entry gives at a number. -/
theorem integral_run (name : String) (way : Ieee.Toward) (x : Nat) (s : Bool) (m : Nat) (p : Int) (h : FloatKind.f64.decode x = .number s m p) (w : World) :
    (Extern.MathFloor.toIntegral name way #[.float .f64 x]).run Tryz.prog w = .ok (.float .f64 (FloatKind.f64.encode ((Ieee.Datum.number s m p).integral way))) w := by
  conv in (Extern.MathFloor.toIntegral _ _ _) => whnf
  rw [h]
  rfl

theorem archFloor (K : Int) (T : Nat) (hK : K.natAbs < 16777216) (hT : T ≤ 100) (w : World) :
    (callFunc 204 #[.float .f64 (fl Ieee.double K (-(T : Int)))]).run Tryz.prog w = .ok (.value (.float .f64 (fl Ieee.double (K / 2 ^ T) 0))) w := by
  have h2 := fits_double K (-(T : Int)) (by omega) (by omega) (by omega)
  rw [run_callFunc_extern (e := Extern.MathFloor.toIntegral "math.archFloor" .down) Tryz.func204 (by kernel_rfl) (by kernel_rfl) (by kernel_rfl) (by kernel_rfl)]
  obtain ⟨s2, m2, x2, hr2⟩ := read_number Ieee.double K _ h2
  have hr2' : FloatKind.f64.decode (fl Ieee.double K (-(T : Int))) = .number s2 m2 x2 := hr2
  have e : FloatKind.f64.encode ((FloatKind.f64.decode (fl Ieee.double K (-(T : Int)))).integral .down) = fl Ieee.double (K / 2 ^ T) 0 := floor_fl Ieee.double K T h2
  rw [hr2'] at e
  rw [integral_run _ _ _ _ _ _ hr2']
  rw [e]
  rfl

theorem narrow (n : Int) (h : n.natAbs < 16777216) (w : World) : (convert 230 3 (.float .f64 (fl Ieee.double n 0))).run Tryz.prog w = .ok (.int .i64 n) w :=
  run_convert_float_int w _ _ .f64 .i64 _ n (by kernel_rfl) (by kernel_rfl) (by
    unfold floatToIntVal
    rw [show (FloatKind.f64.decode (fl Ieee.double n 0)).toInt .zero = some n from toInt_fl Ieee.double n (fits_double n 0 (by omega) (by decide) (by decide))]
    simp only
    rw [if_pos]
    have h1 : IntKind.i64.min = -9223372036854775808 := rfl
    have h2 : IntKind.i64.max = 9223372036854775807 := rfl
    rw [h1, h2]; omega)

theorem prod_abs (r i n : Int) (hr1 : -8192 ≤ r) (hr2 : r ≤ 8192) (hi : 1 ≤ i) (hin : i < n) (hn : n ≤ 999) : (r * i).natAbs < 8388608 ∧ (r * i).natAbs < 8192 * n.toNat := by
  have h : (r * i).natAbs ≤ 8192 * i.natAbs := by rw [Int.natAbs_mul]; exact Nat.mul_le_mul_right _ (by omega)
  omega

/-- The floor keeps within the quotient's bounds. -/
theorem quo_abs (A : Int) (n : Nat) (hn : 0 < n) (h : A.natAbs < 8192 * n) : -8192 ≤ A / n ∧ A / n < 8192 := by
  have h1 : -8192 * (n : Int) ≤ A := by omega
  have h2 : A < 8192 * (n : Int) := by omega
  have hn' : (0 : Int) < n := by omega
  exact ⟨(Int.le_ediv_iff_mul_le hn').2 h1, (Int.ediv_lt_iff_lt_mul hn').2 h2⟩

theorem rampRise (r i n : Int) (hr1 : -8192 ≤ r) (hr2 : r ≤ 8192) (hi : 1 ≤ i) (hin : i < n) (hn : n ≤ 999) (w : World) :
    Calls Tryz.prog 202 #[.float .f32 (f32 r), .float .f32 (floatOfInt .f32 i), .float .f32 (floatOfInt .f32 n)] w fun e w' => e = .returned (.int .i64 (r * i / n)) ∧ w = w' := by
  obtain ⟨N, rfl⟩ : ∃ N : Nat, n = N := ⟨n.toNat, by omega⟩
  obtain ⟨b1, b2⟩ := prod_abs r i N hr1 hr2 hi hin hn
  rw [Int.toNat_natCast] at b2
  have m1 := mulN r i (by omega) (by omega) (by
    by_cases c : r = 0
    · right; omega
    · left; exact Int.mul_ne_zero c (by omega))
  obtain ⟨q1, q2⟩ := quo_abs (r * i) N (by omega) b2
  generalize r * i = A at *
  obtain ⟨K, T, hdiv, hK, hT, hfl⟩ := div_fl A N (by omega) (by omega) b1 b2
  have d1 : ∀ w, (binOp .quo 146 (.float .f32 (f32 A)) (.float .f32 (floatOfInt .f32 (N : Int)))).run Tryz.prog w = .ok (.float .f32 (fl Ieee.single K (-3 - (T : Int)))) w := fun w => run_float_arith w .quo _ .f32 _ _ _ hdiv
  have m2 : ∀ w, (binOp .mul 146 (.float .f32 (fl Ieee.single K (-3 - (T : Int)))) (.float .f32 1090519040)).run Tryz.prog w = .ok (.float .f32 (fl Ieee.single K (-(T : Int)))) w := fun w => run_float_arith w .mul _ .f32 _ _ _ (by
    have := mul8_fl K (-3 - (T : Int)) (fits_single _ _ hK (by omega) (by omega))
    rw [c8, show -3 - (T : Int) + 3 = -(T : Int) by omega] at this
    exact this)
  have cw : ∀ w, (convert 146 230 (.float .f32 (fl Ieee.single K (-(T : Int))))).run Tryz.prog w = .ok (.float .f64 (fl Ieee.double K (-(T : Int)))) w := fun w => run_convert_float_float w _ _ .f32 .f64 _ _ (by kernel_rfl) (by kernel_rfl) (widen K _ hK (by omega) (by omega))
  have fr := archFloor K T hK hT
  rw [hfl] at fr
  have cn := narrow (A / N) (by omega)
  clear hdiv hfl b1 b2 q1 q2 hr1 hr2 hi hin hn hK hT
  go_enter Tryz.func202, Tryz.ntmps202
  go_wp2
  go_ret
  exact ⟨rfl, rfl⟩

end Go.Proofs.YtejeikfgmiadhabGreat.Ramp
namespace Go.Proofs.YtejeikfgmiadhabGreat.RampAt
open Go.RowKit Go.Proofs.YtejeikfgmiadhabGreat.Flt Go.Proofs.YtejeikfgmiadhabGreat.Meas Go.Proofs.YtejeikfgmiadhabGreat.Times Go.Proofs.YtejeikfgmiadhabGreat.Ramp

def isM (x : Int) : Bool := decide (-4096 ≤ x ∧ x ≤ 4096)
def level (a b i n : Int) : Int := if isM a = true ∧ isM b = true then if n ≤ i then b else if i ≤ 0 ∨ 999 < n then a else a + (b - a) * i / n else 0

theorem ret_int {a b : Int} (h : a = b) : Ending.returned (.int .i64 a) = .returned (.int .i64 b) := by rw [h]

theorem level_no {a b : Int} (i n : Int) (h : (a < -4096 ∨ 4096 < a) ∨ (b < -4096 ∨ 4096 < b)) : 0 = level a b i n := by
  unfold level isM
  rw [if_neg]
  simp only [decide_eq_true_eq]
  omega
theorem level_yes {a b : Int} (i n : Int) (ha1 : -4096 ≤ a) (ha2 : a ≤ 4096) (hb1 : -4096 ≤ b) (hb2 : b ≤ 4096) : level a b i n = if n ≤ i then b else if i ≤ 0 ∨ 999 < n then a else a + (b - a) * i / n := by
  unfold level isM
  rw [if_pos]
  simp only [decide_eq_true_eq]
  omega

theorem subM (b a : Int) (ha : a.natAbs < 16777216) (hb : b.natAbs < 16777216) (w : World) :
    (binOp .sub 146 (.float .f32 (f32 b)) (.float .f32 (f32 a))).run Tryz.prog w = .ok (.float .f32 (f32 (b - a))) w :=
  run_float_arith w .sub _ .f32 _ _ _ (sub_fl Ieee.single b a (-3) (fits32 b hb) (fits32 a ha))

theorem tdiv_floor (A n : Int) (hn : 0 < n) : (A.tmod n < 0 → A.tdiv n - 1 = A / n) ∧ (¬ A.tmod n < 0 → A.tdiv n = A / n) := by
  have h1 := @Int.tdiv_eq_ediv A n
  have h2 := @Int.tmod_eq_emod A n
  have h3 := Int.emod_nonneg A (Int.ne_of_gt hn)
  have h4 := Int.emod_lt_of_pos A hn
  have hs : n.sign = 1 := Int.sign_eq_one_of_pos hn
  rw [hs] at h1
  by_cases c : 0 ≤ A ∨ n ∣ A
  · rw [if_pos c] at h1 h2
    exact ⟨fun h => by omega, fun _ => by omega⟩
  · rw [if_neg c] at h1 h2
    exact ⟨fun h => by omega, fun h => by omega⟩

theorem floor_spec (A n : Int) (hA1 : -8388608 < A) (hA2 : A < 8388608) (hn : 1 ≤ n) (hn2 : n ≤ 999) (hq1 : -8192 ≤ A / n) (hq2 : A / n < 8192) (w : World) :
    Calls Tryz.prog 181 #[.int .i64 A, .int .i64 n] w fun e w' => e = .returned (.int .i64 (A / n)) ∧ w = w' := by
  obtain ⟨t1, t2⟩ := tdiv_floor A n (by omega)
  by_cases c : A.tmod n < 0
  · have e := t1 c
    have hlo : -8192 ≤ A.tdiv n := by omega
    have hhi : A.tdiv n ≤ 8193 := by omega
    have E := Lib.hid e
    clear t1 t2 e hq1 hq2
    by_cases hpos : 0 ≤ A
    · exact absurd (Int.tmod_nonneg n hpos) (by omega)
    · have hdec : decide (A.tmod n < 0) = true := decide_eq_true c
      go_enter Tryz.func181, Tryz.ntmps181
      go_wp2
      go_ret
      exact ⟨ret_int E.out, rfl⟩
  · have e := t2 c
    by_cases hpos : 0 ≤ A
    · have E := Lib.hid e
      clear t1 t2 e
      have c' : ¬ A % n < 0 := by have := Int.emod_nonneg A (show n ≠ 0 by omega); omega
      clear c
      go_enter Tryz.func181, Tryz.ntmps181
      go_wp2
      go_ret
      exact ⟨rfl, rfl⟩
    · have E := Lib.hid e
      clear t1 t2 e
      have hdec : decide (A.tmod n < 0) = false := decide_eq_false c
      go_enter Tryz.func181, Tryz.ntmps181
      go_wp2
      go_ret
      exact ⟨ret_int E.out, rfl⟩

set_option maxHeartbeats 1000000 in
theorem impl (a b i n : Int) (wi : (Lit.int .i64 i).wf = true) (wn : (Lit.int .i64 n).wf = true) (w : World) :
    Calls Tryz.prog 199 #[.int .i64 a, .int .i64 b, .int .i64 i, .int .i64 n] w fun e w' => e = .returned (.int .i64 (level a b i n)) ∧ w = w' := by
  by_cases ha : a < -4096 ∨ 4096 < a
  · have L := Lib.hid (level_no i n (Or.inl ha) (b := b))
    go_enter Tryz.func199, Tryz.ntmps199
    go_wp2_with (go_at_call 175; refine (isMeasure_impl_no _ _ ha).mono ?_; rintro e w' ⟨rfl, rfl⟩)
    go_ret
    exact ⟨ret_int L.out, rfl⟩
  · have ha1 : -4096 ≤ a := by omega
    have ha2 : a ≤ 4096 := by omega
    clear ha
    by_cases hb : b < -4096 ∨ 4096 < b
    · have L := Lib.hid (level_no i n (Or.inr hb) (a := a))
      go_enter Tryz.func199, Tryz.ntmps199
      go_wp2_with fail
      refine (isMeasure_impl _ _ ha1 ha2).mono ?_
      rintro e w' ⟨rfl, rfl⟩
      go_wp2_with fail
      refine (isMeasure_impl_no _ _ hb).mono ?_
      rintro e w' ⟨rfl, rfl⟩
      go_wp2_with fail
      go_ret
      exact ⟨ret_int L.out, rfl⟩
    · have hb1 : -4096 ≤ b := by omega
      have hb2 : b ≤ 4096 := by omega
      clear hb
      have L := level_yes i n ha1 ha2 hb1 hb2
      by_cases h1 : n ≤ i
      · rw [if_pos h1] at L
        have LL := Lib.hid L
        clear L
        go_enter Tryz.func199, Tryz.ntmps199
        go_wp2_with (go_at_call 175; refine (isMeasure_impl _ _ (by omega) (by omega)).mono ?_; rintro e w' ⟨rfl, rfl⟩)
        go_ret
        exact ⟨ret_int LL.out.symm, rfl⟩
      · rw [if_neg h1] at L
        by_cases h2 : i ≤ 0 ∨ 999 < n
        · rw [if_pos h2] at L
          have LL := Lib.hid L
          clear L
          by_cases h3 : i ≤ 0
          · go_enter Tryz.func199, Tryz.ntmps199
            go_wp2_with (go_at_call 175; refine (isMeasure_impl _ _ (by omega) (by omega)).mono ?_; rintro e w' ⟨rfl, rfl⟩)
            go_ret
            exact ⟨ret_int LL.out.symm, rfl⟩
          · have h4 : 999 < n := by omega
            go_enter Tryz.func199, Tryz.ntmps199
            go_wp2_with (go_at_call 175; refine (isMeasure_impl _ _ (by omega) (by omega)).mono ?_; rintro e w' ⟨rfl, rfl⟩)
            go_ret
            exact ⟨ret_int LL.out.symm, rfl⟩
        · rw [if_neg h2] at L
          have h3 : 1 ≤ i := by omega
          have h4 : n ≤ 999 := by omega
          have h5 : i < n := by omega
          have LL := Lib.hid L
          have s := subM b a (by omega) (by omega)
          obtain ⟨N, hN⟩ : ∃ N : Nat, n = N := ⟨n.toNat, by omega⟩
          obtain ⟨b1, b2⟩ := prod_abs (b - a) i n (by omega) (by omega) h3 h5 h4
          obtain ⟨q1, q2⟩ := quo_abs ((b - a) * i) N (by omega) (by omega)
          rw [← hN] at q1 q2
          clear L h1 h2 hN b1 b2
          have d1 : decide (i ≤ 0) = false := decide_eq_false (by omega)
          have d2 : decide (999 < n) = false := decide_eq_false (by omega)
          go_enter Tryz.func199, Tryz.ntmps199
          go_wp2_with (first
            | (go_at_call 175; refine (isMeasure_impl _ _ (by omega) (by omega)).mono ?_; rintro e w' ⟨rfl, rfl⟩)
            | (go_at_call 143; refine (wholesOf _ (by omega) _).mono ?_; rintro e w' ⟨rfl, rfl⟩)
            | (go_at_call 202; refine (rampRise _ _ _ (by omega) (by omega) h3 h5 h4 _).mono ?_; rintro e w' ⟨rfl, rfl⟩))
          go_ret
          exact ⟨ret_int LL.out.symm, rfl⟩

set_option maxHeartbeats 1000000 in
theorem spec (a b i n : Int) (wi : (Lit.int .i64 i).wf = true) (wn : (Lit.int .i64 n).wf = true) (w : World) :
    Calls Tryz.prog 153 #[.int .i64 a, .int .i64 b, .int .i64 i, .int .i64 n] w fun e w' => e = .returned (.int .i64 (level a b i n)) ∧ w = w' := by
  by_cases ha : a < -4096 ∨ 4096 < a
  · have L := Lib.hid (level_no i n (Or.inl ha) (b := b))
    go_enter Tryz.func153, Tryz.ntmps153
    go_wp2_with (go_at_call 125; refine (isMeasure_spec_no _ _ ha).mono ?_; rintro e w' ⟨rfl, rfl⟩)
    go_ret
    exact ⟨ret_int L.out, rfl⟩
  · have ha1 : -4096 ≤ a := by omega
    have ha2 : a ≤ 4096 := by omega
    clear ha
    by_cases hb : b < -4096 ∨ 4096 < b
    · have L := Lib.hid (level_no i n (Or.inr hb) (a := a))
      go_enter Tryz.func153, Tryz.ntmps153
      go_wp2_with fail
      refine (isMeasure_spec _ _ ha1 ha2).mono ?_
      rintro e w' ⟨rfl, rfl⟩
      go_wp2_with fail
      refine (isMeasure_spec_no _ _ hb).mono ?_
      rintro e w' ⟨rfl, rfl⟩
      go_wp2_with fail
      go_ret
      exact ⟨ret_int L.out, rfl⟩
    · have hb1 : -4096 ≤ b := by omega
      have hb2 : b ≤ 4096 := by omega
      clear hb
      have L := level_yes i n ha1 ha2 hb1 hb2
      by_cases h1 : n ≤ i
      · rw [if_pos h1] at L
        have LL := Lib.hid L
        clear L
        go_enter Tryz.func153, Tryz.ntmps153
        go_wp2_with (go_at_call 125; refine (isMeasure_spec _ _ (by omega) (by omega)).mono ?_; rintro e w' ⟨rfl, rfl⟩)
        go_ret
        exact ⟨ret_int LL.out.symm, rfl⟩
      · rw [if_neg h1] at L
        by_cases h2 : i ≤ 0 ∨ 999 < n
        · rw [if_pos h2] at L
          have LL := Lib.hid L
          clear L
          by_cases h3 : i ≤ 0
          · go_enter Tryz.func153, Tryz.ntmps153
            go_wp2_with (go_at_call 125; refine (isMeasure_spec _ _ (by omega) (by omega)).mono ?_; rintro e w' ⟨rfl, rfl⟩)
            go_ret
            exact ⟨ret_int LL.out.symm, rfl⟩
          · have h4 : 999 < n := by omega
            go_enter Tryz.func153, Tryz.ntmps153
            go_wp2_with (go_at_call 125; refine (isMeasure_spec _ _ (by omega) (by omega)).mono ?_; rintro e w' ⟨rfl, rfl⟩)
            go_ret
            exact ⟨ret_int LL.out.symm, rfl⟩
        · rw [if_neg h2] at L
          have h3 : 1 ≤ i := by omega
          have h4 : n ≤ 999 := by omega
          have h5 : i < n := by omega
          have LL := Lib.hid L
          obtain ⟨N, hN⟩ : ∃ N : Nat, n = N := ⟨n.toNat, by omega⟩
          obtain ⟨b1, b2⟩ := prod_abs (b - a) i n (by omega) (by omega) h3 h5 h4
          obtain ⟨q1, q2⟩ := quo_abs ((b - a) * i) N (by omega) (by omega)
          rw [← hN] at q1 q2
          have b3 : -8388608 < (b - a) * i := by omega
          have b4 : (b - a) * i < 8388608 := by omega
          clear L h1 h2 hN b1 b2
          have d1 : decide (i ≤ 0) = false := decide_eq_false (by omega)
          have d2 : decide (999 < n) = false := decide_eq_false (by omega)
          go_enter Tryz.func153, Tryz.ntmps153
          go_wp2_with (first
            | (go_at_call 125; refine (isMeasure_spec _ _ (by omega) (by omega)).mono ?_; rintro e w' ⟨rfl, rfl⟩)
            | (go_at_call 181; refine (floor_spec _ _ b3 b4 (by omega) h4 q1 q2 _).mono ?_; rintro e w' ⟨rfl, rfl⟩))
          go_ret
          exact ⟨ret_int LL.out.symm, rfl⟩

end Go.Proofs.YtejeikfgmiadhabGreat.RampAt
