/- A ramp begins and ends where it should, stays between, and a rising one never falls: plain facts, and the draw of its arguments. -/
import Derived.Test.YtgjfinbjjehlcaaRampAt
import Derived.Test.YtgjfinbjjehlcaaDraw
namespace Go.Proofs.Ytgjfinbjjehlcaa.RampFn
open Go.RowKit Go.ChangeShapes Go.WideShapes Go.Proofs.Ytgjfinbjjehlcaa.Mem Go.Proofs.Ytgjfinbjjehlcaa.Draw Go.Proofs.Ytgjfinbjjehlcaa.RampAt

theorem quo_between (d i n : Int) (hi : 0 < i) (hin : i < n) : (0 ≤ d → 0 ≤ d * i / n ∧ d * i / n ≤ d) ∧ (d ≤ 0 → d ≤ d * i / n ∧ d * i / n ≤ 0) := by
  have hn : 0 < n := by omega
  constructor
  · intro hd
    refine ⟨Int.ediv_nonneg (Int.mul_nonneg hd (by omega)) (by omega), ?_⟩
    have : d * i ≤ d * n := Int.mul_le_mul_of_nonneg_left (by omega) hd
    calc d * i / n ≤ d * n / n := Int.ediv_le_ediv hn this
      _ = d := Int.mul_ediv_cancel _ (by omega)
  · intro hd
    constructor
    · have : d * n ≤ d * i := Int.mul_le_mul_of_nonpos_left hd (by omega)
      calc d = d * n / n := (Int.mul_ediv_cancel _ (by omega)).symm
        _ ≤ d * i / n := Int.ediv_le_ediv hn this
    · have : d * i ≤ 0 := Int.mul_nonpos_of_nonpos_of_nonneg hd (by omega)
      calc d * i / n ≤ 0 / n := Int.ediv_le_ediv hn this
        _ = 0 := Int.zero_ediv _

def Between (a b x : Int) : Prop := (a ≤ x ∧ x ≤ b) ∨ (b ≤ x ∧ x ≤ a)
theorem level_between {a b : Int} (i n : Int) (ha1 : -4096 ≤ a) (ha2 : a ≤ 4096) (hb1 : -4096 ≤ b) (hb2 : b ≤ 4096) : Between a b (level a b i n) := by
  rw [level_yes i n ha1 ha2 hb1 hb2]
  unfold Between
  split
  · omega
  · split
    · omega
    · have := quo_between (b - a) i n (by omega) (by omega)
      generalize (b - a) * i / n = q at *
      by_cases h : a ≤ b
      · have := this.1 (by omega); omega
      · have := this.2 (by omega); omega
theorem level_start {a b : Int} (n : Int) (ha1 : -4096 ≤ a) (ha2 : a ≤ 4096) (hb1 : -4096 ≤ b) (hb2 : b ≤ 4096) (hn : 0 < n) : level a b 0 n = a := by
  rw [level_yes 0 n ha1 ha2 hb1 hb2, if_neg (by omega), if_pos (by omega)]
theorem level_end {a b : Int} (n : Int) (ha1 : -4096 ≤ a) (ha2 : a ≤ 4096) (hb1 : -4096 ≤ b) (hb2 : b ≤ 4096) : level a b n n = b := by
  rw [level_yes n n ha1 ha2 hb1 hb2, if_pos (by omega)]
theorem level_mono {a b : Int} (i n : Int) (ha1 : -4096 ≤ a) (ha2 : a ≤ 4096) (hb1 : -4096 ≤ b) (hb2 : b ≤ 4096) (hi : 0 ≤ i) (hn : n ≤ 999) :
    (a ≤ b → level a b i n ≤ level a b (i + 1) n) ∧ (b ≤ a → level a b (i + 1) n ≤ level a b i n) := by
  have e1 := level_yes i n ha1 ha2 hb1 hb2
  have e2 := level_yes (i + 1) n ha1 ha2 hb1 hb2
  by_cases h1 : n ≤ i
  · rw [if_pos h1] at e1
    rw [if_pos (by omega)] at e2
    omega
  · rw [if_neg h1] at e1
    by_cases h2 : n ≤ i + 1
    · rw [if_pos h2] at e2
      have := level_between i n ha1 ha2 hb1 hb2
      unfold Between at this
      omega
    · rw [if_neg h2, if_neg (by omega)] at e2
      by_cases h3 : i ≤ 0 ∨ 999 < n
      · rw [if_pos h3] at e1
        have := level_between (i + 1) n ha1 ha2 hb1 hb2
        unfold Between at this
        omega
      · rw [if_neg h3] at e1
        have hnp : 0 < n := by omega
        have ex : (b - a) * (i + 1) = (b - a) * i + (b - a) := by rw [Int.mul_add, Int.mul_one]
        constructor
        · intro hab
          have : (b - a) * i / n ≤ (b - a) * (i + 1) / n := Int.ediv_le_ediv hnp (by omega)
          omega
        · intro hab
          have : (b - a) * (i + 1) / n ≤ (b - a) * i / n := Int.ediv_le_ediv hnp (by omega)
          omega

/-- A slice of bytes that came in. -/
theorem take_bytes {H : Type} {enc : TypeId × Value → H} {P : Program} {W : World} {r : Reach} {b0 : Nat} {t e : TypeId} {v : Value} {d : DataW H} {ps : List MemPlace} (ht : P.underlying t = some (.slice e)) (he : P.underlying e = some (.int .u8)) (hc : P.cellsOf e = 1)
    (hval : Value.okWide P W r b0 t v) (h : DataW.Trod enc P W 0 (fun _ => true) true t v d ps) :
    ∃ (A : Option Addr) (n c : Nat) (bs : List UInt8), v = .slice A n c ∧ bs.length = n ∧ n ≤ maxLen ∧ Rd W W.heap.size A (u8s bs) := by
  obtain ⟨a0, len, cap, rfl⟩ := okWide_slice ht hval
  obtain ⟨fuel, hf⟩ := h
  rcases open_ints ht he hc hf with ⟨hcs, _⟩ | ⟨a, len', cap', zs, hcs, _, hl, hm, hz, _, hcell, hwz⟩
  · simp [Value.cells] at hcs
    obtain ⟨rfl, rfl, rfl⟩ := hcs
    exact ⟨none, 0, 0, [], rfl, rfl, Nat.zero_le _, Rd.nil _ _ _⟩
  · simp [Value.cells] at hcs
    obtain ⟨rfl, rfl, rfl⟩ := hcs
    simp only [if_true] at hz
    refine ⟨some a, len, cap, (zs.take len).map (fun z => z.toNat.toUInt8), rfl, by rw [List.length_map, List.length_take]; omega, by omega, ?_⟩
    by_cases h0 : len = 0
    · subst h0; exact Or.inl rfl
    · obtain ⟨b, o, spot⟩ := a
      have hspot : spot = none := by simpa [Addr.add] using World.cell?_spot (hcell 0 (by omega))
      subst hspot
      have hb := World.block_lt_of_cell? W _ (hcell 0 (by omega))
      refine Or.inr ⟨b, o, rfl, by simpa [Addr.add] using hb, fun j v hv => ?_⟩
      unfold u8s at hv
      rw [List.map_map, List.getElem?_map] at hv
      cases hz2 : (zs.take len)[j]? with
      | none => rw [hz2] at hv; cases hv
      | some z =>
        rw [hz2] at hv
        injection hv with hv
        subst hv
        obtain ⟨hj, hz3⟩ := List.getElem?_eq_some_iff.1 hz2
        have hj2 : j < zs.length := by rw [List.length_take] at hj; omega
        have hzm : z ∈ zs := List.mem_of_mem_take (List.mem_of_getElem? hz2)
        have hw := hwz z hzm
        have hbd : 0 ≤ z ∧ z ≤ 255 := by
          simp only [Lit.wf, decide_eq_true_eq, Bool.and_eq_true] at hw
          have h1 : IntKind.u8.min = 0 := rfl
          have h2 : IntKind.u8.max = 255 := rfl
          omega
        rw [← add_plain, hcell j hj2]
        rw [List.getElem_take] at hz3
        have e1 : zs.getD j 0 = z := by simp [List.getD_eq_getElem?_getD, List.getElem?_eq_getElem hj2, hz3]
        rw [e1]
        have e2 : ((z.toNat.toUInt8).toNat : Int) = z := by
          rw [Nat.toUInt8, UInt8.toNat_ofNat']
          omega
        show some (Value.int .u8 z) = some (Value.int .u8 ((z.toNat.toUInt8).toNat : Int))
        rw [e2]

def wf (x : Int) : Prop := (Lit.int .i64 x).wf = true
/-- What the draw of a ramp's arguments leaves. -/
def Drawn4 (w : World) (e : Ending) (w' : World) : Prop :=
  ∃ a b i n : Int, e = .returned (.tuple #[.int .i64 a, .int .i64 b, .int .i64 i, .int .i64 n]) ∧ wf a ∧ wf b ∧ wf i ∧ wf n ∧ Below w.heap.size w w'

set_option maxHeartbeats 1000000 in
theorem draw (w : World) (A : Option Addr) (n c : Nat) (bs : List UInt8) (hn : bs.length = n) (hb : n ≤ 4096) (hr : Rd w w.heap.size A (u8s bs)) :
    Calls Try.prog 18 #[.slice A n c] w (Drawn4 w) := by
  have N0 := Lib.hid (new w A n c bs hn hb hr)
  clear hn hb hr
  go_enter Try.func18, Try.ntmps18
  go_wp2_with fail
  refine N0.out.mono ?_
  rintro e w1 ⟨g, rfl, hg, r1, b1⟩
  have R1 := Lib.hid r1
  have B1 := Lib.hid b1
  have G := Lib.hid hg
  clear r1 b1 N0 hg
  go_wp2_with fail
  refine (once R1.out 8 (by decide) (by decide)).mono ?_
  rintro e w2 ⟨x, rfl, k1, k2⟩
  have R2 := Lib.hid (R1.out.next k2 k1)
  have B2 := Lib.hid (B1.out.grown k2 B1.out.size (fun k hk => by cases hk; exact G.out))
  clear k1 k2 R1 B1
  cases x
  · go_wp2_with fail
    refine (bent R2.out).mono ?_
    rintro e w3 ⟨x1, X1, rfl, k1, k2⟩
    have X1 := Lib.hid X1
    have R3 := Lib.hid (R2.out.next k2 k1)
    have B3 := Lib.hid (B2.out.grown k2 B2.out.size (fun k hk => by cases hk; exact G.out))
    clear k1 k2 R2 B2
    go_wp2_with fail
    refine (bent R3.out).mono ?_
    rintro e w4 ⟨x2, X2, rfl, k1, k2⟩
    have X2 := Lib.hid X2
    have R4 := Lib.hid (R3.out.next k2 k1)
    have B4 := Lib.hid (B3.out.grown k2 B3.out.size (fun k hk => by cases hk; exact G.out))
    clear k1 k2 R3 B3
    go_wp2_with fail
    refine (below R4.out 20 (by decide) (by decide)).mono ?_
    rintro e w5 ⟨x3, ⟨x31, x32⟩, rfl, k1, k2⟩
    have R5 := Lib.hid (R4.out.next k2 k1)
    have B5 := Lib.hid (B4.out.grown k2 B4.out.size (fun k hk => by cases hk; exact G.out))
    clear k1 k2 R4 B4
    go_wp2_with fail
    refine (below R5.out 18 (by decide) (by decide)).mono ?_
    rintro e w6 ⟨x4, ⟨x41, x42⟩, rfl, k1, k2⟩
    have B6 := Lib.hid (B5.out.grown k2 B5.out.size (fun k hk => by cases hk; exact G.out))
    clear k1 k2 R5 B5
    go_wp2_with fail
    refine bodyPost_ret (v := .tuple #[.int .i64 x1, .int .i64 x2, .int .i64 (x3 - 1), .int .i64 x4]) (by simp [results, Try.results18, go_sem]) rfl ⟨x1, x2, x3 - 1, x4, rfl, X1.out, X2.out, wf_of_small (by omega) (by omega), wf_of_small (by omega) (by omega), B6.out⟩
  · go_wp2_with fail
    refine (bent R2.out).mono ?_
    rintro e w3 ⟨x1, X1, rfl, k1, k2⟩
    have X1 := Lib.hid X1
    have R3 := Lib.hid (R2.out.next k2 k1)
    have B3 := Lib.hid (B2.out.grown k2 B2.out.size (fun k hk => by cases hk; exact G.out))
    clear k1 k2 R2 B2
    go_wp2_with fail
    refine (bent R3.out).mono ?_
    rintro e w4 ⟨x2, X2, rfl, k1, k2⟩
    have X2 := Lib.hid X2
    have R4 := Lib.hid (R3.out.next k2 k1)
    have B4 := Lib.hid (B3.out.grown k2 B3.out.size (fun k hk => by cases hk; exact G.out))
    clear k1 k2 R3 B3
    go_wp2_with fail
    refine (odd R4.out).mono ?_
    rintro e w5 ⟨x3, X3, rfl, k1, k2⟩
    have X3 := Lib.hid X3
    have R5 := Lib.hid (R4.out.next k2 k1)
    have B5 := Lib.hid (B4.out.grown k2 B4.out.size (fun k hk => by cases hk; exact G.out))
    clear k1 k2 R4 B4
    go_wp2_with fail
    refine (odd R5.out).mono ?_
    rintro e w6 ⟨x4, X4, rfl, k1, k2⟩
    have X4 := Lib.hid X4
    have B6 := Lib.hid (B5.out.grown k2 B5.out.size (fun k hk => by cases hk; exact G.out))
    clear k1 k2 R5 B5
    go_wp2_with fail
    refine bodyPost_ret (v := .tuple #[.int .i64 x1, .int .i64 x2, .int .i64 x3, .int .i64 x4]) (by simp [results, Try.results18, go_sem]) rfl ⟨x1, x2, x3, x4, rfl, X1.out, X2.out, X3.out, X4.out, B6.out⟩

end Go.Proofs.Ytgjfinbjjehlcaa.RampFn
