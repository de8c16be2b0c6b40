/- Numbers in decimal: the model's recursion and the library's Itoa write the same text. -/
import Derived.Test.YtjpmhponcbbdcaaDoorMem
import Derived.Test.YtjpmhponcbbdcaaDoorShelf
import Derived.Laws.BytesArg
import Derived.Laws.Concat
import Derived.WalkSmall
import Derived.Lib.LaidTab
namespace Go.Proofs.YtjpmhponcbbdcaaDoor.Fmt
open Go.RowKit Go.Proofs.YtjpmhponcbbdcaaDoor.Mem

/-- The text of a list of bytes. -/
def txt (l : List UInt8) : ByteArray := ⟨l.toArray⟩
theorem txt_append (a b : List UInt8) : txt a ++ txt b = txt (a ++ b) := by
  unfold txt
  apply ByteArray.ext
  simp
def itoaT (n : Int) : ByteArray := txt (Lib.itoa n)

def Wrote (s : ByteArray) (w : World) (e : Ending) (w' : World) : Prop := e = .returned (.string s) ∧ Below w.heap.size w w'

theorem digits_step (u : Nat) (h : ¬ u < 10) : Lib.decDigits u = Lib.decDigits (u / 10) ++ [UInt8.ofNat (48 + u % 10)] := by rw [Lib.decDigits, dif_neg h]
theorem digits_one (u : Nat) (h : u < 10) : Lib.decDigits u = [UInt8.ofNat (48 + u)] := by rw [Lib.decDigits, dif_pos h]
theorem digits_len : ∀ (k u : Nat), u < 10 ^ (k + 1) → (Lib.decDigits u).length ≤ k + 1
  | 0, u, h => by rw [digits_one u (by simpa using h)]; exact Nat.le_refl _
  | k + 1, u, h => by
    by_cases h1 : u < 10
    · rw [digits_one u h1]; simp
    · rw [digits_step u h1, List.length_append]
      have := digits_len k (u / 10) (by
        rw [Nat.div_lt_iff_lt_mul (by decide)]
        rw [Nat.pow_succ] at h
        exact h)
      simp only [List.length_cons, List.length_nil]
      omega

def least : Int := -9223372036854775808
theorem not_least (n : Nat) (w : World) : (binOp .eql 3 (.int .i64 (n : Int)) (.int .i64 (-9223372036854775808))).run Tryd.prog w = .ok (.bool false) w := by
  have e : ((n : Int) == -9223372036854775808) = false := by
    rw [beq_eq_false_iff_ne]; omega
  simp only [binOp, Op.intCmp]
  go_simp

/-- One digit, as the model makes it. -/
theorem digit_conv (w : World) (d : Nat) (hd : d < 10) :
    (convert 22 9 (.slice (some ⟨w.heap.size, 0, none⟩) 1 1)).run Tryd.prog (w.alloc (.cells #[.int .u8 (48 + (d : Int))] 5)) = .ok (.string (txt [UInt8.ofNat (48 + d)])) (w.alloc (.cells #[.int .u8 (48 + (d : Int))] 5)) := by
  have h := run_convert_bytes_arg (P := Tryd.prog) (w.alloc (.cells #[.int .u8 (48 + (d : Int))] 5)) 22 5 Tryd.underlying22 Tryd.underlying5 w.heap.size 0 1 1 [48 + (d : Int)] rfl (by
    intro i hi
    obtain rfl : i = 0 := by omega
    rw [cell_of_row _ w.heap.size 0 _ _ _ (heap_alloc_new w _)]
    rfl) 9 Tryd.underlying9
  rw [h]
  congr 2

theorem wrote_mono {s : ByteArray} {w w1 : World} (h : Below w.heap.size w w1) {e : Ending} {w2 : World} (k : Wrote s w1 e w2) : e = .returned (.string s) ∧ Below w.heap.size w w2 := ⟨k.1, h.trans (k.2.mono h.size)⟩

set_option maxRecDepth 100000 in
set_option maxHeartbeats 400000 in
theorem one (n : Nat) (w : World) (h1 : n < 10) : Calls Tryd.prog 15 #[.int .i64 n] w (Wrote (txt (Lib.decDigits n)) w) := by
  have hc := digit_conv w n h1
  rw [digits_one n h1]
  obtain ⟨d, hd⟩ : ∃ d, txt [UInt8.ofNat (48 + n)] = d := ⟨_, rfl⟩
  rw [hd] at hc ⊢
  clear hd
  have hm : (n : Int) % 10 = n := by omega
  have B := Lib.hid (show Below w.heap.size w (w.alloc (.cells #[.int .u8 (48 + (n : Int))] 5)) from (Below.refl _ _).alloc (Nat.le_refl _) _)
  have NL := not_least n
  go_enter Tryd.func15, Tryd.ntmps15
  go_wp2_with fail
  go_ret
  exact ⟨rfl, B.out⟩

set_option maxRecDepth 100000 in
set_option maxHeartbeats 400000 in
theorem pos : ∀ (k : Nat) (n : Nat) (w : World), n ≤ 9223372036854775807 → k ≤ 30 → n < 10 ^ (k + 1) → Calls Tryd.prog 15 #[.int .i64 n] w (Wrote (txt (Lib.decDigits n)) w) := by
  intro k
  induction k with
  | zero => exact fun n w _ _ hk => one n w (by simpa using hk)
  | succ k ih =>
    intro n w hmax hk30 hk
    by_cases h1 : n < 10
    · exact one n w h1
    · have hc := digit_conv w (n % 10) (Nat.mod_lt _ (by decide))
      rw [digits_step n h1, ← txt_append]
      have B := (show Below w.heap.size w (w.alloc (.cells #[.int .u8 (48 + ((n % 10 : Nat) : Int))] 5)) from (Below.refl _ _).alloc (Nat.le_refl _) _)
      have hlen := digits_len k (n / 10) (by
        rw [Nat.div_lt_iff_lt_mul (by decide)]
        rw [Nat.pow_succ] at hk
        exact hk)
      have IH := Lib.hid (ih (n / 10) (w.alloc (.cells #[.int .u8 (48 + ((n % 10 : Nat) : Int))] 5)) (by omega) (by omega) (by
        rw [Nat.div_lt_iff_lt_mul (by decide)]
        rw [Nat.pow_succ] at hk
        exact hk))
      have BB := Lib.hid B
      obtain ⟨t, ht⟩ : ∃ t, txt (Lib.decDigits (n / 10)) = t := ⟨_, rfl⟩
      have hts : t.size ≤ 31 := by
        rw [← ht, Lib.size_eq]
        show (Lib.decDigits (n / 10)).length ≤ 31
        omega
      rw [ht] at IH ⊢
      obtain ⟨d, hd⟩ : ∃ d, txt [UInt8.ofNat (48 + n % 10)] = d := ⟨_, rfl⟩
      have hds : d.size ≤ 1 := by rw [← hd]; exact Nat.le_refl _
      rw [hd] at hc ⊢
      have e10 : ((n % 10 : Nat) : Int) = (n : Int) % 10 := by omega
      rw [e10] at hc IH BB
      clear e10
      have NL := not_least n
      have hg : 9 < n := by omega
      clear ht hd hlen hk hk30 B ih h1
      go_enter Tryd.func15, Tryd.ntmps15
      go_wp2_with fail
      rw [show (n : Int) / 10 = ((n / 10 : Nat) : Int) by omega]
      refine IH.out.mono ?_
      rintro e w2 ⟨rfl, b2⟩
      have B2 := Lib.hid (BB.out.trans (b2.mono BB.out.size))
      clear b2
      go_wp2_with fail
      go_ret
      exact ⟨rfl, B2.out⟩

set_option maxRecDepth 100000 in
set_option maxHeartbeats 400000 in
theorem neg (n : Nat) (w : World) (h1 : 1 ≤ n) (h2 : n ≤ 9223372036854775807) : Calls Tryd.prog 15 #[.int .i64 (-(n : Int))] w (Wrote (itoaT (-(n : Int))) w) := by
  have e1 : itoaT (-(n : Int)) = txt [45] ++ txt (Lib.decDigits n) := by
    unfold itoaT Lib.itoa
    rw [if_pos (by omega), txt_append, Int.natAbs_neg, Int.natAbs_natCast]
    rfl
  have hk : n < 10 ^ (18 + 1) := Nat.lt_of_le_of_lt h2 (by decide)
  have hlen := digits_len 18 n hk
  have IH := Lib.hid (pos 18 n w h2 (by decide) hk)
  rw [e1]
  obtain ⟨t, ht⟩ : ∃ t, txt (Lib.decDigits n) = t := ⟨_, rfl⟩
  have hts : t.size ≤ 31 := by
    rw [← ht, Lib.size_eq]
    show (Lib.decDigits n).length ≤ 31
    omega
  rw [ht] at IH ⊢
  have NL : ∀ w, (binOp .eql 3 (.int .i64 (-(n : Int))) (.int .i64 (-9223372036854775808))).run Tryd.prog w = .ok (.bool false) w := fun w => by
    have e : (-(n : Int) == -9223372036854775808) = false := by rw [beq_eq_false_iff_ne]; omega
    rw [binOp_eql, e]
    rfl
  have hneg : -(n : Int) < 0 := by omega
  clear ht e1 hk hlen
  go_enter Tryd.func15, Tryd.ntmps15
  go_wp2_with fail
  refine IH.out.mono ?_
  rintro e w2 ⟨rfl, b2⟩
  have B2 := Lib.hid b2
  clear b2
  go_wp2_with fail
  go_ret
  exact ⟨rfl, B2.out⟩

theorem itoa_least : itoaT (-9223372036854775808) = ⟨#[45, 57, 50, 50, 51, 51, 55, 50, 48, 51, 54, 56, 53, 52, 55, 55, 53, 56, 48, 56]⟩ := by
  unfold itoaT Lib.itoa
  rw [if_pos (by decide)]
  have e : Lib.decDigits (-9223372036854775808 : Int).natAbs = [57, 50, 50, 51, 51, 55, 50, 48, 51, 54, 56, 53, 52, 55, 55, 53, 56, 48, 56] := by
    show Lib.decDigits 9223372036854775808 = _
    iterate 18 rw [digits_step _ (by decide)]
    rw [digits_one _ (by decide)]
    decide
  rw [e]
  rfl

set_option maxRecDepth 100000 in
theorem least_ (w : World) : Calls Tryd.prog 15 #[.int .i64 (-9223372036854775808)] w (Wrote (itoaT (-9223372036854775808)) w) := by
  rw [itoa_least]
  have NL : ∀ w, (binOp .eql 3 (.int .i64 (-9223372036854775808)) (.int .i64 (-9223372036854775808))).run Tryd.prog w = .ok (.bool true) w := fun w => by
    rw [binOp_eql]
    rfl
  go_enter Tryd.func15, Tryd.ntmps15
  go_wp2_with fail
  go_ret
  exact ⟨rfl, Below.refl _ _⟩

/-- The model's number, at every integer. -/
theorem spec (n : Int) (w : World) (h1 : -9223372036854775808 ≤ n) (h2 : n ≤ 9223372036854775807) : Calls Tryd.prog 15 #[.int .i64 n] w (Wrote (itoaT n) w) := by
  by_cases c0 : 0 ≤ n
  · obtain ⟨k, rfl⟩ : ∃ k : Nat, n = k := ⟨n.toNat, by omega⟩
    have := pos 18 k w (by omega) (by decide) (Nat.lt_of_le_of_lt (by omega : k ≤ 9223372036854775807) (by decide))
    have e : itoaT (k : Int) = txt (Lib.decDigits k) := by
      unfold itoaT Lib.itoa
      rw [if_neg (by omega), Int.toNat_natCast]
    rw [e]
    exact this
  · by_cases c1 : n = -9223372036854775808
    · rw [c1]; exact least_ w
    · obtain ⟨k, hk⟩ : ∃ k : Nat, n = -(k : Int) := ⟨n.natAbs, by omega⟩
      rw [hk]
      exact neg k w (by omega) (by omega)

theorem below_grow (w : World) (k : Nat) (os : Array Obj) : Below w.heap.size w (Sort.grow (w.drewN k) os) :=
  ⟨rfl, rfl, rfl, by simp [Sort.grow], fun j hj => by simp only [Sort.grow, World.heap_drewN]; rw [Array.getElem?_append_left hj]⟩

/-- The world keeps the library's table. -/
def Tab (w : World) : Prop := Lib.TabIs Tryd.prog w "internal/strconv.uint64pow10" .u64 Lib.pow10Tab

theorem impl (n : Int) (w : World) (h1 : -9223372036854775808 ≤ n) (h2 : n ≤ 9223372036854775807) (ht : Tab w) : Calls Tryd.prog 10 #[.int .i64 n] w (Wrote (itoaT n) w) := by
  have C := Lib.hid (Tryd.strconv_Itoa n h1 h2 w ht)
  clear ht h1 h2
  go_enter Tryd.func10, Tryd.ntmps10
  go_wp2_with fail
  refine C.out.mono ?_
  rintro e w1 ⟨rfl, k, os, rfl⟩
  go_wp2_with fail
  go_ret
  exact ⟨rfl, below_grow w k os⟩

theorem Tab.below {w w' : World} (h : Tab w) (hb : Below w.heap.size w w') : Tab w' := by
  have hg : Tryd.prog.globalNamed "internal/strconv.uint64pow10" = some 2 := by kernel_rfl
  have hc := Lib.TabIs.cell h hg 0 (by decide)
  exact var?_below hb hg (World.block_lt_of_cell? w _ hc) h

end Go.Proofs.YtjpmhponcbbdcaaDoor.Fmt
