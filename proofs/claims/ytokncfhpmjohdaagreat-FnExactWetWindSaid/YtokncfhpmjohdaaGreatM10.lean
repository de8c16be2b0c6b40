/- The laws' copy of a show. -/
import Derived.Test.YtokncfhpmjohdaaGreatM4
import Derived.Deep.DeepCutAuto
import Derived.Test.YtokncfhpmjohdaaGreatM1
import Derived.Laws.BytesArg
import Derived.Lib.ItoaNum
import Derived.Lib.Strings
import Derived.Laws.Concat
import Derived.WalkSmall
import Derived.Lib.LaidTab
set_option linter.unusedVariables false
set_option linter.unusedSimpArgs false
namespace Go.Proofs.YtokncfhpmjohdaaGreat.St9
open Go.RowKit Go.ChangeShapes Go.WideShapes Go.WideElems Go.Deep Go.Proofs.YtokncfhpmjohdaaGreat.Mem Go.Proofs.YtokncfhpmjohdaaGreat.Rw Go.Proofs.YtokncfhpmjohdaaGreat.P2 Go.Proofs.YtokncfhpmjohdaaGreat.Bk Go.Proofs.YtokncfhpmjohdaaGreat.Sp Go.Proofs.YtokncfhpmjohdaaGreat.Sq
set_option linter.unusedVariables false
set_option linter.unusedSimpArgs false

/-- What the copy leaves: three rows of its own. -/
def Copied (w : World) (n0 n1 n2 : Nat) (T : Int) (ds : List D) (cs : List C) (gs : List G) (e : Ending) (w' : World) : Prop :=
  ∃ g0 g1 g2, e = .returned (sv (some ⟨g0, 0, none⟩) n0 n0 (some ⟨g1, 0, none⟩) n1 n1 (some ⟨g2, 0, none⟩) n2 n2 T) ∧
    w'.ownsRow w.heap.size 98 8 (.slice (some ⟨g0, 0, none⟩) n0 n0) n0 (Dd.dls ds) ∧ w'.ownsRow w.heap.size 126 4 (.slice (some ⟨g1, 0, none⟩) n1 n1) n1 (Cd.dls cs) ∧
    w'.ownsRow w.heap.size 89 3 (.slice (some ⟨g2, 0, none⟩) n2 n2) n2 (Gs.gls gs) ∧ g0 < g1 ∧ g1 < g2 ∧ Below w.heap.size w w'
abbrev zc : Array Value := #[.slice none 0 0, .slice none 0 0, .slice none 0 0, .int .i64 0]
theorem own_at {w : World} {base : Nat} {e : TypeId} {size g n c : Nat} {xs : List Value} (h : w.ownsRow base e size (.slice (some ⟨g, 0, none⟩) n c) n xs) : base ≤ g := (h.lt g rfl).1
theorem own_lt {w : World} {base : Nat} {e : TypeId} {size g n c : Nat} {xs : List Value} (h : w.ownsRow base e size (.slice (some ⟨g, 0, none⟩) n c) n xs) : g < w.heap.size := (h.lt g rfl).2

set_option maxRecDepth 100000 in
set_option maxHeartbeats 2000000 in
theorem toShow (A0 : Option Addr) (n0 c0 : Nat) (A1 : Option Addr) (n1 c1 : Nat) (A2 : Option Addr) (n2 c2 : Nat) (T : Int) (ds : List D) (cs : List C) (gs : List G) (w : World)
    (hf : Fit n0 n1 n2 ds cs gs) (hr : SR w A0 A1 A2 ds cs gs) :
    Calls Tryz.prog 10 #[sv A0 n0 c0 A1 n1 c1 A2 n2 c2 T] w (Copied w n0 n1 n2 T ds cs gs) := by
  obtain ⟨⟨hn0, hb0⟩, ⟨hn1, hb1⟩, hn2, hb2⟩ := hf
  have BA := (Below.refl w.heap.size w).alloc (Nat.le_refl _) (.cells (sc A0 n0 c0 A1 n1 c1 A2 n2 c2 T) 26)
  have BR := BA.alloc BA.size (.cells zc 40)
  have BO := BR.alloc BR.size (.cells zc 40)
  have KA := Lib.hid (((Bk.new w (sc A0 n0 c0 A1 n1 c1 A2 n2 c2 T) 26).alloc (o := .cells zc 40)).alloc (o := .cells zc 40))
  have KR := Lib.hid ((Bk.new (w.alloc (.cells (sc A0 n0 c0 A1 n1 c1 A2 n2 c2 T) 26)) zc 40).alloc (o := .cells zc 40))
  have KO := Lib.hid (Bk.new ((w.alloc (.cells (sc A0 n0 c0 A1 n1 c1 A2 n2 c2 T) 26)).alloc (.cells zc 40)) zc 40)
  have hz1 : (w.alloc (.cells (sc A0 n0 c0 A1 n1 c1 A2 n2 c2 T) 26)).heap.size = w.heap.size + 1 := by simp [go_sem]
  have hz2 : ((w.alloc (.cells (sc A0 n0 c0 A1 n1 c1 A2 n2 c2 T) 26)).alloc (.cells zc 40)).heap.size = w.heap.size + 1 + 1 := by simp [go_sem]
  rw [hz1] at KR
  rw [hz2] at KO
  have HS := Lib.hid hr
  have BB := Lib.hid BO
  clear BA BR BO hr hz1 hz2
  go_enter Tryz.func10, Tryz.ntmps10
  go_wp2_with fail
  refine (Dl.toDeviceS A0 n0 c0 ds _ hn0 hb0 (HS.out.below BB.out).1).mono ?_
  rintro e w1 ⟨g0, rfl, _, o0, hb⟩
  have o0' := Lib.hid (owns_base o0 (Nat.le_trans BB.out.size (own_at o0)))
  have KA1 := Lib.hid (KA.out.below hb)
  have KR1 := Lib.hid (KR.out.below hb)
  have KO1 := Lib.hid (KO.out.below hb)
  have B1 := Lib.hid (BB.out.trans (hb.mono BB.out.size))
  have y1 := KA1.out.cell (i := 1) rfl
  have z0 := KO1.out.cell (i := 0) rfl
  have f0 := KO1.out.frozen 0
  clear hb KA KR KO BB o0
  have KA1' := Lib.hid (KA1.out.far (b' := w.heap.size + 1 + 1) (i := 0) (v := .slice (some ⟨g0, 0, none⟩) n0 n0) (by omega))
  have KR1' := Lib.hid (KR1.out.far (b' := w.heap.size + 1 + 1) (i := 0) (v := .slice (some ⟨g0, 0, none⟩) n0 n0) (by omega))
  have KO1' := Lib.hid (KO1.out.set (i := 0) (v := .slice (some ⟨g0, 0, none⟩) n0 n0))
  have B1' := Lib.hid (B1.out.grown (Bk.setG w1 (w.heap.size + 1 + 1) 0 (.slice (some ⟨g0, 0, none⟩) n0 n0)) B1.out.size (fun k hk => by cases hk; omega))
  have o01 := Lib.hid (owns_grown o0'.out (Bk.setG w1 (w.heap.size + 1 + 1) 0 (.slice (some ⟨g0, 0, none⟩) n0 n0)) (fun k hk => by have := own_ne o0'.out KO1.out (by decide); exact fun e => this (hk.trans e.symm)))
  clear B1 KA1 KR1 KO1 o0'
  go_wp2_with fail
  refine (Cl.toCueS A1 n1 c1 cs _ hn1 hb1 (HS.out.below B1'.out).2.1).mono ?_
  rintro e w2 ⟨g1, rfl, _, o1, hb⟩
  have l01 : g0 < g1 := Nat.lt_of_lt_of_le (own_lt o01.out) (own_at o1)
  have o1' := Lib.hid (owns_base o1 (Nat.le_trans B1'.out.size (own_at o1)))
  have o02 := Lib.hid (owns_below o01.out hb)
  have KA2 := Lib.hid (KA1'.out.below hb)
  have KR2 := Lib.hid (KR1'.out.below hb)
  have KO2 := Lib.hid (KO1'.out.below hb)
  have B2 := Lib.hid (B1'.out.trans (hb.mono B1'.out.size))
  have y2 := KA2.out.cell (i := 2) rfl
  have z1 := KO2.out.cell (i := 1) rfl
  have f1 := KO2.out.frozen 1
  clear hb KA1' KR1' KO1' B1' o1 o01 y1 z0 f0
  have KA2' := Lib.hid (KA2.out.far (b' := w.heap.size + 1 + 1) (i := 1) (v := .slice (some ⟨g1, 0, none⟩) n1 n1) (by omega))
  have KR2' := Lib.hid (KR2.out.far (b' := w.heap.size + 1 + 1) (i := 1) (v := .slice (some ⟨g1, 0, none⟩) n1 n1) (by omega))
  have KO2' := Lib.hid (KO2.out.set (i := 1) (v := .slice (some ⟨g1, 0, none⟩) n1 n1))
  have G2 := Bk.setG w2 (w.heap.size + 1 + 1) 1 (.slice (some ⟨g1, 0, none⟩) n1 n1)
  have B2' := Lib.hid (B2.out.grown G2 B2.out.size (fun k hk => by cases hk; omega))
  have o12 := Lib.hid (owns_grown o1'.out G2 (fun k hk => by have := own_ne o1'.out KO2.out (by decide); exact fun e => this (hk.trans e.symm)))
  have o03 := Lib.hid (owns_grown o02.out G2 (fun k hk => by have := own_ne o02.out KO2.out (by decide); exact fun e => this (hk.trans e.symm)))
  clear B2 KA2 KR2 KO2 o1' o02 G2
  go_wp2_with fail
  refine (Gs.toGustS A2 n2 c2 gs _ hn2 hb2 (HS.out.below B2'.out).2.2).mono ?_
  rintro e w3 ⟨g2, rfl, _, o2, hb⟩
  have l12 : g1 < g2 := Nat.lt_of_lt_of_le (own_lt o12.out) (own_at o2)
  have o2' := Lib.hid (owns_base o2 (Nat.le_trans B2'.out.size (own_at o2)))
  have o13 := Lib.hid (owns_below o12.out hb)
  have o04 := Lib.hid (owns_below o03.out hb)
  have KA3 := Lib.hid (KA2'.out.below hb)
  have KR3 := Lib.hid (KR2'.out.below hb)
  have KO3 := Lib.hid (KO2'.out.below hb)
  have B3 := Lib.hid (B2'.out.trans (hb.mono B2'.out.size))
  have z2 := KO3.out.cell (i := 2) rfl
  have f2 := KO3.out.frozen 2
  clear hb KA2' KR2' KO2' B2' o2 o12 o03 y2 z1 f1
  have KA3' := Lib.hid (KA3.out.far (b' := w.heap.size + 1 + 1) (i := 2) (v := .slice (some ⟨g2, 0, none⟩) n2 n2) (by omega))
  have KR3' := Lib.hid (KR3.out.far (b' := w.heap.size + 1 + 1) (i := 2) (v := .slice (some ⟨g2, 0, none⟩) n2 n2) (by omega))
  have KO3' := Lib.hid (KO3.out.set (i := 2) (v := .slice (some ⟨g2, 0, none⟩) n2 n2))
  have G3 := Bk.setG w3 (w.heap.size + 1 + 1) 2 (.slice (some ⟨g2, 0, none⟩) n2 n2)
  have B3' := Lib.hid (B3.out.grown G3 B3.out.size (fun k hk => by cases hk; omega))
  have o22 := Lib.hid (owns_grown o2'.out G3 (fun k hk => by have := own_ne o2'.out KO3.out (by decide); exact fun e => this (hk.trans e.symm)))
  have o14 := Lib.hid (owns_grown o13.out G3 (fun k hk => by have := own_ne o13.out KO3.out (by decide); exact fun e => this (hk.trans e.symm)))
  have o05 := Lib.hid (owns_grown o04.out G3 (fun k hk => by have := own_ne o04.out KO3.out (by decide); exact fun e => this (hk.trans e.symm)))
  clear B3 KA3 KR3 KO3 o2' o13 o04 G3
  go_upto_region 5 with fail
  generalize w3.setCell ⟨w.heap.size + 1 + 1, 2, none⟩ (.slice (some ⟨g2, 0, none⟩) n2 n2) = V at *
  have y3 := KA3'.out.cell (i := 3) rfl
  have z0 := KO3'.out.cell (i := 0) rfl
  have z1 := KO3'.out.cell (i := 1) rfl
  have z2 := KO3'.out.cell (i := 2) rfl
  have z3 := KO3'.out.cell (i := 3) rfl
  have r0 := KR3'.out.cell (i := 0) rfl
  have r1 := KR3'.out.cell (i := 1) rfl
  have r2 := KR3'.out.cell (i := 2) rfl
  have r3 := KR3'.out.cell (i := 3) rfl
  have f3 := KO3'.out.frozen 3
  have q0 := KR3'.out.frozen 0
  have q1 := KR3'.out.frozen 1
  have q2 := KR3'.out.frozen 2
  have q3 := KR3'.out.frozen 3
  go_wp2_with fail
  have x3 := (KR3'.out.far (b' := w.heap.size + 1 + 1) (i := 3) (v := .int .i64 T) (by omega))
  have G4 := Bk.setG V (w.heap.size + 1 + 1) 3 (.int .i64 T)
  have p2 := owns_grown o22.out G4 (fun k hk => by have := own_ne o22.out KO3'.out (by decide); exact fun e => this (hk.trans e.symm))
  have p1 := owns_grown o14.out G4 (fun k hk => by have := own_ne o14.out KO3'.out (by decide); exact fun e => this (hk.trans e.symm))
  have p0 := owns_grown o05.out G4 (fun k hk => by have := own_ne o05.out KO3'.out (by decide); exact fun e => this (hk.trans e.symm))
  have B4 := B3'.out.grown G4 B3'.out.size (fun k hk => by cases hk; omega)
  generalize V.setCell ⟨w.heap.size + 1 + 1, 3, none⟩ (.int .i64 T) = X at *
  have H1 := Bk.setG X (w.heap.size + 1) 0 (.slice (some ⟨g0, 0, none⟩) n0 n0)
  have H2 := grown_trans H1 (Bk.setG _ (w.heap.size + 1) 1 (.slice (some ⟨g1, 0, none⟩) n1 n1))
  have H3 := grown_trans H2 (Bk.setG _ (w.heap.size + 1) 2 (.slice (some ⟨g2, 0, none⟩) n2 n2))
  have H4 := grown_trans H3 (Bk.setG _ (w.heap.size + 1) 3 (.int .i64 T))
  have KX := (((x3.set (i := 0) (v := .slice (some ⟨g0, 0, none⟩) n0 n0)).set (i := 1) (v := .slice (some ⟨g1, 0, none⟩) n1 n1)).set (i := 2) (v := .slice (some ⟨g2, 0, none⟩) n2 n2)).set (i := 3) (v := .int .i64 T)
  have s0 := KX.cell (i := 0) rfl
  have s1 := KX.cell (i := 1) rfl
  have s2 := KX.cell (i := 2) rfl
  have s3 := KX.cell (i := 3) rfl
  refine bodyPost_ret (v := sv (some ⟨g0, 0, none⟩) n0 n0 (some ⟨g1, 0, none⟩) n1 n1 (some ⟨g2, 0, none⟩) n2 n2 T) (by simp [results, Tryz.results10, go_sem, s0, s1, s2, s3]; try rfl) rfl ?_
  exact ⟨g0, g1, g2, rfl, owns_grown p0 H4 (fun k hk => by have := own_ne p0 x3 (by decide); exact fun e => this (hk.trans e.symm)), owns_grown p1 H4 (fun k hk => by have := own_ne p1 x3 (by decide); exact fun e => this (hk.trans e.symm)),
    owns_grown p2 H4 (fun k hk => by have := own_ne p2 x3 (by decide); exact fun e => this (hk.trans e.symm)), l01, l12, B4.grown H4 B4.size (fun k hk => by cases hk; omega)⟩
end Go.Proofs.YtokncfhpmjohdaaGreat.St9
namespace Go.Proofs.YtokncfhpmjohdaaGreat.Fmt
open Go.RowKit Go.Proofs.YtokncfhpmjohdaaGreat.Mem

/-- The text of a list of bytes. -/
def txt (l : List UInt8) : ByteArray := ⟨l.toArray⟩
theorem txt_append (a b : List UInt8) : txt a ++ txt b = txt (a ++ b) := by
  unfold txt
  apply ByteArray.ext
  simp
def Wrote (s : ByteArray) (w : World) (e : Ending) (w' : World) : Prop := e = .returned (.string s) ∧ Below w.heap.size w w'

theorem digits_step (u : Nat) (h : ¬ u < 10) : Lib.decDigits u = Lib.decDigits (u / 10) ++ [UInt8.ofNat (48 + u % 10)] := by rw [Lib.decDigits, dif_neg h]
theorem digits_one (u : Nat) (h : u < 10) : Lib.decDigits u = [UInt8.ofNat (48 + u)] := by rw [Lib.decDigits, dif_pos h]
theorem digits_len : ∀ (k u : Nat), u < 10 ^ (k + 1) → (Lib.decDigits u).length ≤ k + 1
  | 0, u, h => by rw [digits_one u (by simpa using h)]; exact Nat.le_refl _
  | k + 1, u, h => by
    by_cases h1 : u < 10
    · rw [digits_one u h1]; simp
    · rw [digits_step u h1, List.length_append]
      have := digits_len k (u / 10) (by
        rw [Nat.div_lt_iff_lt_mul (by decide)]
        rw [Nat.pow_succ] at h
        exact h)
      simp only [List.length_cons, List.length_nil]
      omega

/-- One digit, as the model makes it. -/
theorem digit_conv (w : World) (d : Nat) (hd : d < 10) :
    (convert 173 9 (.slice (some ⟨w.heap.size, 0, none⟩) 1 1)).run Tryz.prog (w.alloc (.cells #[.int .u8 (48 + (d : Int))] 5)) = .ok (.string (txt [UInt8.ofNat (48 + d)])) (w.alloc (.cells #[.int .u8 (48 + (d : Int))] 5)) := by
  have h := run_convert_bytes_arg (P := Tryz.prog) (w.alloc (.cells #[.int .u8 (48 + (d : Int))] 5)) 173 5 Tryz.underlying173 Tryz.underlying5 w.heap.size 0 1 1 [48 + (d : Int)] rfl (by
    intro i hi
    obtain rfl : i = 0 := by omega
    rw [cell_of_row _ w.heap.size 0 _ _ _ (heap_alloc_new w _)]
    rfl) 9 Tryz.underlying9
  rw [h]
  congr 2

end Go.Proofs.YtokncfhpmjohdaaGreat.Fmt
