/- The greatest step of a track, of the program and of the model. -/
import Derived.Test.YtmbiomekbinplaaFx8
import Derived.Test.YtmbiomekbinplaaRampAt
import Derived.Deep.RegionHeld3
namespace Go.Proofs.Ytmbiomekbinplaa.St8
open Go.RowKit Go.Proofs.Ytmbiomekbinplaa.Mem Go.Proofs.Ytmbiomekbinplaa.Tk Go.Proofs.Ytmbiomekbinplaa.Ti8 Go.Proofs.Ytmbiomekbinplaa.Rw Go.Proofs.Ytmbiomekbinplaa.Meas Go.Proofs.Ytmbiomekbinplaa.Fw8
set_option linter.unusedVariables false
set_option linter.unusedSimpArgs false

open Go.Proofs.Ytmbiomekbinplaa.Fx8
theorem neg_f32 (r : Int) (h1 : -32 ≤ r) (h2 : r ≤ 32) (h0 : r ≠ 0) : Op.negFloat .f32 (f32 r) = f32 (-r) := by
  have key : ∀ i : Fin 65, ((i.val : Int) - 32 ≠ 0) → Op.negFloat .f32 (f32 ((i.val : Int) - 32)) = f32 (-((i.val : Int) - 32)) := by decide +kernel
  have := key ⟨(r + 32).toNat, by omega⟩
  simp only [] at this
  rw [show (((r + 32).toNat : Nat) : Int) - 32 = r by omega] at this
  exact this h0
theorem max3 (P : Program) (g r : Int) (hg1 : 0 ≤ g) (hg2 : g ≤ 32) (h1 : -32 ≤ r) (h2 : r ≤ 32) : ∀ ts t w, (Builtin.max_ ts t #[.float .f32 (f32 g), .float .f32 (f32 r), .float .f32 (Op.negFloat .f32 (f32 r))]).run P w = .ok (.float .f32 (f32 (max g (max r (-r))))) w := by
  intro ts t w
  have a := max32 P g r (by omega) (by omega) ts t w
  by_cases h0 : r = 0
  · subst h0
    have e1 : Op.negFloat .f32 (f32 0) = 2147483648 := by decide
    have e2 : max g (max 0 (-0)) = g := by omega
    have e3 : max g 0 = g := by omega
    rw [e1, e2]
    rw [e3] at a
    have key : ∀ i : Fin 33, FloatKind.f32.format.order (f32 (i.val : Int)) 2147483648 = (if i.val = 0 then some .eq else some .gt) := by decide +kernel
    have k := key ⟨g.toNat, by omega⟩
    simp only [] at k
    rw [show ((g.toNat : Nat) : Int) = g by omega] at k
    have hn : (FloatKind.f32.decode (f32 0)).neg = false := by decide
    by_cases hz : g = 0
    · subst hz
      simp at k
      simp [Builtin.max_] at a ⊢
      simp [Builtin.max2] at a ⊢
      have b := order32 0 0 (by decide) (by decide)
      rw [cmp_eq rfl] at b
      simp [b, hn, k]
    · rw [if_neg (by omega)] at k
      have b := order32 g 0 (by omega) (by decide)
      rw [cmp_gt (by omega)] at b
      simp [Builtin.max_, Builtin.max2, b, k]
  · rw [neg_f32 r h1 h2 h0]
    have b := max32 P (max g r) (-r) (by omega) (by omega) ts t w
    have e : max (max g r) (-r) = max g (max r (-r)) := by omega
    rw [e] at b
    have c := order32 g r (by omega) (by omega)
    rcases Int.lt_trichotomy g r with h | h | h
    · rw [cmp_lt h] at c
      rw [show max g r = r by omega] at b
      simp [Builtin.max_, Builtin.max2, c] at b ⊢
      exact b
    · rw [cmp_eq h] at c
      subst h
      rw [Int.max_self] at b
      cases hn : (FloatKind.f32.decode (f32 g)).neg <;> (simp [Builtin.max_, Builtin.max2, c, hn] at b ⊢; exact b)
    · rw [cmp_gt h] at c
      rw [show max g r = g by omega] at b
      simp [Builtin.max_, Builtin.max2, c] at b ⊢
      exact b
theorem stp_next {zs : List Int} {k : Nat} {a b : Int} (ha : zs[k]? = some a) (hb : zs[k + 1]? = some b) : stp zs (k + 1) = max (stp zs k) (max (b - a) (a - b)) := by
  show max (stp zs k) (max (zs.getD (k + 1) 0 - zs.getD k 0) (zs.getD k 0 - zs.getD (k + 1) 0)) = _
  rw [List.getD_eq_getElem?_getD, List.getD_eq_getElem?_getD, ha, hb]; rfl

set_option maxHeartbeats 1000000 in
theorem stepI (A : Option Addr) (n c : Nat) (zs : List Int) (w : World) (hn : zs.length = n) (hb : n ≤ 1048576) (hr : Rd w w.heap.size A (ints zs)) :
    Calls Try.prog 22 #[.slice A n c] w fun e w' => e = .returned (.int .i64 (stV zs)) ∧ Below w.heap.size w w' := by
  have N := Lib.hid hn
  have T0 := Lib.hid (fun v => told 0 (by decide) (by decide) v)
  have z0 : f32 0 = 0 := by decide
  cases ht : tk zs
  · have C := Lib.hid (whole_no A n c zs w.heap.size w hn hb hr ht)
    have FG := Lib.hid (stV_no ht)
    rw [z0] at T0
    clear hn hr ht
    go_enter Try.func22, Try.ntmps22
    go_wp2_with fail
    refine C.out.mono ?_
    rintro e w' ⟨rfl, rfl⟩
    go_wp2_with fail
    go_loop [5, 6] (fun s i => s = .float .f32 0 ∧ i = .int .i64 1) (fun _ i => 0)
    case atStart => exact ⟨rfl, rfl⟩
    case round =>
      obtain ⟨rfl, rfl⟩ := hrel
      go_wp2_with fail
      refine (T0.out _).mono ?_
      rintro e w' ⟨rfl, rfl⟩
      go_wp2_with fail
      go_ret
      exact ⟨ret_int FG.out.symm, Below.refl _ _⟩
  have C := Lib.hid (whole_yes A n c zs w hn hb hr ht)
  have D := Lib.hid (tk_iff.1 ht).2
  have SB := Lib.hid (stp_bound D.out)
  have FL := Lib.hid (stV_yes ht)
  clear hn hr ht
  go_enter Try.func22, Try.ntmps22
  go_wp2_with fail
  refine C.out.mono ?_
  rintro e w1 ⟨g, rfl, ho, hb1⟩
  rw [N.out] at ho
  rw [N.out]
  have O1 := Lib.hid ho
  have B1 := Lib.hid hb1
  clear ho hb1 C
  go_wp2_with fail
  go_loopw [5, 6] (fun s i wr => ∃ k : Nat, (k + 1 ≤ n ∨ n = 0 ∧ k = 0) ∧ i = .int .i64 ((k : Int) + 1) ∧ s = .float .f32 (f32 (stp zs k)) ∧ Hid (wr.ownsRow w.heap.size 58 1 (.slice (some ⟨g, 0, none⟩) n n) n (fls zs)) ∧ Hid (Below w.heap.size w wr)) (fun _ i _ => n - (intOf i).toNat)
  case atStart =>
    refine ⟨0, by omega, rfl, ?_, O1, B1⟩
    show Value.float .f32 0 = .float .f32 (f32 0)
    rw [z0]
  case round =>
    obtain ⟨k, hk, rfl, rfl, OK, BK⟩ := hrel
    clear O1 B1
    by_cases hlt : k + 1 < n
    · obtain ⟨a, ha⟩ : ∃ z, zs[k]? = some z := ⟨_, List.getElem?_eq_getElem (by rw [N.out]; omega)⟩
      obtain ⟨b, hb9⟩ : ∃ z, zs[k + 1]? = some z := ⟨_, List.getElem?_eq_getElem (by rw [N.out]; omega)⟩
      have ca := (OK.out.cellAt k (by omega)).trans (fls_get ha)
      have cb := (OK.out.cellAt (k + 1) (by omega)).trans (fls_get hb9)
      have ha3 := okT_get D.out ha
      have hb3 := okT_get D.out hb9
      have hs := SB.out k
      have S := RampAt.subM b a (by omega) (by omega)
      have E := stp_next ha hb9
      rw [show a - b = -(b - a) by omega] at E
      obtain ⟨r, hr⟩ : ∃ r, b - a = r := ⟨_, rfl⟩
      rw [hr] at S E
      have hr1 : -32 ≤ r := by omega
      have hr2 : r ≤ 32 := by omega
      obtain ⟨s, hs9⟩ : ∃ s, stp zs k = s := ⟨_, rfl⟩
      rw [hs9] at hs E ⊢
      have M := max3 Try.prog s r hs.1 hs.2 hr1 hr2
      rw [← E] at M
      obtain ⟨s2, hs2⟩ : ∃ s, stp zs (k + 1) = s := ⟨_, rfl⟩
      have HS := Lib.hid hs2
      rw [hs2] at M
      have U : ∀ w, (Op.unary .neg (.float .f32 (f32 r))).run Try.prog w = .ok (.float .f32 (Op.negFloat .f32 (f32 r))) w := fun w => rfl
      generalize Op.negFloat .f32 (f32 r) = nr at U M
      clear E hr hs ha hb9 ha3 hb3 hs9 hs2 hr1 hr2
      have OK2 := Lib.hid (fun m => (⟨OK.out.1, OK.out.2⟩ : (wr.drewN m).ownsRow w.heap.size 58 1 (.slice (some ⟨g, 0, none⟩) n n) n (fls zs)))
      have BK2 := Lib.hid (fun m => below_drewN BK.out m)
      clear OK BK
      go_wp2_with fail
      go_quiet (fail)
      go_wp2_with fail
      go_roundw
      case rel => exact ⟨k + 1, Or.inl (by omega), by go_num, by rw [HS.out], OK2.out _, BK2.out _⟩
      case measure => simp [intOf]; omega
    · have hs := SB.out k
      have T := Lib.hid (fun v => told (stp zs k) (by omega) (by omega) v)
      have HF := Lib.hid (show stV zs = stp zs k by rw [FL.out, N.out]; congr 1; omega)
      obtain ⟨s, hs9⟩ : ∃ s, stp zs k = s := ⟨_, rfl⟩
      rw [hs9] at T HF ⊢
      clear hs hs9
      go_wp2_with fail
      refine (T.out _).mono ?_
      rintro e w' ⟨rfl, rfl⟩
      go_wp2_with fail
      go_ret
      exact ⟨ret_int HF.out.symm, BK.out⟩

end Go.Proofs.Ytmbiomekbinplaa.St8
