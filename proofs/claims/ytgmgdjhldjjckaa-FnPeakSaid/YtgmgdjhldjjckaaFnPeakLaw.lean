/- The law FnPeak holds at every input. The step from the walk to the row follows the guide's own template. -/
import Derived.Test.YtgmgdjhldjjckaaMem
import Derived.Test.YtgmgdjhldjjckaaDr4
import Derived.Test.YtgmgdjhldjjckaaFv
import Derived.Test.YtgmgdjhldjjckaaTakeC
namespace Go.Proofs.Ytgmgdjhldjjckaa.fnPeak
open Go.ChangeShapes Go.WideShapes Go.ChangeAt Go.RowKit Go.WideMaps Go.WideElems Go.Proofs.Ytgmgdjhldjjckaa.Mem
open Go.ChangeMaps (open_string shut_string)
set_option linter.unusedVariables false
set_option linter.unusedSimpArgs false

theorem own : ownKnob Try.prog.godebug = none := by kernel_rfl
theorem laidOut : laidOutB Try.prog = true := by kernel_rfl

open Go.Proofs.Ytgmgdjhldjjckaa.Cm Go.Proofs.Ytgmgdjhldjjckaa.Pl Go.Proofs.Ytgmgdjhldjjckaa.Str Go.Proofs.Ytgmgdjhldjjckaa.Pw Go.Proofs.Ytgmgdjhldjjckaa.P2 Go.Proofs.Ytgmgdjhldjjckaa.Hd Go.Proofs.Ytgmgdjhldjjckaa.Draw Go.Proofs.Ytgmgdjhldjjckaa.Dr2 Go.Proofs.Ytgmgdjhldjjckaa.Dr4 Go.Proofs.Ytgmgdjhldjjckaa.Jt Go.Proofs.Ytgmgdjhldjjckaa.Dp

theorem hp_eq {l : Int} (h : 1 ≤ l ∧ l ≤ 32) : hp l.toNat = hg l ((l + 1) / 2).toNat := by
  have hj : jt 0 0 0 0 (l.toNat : Int) = true := jt_iff.2 (by omega)
  unfold hp
  rw [pk_yes hj, ha_in hj (by omega), show ((l.toNat : Nat) : Int) = l by omega]
theorem lf_hp : ∀ k : Fin 33, 1 ≤ k.val → lf (hp k.val) = k.val := by decide +kernel
theorem hp_up : ∀ k : Fin 32, 1 ≤ k.val → hp k.val < hp (k.val + 1) := by decide +kernel
theorem peak_at {x y h t l : Int} (hj : jt x y h t l = true) : peakV x y h t l = .tuple #[.int .i64 ((((l + 1) / 2).toNat : Nat) : Int), .int .i64 (hp l.toNat)] := by
  have hl := (jt_iff.1 hj).2.2.2.2
  unfold peakV
  rw [pk_yes hj, ha_in hj (by omega), hp_eq hl]
theorem hg_top {l : Int} {k : Nat} (hl : 1 ≤ l ∧ l ≤ 32) : hg l k ≤ hp l.toNat ∧ (k < ((l + 1) / 2).toNat → hg l k < hp l.toNat) := by
  rw [hp_eq hl]
  obtain ⟨M, hM⟩ : ∃ M : Nat, M = ((l + 1) / 2).toNat := ⟨_, rfl⟩
  rw [← hM]
  have e := hg_diff l k M
  have key : k < M → hg l k < hg l M := fun hk => by
    have : 0 < ((M : Int) - k) * (l + 1 - k - M) := Int.mul_pos (by omega) (by omega)
    have e2 : ((k : Int) - M) * (l + 1 - k - M) = -(((M : Int) - k) * (l + 1 - k - M)) := by rw [← Int.neg_mul]; congr 1; omega
    omega
  refine ⟨?_, key⟩
  by_cases hk : k < M
  · have := key hk; omega
  · by_cases hk2 : k = M
    · rw [hk2]; exact Int.le_refl _
    · have := hg_down (l := l) (k := k) (m := M) (by omega) (by omega)
      omega

set_option maxHeartbeats 4000000 in
set_option maxRecDepth 100000 in
theorem walk (A : Option Addr) (n c : Nat) (bs : List UInt8) (hn : bs.length = n) (hm : n ≤ maxLen) (w : World) (hr : Rd w w.heap.size A (Draw.u8s bs)) :
    Calls Try.prog 4 #[.slice A n c] w fun e w' => e = .returned (.bool true) ∧ Below w.heap.size w w' := by
  by_cases hbig : (n : Int) ≤ 4096
  · have D := Lib.hid (drawJet w A n c bs hn (by omega) hr)
    clear hm
    go_enter Try.func4, Try.ntmps4
    go_wp2_with (go_at_call 15; go_enter Try.func15, Try.ntmps15)
    refine D.out.mono ?_
    rintro e u0 ⟨x, y, h, t, l, hj, rfl, hB⟩
    have BB := Lib.hid hB
    have J := Lib.hid hj
    have hl := (jt_iff.1 hj).2.2.2.2
    clear D hbig hB hn hr
    have F := flightI x y h t l
    rw [fl_yes hj] at F
    replace F := Lib.hid F
    have P := peakI x y h t l
    rw [peak_at hj] at P
    obtain ⟨M, hM⟩ : ∃ M : Nat, ((l + 1) / 2).toNat = M := ⟨_, rfl⟩
    have hM2 : (M : Int) ≤ l + 1 := by omega
    have HTOP := Lib.hid (fun k : Nat => hg_top (l := l) (k := k) hl)
    rw [hM] at P HTOP
    have HM := heightI x y h t l M
    rw [ha_in hj hM2, ← hM, ← hp_eq hl, hM] at HM
    have LF := liftI (hp l.toNat)
    have LV : liftV (hp l.toNat) = .tuple #[.int .i64 l, .bool true] := by
      have h1 := lf_hp ⟨l.toNat, by omega⟩ (by show 1 ≤ l.toNat; omega)
      have h2 : lf (hp l.toNat) = l.toNat := h1
      rw [liftV_pos (by have := (HTOP.out 0).1; rw [hg_zero] at this; omega)]
      unfold lfB
      rw [h2, show ((l.toNat : Nat) : Int) = l by omega, decide_eq_true (by omega)]
    rw [LV] at LF
    have hHb : 0 ≤ hp l.toNat ∧ hp l.toNat ≤ 1089 := by
      have := (HTOP.out 0).1; rw [hg_zero] at this
      exact ⟨this, by rw [hp_eq hl]; exact hg_le (by omega) hl.2⟩
    have K := peakI x y h t (l + 1)
    obtain ⟨a2, b2, KV, KH⟩ : ∃ a2 b2 : Int, peakV x y h t (l + 1) = .tuple #[.int .i64 a2, .int .i64 b2] ∧ (l + 1 ≤ 32 → hp l.toNat < b2) := by
      by_cases c : l + 1 ≤ 32
      · have hj2 : jt x y h t (l + 1) = true := by have := jt_iff.1 hj; exact jt_iff.2 (by omega)
        rw [peak_at hj2]
        refine ⟨_, _, rfl, fun _ => ?_⟩
        have := hp_up ⟨l.toNat, by omega⟩ (by show 1 ≤ l.toNat; omega)
        rw [show (l + 1).toNat = l.toNat + 1 by omega]; exact this
      · exact ⟨_, _, rfl, fun h => absurd h c⟩
    rw [KV] at K
    generalize hp l.toNat = H at *
    replace P := Lib.hid P
    replace HM := Lib.hid HM
    replace LF := Lib.hid (LF (by omega) (by omega))
    replace K := Lib.hid K
    have KK := Lib.hid KH
    clear hj hM LV KV KH
    go_wp2_with fail
    refine (P.out _).mono ?_
    rintro e u1 ⟨rfl, hb⟩
    have Kj := Lib.hid (JB.below (JB.new u0 (x) (y) (h) (t) (l)) hb)
    have BB2 := Lib.hid (((BB.out).alloc (by have := BB.out.size; go_size) (.cells #[.int .i64 (x), .int .i64 (y), .int .i64 (h), .int .i64 (t), .int .i64 (l)] 27)).trans (hb.mono (by have := BB.out.size; go_size)))
    clear hb BB
    have BB := BB2
    clear BB2
    have Hj := Kj
    clear Kj
    obtain ⟨cj0, cj1, cj2, cj3, cj4⟩ := Hj.out.c
    have lj := Hj.out.lt
    have mj : ∀ j, _ < u1.heap.size + j := fun j => Nat.lt_of_lt_of_le lj (Nat.le_add_right _ j)
    go_wp2_with fail
    refine (HM.out _).mono ?_
    rintro e u2 ⟨rfl, hb⟩
    clear cj0 cj1 cj2 cj3 cj4 lj mj
    have Kj := Lib.hid (JB.below (Hj.out) hb)
    have BB2 := Lib.hid ((BB.out).trans (hb.mono (by have := BB.out.size; go_size)))
    clear hb BB Hj
    have BB := BB2
    clear BB2
    have Hj := Kj
    clear Kj
    obtain ⟨cj0, cj1, cj2, cj3, cj4⟩ := Hj.out.c
    have lj := Hj.out.lt
    have mj : ∀ j, _ < u2.heap.size + j := fun j => Nat.lt_of_lt_of_le lj (Nat.le_add_right _ j)
    go_wp2_with fail
    go_loopw [6] (fun i wr => ∃ k : Nat, (k : Int) ≤ l + 2 ∧ i = .int .i64 k ∧ Hid (JB wr u0.heap.size x y h t l) ∧ Hid (Below w.heap.size w wr)) (fun i _ => (l + 2 - intOf i).toNat)
    case atStart => exact ⟨0, by omega, rfl, Hj, BB⟩
    case round =>
      clear cj0 cj1 cj2 cj3 cj4 lj mj Hj BB
      obtain ⟨k, k2, rfl, Hj, BB⟩ := hrel
      obtain ⟨cj0, cj1, cj2, cj3, cj4⟩ := Hj.out.c
      have lj := Hj.out.lt
      have mj : ∀ j, _ < wr.heap.size + j := fun j => Nat.lt_of_lt_of_le lj (Nat.le_add_right _ j)
      by_cases hlt : (k : Int) ≤ l + 1
      · obtain ⟨t1, t2⟩ := HTOP.out k
        have HK := heightI x y h t l k
        rw [ha_in J.out hlt] at HK
        generalize hg l k = R at *
        replace HK := Lib.hid HK
        have ht1 : ¬ H < R := by omega
        by_cases hkm : k < M
        · have hne : ¬ R = H := by have := t2 hkm; omega
          have hne2 : (R == H) = false := by simp [hne]
          clear t1 t2
          go_wp2_with fail
          refine (F.out _).mono ?_
          rintro e u3 ⟨rfl, hb⟩
          clear cj0 cj1 cj2 cj3 cj4 lj mj
          have Kj := Lib.hid (JB.below (Hj.out) hb)
          have BB2 := Lib.hid ((BB.out).trans (hb.mono (by have := BB.out.size; go_size)))
          clear hb BB Hj
          have BB := BB2
          clear BB2
          have Hj := Kj
          clear Kj
          obtain ⟨cj0, cj1, cj2, cj3, cj4⟩ := Hj.out.c
          have lj := Hj.out.lt
          have mj : ∀ j, _ < u3.heap.size + j := fun j => Nat.lt_of_lt_of_le lj (Nat.le_add_right _ j)
          go_wp2_with fail
          refine (HK.out _).mono ?_
          rintro e u4 ⟨rfl, hb⟩
          clear cj0 cj1 cj2 cj3 cj4 lj mj
          have Kj := Lib.hid (JB.below (Hj.out) hb)
          have BB2 := Lib.hid ((BB.out).trans (hb.mono (by have := BB.out.size; go_size)))
          clear hb BB Hj
          have BB := BB2
          clear BB2
          have Hj := Kj
          clear Kj
          obtain ⟨cj0, cj1, cj2, cj3, cj4⟩ := Hj.out.c
          have lj := Hj.out.lt
          have mj : ∀ j, _ < u4.heap.size + j := fun j => Nat.lt_of_lt_of_le lj (Nat.le_add_right _ j)
          go_wp2_with fail
          refine (HK.out _).mono ?_
          rintro e u5 ⟨rfl, hb⟩
          clear cj0 cj1 cj2 cj3 cj4 lj mj
          have Kj := Lib.hid (JB.below (Hj.out) hb)
          have BB2 := Lib.hid ((BB.out).trans (hb.mono (by have := BB.out.size; go_size)))
          clear hb BB Hj
          have BB := BB2
          clear BB2
          have Hj := Kj
          clear Kj
          obtain ⟨cj0, cj1, cj2, cj3, cj4⟩ := Hj.out.c
          have lj := Hj.out.lt
          have mj : ∀ j, _ < u5.heap.size + j := fun j => Nat.lt_of_lt_of_le lj (Nat.le_add_right _ j)
          go_wp2_with fail
          go_roundw
          case rel => exact ⟨k + 1, by omega, by go_num, Hj, BB⟩
          case measure => simp [intOf]; omega
        · skip
          clear t1 t2
          go_wp2_with fail
          refine (F.out _).mono ?_
          rintro e u3 ⟨rfl, hb⟩
          clear cj0 cj1 cj2 cj3 cj4 lj mj
          have Kj := Lib.hid (JB.below (Hj.out) hb)
          have BB2 := Lib.hid ((BB.out).trans (hb.mono (by have := BB.out.size; go_size)))
          clear hb BB Hj
          have BB := BB2
          clear BB2
          have Hj := Kj
          clear Kj
          obtain ⟨cj0, cj1, cj2, cj3, cj4⟩ := Hj.out.c
          have lj := Hj.out.lt
          have mj : ∀ j, _ < u3.heap.size + j := fun j => Nat.lt_of_lt_of_le lj (Nat.le_add_right _ j)
          go_wp2_with fail
          refine (HK.out _).mono ?_
          rintro e u4 ⟨rfl, hb⟩
          clear cj0 cj1 cj2 cj3 cj4 lj mj
          have Kj := Lib.hid (JB.below (Hj.out) hb)
          have BB2 := Lib.hid ((BB.out).trans (hb.mono (by have := BB.out.size; go_size)))
          clear hb BB Hj
          have BB := BB2
          clear BB2
          have Hj := Kj
          clear Kj
          obtain ⟨cj0, cj1, cj2, cj3, cj4⟩ := Hj.out.c
          have lj := Hj.out.lt
          have mj : ∀ j, _ < u4.heap.size + j := fun j => Nat.lt_of_lt_of_le lj (Nat.le_add_right _ j)
          go_wp2_with fail
          go_roundw
          case rel => exact ⟨k + 1, by omega, by go_num, Hj, BB⟩
          case measure => simp [intOf]; omega
      · by_cases h32 : l + 1 ≤ 32
        · have hmore := KK.out h32
          go_wp2_with fail
          refine (F.out _).mono ?_
          rintro e u3 ⟨rfl, hb⟩
          clear cj0 cj1 cj2 cj3 cj4 lj mj
          have Kj := Lib.hid (JB.below (Hj.out) hb)
          have BB2 := Lib.hid ((BB.out).trans (hb.mono (by have := BB.out.size; go_size)))
          clear hb BB Hj
          have BB := BB2
          clear BB2
          have Hj := Kj
          clear Kj
          obtain ⟨cj0, cj1, cj2, cj3, cj4⟩ := Hj.out.c
          have lj := Hj.out.lt
          have mj : ∀ j, _ < u3.heap.size + j := fun j => Nat.lt_of_lt_of_le lj (Nat.le_add_right _ j)
          go_wp2_with fail
          refine (LF.out _).mono ?_
          rintro e u4 ⟨rfl, hb⟩
          clear cj0 cj1 cj2 cj3 cj4 lj mj
          have Kj := Lib.hid (JB.below (Hj.out) hb)
          have BB2 := Lib.hid ((BB.out).trans (hb.mono (by have := BB.out.size; go_size)))
          clear hb BB Hj
          have BB := BB2
          clear BB2
          have Hj := Kj
          clear Kj
          obtain ⟨cj0, cj1, cj2, cj3, cj4⟩ := Hj.out.c
          have lj := Hj.out.lt
          have mj : ∀ j, _ < u4.heap.size + j := fun j => Nat.lt_of_lt_of_le lj (Nat.le_add_right _ j)
          go_wp2_with fail
          refine (K.out _).mono ?_
          rintro e u5 ⟨rfl, hb⟩
          clear cj0 cj1 cj2 cj3 cj4 lj mj
          have Kj := Lib.hid (JB.below ((Hj.out).alloc (.cells #[.int .i64 (x), .int .i64 (y), .int .i64 (h), .int .i64 (t), .int .i64 (l + 1)] 27)) hb)
          have Kk := Lib.hid (JB.below (JB.new u4 (x) (y) (h) (t) (l + 1)) hb)
          have BB2 := Lib.hid (((BB.out).alloc (by have := BB.out.size; go_size) (.cells #[.int .i64 (x), .int .i64 (y), .int .i64 (h), .int .i64 (t), .int .i64 (l + 1)] 27)).trans (hb.mono (by have := BB.out.size; go_size)))
          clear hb BB Hj
          have BB := BB2
          clear BB2
          have Hj := Kj
          clear Kj
          have Hk := Kk
          clear Kk
          obtain ⟨cj0, cj1, cj2, cj3, cj4⟩ := Hj.out.c
          have lj := Hj.out.lt
          have mj : ∀ j, _ < u5.heap.size + j := fun j => Nat.lt_of_lt_of_le lj (Nat.le_add_right _ j)
          obtain ⟨ck0, ck1, ck2, ck3, ck4⟩ := Hk.out.c
          have lk := Hk.out.lt
          have mk : ∀ j, _ < u5.heap.size + j := fun j => Nat.lt_of_lt_of_le lk (Nat.le_add_right _ j)
          go_wp2_with fail
          go_returns
          exact ⟨rfl, BB.out⟩
        · have hbig : 32 < l + 1 := by omega
          go_wp2_with fail
          refine (F.out _).mono ?_
          rintro e u3 ⟨rfl, hb⟩
          clear cj0 cj1 cj2 cj3 cj4 lj mj
          have Kj := Lib.hid (JB.below (Hj.out) hb)
          have BB2 := Lib.hid ((BB.out).trans (hb.mono (by have := BB.out.size; go_size)))
          clear hb BB Hj
          have BB := BB2
          clear BB2
          have Hj := Kj
          clear Kj
          obtain ⟨cj0, cj1, cj2, cj3, cj4⟩ := Hj.out.c
          have lj := Hj.out.lt
          have mj : ∀ j, _ < u3.heap.size + j := fun j => Nat.lt_of_lt_of_le lj (Nat.le_add_right _ j)
          go_wp2_with fail
          refine (LF.out _).mono ?_
          rintro e u4 ⟨rfl, hb⟩
          clear cj0 cj1 cj2 cj3 cj4 lj mj
          have Kj := Lib.hid (JB.below (Hj.out) hb)
          have BB2 := Lib.hid ((BB.out).trans (hb.mono (by have := BB.out.size; go_size)))
          clear hb BB Hj
          have BB := BB2
          clear BB2
          have Hj := Kj
          clear Kj
          obtain ⟨cj0, cj1, cj2, cj3, cj4⟩ := Hj.out.c
          have lj := Hj.out.lt
          have mj : ∀ j, _ < u4.heap.size + j := fun j => Nat.lt_of_lt_of_le lj (Nat.le_add_right _ j)
          go_wp2_with fail
          refine (K.out _).mono ?_
          rintro e u5 ⟨rfl, hb⟩
          clear cj0 cj1 cj2 cj3 cj4 lj mj
          have Kj := Lib.hid (JB.below ((Hj.out).alloc (.cells #[.int .i64 (x), .int .i64 (y), .int .i64 (h), .int .i64 (t), .int .i64 (l + 1)] 27)) hb)
          have Kk := Lib.hid (JB.below (JB.new u4 (x) (y) (h) (t) (l + 1)) hb)
          have BB2 := Lib.hid (((BB.out).alloc (by have := BB.out.size; go_size) (.cells #[.int .i64 (x), .int .i64 (y), .int .i64 (h), .int .i64 (t), .int .i64 (l + 1)] 27)).trans (hb.mono (by have := BB.out.size; go_size)))
          clear hb BB Hj
          have BB := BB2
          clear BB2
          have Hj := Kj
          clear Kj
          have Hk := Kk
          clear Kk
          obtain ⟨cj0, cj1, cj2, cj3, cj4⟩ := Hj.out.c
          have lj := Hj.out.lt
          have mj : ∀ j, _ < u5.heap.size + j := fun j => Nat.lt_of_lt_of_le lj (Nat.le_add_right _ j)
          obtain ⟨ck0, ck1, ck2, ck3, ck4⟩ := Hk.out.c
          have lk := Hk.out.lt
          have mk : ∀ j, _ < u5.heap.size + j := fun j => Nat.lt_of_lt_of_le lk (Nat.le_add_right _ j)
          go_wp2_with fail
          go_returns
          exact ⟨rfl, BB.out⟩
  · have hd : decide (4096 < n) = true := decide_eq_true (by omega)
    clear hn hm hr
    go_enter Try.func4, Try.ntmps4
    go_wp2_with (go_at_call 15; go_enter Try.func15, Try.ntmps15)
    go_returns
    exact ⟨rfl, Below.refl _ _⟩

set_option maxRecDepth 100000 in
theorem lifted (os : Os) (started : os.Started) (H : Type) (enc : TypeId × Value → H) :
    ReturnsInHanded {} Try.checked os 4 .any (Rows.fnPeakSpec.pre6 enc Try.prog Try.f4 Rows.fnPeakRow.domain false) (Rows.fnPeakSpec.post enc Try.prog Try.f4 false true false false) := by
  refine returnsInHanded_of_change (C := Try.checked) own started (by kernel_rfl) Try.func4
    (ChangeSpec.witness6 (enc := enc) (C := Try.checked) false ⟨#[], #[.slice none 0 0], []⟩ 8 (by kernel_rfl) (by kernel_rfl) (by kernel_rfl) (by kernel_rfl)) ?_
  intro W base args ds gs before hval0 hW hcnd hsz
  have hval : ∀ (j : Nat) t v, Try.f4.params[j]? = some t → args[j]? = some v → Value.okWide Try.prog W .any base t v := hval0
  have hW' := hW
  obtain ⟨p, q, hA0, hV, rfl, hfz, hnd⟩ := hW
  have hA1 := hA0
  have hA : DataW.TrodAll enc Try.prog W 0 (fun _ => true) true Try.f4.params.toList args.toList ds p := hA0
  rw [Try.params4] at hA hval
  obtain ⟨v0, vs0, d0, ds0, p0, q0, hargs, rfl, rfl, h0, r0⟩ := trodAll_cons hA
  obtain ⟨rfl, rfl, rfl⟩ := trodAll_nil r0
  obtain rfl : args = #[v0] := by cases args; simp_all
  obtain ⟨rfl, rfl⟩ := trodVars_none hV
  obtain ⟨A0, n0, c0, a0, rfl, l0, m0, g0⟩ := RampFn.take_bytes Try.underlying22 Try.underlying5 (by kernel_rfl) (hval 0 22 v0 rfl rfl) h0
  clear hA0 hval0
  rw [List.append_nil] at hW'
  refine (walk A0 n0 c0 a0 l0 m0 W g0).mono fun e W' ⟨he, hb⟩ => ?_
  subst he
  exact ⟨_, rfl, post_law rfl hW' hA1 laidOut (by rw [Try.params4]; exact of_decide_eq_true (by kernel_rfl)) 4 (by kernel_rfl) Try.underlying4 rfl hb⟩

theorem over : Rows.fnPeakRow.holds Try.pinned (OpenSpec.ofChange Rows.fnPeakSpec) :=
  OpenClaim.holds_of_wide 4 Try.f4 rfl rfl rfl rfl rfl rfl rfl ⟨rfl, rfl, rfl, rfl, rfl⟩ rfl rfl rfl rfl rfl (by kernel_rfl) Try.func4 (by kernel_rfl)
    (of_decide_eq_true (by kernel_rfl)) (by unfold Func.isWrapper; first | (rw [if_pos (by decide +kernel)]; kernel_rfl) | (rw [if_neg (by decide +kernel)]; exact ⟨rfl, rfl⟩))
    (fun os started H enc _ => lifted os started H enc)

/-- The statement. -/
theorem proved : Rows.FnPeakSaid :=
  over
#print axioms proved
end Go.Proofs.Ytgmgdjhldjjckaa.fnPeak
