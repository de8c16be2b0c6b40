/- A number that is read: the program, by the library's Atoi, and the model, by the first four bytes, read the same. -/
import Derived.Test.YtjpmhponcbbdcaaDoorFmt
import Derived.Test.YtjpmhponcbbdcaaDoorNum
namespace Go.Proofs.YtjpmhponcbbdcaaDoor.Parse
open Go.RowKit Go.Proofs.YtjpmhponcbbdcaaDoor.Mem Go.Proofs.YtjpmhponcbbdcaaDoor.Fmt Go.Proofs.YtjpmhponcbbdcaaDoor.Num

/-- What the model reckons of a text. -/
def guess (s : ByteArray) : Int := first4 s.data.toList
def Fits (s : ByteArray) (n : Int) : Prop := 0 ≤ n ∧ n ≤ 999 ∧ itoaT n = s
noncomputable def good (s : ByteArray) : Bool := @decide (Fits s (guess s)) (Classical.propDecidable _)
noncomputable def val (s : ByteArray) : Int := if good s = true then guess s else 0

theorem itoaT_nat (n : Nat) : itoaT (n : Int) = txt (Lib.decDigits n) := by
  unfold itoaT Lib.itoa
  rw [if_neg (by omega), Int.toNat_natCast]
theorem fits_key {s : ByteArray} {n : Int} (h : Fits s n) : Lib.atoiAll s.data.toList = .ok n ∧ guess s = n ∧ 1 ≤ s.size ∧ s.size ≤ 3 := by
  obtain ⟨h1, h2, h3⟩ := h
  obtain ⟨k, rfl⟩ : ∃ k : Nat, n = k := ⟨n.toNat, by omega⟩
  have := key k (by omega)
  rw [itoaT_nat] at h3
  have hd : s.data.toList = Lib.decDigits k := by rw [← h3]; rfl
  unfold guess
  have hp : 1 ≤ (Lib.decDigits k).length := by
    by_cases c : k < 10
    · rw [digits_one k c]; exact Nat.le_refl _
    · rw [digits_step k c, List.length_append]; simp
  rw [Lib.size_eq, hd]
  exact ⟨this.1, this.2.1, hp, this.2.2⟩
theorem good_yes {s : ByteArray} {n : Int} (h : Fits s n) : good s = true ∧ val s = n := by
  have hg := (fits_key h).2.1
  have e : good s = true := by unfold good; exact @decide_eq_true _ (Classical.propDecidable _) (by rw [hg]; exact h)
  exact ⟨e, by unfold val; rw [e, if_pos rfl, hg]⟩
theorem good_no {s : ByteArray} (h : ∀ n, ¬ Fits s n) : good s = false ∧ val s = 0 := by
  have e : good s = false := by unfold good; exact @decide_eq_false _ (Classical.propDecidable _) (h _)
  exact ⟨e, by unfold val; rw [e]; rfl⟩
theorem good_other {s : ByteArray} {n : Int} (h1 : ∀ m, Fits s m → m = n) (h2 : ¬ Fits s n) : good s = false ∧ val s = 0 :=
  good_no fun m hm => h2 (h1 m hm ▸ hm)

/-- What a reading leaves. -/
def Read (s : ByteArray) (w : World) (e : Ending) (w' : World) : Prop := e = .returned (.tuple #[.int .i64 (val s), .bool (good s)]) ∧ Below w.heap.size w w'
theorem fin {s : ByteArray} {v : Int} {b : Bool} (h : good s = b ∧ val s = v) : Ending.returned (.tuple #[.int .i64 v, .bool b]) = .returned (.tuple #[.int .i64 (val s), .bool (good s)]) := by rw [h.1, h.2]

/-- The two variables of errors hold some error. -/
def Errs (w : World) : Prop := (∃ t p, w.var? Tryd.prog "strconv.ErrSyntax" = some #[.iface t p]) ∧ ∃ t p, w.var? Tryd.prog "strconv.ErrRange" = some #[.iface t p]

def Atoi (w : World) (s : ByteArray) (e : Ending) (w' : World) : Prop :=
  Below w.heap.size w w' ∧ ((∃ v : Int, Lib.atoiAll s.data.toList = .ok v ∧ e = .returned (.tuple #[.int .i64 v, .nilIface])) ∨
    ((∀ v : Int, Lib.atoiAll s.data.toList ≠ .ok v) ∧ ∃ (v : Int) (N : Nat), e = .returned (.tuple #[.int .i64 v, .iface 64 (.pointer (some ⟨N, 0, none⟩))])))

theorem bytesWorld_below (w : World) (t : ByteArray) : Below w.heap.size w (Lib.bytesWorld w 5 t) := by
  have h1 : Below w.heap.size w (w.drew.alloc (.cells (Lib.bytesCells w 5 t) 5)) := ((Below.refl _ _).drew).alloc (Nat.le_refl _) _
  refine h1.trans ⟨rfl, rfl, rfl, by simp [Lib.bytesWorld, World.freeze], fun k hk => ?_⟩
  show (Array.modify _ _ _)[k]? = _
  rw [Array.getElem?_modify, if_neg (by show ¬ w.heap.size = k; omega)]

theorem atoi (s : ByteArray) (w : World) (hs : s.size ≤ 1048576) (he : Errs w) : Calls Tryd.prog 25 #[.string s] w (Atoi w s) := by
  obtain ⟨⟨t1, p1, h1⟩, t2, p2, h2⟩ := he
  cases hq : Lib.atoiAll s.data.toList with
  | ok v =>
    refine (Tryd.strconv_Atoi_ok s (by omega) v hq w).mono fun e w' ⟨he, hw⟩ => ⟨?_, Or.inl ⟨v, hq, he⟩⟩
    rcases hw with rfl | ⟨t, rfl⟩
    · exact Below.refl _ _
    · exact bytesWorld_below w t
  | «syntax» =>
    refine (Tryd.strconv_Atoi_syntax_var s (by omega) hq t1 p1 w h1).mono fun e w' ⟨N, he, _, _, hb⟩ => ⟨hb, Or.inr ⟨(fun v hv => by rw [hq] at hv; cases hv), _, N, he⟩⟩
  | range =>
    refine (Tryd.strconv_Atoi_range_var s (by omega) hq t2 p2 w h2).mono fun e w' ⟨N, he, _, _, hb⟩ => ⟨hb, Or.inr ⟨(fun v hv => by rw [hq] at hv; cases hv), _, N, he⟩⟩

theorem text_ne {a b : ByteArray} (h : ¬ a = b) : (a.toList == b.toList) = false := by
  rw [beq_eq_false_iff_ne, ByteArray.toList_eq, ByteArray.toList_eq]
  exact fun e => h (ByteArray.ext (Array.toList_inj.mp e))

theorem Errs.below {w w' : World} (h : Errs w) (hb : Below w.heap.size w w') : Errs w' := by
  obtain ⟨⟨t1, p1, h1⟩, t2, p2, h2⟩ := h
  have g1 : Tryd.prog.globalNamed "strconv.ErrSyntax" = some 0 := by kernel_rfl
  have g2 : Tryd.prog.globalNamed "strconv.ErrRange" = some 1 := by kernel_rfl
  have c1 := World.var?_cell g1 h1 0
  have c2 := World.var?_cell g2 h2 0
  exact ⟨⟨t1, p1, var?_below hb g1 (World.block_lt_of_cell? w _ (u := .iface t1 p1) (by simpa using c1)) h1⟩, t2, p2, var?_below hb g2 (World.block_lt_of_cell? w _ (u := .iface t2 p2) (by simpa using c2)) h2⟩

set_option maxHeartbeats 1000000 in
theorem impl (s : ByteArray) (w : World) (hs : s.size ≤ 1048576) (he : Errs w) (ht : Tab w) :
    Calls Tryd.prog 9 #[.string s] w (Read s w) := by
  have A := Lib.hid (atoi s w hs he)
  have T := Lib.hid ht
  clear he ht hs
  go_enter Tryd.func9, Tryd.ntmps9
  go_wp2_with fail
  refine A.out.mono ?_
  rintro e w1 ⟨b1, ⟨v, hv, rfl⟩ | ⟨hv, v, N, rfl⟩⟩
  · have B1 := Lib.hid b1
    have K := Lib.hid (show ∀ m, Fits s m → m = v from fun m hm => by
      have := (fits_key hm).1
      rw [hv] at this
      injection this with this
      exact this.symm)
    clear b1 hv
    by_cases c1 : v < 0
    · have F := Lib.hid (good_other K.out (fun h => by have := h.1; omega))
      go_wp2_with fail
      go_ret2
      exact ⟨fin F.out, B1.out⟩
    · by_cases c2 : 999 < v
      · have F := Lib.hid (good_other K.out (fun h => by have := h.2.1; omega))
        go_wp2_with fail
        go_ret2
        exact ⟨fin F.out, B1.out⟩
      · have c3 : 0 ≤ v := by omega
        have c4 : v ≤ 999 := by omega
        clear c1 c2
        have FN := Lib.hid (Fmt.impl v w1 (by omega) (by omega) (T.out.below B1.out))
        go_wp2_with fail
        refine FN.out.mono ?_
        rintro e w2 ⟨rfl, b2⟩
        have B2 := Lib.hid (B1.out.trans (b2.mono B1.out.size))
        clear b2
        by_cases c5 : itoaT v = s
        · have F := Lib.hid (good_yes (s := s) (n := v) ⟨c3, c4, c5⟩)
          rw [c5]
          clear c5
          go_wp2_with fail
          go_ret2
          exact ⟨fin F.out, B2.out⟩
        · have F := Lib.hid (good_other K.out (fun h => c5 h.2.2))
          obtain ⟨t, ht⟩ : ∃ t, itoaT v = t := ⟨_, rfl⟩
          rw [ht] at c5 ⊢
          have d1 := text_ne c5
          have d2 : decide (v < 0) = false := decide_eq_false (by omega)
          have d3 : decide (999 < v) = false := decide_eq_false (by omega)
          clear ht c5 c3 c4
          go_wp2_with fail
          go_ret2
          exact ⟨fin F.out, B2.out⟩
  · have B1 := Lib.hid b1
    have F := Lib.hid (good_no (s := s) fun m hm => hv m (fits_key hm).1)
    clear b1 hv
    go_wp2_with fail
    go_ret2
    exact ⟨fin F.out, B1.out⟩

theorem first4_step {l : List UInt8} {k : Nat} {c : UInt8} (hk : k < 4) (h : l[k]? = some c) : first4 (l.take (k + 1)) = 10 * first4 (l.take k) + (c.toNat : Int) - 48 := by
  obtain ⟨hl, rfl⟩ := List.getElem?_eq_some_iff.1 h
  unfold first4
  rw [List.take_take, List.take_take, Nat.min_eq_right (by omega), Nat.min_eq_right (by omega), List.take_succ_eq_append_getElem hl, List.foldl_append]
  rfl
theorem first4_all {l : List UInt8} {k : Nat} (h : l.length ≤ k ∨ 4 ≤ k) : first4 (l.take k) = first4 l := by
  unfold first4
  rw [List.take_take]
  by_cases c : 4 ≤ k
  · rw [Nat.min_eq_left c]
  · rw [Nat.min_eq_right (by omega), List.take_of_length_le (by omega), List.take_of_length_le (by omega)]

set_option maxHeartbeats 1000000 in
theorem spec (s : ByteArray) (w : World) (hs : s.size ≤ 1048576) :
    Calls Tryd.prog 16 #[.string s] w (Read s w) := by
  go_enter Tryd.func16, Tryd.ntmps16
  go_wp2
  go_loop [4, 5] (fun n i => ∃ k : Nat, k ≤ s.size ∧ k ≤ 4 ∧ i = .int .i64 k ∧ ∃ x : Int, n = .int .i64 x ∧ Hid (x = first4 (s.data.toList.take k)) ∧ -1000000 * (k : Int) ≤ x ∧ x ≤ 1000000 * (k : Int) ∧ (k ≤ 1 → -48 ≤ x ∧ x ≤ 255) ∧ (k ≤ 2 → -600 ≤ x ∧ x ≤ 3000) ∧ (k ≤ 3 → -7000 ≤ x ∧ x ≤ 31000)) (fun _ i => s.size - (intOf i).toNat)
  case atStart => exact ⟨0, Nat.zero_le _, by omega, rfl, 0, rfl, rfl, by omega, by omega, by omega, by omega, by omega⟩
  case round =>
    obtain ⟨k, hk, hk4, rfl, x, rfl, HX, b1, b2, b3, b4, b5⟩ := hrel
    by_cases hlt : k < s.size ∧ k < 4
    · obtain ⟨hlt, hlt4⟩ := hlt
      have hy := s[k].toNat_lt
      have hget : s.data.toList[k]? = some s[k] := by
        rw [List.getElem?_eq_getElem (by rw [← Lib.size_eq]; exact hlt)]
        rfl
      have HX2 := Lib.hid (first4_step hlt4 hget)
      have d1 : decide ((k : Int) < (s.size : Int)) = true := decide_eq_true (by omega)
      have d2 : decide ((k : Int) < 4) = true := decide_eq_true (by omega)
      have bx : -7000 ≤ x ∧ x ≤ 31000 := by omega
      obtain ⟨bx1, bx2⟩ := bx
      have B := Lib.hid (And.intro b1 (And.intro b2 (And.intro b3 (And.intro b4 b5))))
      clear b1 b2 b3 b4 b5 hget
      go_wp2
      go_round
      case rel =>
        have := B.out
        exact ⟨k + 1, by omega, by omega, by go_num, _, rfl, (by show _ = _; rw [HX2.out, ← HX.out]), by omega, by omega, by omega, by omega, by omega⟩
      case measure => simp [intOf]; omega
    · have HX2 := Lib.hid (show x = guess s by
        rw [HX.out, first4_all (by rw [← Lib.size_eq]; omega)]; rfl)
      have HB : -4000000 ≤ x ∧ x ≤ 4000000 := by omega
      obtain ⟨e1, e2⟩ := HB
      have K := Lib.hid (show ∀ m, Fits s m → m = x from fun m hm => by
        rw [HX2.out]; exact (fits_key hm).2.1.symm)
      have Z := Lib.hid (show s.size = 0 → good s = false ∧ val s = 0 from fun h => good_no fun m hm => by have := (fits_key hm).2.2.1; omega)
      clear HX b1 b2 b3 b4 b5
      have stop : s.size ≤ k ∨ (k < s.size ∧ 4 ≤ k) := by omega
      clear hlt hk hk4
      by_cases c0 : s.size = 0
      · have F := Lib.hid (Z.out c0)
        have d3 : ((s.size : Int) == 0) = true := by rw [c0]; rfl
        have d4 : s.size ≤ k := by omega
        clear stop c0
        go_wp2
        go_ret2
        exact ⟨fin F.out, Below.refl _ _⟩
      · have d3 : ((s.size : Int) == 0) = false := by rw [beq_eq_false_iff_ne]; omega
        clear c0
        by_cases c1 : x < 0
        · have F := Lib.hid (good_other K.out (fun h => by have := h.1; omega))
          rcases stop with d1 | ⟨d1, d2⟩
          all_goals
            go_wp2
            go_ret2
            exact ⟨fin F.out, Below.refl _ _⟩
        · by_cases c2 : 999 < x
          · have F := Lib.hid (good_other K.out (fun h => by have := h.2.1; omega))
            have d4 : decide (x < 0) = false := decide_eq_false (by omega)
            rcases stop with d1 | ⟨d1, d2⟩
            all_goals
              go_wp2
              go_ret2
              exact ⟨fin F.out, Below.refl _ _⟩
          · have c3 : 0 ≤ x := by omega
            have c4 : x ≤ 999 := by omega
            have d4 : decide (x < 0) = false := decide_eq_false (by omega)
            have d5 : decide (999 < x) = false := decide_eq_false (by omega)
            have FN := Lib.hid (Fmt.spec x w (by omega) (by omega))
            by_cases c5 : itoaT x = s
            · have F := Lib.hid (good_yes (s := s) (n := x) ⟨c3, c4, c5⟩)
              rw [c5] at FN
              clear c5 c1 c2
              rcases stop with d1 | ⟨d1, d2⟩
              all_goals
                go_wp2_with fail
                refine FN.out.mono ?_
                rintro e w2 ⟨rfl, b2⟩
                have B2 := Lib.hid b2
                clear b2
                go_wp2_with fail
                go_ret2
                exact ⟨fin F.out, B2.out⟩
            · have F := Lib.hid (good_other K.out (fun h => c5 h.2.2))
              obtain ⟨t, ht⟩ : ∃ t, itoaT x = t := ⟨_, rfl⟩
              rw [ht] at c5 FN
              have d6 := text_ne c5
              clear ht c5 c1 c2
              rcases stop with d1 | ⟨d1, d2⟩
              all_goals
                go_wp2_with fail
                refine FN.out.mono ?_
                rintro e w2 ⟨rfl, b2⟩
                have B2 := Lib.hid b2
                clear b2
                go_wp2_with fail
                go_ret2
                exact ⟨fin F.out, B2.out⟩

end Go.Proofs.YtjpmhponcbbdcaaDoor.Parse
