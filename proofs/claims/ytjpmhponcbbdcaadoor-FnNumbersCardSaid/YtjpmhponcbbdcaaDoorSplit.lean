/- Texts that are cut at a separator: the model's loop and the library's Split give the same pieces. -/
import Derived.Test.YtjpmhponcbbdcaaDoorEqs
import Derived.Test.YtjpmhponcbbdcaaDoorSpl
import Derived.Test.YtjpmhponcbbdcaaDoorShelf
import Derived.Laws.AppendOwn
import Derived.Laws.Concat
namespace Go.Proofs.YtjpmhponcbbdcaaDoor.Split
open Go.RowKit Go.Proofs.YtjpmhponcbbdcaaDoor.Mem Go.Proofs.YtjpmhponcbbdcaaDoor.Strs

/-- The pieces. -/
def pieces (sep s : ByteArray) : List ByteArray := if sep.size = 0 then [s] else Spl.S sep s

/-- A row of one's own with these texts; what was there is as it was. -/
def Cut (w : World) (ss : List ByteArray) (e : Ending) (w' : World) : Prop :=
  ∃ g c, e = .returned (.slice (some ⟨g, 0, none⟩) ss.length c) ∧ w'.ownsRow w.heap.size 9 1 (.slice (some ⟨g, 0, none⟩) ss.length c) ss.length (strs ss) ∧ Below w.heap.size w w'

theorem text_ne {a b : ByteArray} (h : ¬ a = b) : (a.toList == b.toList) = false := by
  rw [beq_eq_false_iff_ne, ByteArray.toList_eq, ByteArray.toList_eq]
  exact fun e => h (ByteArray.ext (Array.toList_inj.mp e))
theorem text_eq {a b : ByteArray} (h : a = b) : (a.toList == b.toList) = true := by
  rw [h]; exact beq_self_eq_true _
theorem not_empty {a : ByteArray} (h : 1 ≤ a.size) : (a.toList == []) = false := by
  have := text_ne (a := a) (b := ByteArray.empty) (by intro e; rw [e] at h; exact absurd h (by decide))
  rw [ByteArray.toList_eq] at this ⊢
  rw [ByteArray.toList_eq] at this
  exact this
theorem cut_run (s : ByteArray) (i n : Nat) (h : i + n ≤ s.size) (W : World) : (Instr.slice 9 (.string s) (some (.int .i64 (i : Int))) (some (.int .i64 ((i : Int) + (n : Int)))) none).run Tryd.prog W = .ok (.string (s.extract i (i + n))) W := by
  rw [run_slice_string (P := Tryd.prog) (w := W) 9 s .i64 .i64 i ((i : Int) + n) Tryd.underlying9 (by omega) (by omega) (by omega)]
  congr 3
theorem strs_snoc (ss : List ByteArray) (s : ByteArray) : strs ss ++ [.string s] = strs (ss ++ [s]) := by simp [strs]
theorem extract_len (s : ByteArray) (a b : Nat) (h : b ≤ s.size) : (s.extract a b).size ≤ s.size := by
  rw [ByteArray.size_extract]; omega
theorem got (w : World) {A B : List ByteArray} (h : A = B) {g c n base : Nat} {w' : World} (hn : A.length = n) (hb : base = w.heap.size) (ho : w'.ownsRow base 9 1 (.slice (some ⟨g, 0, none⟩) n c) n (strs A)) (hw : Below w.heap.size w w') : Cut w B (.returned (.slice (some ⟨g, 0, none⟩) n c)) w' := by
  subst h hn hb
  exact ⟨g, c, rfl, ho, hw⟩
theorem own_shape {w : World} {base n : Nat} {v : Value} {xs : List Value} (h : w.ownsRow base 9 1 v (n + 1) xs) : ∃ g c, v = .slice (some ⟨g, 0, none⟩) (n + 1) c := by
  rcases h.2 with ⟨_, e⟩ | ⟨g, cap, cur, e, _⟩
  · omega
  · exact ⟨g, cap, e⟩
theorem own_base {w : World} {base n : Nat} {v : Value} {xs : List Value} (h : w.ownsRow base 9 1 v n xs) : ∀ k, v.ownBlock = some k → base ≤ k := fun k e => (h.lt k e).1

set_option maxRecDepth 100000 in
set_option maxHeartbeats 2000000 in
theorem spec_some (s sep : ByteArray) (w : World) (h1 : 1 ≤ sep.size) (hs : s.size ≤ 1048576) (hp : sep.size ≤ 1048576) :
    Calls Tryd.prog 17 #[.string s, .string sep] w (Cut w (Spl.S sep s)) := by
  obtain ⟨i0, hi, hz0, hz1, hz2⟩ := info_parts infoStr
  have NE : (sep.toList == []) = false := not_empty h1
  have NE2 : ¬ sep.toList = [] := by rw [beq_eq_false_iff_ne] at NE; exact NE
  go_enter Tryd.func17, Tryd.ntmps17
  go_wp2_with fail
  go_loopw [5, 6, 7] (fun v f q wr => ∃ fr i : Nat, ∃ out : List ByteArray, f = .int .i64 fr ∧ q = .int .i64 i ∧ fr ≤ i ∧ i ≤ s.size ∧ out.length ≤ fr ∧ Hid (Spl.At sep s out fr i) ∧ Hid (wr.ownsRow w.heap.size 9 1 v out.length (strs out)) ∧ Hid (Below w.heap.size w wr)) (fun _ _ q _ => s.size + 1 - (intOf q).toNat)
  case atStart => exact ⟨0, 0, [], rfl, rfl, Nat.le_refl _, Nat.zero_le _, Nat.le_refl _, Lib.hid (Spl.At.start sep s), Lib.hid (World.ownsRow_lit w #[] 0 (Nat.le_refl _) (Nat.zero_le _) rfl), Lib.hid ((Below.refl _ _).alloc (Nat.le_refl _) _)⟩
  case round =>
    obtain ⟨fr, i, out, rfl, rfl, hfi, his, hol, HA, RK, BK⟩ := hrel
    have hown := RK.out.alloc
    have hbs := own_base RK.out
    have hwz := BK.out.size
    have HS := Lib.hid hbs
    clear hbs
    by_cases hlt : i + sep.size ≤ s.size
    · have SL := cut_run s i sep.size hlt
      by_cases he : s.extract i (i + sep.size) = sep
      · have TE := text_eq he
        have HC := Lib.hid (HA.out.cut h1 hlt he)
        clear he
        go_wp2_with (at_builtin; refine wpList_append_own _ rfl _ _ 32 rfl w.heap.size 9 i0 (.string ByteArray.empty) 1 16 Tryd.underlying32 hi hz0 hz1 hz2 rfl (by decide) _ _ _ rfl (hown _) ⟨wr.heap.size, 0, none⟩ 1 1 [.string (s.extract fr i)] rfl rfl (by intro j u hj; match j, hj with | 0, hj => simp at hj; subst hj; simp [Addr.add]) (by intro u hu; simp at hu; subst hu; rfl) (by unfold maxLen; omega) (by omega) (by simp; omega) ?_; intro v' w1 hown' hgrow hnil)
        rw [strs_snoc] at hown'
        have R1 := Lib.hid hown'
        have B1 := Lib.hid ((BK.out.alloc hwz _).grown hgrow (by simp; omega) HS.out)
        clear hown' hgrow hnil RK BK hown HS
        go_wp2_with fail
        go_roundw
        case rel => exact ⟨i + sep.size, i + sep.size, _, by go_num, by go_num, Nat.le_refl _, hlt, by rw [List.length_append]; simp only [List.length_cons, List.length_nil]; omega, HC, by rw [List.length_append]; exact R1, B1⟩
        case measure => simp [intOf]; omega
      · have TE := text_ne he
        have HC := Lib.hid (HA.out.skip he)
        clear he
        go_wp2_with fail
        go_roundw
        case rel => exact ⟨fr, i + 1, out, rfl, by go_num, by omega, by omega, hol, HC, RK, BK⟩
        case measure => simp [intOf]; omega
    · have F := HA.out.fin h1 (by omega)
      have FH := Lib.hid F
      clear F
      go_wp2_with (at_builtin; refine wpList_append_own _ rfl _ _ 32 rfl w.heap.size 9 i0 (.string ByteArray.empty) 1 16 Tryd.underlying32 hi hz0 hz1 hz2 rfl (by decide) _ _ _ rfl (hown _) ⟨wr.heap.size, 0, none⟩ 1 1 [.string (s.extract fr s.size)] rfl rfl (by intro j u hj; match j, hj with | 0, hj => simp at hj; subst hj; simp [Addr.add]) (by intro u hu; simp at hu; subst hu; rfl) (by unfold maxLen; omega) (by omega) (by simp; omega) ?_; intro v' w1 hown' hgrow hnil)
      rw [strs_snoc] at hown'
      obtain ⟨g', c', rfl⟩ := own_shape hown'
      have R1 := Lib.hid hown'
      have B1 := Lib.hid ((BK.out.alloc hwz _).grown hgrow (by simp; omega) HS.out)
      clear hown' hgrow hnil RK BK hown HS
      go_wp2_with fail
      go_ret
      exact got w FH.out (by simp) rfl R1.out B1.out

set_option maxRecDepth 100000 in
set_option maxHeartbeats 1000000 in
theorem spec_none (s : ByteArray) (w : World) (hs : s.size ≤ 1048576) :
    Calls Tryd.prog 17 #[.string s, .string ⟨#[]⟩] w (Cut w [s]) := by
  obtain ⟨i0, hi, hz0, hz1, hz2⟩ := info_parts infoStr
  have NE : ((⟨#[]⟩ : ByteArray).toList == []) = true := by rw [ByteArray.toList_eq]; rfl
  have EX : s.extract 0 s.size = s := ByteArray.extract_zero_size
  go_enter Tryd.func17, Tryd.ntmps17
  go_wp2_with fail
  go_loopw [5, 6, 7] (fun v f q wr => v = .slice (some ⟨w.heap.size, 0, none⟩) 0 0 ∧ f = .int .i64 0 ∧ q = .int .i64 0 ∧ Hid (wr.ownsRow w.heap.size 9 1 (.slice (some ⟨w.heap.size, 0, none⟩) 0 0) 0 (strs [])) ∧ Hid (Below w.heap.size w wr)) (fun _ _ _ _ => 0)
  case atStart => exact ⟨rfl, rfl, rfl, Lib.hid (World.ownsRow_lit w #[] 0 (Nat.le_refl _) (Nat.zero_le _) rfl), Lib.hid ((Below.refl _ _).alloc (Nat.le_refl _) _)⟩
  case round =>
    obtain ⟨rfl, rfl, rfl, RK, BK⟩ := hrel
    have hown := RK.out.alloc
    have hwz := BK.out.size
    go_wp2_with (at_builtin; refine wpList_append_own _ rfl _ _ 32 rfl w.heap.size 9 i0 (.string ByteArray.empty) 1 16 Tryd.underlying32 hi hz0 hz1 hz2 rfl (by decide) _ _ _ rfl (hown _) ⟨wr.heap.size, 0, none⟩ 1 1 [.string s] rfl rfl (by intro j u hj; match j, hj with | 0, hj => simp at hj; subst hj; simp [Addr.add]) (by intro u hu; simp at hu; subst hu; rfl) (by unfold maxLen; omega) (by omega) (by simp; omega) ?_; intro v' w1 hown' hgrow hnil)
    rw [strs_snoc] at hown'
    obtain ⟨g', c', rfl⟩ := own_shape hown'
    have R1 := Lib.hid hown'
    have B1 := Lib.hid ((BK.out.alloc hwz _).grown hgrow (by simp; omega) (fun k e => by cases e; exact Nat.le_refl _))
    clear hown' hgrow hnil RK BK hown
    go_wp2_with fail
    go_ret
    exact got w rfl rfl rfl R1.out B1.out

theorem empty_of {a : ByteArray} (h : ¬ 1 ≤ a.size) : a = ⟨#[]⟩ := by
  apply Spl.ext_data
  apply List.eq_nil_of_length_eq_zero
  rw [← Lib.size_eq]
  omega

theorem spec (s sep : ByteArray) (w : World) (hs : s.size ≤ 1048576) (hp : sep.size ≤ 1048576) :
    Calls Tryd.prog 17 #[.string s, .string sep] w (Cut w (pieces sep s)) := by
  by_cases h1 : 1 ≤ sep.size
  · have e : pieces sep s = Spl.S sep s := if_neg (by omega)
    rw [e]
    exact spec_some s sep w h1 hs hp
  · have e : pieces sep s = [s] := if_pos (by omega)
    rw [e, empty_of h1]
    exact spec_none s w hs

theorem split_len (sep s : ByteArray) (h1 : 1 ≤ sep.size) : (Spl.S sep s).length = Lib.countB s sep + 1 := Lib.splitB_all sep h1 0 _ s rfl
theorem count_le (sep s : ByteArray) (n : Nat) (h : (Spl.S sep s).length ≤ n) (h1 : 1 ≤ sep.size) : Lib.countB s sep + 1 ≤ n := by rw [← split_len sep s h1]; exact h

theorem lib_cut (s sep : ByteArray) (w W : World) (hW : w = W) (hsh : w.ShapedOpen Tryd.prog) (h1 : 1 ≤ sep.size) (hs : s.size ≤ 1048576) (hl : (Spl.S sep s).length ≤ maxLen) : Calls Tryd.prog 29 #[.string s, .string sep] W (Cut w (Spl.S sep s)) := by
  subst hW
  refine (Tryd.strings_Split_shaped s sep w hsh (by omega) h1).mono ?_
  rintro e w' ⟨rfl, rfl⟩
  refine ⟨w.heap.size, (Spl.S sep s).length, by rw [split_len sep s h1], ?_, (Below.refl _ _).alloc (Nat.le_refl _) _⟩
  have := World.ownsRow_lit (base := w.heap.size) (e := 9) (size := 1) w ((Spl.S sep s).map Value.string).toArray (Spl.S sep s).length (Nat.le_refl _) hl (by simp)
  exact this

set_option maxRecDepth 100000 in
set_option maxHeartbeats 1000000 in
theorem impl_some (s sep : ByteArray) (w : World) (hsh : w.ShapedOpen Tryd.prog) (h1 : 1 ≤ sep.size) (hs : s.size ≤ 1048576) (hl : (Spl.S sep s).length ≤ maxLen) :
    Calls Tryd.prog 14 #[.string s, .string sep] w (Cut w (Spl.S sep s)) := by
  have NE : (sep.toList == []) = false := not_empty h1
  have NE2 : ¬ sep.toList = [] := by rw [beq_eq_false_iff_ne] at NE; exact NE
  have C := fun W h => Lib.hid (lib_cut s sep w W h hsh h1 hs hl)
  clear hsh hl
  go_enter Tryd.func14, Tryd.ntmps14
  go_wp2_with fail
  refine (C _ rfl).out.mono ?_
  rintro e w1 ⟨g, c, rfl, o1, b1⟩
  have O1 := Lib.hid o1
  have B1 := Lib.hid b1
  clear o1 b1
  go_wp2_with fail
  go_ret
  exact ⟨g, c, rfl, O1.out, B1.out⟩

set_option maxRecDepth 100000 in
set_option maxHeartbeats 1000000 in
theorem impl_none (s : ByteArray) (w : World) :
    Calls Tryd.prog 14 #[.string s, .string ⟨#[]⟩] w (Cut w [s]) := by
  have NE : ((⟨#[]⟩ : ByteArray).toList == []) = true := by rw [ByteArray.toList_eq]; rfl
  have R := Lib.hid (World.ownsRow_lit (base := w.heap.size) (e := 9) (size := 1) w #[.string s] 1 (Nat.le_refl _) (by unfold maxLen; omega) rfl)
  go_enter Tryd.func14, Tryd.ntmps14
  go_wp2_with fail
  go_ret
  exact ⟨_, _, rfl, R.out, (Below.refl _ _).alloc (Nat.le_refl _) _⟩

theorem impl (s sep : ByteArray) (w : World) (hsh : w.ShapedOpen Tryd.prog) (hs : s.size ≤ 1048576) (hl : (pieces sep s).length ≤ maxLen) :
    Calls Tryd.prog 14 #[.string s, .string sep] w (Cut w (pieces sep s)) := by
  by_cases h1 : 1 ≤ sep.size
  · have e : pieces sep s = Spl.S sep s := if_neg (by omega)
    rw [e] at hl ⊢
    exact impl_some s sep w hsh h1 hs hl
  · have e : pieces sep s = [s] := if_pos (by omega)
    rw [e, empty_of h1]
    exact impl_none s w

/-- The world keeps its shape while nothing old is touched. -/
theorem shaped_below {w w' : World} (h : w.ShapedOpen Tryd.prog) (hb : Below w.heap.size w w') : w'.ShapedOpen Tryd.prog :=
  h.keptBut (may := fun _ => False) (hb.frame _) (fun _ hp => hp.elim)

end Go.Proofs.YtjpmhponcbbdcaaDoor.Split
