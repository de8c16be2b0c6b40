/- Windows of a track, of the program and of the model. -/
import Derived.Test.YtmbiomekbinplaaFw8
namespace Go.Proofs.Ytmbiomekbinplaa.Wn8
open Go.RowKit Go.Proofs.Ytmbiomekbinplaa.Mem Go.Proofs.Ytmbiomekbinplaa.Tk Go.Proofs.Ytmbiomekbinplaa.Ti8 Go.Proofs.Ytmbiomekbinplaa.Rw Go.Proofs.Ytmbiomekbinplaa.Meas Go.Proofs.Ytmbiomekbinplaa.Fw8
set_option linter.unusedVariables false
set_option linter.unusedSimpArgs false

theorem RowP.from {w w1 : World} {zs : List Int} {r : Bool} {e : Ending} {w' : World} (h : RowP w1 zs r e w') (hb : Below w.heap.size w w1) : RowP w zs r e w' := by
  obtain ⟨g, c, e1, ho, hb2⟩ := h
  exact ⟨g, c, e1, owns_base ho (Nat.le_trans hb.size (own_at ho)), hb.trans (hb2.mono hb.size)⟩
theorem fls_win {zs : List Int} {p q j : Nat} {v : Value} (hv : (fls ((zs.take q).drop p))[j]? = some v) : (fls zs)[p + j]? = some v := by
  unfold fls at hv ⊢
  rw [List.getElem?_map, List.getElem?_drop] at hv
  rw [List.getElem?_map]
  cases h : (zs.take q)[p + j]? with
  | none => rw [h] at hv; cases hv
  | some z =>
    have hq : p + j < q := by
      have := (List.getElem?_eq_some_iff.1 h).1
      rw [List.length_take] at this; omega
    rw [List.getElem?_take_of_lt hq] at h
    rw [h]
    have h2 : (zs.take q)[p + j]? = some z := by rw [List.getElem?_take_of_lt hq]; exact h
    rw [h2] at hv; exact hv
theorem ints_win {zs : List Int} {p q j : Nat} {v : Value} (hv : (ints ((zs.take q).drop p))[j]? = some v) : (ints zs)[p + j]? = some v := by
  unfold ints at hv ⊢
  rw [List.getElem?_map, List.getElem?_drop] at hv
  rw [List.getElem?_map]
  cases h : (zs.take q)[p + j]? with
  | none => rw [h] at hv; cases hv
  | some z =>
    have hq : p + j < q := by
      have := (List.getElem?_eq_some_iff.1 h).1
      rw [List.length_take] at this; omega
    rw [List.getElem?_take_of_lt hq] at h
    rw [h]
    have h2 : (zs.take q)[p + j]? = some z := by rw [List.getElem?_take_of_lt hq]; exact h
    rw [h2] at hv; exact hv
theorem rd_win {w : World} {B g o : Nat} {zs : List Int} (h : Rd w B (some ⟨g, o, none⟩) (fls zs)) {p q : Nat} (hp : p < q) (hq : q ≤ zs.length) : Rd w B (some ⟨g, p + o, none⟩) (fls ((zs.take q).drop p)) := by
  rw [Nat.add_comm p o]
  obtain ⟨b, o', e, hb, hc⟩ := h.get (k := p) (by rw [fls_len]; omega)
  injection e with e; injection e with e1 e2; subst e1 e2
  refine Or.inr ⟨g, o + p, rfl, hb, fun j v hv => ?_⟩
  rw [Nat.add_assoc]
  exact hc _ _ (fls_win hv)
theorem win_len {zs : List Int} {p q : Nat} (hq : q ≤ zs.length) : ((zs.take q).drop p).length = q - p := by simp; omega

set_option maxHeartbeats 1000000 in
theorem windowI (A : Option Addr) (n c : Nat) (zs : List Int) (a b : Int) (w : World) (hn : zs.length = n) (hb : n ≤ 1048576) (hr : Rd w w.heap.size A (ints zs)) :
    Calls Try.prog 17 #[.slice A n c, .int .i64 a, .int .i64 b] w (RowP w (wnL zs a b) (wnG zs a b)) := by
  have N := Lib.hid hn
  cases ht : tk zs
  · have C := Lib.hid (whole_no A n c zs w.heap.size w hn hb hr ht)
    have FG := Lib.hid (wnG_no (zs := zs) (a := a) (b := b) (by rw [ht]; intro h; cases h.1))
    rw [wnL_no FG.out, FG.out]
    clear hn hr ht
    go_enter Try.func17, Try.ntmps17
    go_wp2_with fail
    refine C.out.mono ?_
    rintro e w' ⟨rfl, rfl⟩
    go_wp2_with fail
    go_ret2
    exact rowP_nil w
  have C := Lib.hid (whole_yes A n c zs w hn hb hr ht)
  have bad : ¬ (0 ≤ a ∧ a ≤ b ∧ b ≤ zs.length) → Calls Try.prog 17 #[.slice A n c, .int .i64 a, .int .i64 b] w (RowP w (wnL zs a b) (wnG zs a b)) := by
    intro h
    have FG := Lib.hid (wnG_no (zs := zs) (a := a) (b := b) (fun c => h c.2))
    rw [wnL_no FG.out, FG.out]
    have h3 : a < 0 ∨ (0 ≤ a ∧ b < a) ∨ (0 ≤ a ∧ a ≤ b ∧ (n : Int) < b) := by omega
    clear hn hr ht h
    rcases h3 with h | ⟨h, h1⟩ | ⟨h, h1, h2⟩
    all_goals
      go_enter Try.func17, Try.ntmps17
      go_wp2_with fail
      refine C.out.mono ?_
      rintro e w1 ⟨g, rfl, ho, hb1⟩
      rw [N.out]
      have BB := Lib.hid hb1
      clear ho hb1
      go_wp2_with fail
      go_ret2
      exact RowP.from (rowP_nil w1) BB.out
  by_cases hg : 0 ≤ a ∧ a ≤ b ∧ b ≤ zs.length
  case neg => exact bad hg
  clear bad
  obtain ⟨h1, h2, h3⟩ := hg
  obtain ⟨p, rfl⟩ := Int.eq_ofNat_of_zero_le h1
  obtain ⟨q, rfl⟩ := Int.eq_ofNat_of_zero_le (Int.le_trans h1 h2)
  have FG := Lib.hid (wnG_iff.2 ⟨ht, h1, h2, h3⟩)
  have FL := Lib.hid (show wnL zs (p : Int) (q : Int) = (zs.take q).drop p from wnL_yes FG.out)
  have FN := Lib.hid (win_len (p := p) (q := q) (zs := zs) (by omega))
  have OK := Lib.hid (okM (okT_drop (okT_take (tk_iff.1 ht).2 q) p))
  rw [FL.out, FG.out]
  have hpq : p ≤ q := by omega
  have hqn : q ≤ n := by omega
  have d2 : ¬ q < p := by omega
  have d3 : ¬ n < q := by omega
  clear hn hr ht h1 h2 h3
  by_cases e : p < q
  · have RWF := Lib.hid (show ∀ W B g, Rd W B (some ⟨g, 0, none⟩) (fls zs) → Rd W B (some ⟨g, p, none⟩) (fls ((zs.take q).drop p)) from fun W B g h => rd_win h e (by rw [N.out]; exact hqn))
    obtain ⟨L, hL⟩ : ∃ L, (zs.take q).drop p = L := ⟨_, rfl⟩
    rw [hL] at FL FN OK RWF ⊢
    clear hL
    go_enter Try.func17, Try.ntmps17
    go_wp2_with fail
    refine C.out.mono ?_
    rintro e w1 ⟨g, rfl, ho, hb1⟩
    rw [N.out] at ho
    rw [N.out]
    have BB := Lib.hid hb1
    have RW := Lib.hid (RWF.out _ _ _ (Rd.own ho))
    clear ho hb1
    go_wp2_with fail
    with_reducible refine (toldTrack _ _ _ _ _ FN.out (by omega) RW.out OK.out).mono ?_
    rintro e w2 ⟨g2, c2, rfl, ho, hb2⟩
    have K := Lib.hid (And.intro ho hb2)
    clear ho hb2
    go_wp2_with fail
    go_ret2
    exact RowP.from ⟨g2, c2, rfl, K.out.1, K.out.2⟩ BB.out
  · obtain rfl : p = q := by omega
    have FZ := Lib.hid (show (zs.take p).drop p = [] from List.eq_nil_of_length_eq_zero (by rw [FN.out]; omega))
    rw [FZ.out]
    go_enter Try.func17, Try.ntmps17
    go_wp2_with fail
    refine C.out.mono ?_
    rintro e w1 ⟨g, rfl, ho, hb1⟩
    rw [N.out] at ho
    rw [N.out]
    have BB := Lib.hid hb1
    clear ho hb1
    go_wp2_with fail
    refine (toldTrack _ 0 _ [] _ rfl (by omega) (Rd.nil _ _ _) (fun z h => by cases h)).mono ?_
    rintro e w2 ⟨g2, c2, rfl, ho, hb2⟩
    have K := Lib.hid (And.intro ho hb2)
    clear ho hb2
    go_wp2_with fail
    go_ret2
    exact RowP.from ⟨g2, c2, rfl, K.out.1, K.out.2⟩ BB.out

set_option maxHeartbeats 1000000 in
theorem windowS (b0 n c : Nat) (zs : List Int) (a b : Int) (w : World) (hn : zs.length = n) (hb : n ≤ 1048576) (hc : n ≤ c) (hr : Rd w w.heap.size (some ⟨b0, 0, none⟩) (ints zs)) :
    Calls Try.prog 18 #[.slice (some ⟨b0, 0, none⟩) n c, .int .i64 a, .int .i64 b] w (RowP w (wnL zs a b) (wnG zs a b)) := by
  have N := Lib.hid hn
  have C := Lib.hid (trkS (some ⟨b0, 0, none⟩) n c zs w.heap.size w hn hb hr)
  have R := Lib.hid hr
  by_cases hg : tk zs = true ∧ 0 ≤ a ∧ a ≤ b ∧ b ≤ zs.length
  case neg =>
    have FG := Lib.hid (wnG_no (zs := zs) (a := a) (b := b) hg)
    rw [wnL_no FG.out, FG.out]
    obtain ⟨r, hrr⟩ : ∃ r, tk zs = r := ⟨_, rfl⟩
    rw [hrr] at C hg
    have h3 : r = false ∨ r = true ∧ (a < 0 ∨ (0 ≤ a ∧ b < a) ∨ (0 ≤ a ∧ a ≤ b ∧ (n : Int) < b)) := by
      cases r
      · exact Or.inl rfl
      · refine Or.inr ⟨rfl, ?_⟩
        have : ¬ (0 ≤ a ∧ a ≤ b ∧ b ≤ zs.length) := fun c => hg ⟨rfl, c⟩
        omega
    clear hn hr hg hrr
    rcases h3 with rfl | ⟨rfl, h | ⟨h, h1⟩ | ⟨h, h1, h2⟩⟩
    all_goals
      go_enter Try.func18, Try.ntmps18
      go_wp2_with fail
      refine C.out.mono ?_
      rintro e w1 ⟨rfl, rfl⟩
      go_wp2_with fail
      go_ret2
      exact rowP_nil w
  obtain ⟨ht, h1, h2, h3⟩ := hg
  rw [ht] at C
  obtain ⟨p, rfl⟩ := Int.eq_ofNat_of_zero_le h1
  obtain ⟨q, rfl⟩ := Int.eq_ofNat_of_zero_le (Int.le_trans h1 h2)
  obtain ⟨i0, hi, hz0, hz1, hz2⟩ := info_of infoI
  have FG := Lib.hid (wnG_iff.2 ⟨ht, h1, h2, h3⟩)
  have FL := Lib.hid (show wnL zs (p : Int) (q : Int) = (zs.take q).drop p from wnL_yes FG.out)
  have FN := Lib.hid (win_len (p := p) (q := q) (zs := zs) (by omega))
  rw [FL.out, FG.out]
  have hpq : p ≤ q := by omega
  have hqn : q ≤ n := by omega
  have hqc : q ≤ c := by omega
  have R0 := Lib.hid (World.ownsRow_lit (base := w.heap.size) (e := 3) (size := 1) w #[] 0 (Nat.le_refl _) (Nat.zero_le _) rfl)
  have B0 := Lib.hid (show Below w.heap.size w (w.alloc (.cells #[] 3)) from (Below.refl _ _).alloc (Nat.le_refl _) _)
  have d2 : ¬ q < p := by omega
  have d3 : ¬ n < q := by omega
  clear hn hr ht h1 h2 h3
  by_cases e : p < q
  · have RW := Lib.hid (show ∀ j v, (ints ((zs.take q).drop p))[j]? = some v → (w.alloc (.cells #[] 3)).cell? ((⟨b0, p, none⟩ : Addr).add j) = some v from fun j v hv => by
      obtain ⟨b', o', e', hb', hc'⟩ := (R.out.below B0.out).get (k := p) (by rw [ints_len, N.out]; omega)
      injection e' with e'; injection e' with e1 e2; subst e1 e2
      have := hc' (p + j) v (ints_win hv)
      rw [show (⟨b0, p, none⟩ : Addr).add j = ⟨b0, 0 + (p + j), none⟩ by simp [Addr.add]]
      exact this)
    have hcp : c ≠ p := by omega
    obtain ⟨L, hL⟩ : ∃ L, (zs.take q).drop p = L := ⟨_, rfl⟩
    rw [hL] at FL FN RW ⊢
    clear hL
    go_enter Try.func18, Try.ntmps18
    go_wp2_with fail
    refine C.out.mono ?_
    rintro e w1 ⟨rfl, rfl⟩
    go_wp2_with (at_builtin; refine wpList_append_own _ rfl _ _ 24 rfl w.heap.size 3 i0 (.int .i64 0) 1 8 Try.underlying24 hi hz0 hz1 hz2 rfl (by decide) _ _ _ rfl R0.out ⟨b0, p, none⟩ (q - p) (c - p) (ints L) rfl (by rw [ints_len, FN.out, Nat.mul_one]) RW.out (fun u hu => by obtain ⟨z, _, rfl⟩ := List.mem_map.1 hu; rfl) (by unfold maxLen; omega) (by omega) (by simp) ?_)
    intro v' w5 hown' hgrow hnil
    have hg : ∃ g c, v' = .slice (some ⟨g, 0, none⟩) (q - p) c := by
      rcases hown'.2 with ⟨e1, _⟩ | ⟨g, cap, cur, e1, _⟩
      · exact absurd e1 hnil
      · exact ⟨g, cap, e1⟩
    obtain ⟨g5, c5, rfl⟩ := hg
    have R5 := Lib.hid hown'
    have B5 := Lib.hid (B0.out.grown hgrow B0.out.size (fun k hk => by cases hk; exact Nat.le_refl _))
    clear hown' hgrow hnil R0 B0
    go_wp2_with fail
    go_ret2
    refine ⟨g5, c5, ?_, ?_, B5.out⟩
    · rw [FN.out]; rfl
    · rw [FN.out]; exact R5.out
  · obtain rfl : p = q := by omega
    have FZ := Lib.hid (show (zs.take p).drop p = [] from List.eq_nil_of_length_eq_zero (by rw [FN.out]; omega))
    rw [FZ.out]
    have hcc : c = p ∨ c ≠ p := by omega
    rcases hcc with hcp | hcp
    rotate_left
    · have hcp2 : p < c := by omega
      go_enter Try.func18, Try.ntmps18
      go_wp2_with fail
      refine C.out.mono ?_
      rintro e w1 ⟨rfl, rfl⟩
      go_wp2_with (at_builtin; refine wpList_append_own _ rfl _ _ 24 rfl w.heap.size 3 i0 (.int .i64 0) 1 8 Try.underlying24 hi hz0 hz1 hz2 rfl (by decide) _ _ _ rfl R0.out _ 0 _ [] rfl rfl (fun j u hj => by cases hj) (fun u hu => by cases hu) (by unfold maxLen; omega) (by omega) (by simp) ?_)
      intro v' w5 hown' hgrow hnil
      have hg : ∃ g c, v' = .slice (some ⟨g, 0, none⟩) (0) c := by
        rcases hown'.2 with ⟨e1, _⟩ | ⟨g, cap, cur, e1, _⟩
        · exact absurd e1 hnil
        · exact ⟨g, cap, e1⟩
      obtain ⟨g5, c5, rfl⟩ := hg
      have R5 := Lib.hid hown'
      have B5 := Lib.hid (B0.out.grown hgrow B0.out.size (fun k hk => by cases hk; exact Nat.le_refl _))
      clear hown' hgrow hnil R0 B0
      go_wp2_with fail
      go_ret2
      exact ⟨g5, c5, rfl, R5.out, B5.out⟩
    obtain rfl : p = c := hcp.symm
    obtain rfl : p = n := by omega
    clear hpq hqn hqc d2 d3 e hc
    all_goals
      go_enter Try.func18, Try.ntmps18
      go_wp2_with fail
      refine C.out.mono ?_
      rintro e w1 ⟨rfl, rfl⟩
      go_wp2_with (at_builtin; refine wpList_append_own _ rfl _ _ 24 rfl w.heap.size 3 i0 (.int .i64 0) 1 8 Try.underlying24 hi hz0 hz1 hz2 rfl (by decide) _ _ _ rfl R0.out _ 0 _ [] rfl rfl (fun j u hj => by cases hj) (fun u hu => by cases hu) (by unfold maxLen; omega) (by omega) (by simp) ?_)
      intro v' w5 hown' hgrow hnil
      have hg : ∃ g c, v' = .slice (some ⟨g, 0, none⟩) (0) c := by
        rcases hown'.2 with ⟨e1, _⟩ | ⟨g, cap, cur, e1, _⟩
        · exact absurd e1 hnil
        · exact ⟨g, cap, e1⟩
      obtain ⟨g5, c5, rfl⟩ := hg
      have R5 := Lib.hid hown'
      have B5 := Lib.hid (B0.out.grown hgrow B0.out.size (fun k hk => by cases hk; exact Nat.le_refl _))
      clear hown' hgrow hnil R0 B0
      go_wp2_with fail
      go_ret2
      exact ⟨g5, c5, rfl, R5.out, B5.out⟩
end Go.Proofs.Ytmbiomekbinplaa.Wn8
