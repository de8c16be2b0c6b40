/- The runs of a track, of the program and of the model. -/
import Derived.Test.YtmbiomekbinplaaFx8
import Derived.Test.YtmbiomekbinplaaRn8
namespace Go.Proofs.Ytmbiomekbinplaa.Ro8
open Go.RowKit Go.Proofs.Ytmbiomekbinplaa.Mem Go.Proofs.Ytmbiomekbinplaa.Tk Go.Proofs.Ytmbiomekbinplaa.Ti8 Go.Proofs.Ytmbiomekbinplaa.Rw Go.Proofs.Ytmbiomekbinplaa.Meas Go.Proofs.Ytmbiomekbinplaa.Fw8
set_option linter.unusedVariables false
set_option linter.unusedSimpArgs false

open Go.Proofs.Ytmbiomekbinplaa.Fx8 Go.Proofs.Ytmbiomekbinplaa.Rn8
theorem infoR : (Try.prog.info? 35).map (fun i => (i.zero, i.size, i.bytes)) = some (some (.agg #[.int .i64 0, .int .i64 0]), 2, 16) := by kernel_rfl
/-- A list of the call's own that holds these runs. -/
def RowR (w : World) (rs : List (Int × Int)) (e : Ending) (w' : World) : Prop :=
  ∃ g c, e = .returned (.slice (some ⟨g, 0, none⟩) rs.length c) ∧ w'.ownsRow w.heap.size 35 2 (.slice (some ⟨g, 0, none⟩) rs.length c) rs.length (rls rs) ∧ Below w.heap.size w w'
theorem row_nilR (w : World) : RowR w [] (.returned (.slice (some ⟨w.heap.size, 0, none⟩) 0 0)) (w.alloc (.cells #[] 35)) :=
  ⟨_, _, rfl, World.ownsRow_lit (base := w.heap.size) (e := 35) (size := 2) w #[] 0 (Nat.le_refl _) (Nat.zero_le _) rfl, (Below.refl _ _).alloc (Nat.le_refl _) _⟩
theorem rls_snoc (rs : List (Int × Int)) (z c : Int) : rls rs ++ [.int .i64 z, .int .i64 c] = rls (rs ++ [(z, c)]) := by unfold rls; rw [List.flatMap_append]; rfl
theorem rls_set {rs : List (Int × Int)} {z c : Int} : (rls (rs ++ [(z, c)])).set (rs.length * 2 + 1) (.int .i64 (c + 1)) = rls (rs ++ [(z, c + 1)]) := by
  rw [← rls_snoc, ← rls_snoc, List.set_append_right _ _ (by rw [rls_len]; omega), rls_len, show rs.length * 2 + 1 - rs.length * 2 = 1 by omega]; rfl
theorem rls_last (rs : List (Int × Int)) (z c : Int) : (rls (rs ++ [(z, c)]))[rs.length * 2 + 1]? = some (.int .i64 c) := by
  rw [← rls_snoc, List.getElem?_append_right (by rw [rls_len]; omega), rls_len, show rs.length * 2 + 1 - rs.length * 2 = 1 by omega]; rfl
/-- One level more is a new run, or the last one is longer. -/
theorem rn_step {zs : List Int} {k : Nat} {z : Int} (hz : zs[k]? = some z) : ((k = 0 ∨ ∃ y, 0 < k ∧ zs[k - 1]? = some y ∧ y ≠ z) ∧ rn (zs.take (k + 1)) = rn (zs.take k) ++ [(z, 1)]) ∨
    (0 < k ∧ zs[k - 1]? = some z ∧ ∃ rs c, rn (zs.take k) = rs ++ [(z, c)] ∧ rn (zs.take (k + 1)) = rs ++ [(z, c + 1)]) := by
  rw [rn_take hz]
  by_cases h0 : k = 0
  · subst h0
    exact Or.inl ⟨Or.inl rfl, rfl⟩
  · have hk := (List.getElem?_eq_some_iff.1 hz).1
    obtain ⟨y, hy⟩ : ∃ y, zs[k - 1]? = some y := ⟨_, List.getElem?_eq_getElem (by omega)⟩
    obtain ⟨c, hc⟩ := rn_last hy
    rw [show k - 1 + 1 = k by omega] at hc
    by_cases hyz : y = z
    · subst hyz
      refine Or.inr ⟨by omega, hy, (rn (zs.take k)).dropLast, c, ?_, addR_old hc⟩
      have hne : rn (zs.take k) ≠ [] := by intro e; rw [e] at hc; cases hc
      have h2 := List.dropLast_concat_getLast hne
      rw [List.getLast?_eq_some_getLast hne] at hc
      injection hc with hc
      rw [hc] at h2
      exact h2.symm
    · exact Or.inl ⟨Or.inr ⟨y, by omega, hy, hyz⟩, addR_new (Or.inr ⟨y, c, hc, hyz⟩)⟩
/-- Counts are small. -/
theorem rn_count {zs : List Int} {k : Nat} (hk : k ≤ zs.length) : ∀ r ∈ rn (zs.take k), 1 ≤ r.2 ∧ r.2 ≤ k := by
  induction k with
  | zero => intro r hr; simp [rn] at hr
  | succ k ih =>
    intro r hr
    have hz := List.getElem?_eq_getElem (by omega : k < zs.length)
    rcases rn_step hz with ⟨_, e⟩ | ⟨_, _, rs, c, e1, e2⟩
    · rw [e] at hr
      rcases List.mem_append.1 hr with hr | hr
      · have := ih (by omega) r hr; omega
      · rw [List.mem_singleton.1 hr]; show (1 : Int) ≤ 1 ∧ (1 : Int) ≤ ((k + 1 : Nat) : Int); omega
    · rw [e2] at hr
      rw [e1] at ih
      rcases List.mem_append.1 hr with hr | hr
      · have := ih (by omega) r (List.mem_append_left _ hr); omega
      · have := ih (by omega) (zs[k], c) (by simp)
        rw [List.mem_singleton.1 hr]
        simp only [] at this ⊢
        omega

theorem rows_ne {w : World} {base base' s s' g g' n n' c c' : Nat} {e e' : TypeId} {xs xs' : List Value} (h : w.ownsRow base e s (.slice (some ⟨g, 0, none⟩) n c) n xs) (h' : w.ownsRow base' e' s' (.slice (some ⟨g', 0, none⟩) n' c') n' xs') (ne : e ≠ e') : g ≠ g' := by
  intro hg
  subst hg
  rcases h.2 with ⟨e1, _⟩ | ⟨a, cap, cur, e1, _, e3, _⟩
  · cases e1
  rcases h'.2 with ⟨f1, _⟩ | ⟨b, cap', cur', f1, _, f3, _⟩
  · cases f1
  injection e1 with e1; injection e1 with e1; injection e1 with e1
  injection f1 with f1; injection f1 with f1; injection f1 with f1
  subst e1 f1
  rw [e3] at f3
  injection f3 with f3
  injection f3 with _ f3
  exact ne f3
theorem tne : (35 : TypeId) ≠ 58 := by decide
theorem rls_push (rs : List (Int × Int)) (z : Int) : (rls rs ++ ([.int .i64 z, .int .i64 0] : List Value)).set (rs.length * 2 + 1) (.int .i64 1) = rls (rs ++ [(z, 1)]) := by
  rw [rls_snoc]; exact rls_set (c := 0)

set_option maxHeartbeats 4000000 in
theorem runsI (A : Option Addr) (n c : Nat) (zs : List Int) (w : World) (hn : zs.length = n) (hb : n ≤ 1048576) (hr : Rd w w.heap.size A (ints zs)) :
    Calls Try.prog 13 #[.slice A n c] w (RowR w (rnV zs)) := by
  obtain ⟨i0, hi, hz0, hz1, hz2⟩ := info_of infoR
  have N := Lib.hid hn
  have R := Lib.hid hr
  have O1 := Lib.hid (World.ownsRow_lit (base := w.heap.size) (e := 35) (size := 2) w #[] 0 (Nat.le_refl _) (Nat.zero_le _) rfl)
  have B1 := Lib.hid (show Below w.heap.size w (w.alloc (.cells #[] 35)) from (Below.refl _ _).alloc (Nat.le_refl _) _)
  cases ht : tk zs
  · have C := Lib.hid (whole_no A n c zs w.heap.size (w.alloc (.cells #[] 35)) hn hb (hr.below B1.out) ht)
    have FG := Lib.hid (rnV_no ht)
    clear hn hr ht
    go_enter Try.func13, Try.ntmps13
    go_wp2_with fail
    refine C.out.mono ?_
    rintro e w' ⟨rfl, rfl⟩
    go_wp2_with fail
    go_loopw [3, 18] (fun v i wr => i = .int .i64 0 ∧ v = .slice (some ⟨w.heap.size, 0, none⟩) 0 0 ∧ Hid (wr.ownsRow w.heap.size 35 2 (.slice (some ⟨w.heap.size, 0, none⟩) 0 0) 0 []) ∧ Hid (Below w.heap.size w wr)) (fun _ _ _ => 0)
    case atStart => exact ⟨rfl, rfl, O1, B1⟩
    case round =>
      obtain ⟨rfl, rfl, OK, BK⟩ := hrel
      clear O1 B1
      go_wp2_with fail
      go_ret
      rw [FG.out]; exact ⟨_, _, rfl, OK.out, BK.out⟩
  have C := Lib.hid (whole_yes A n c zs (w.alloc (.cells #[] 35)) hn hb ((hr.below B1.out).more B1.out.size) ht)
  have FL := Lib.hid (rnV_yes ht)
  have D := Lib.hid (tk_iff.1 ht).2
  have n64 : n ≤ 64 := by have := (tk_iff.1 ht).1; omega
  clear hn hr ht
  go_enter Try.func13, Try.ntmps13
  go_wp2_with fail
  refine C.out.mono ?_
  rintro e w1 ⟨g, rfl, ho, hb1⟩
  rw [N.out] at ho
  rw [N.out]
  have O2 := Lib.hid (owns_below O1.out hb1)
  have B2 := Lib.hid (B1.out.trans (hb1.mono B1.out.size))
  have OF0 := Lib.hid ho
  clear ho hb1 O1 B1 C
  go_wp2_with fail
  go_loopw [3, 18] (fun v i wr => ∃ k : Nat, k ≤ n ∧ i = .int .i64 k ∧ (∃ gb gc, v = .slice (some ⟨gb, 0, none⟩) (rn (zs.take k)).length gc) ∧ Hid (wr.ownsRow w.heap.size 35 2 v (rn (zs.take k)).length (rls (rn (zs.take k)))) ∧ Hid (wr.ownsRow (w.alloc (.cells #[] 35)).heap.size 58 1 (.slice (some ⟨g, 0, none⟩) n n) n (fls zs)) ∧ Hid (Below w.heap.size w wr)) (fun _ i _ => n - (intOf i).toNat)
  case atStart => exact ⟨0, Nat.zero_le _, rfl, ⟨_, _, rfl⟩, O2, OF0, B2⟩
  case round =>
    obtain ⟨k, hk, rfl, ⟨gb, gc, rfl⟩, OK, OF, BK⟩ := hrel
    clear O2 OF0 B2
    have HC := Lib.hid (rn_count (zs := zs) (k := k) (by rw [N.out]; exact hk))
    have hql : (rn (zs.take k)).length ≤ k := rn_len zs k (by rw [N.out]; exact hk)
    by_cases hlt : k < n
    case neg =>
      obtain rfl : k = n := by omega
      have OE := Lib.hid OK.out
      rw [show rn (zs.take k) = rn zs by rw [← N.out, List.take_length]] at OE ⊢
      clear OK hql HC
      go_wp2_with fail
      go_ret
      rw [FL.out]
      exact ⟨gb, gc, rfl, OE.out, BK.out⟩
    obtain ⟨z, hz⟩ : ∃ z, zs[k]? = some z := ⟨_, List.getElem?_eq_getElem (by rw [N.out]; exact hlt)⟩
    have hz3 := okT_get D.out hz
    have ST := Lib.hid (rn_step hz)
    have c1 := (OF.out.cellAt k (by omega)).trans (fls_get hz)
    obtain ⟨L, hL⟩ : ∃ L, rn (zs.take k) = L := ⟨_, rfl⟩
    rw [hL] at OK HC hql ST
    rw [hL]
    obtain ⟨q, hq⟩ : ∃ q, L.length = q := ⟨_, rfl⟩
    rw [hq] at OK hql
    rw [hq]
    have HQ := Lib.hid hq
    clear hL hq
    rcases ST.out with ⟨h0, hE⟩ | ⟨h0, hy, rs, cn, hE1, hE2⟩
    · have E := Lib.hid hE
      rcases h0 with rfl | ⟨y, h0, hy, hne⟩
      · clear hE ST HC
        have hown := OK.out.alloc
        have HS := Lib.hid (own_base OK.out)
        have HW := Lib.hid BK.out.size
        have NE := Lib.hid (rows_ne OK.out OF.out tne)
        have CT := Lib.hid (fun v => told z (by omega) (by omega) v)
        clear hz hz3
        go_wp2_with fail
        refine (CT.out _).mono ?_
        rintro e w' ⟨rfl, rfl⟩
        go_wp2_with (at_builtin; refine wpList_append_own _ rfl _ _ 31 rfl w.heap.size 35 i0 (.agg #[.int .i64 0, .int .i64 0]) 2 16 Try.underlying31 hi hz0 hz1 hz2 rfl (by decide) _ _ _ rfl (hown _) ⟨wr.heap.size, 0, none⟩ 1 1 [.int .i64 z, .int .i64 0] rfl rfl (by intro j u hj; match j, hj with | 0, hj => simp at hj; subst hj; simp [Addr.add] | 1, hj => simp at hj; subst hj; simp [Addr.add]) (by intro u hu; simp at hu; rcases hu with rfl | rfl <;> rfl) (by unfold maxLen; omega) (by omega) (by have := HW.out; simp; omega) ?_)
        intro v' w5 hown' hgrow hnil
        obtain ⟨g5, c5, rfl⟩ := own_mk hown'
        have OF5 := Lib.hid (owns_grown (OF.out.alloc _) hgrow (fun k hk => by cases hk; intro hk2; cases hk2; exact NE.out rfl))
        have BB := (BK.out.alloc BK.out.size _).grown hgrow (by have := HW.out; simp; omega) (fun j hj => HS.out j hj)
        have x1 := (hown'.cellAt (q * 2 + 1) (by omega)).trans (show (rls L ++ ([.int .i64 z, .int .i64 0] : List Value))[q * 2 + 1]? = some (.int .i64 0) by rw [rls_snoc, ← HQ.out]; exact rls_last L z 0)
        have x2 := hown'.frozenAt (q * 2 + 1)
        obtain ⟨r1, r2⟩ := hown'.stored (q * 2 + 1) (.int .i64 1)
        rw [← HQ.out, rls_push, HQ.out] at r1
        have R1 := Lib.hid r1
        have B5 := Lib.hid (BB.grown r2 BB.size (fun j hj => by cases hj; exact own_at hown'))
        have OF6 := Lib.hid (owns_grown OF5.out r2 (fun k hk => by cases hk; intro hk2; cases hk2; exact rows_ne hown' OF5.out tne rfl))
        clear hown' hgrow hnil HS HW hown r1 r2 BB BK OK OF OF5 NE
        go_wp2_with fail
        go_roundw
        case rel =>
          refine ⟨0 + 1, by omega, by go_num, ?_, ?_, OF6, B5⟩
          · rw [E.out, List.length_append, HQ.out]; exact ⟨_, _, rfl⟩
          · rw [E.out, List.length_append, HQ.out]; exact R1
        case measure => simp [intOf]; omega
      · have hy3 := okT_get D.out hy
        have c0 := (OF.out.cellAt (k - 1) (by omega)).trans (fls_get hy)
        have or := order32 z y (by omega) (by omega)
        have t1 : (FloatKind.f32.format.order (f32 z) (f32 y) != some .eq) = true := by
          rw [or]
          rcases Int.lt_trichotomy z y with h | h | h
          · rw [cmp_lt h]; rfl
          · exact absurd h.symm hne
          · rw [cmp_gt h]; rfl
        clear or
        have i1 : ((k : Int) - 1) = ((k - 1 : Nat) : Int) := by omega
        have i2 : k ≠ 0 := by omega
        have i3 : ((k : Int) == 0) = false := by simpa using i2
        clear hE ST HC hy3
        have hk0 : 0 < k := h0
        have hown := OK.out.alloc
        have HS := Lib.hid (own_base OK.out)
        have HW := Lib.hid BK.out.size
        have NE := Lib.hid (rows_ne OK.out OF.out tne)
        have CT := Lib.hid (fun v => told z (by omega) (by omega) v)
        clear hz hz3 hy hne
        go_wp2_with fail
        refine (CT.out _).mono ?_
        rintro e w' ⟨rfl, rfl⟩
        go_wp2_with (at_builtin; refine wpList_append_own _ rfl _ _ 31 rfl w.heap.size 35 i0 (.agg #[.int .i64 0, .int .i64 0]) 2 16 Try.underlying31 hi hz0 hz1 hz2 rfl (by decide) _ _ _ rfl (hown _) ⟨wr.heap.size, 0, none⟩ 1 1 [.int .i64 z, .int .i64 0] rfl rfl (by intro j u hj; match j, hj with | 0, hj => simp at hj; subst hj; simp [Addr.add] | 1, hj => simp at hj; subst hj; simp [Addr.add]) (by intro u hu; simp at hu; rcases hu with rfl | rfl <;> rfl) (by unfold maxLen; omega) (by omega) (by have := HW.out; simp; omega) ?_)
        intro v' w5 hown' hgrow hnil
        obtain ⟨g5, c5, rfl⟩ := own_mk hown'
        have OF5 := Lib.hid (owns_grown (OF.out.alloc _) hgrow (fun k hk => by cases hk; intro hk2; cases hk2; exact NE.out rfl))
        have BB := (BK.out.alloc BK.out.size _).grown hgrow (by have := HW.out; simp; omega) (fun j hj => HS.out j hj)
        have x1 := (hown'.cellAt (q * 2 + 1) (by omega)).trans (show (rls L ++ ([.int .i64 z, .int .i64 0] : List Value))[q * 2 + 1]? = some (.int .i64 0) by rw [rls_snoc, ← HQ.out]; exact rls_last L z 0)
        have x2 := hown'.frozenAt (q * 2 + 1)
        obtain ⟨r1, r2⟩ := hown'.stored (q * 2 + 1) (.int .i64 1)
        rw [← HQ.out, rls_push, HQ.out] at r1
        have R1 := Lib.hid r1
        have B5 := Lib.hid (BB.grown r2 BB.size (fun j hj => by cases hj; exact own_at hown'))
        have OF6 := Lib.hid (owns_grown OF5.out r2 (fun k hk => by cases hk; intro hk2; cases hk2; exact rows_ne hown' OF5.out tne rfl))
        clear hown' hgrow hnil HS HW hown r1 r2 BB BK OK OF OF5 NE
        go_wp2_with fail
        go_roundw
        case rel =>
          refine ⟨k + 1, by omega, by go_num, ?_, ?_, OF6, B5⟩
          · rw [E.out, List.length_append, HQ.out]; exact ⟨_, _, rfl⟩
          · rw [E.out, List.length_append, HQ.out]; exact R1
        case measure => simp [intOf]; omega
    · have E := Lib.hid hE2
      have EL := Lib.hid hE1
      have hcn := HC.out (z, cn) (by rw [hE1]; simp)
      obtain ⟨hc1, hc2⟩ := hcn
      simp only [] at hc1 hc2
      obtain ⟨p, hp⟩ : ∃ p, rs.length = p := ⟨_, rfl⟩
      have HPp := Lib.hid hp
      obtain rfl : q = p + 1 := by rw [← HQ.out, hE1, List.length_append, hp]; rfl
      have c0 := (OF.out.cellAt (k - 1) (by omega)).trans (fls_get hy)
      have or := order32 z z (by omega) (by omega)
      have t1 : (FloatKind.f32.format.order (f32 z) (f32 z) != some .eq) = false := by rw [or, cmp_eq rfl]; rfl
      clear or
      have i1 : ((k : Int) - 1) = ((k - 1 : Nat) : Int) := by omega
      have i2 : k ≠ 0 := by omega
      have i3 : ((k : Int) == 0) = false := by simpa using i2
      clear hE1 hE2 ST HC hp
      have hk0 : 0 < k := h0
      have x1 := (OK.out.cellAt (p * 2 + 1) (by omega)).trans (show (rls L)[p * 2 + 1]? = some (.int .i64 cn) by rw [EL.out, ← HPp.out]; exact rls_last rs z cn)
      have x2 := OK.out.frozenAt (p * 2 + 1)
      obtain ⟨r1, r2⟩ := OK.out.stored (p * 2 + 1) (.int .i64 (cn + 1))
      have RE := Lib.hid (show (rls L).set (p * 2 + 1) (.int .i64 (cn + 1)) = rls (rs ++ [(z, cn + 1)]) by rw [EL.out, ← HPp.out]; exact rls_set)
      rw [RE.out] at r1
      have R1 := Lib.hid r1
      have B5 := Lib.hid (BK.out.grown r2 BK.out.size (fun j hj => by cases hj; exact own_at OK.out))
      have OF6 := Lib.hid (owns_grown OF.out r2 (fun k hk => by cases hk; intro hk2; cases hk2; exact rows_ne OK.out OF.out tne rfl))
      clear hz hz3 hy
      clear r1 r2 OK BK RE OF
      go_wp2_with fail
      go_roundw
      case rel =>
        refine ⟨k + 1, by omega, by go_num, ?_, ?_, OF6, B5⟩
        · rw [E.out, List.length_append, HPp.out]; exact ⟨_, _, rfl⟩
        · rw [E.out, List.length_append, HPp.out]; exact R1
      case measure => simp [intOf]; omega

set_option maxHeartbeats 4000000 in
theorem runsS (A : Option Addr) (n c : Nat) (zs : List Int) (w : World) (hn : zs.length = n) (hb : n ≤ 1048576) (hr : Rd w w.heap.size A (ints zs)) :
    Calls Try.prog 39 #[.slice A n c] w (RowR w (rnV zs)) := by
  obtain ⟨i0, hi, hz0, hz1, hz2⟩ := info_of infoR
  have N := Lib.hid hn
  have R := Lib.hid hr
  have O1 := Lib.hid (World.ownsRow_lit (base := w.heap.size) (e := 35) (size := 2) w #[] 0 (Nat.le_refl _) (Nat.zero_le _) rfl)
  have B1 := Lib.hid (show Below w.heap.size w (w.alloc (.cells #[] 35)) from (Below.refl _ _).alloc (Nat.le_refl _) _)
  have CT := Lib.hid (fun (W : World) (hW : Below w.heap.size w W) => trkS A n c zs w.heap.size W hn hb (hr.below hW))
  cases ht : tk zs
  · have FG := Lib.hid (rnV_no ht)
    rw [ht] at CT
    clear hn hr ht
    go_enter Try.func39, Try.ntmps39
    go_wp2_with fail
    go_loopw [3, 9] (fun v i wr => i = .int .i64 0 ∧ v = .slice (some ⟨w.heap.size, 0, none⟩) 0 0 ∧ Hid (wr.ownsRow w.heap.size 35 2 (.slice (some ⟨w.heap.size, 0, none⟩) 0 0) 0 []) ∧ Hid (Below w.heap.size w wr)) (fun _ _ _ => 0)
    case atStart => exact ⟨rfl, rfl, O1, B1⟩
    case round =>
      obtain ⟨rfl, rfl, OK, BK⟩ := hrel
      clear O1 B1
      have CK := Lib.hid (CT.out _ BK.out)
      by_cases h0 : 0 < n
      · obtain ⟨z, hz⟩ : ∃ z, zs[0]? = some z := ⟨_, List.getElem?_eq_getElem (by rw [N.out]; exact h0)⟩
        obtain ⟨b1, o1, eA, hb1, c1⟩ := rd_i (R.out.below BK.out) hz
        rw [Nat.add_zero] at c1
        clear hz hb1
        subst eA
        go_wp2_with fail
        refine CK.out.mono ?_
        rintro e w' ⟨rfl, rfl⟩
        go_wp2_with fail
        go_ret
        rw [FG.out]; exact ⟨_, _, rfl, OK.out, BK.out⟩
      · go_wp2_with fail
        go_ret
        rw [FG.out]; exact ⟨_, _, rfl, OK.out, BK.out⟩
  rw [ht] at CT
  have FL := Lib.hid (rnV_yes ht)
  have D := Lib.hid (tk_iff.1 ht).2
  have n64 : n ≤ 64 := by have := (tk_iff.1 ht).1; omega
  clear hn hr ht
  go_enter Try.func39, Try.ntmps39
  go_wp2_with fail
  go_loopw [3, 9] (fun v i wr => ∃ k : Nat, k ≤ n ∧ i = .int .i64 k ∧ (∃ gb gc, v = .slice (some ⟨gb, 0, none⟩) (rn (zs.take k)).length gc) ∧ Hid (wr.ownsRow w.heap.size 35 2 v (rn (zs.take k)).length (rls (rn (zs.take k)))) ∧ Hid (Below w.heap.size w wr)) (fun _ i _ => n - (intOf i).toNat)
  case atStart => exact ⟨0, Nat.zero_le _, rfl, ⟨_, _, rfl⟩, O1, B1⟩
  case round =>
    obtain ⟨k, hk, rfl, ⟨gb, gc, rfl⟩, OK, BK⟩ := hrel
    clear O1 B1
    have HC := Lib.hid (rn_count (zs := zs) (k := k) (by rw [N.out]; exact hk))
    have hql : (rn (zs.take k)).length ≤ k := rn_len zs k (by rw [N.out]; exact hk)
    by_cases hlt : k < n
    case neg =>
      obtain rfl : k = n := by omega
      have OE := Lib.hid OK.out
      rw [show rn (zs.take k) = rn zs by rw [← N.out, List.take_length]] at OE ⊢
      clear OK hql HC
      go_wp2_with fail
      go_ret
      rw [FL.out]
      exact ⟨gb, gc, rfl, OE.out, BK.out⟩
    obtain ⟨z, hz⟩ : ∃ z, zs[k]? = some z := ⟨_, List.getElem?_eq_getElem (by rw [N.out]; exact hlt)⟩
    have hz3 := okT_get D.out hz
    have ST := Lib.hid (rn_step hz)
    obtain ⟨b1, o1, eA, hb1, c1⟩ := rd_i (R.out.below BK.out) hz
    have RR := Lib.hid (R.out.below BK.out)
    subst eA
    have CK := Lib.hid (CT.out wr BK.out)
    obtain ⟨L, hL⟩ : ∃ L, rn (zs.take k) = L := ⟨_, rfl⟩
    rw [hL] at OK HC hql ST
    rw [hL]
    obtain ⟨q, hq⟩ : ∃ q, L.length = q := ⟨_, rfl⟩
    rw [hq] at OK hql
    rw [hq]
    have HQ := Lib.hid hq
    clear hL hq
    rcases ST.out with ⟨h0, hE⟩ | ⟨h0, hy, rs, cn, hE1, hE2⟩
    · have E := Lib.hid hE
      rcases h0 with rfl | ⟨y, h0, hy, hne⟩
      · clear hE ST HC
        rw [Nat.add_zero] at c1
        have hown := OK.out.alloc
        have HS := Lib.hid (own_base OK.out)
        have HW := Lib.hid BK.out.size
        clear hz hz3 hb1 RR
        go_wp2_with fail
        refine CK.out.mono ?_
        rintro e w' ⟨rfl, rfl⟩
        go_wp2_with (at_builtin; refine wpList_append_own _ rfl _ _ 31 rfl w.heap.size 35 i0 (.agg #[.int .i64 0, .int .i64 0]) 2 16 Try.underlying31 hi hz0 hz1 hz2 rfl (by decide) _ _ _ rfl (hown _) ⟨wr.heap.size, 0, none⟩ 1 1 [.int .i64 z, .int .i64 0] rfl rfl (by intro j u hj; match j, hj with | 0, hj => simp at hj; subst hj; simp [Addr.add] | 1, hj => simp at hj; subst hj; simp [Addr.add]) (by intro u hu; simp at hu; rcases hu with rfl | rfl <;> rfl) (by unfold maxLen; omega) (by omega) (by have := HW.out; simp; omega) ?_)
        intro v' w5 hown' hgrow hnil
        obtain ⟨g5, c5, rfl⟩ := own_mk hown'
        have BB := (BK.out.alloc BK.out.size _).grown hgrow (by have := HW.out; simp; omega) (fun j hj => HS.out j hj)
        have x1 := (hown'.cellAt (q * 2 + 1) (by omega)).trans (show (rls L ++ ([.int .i64 z, .int .i64 0] : List Value))[q * 2 + 1]? = some (.int .i64 0) by rw [rls_snoc, ← HQ.out]; exact rls_last L z 0)
        have x2 := hown'.frozenAt (q * 2 + 1)
        obtain ⟨r1, r2⟩ := hown'.stored (q * 2 + 1) (.int .i64 1)
        rw [← HQ.out, rls_push, HQ.out] at r1
        have R1 := Lib.hid r1
        have B5 := Lib.hid (BB.grown r2 BB.size (fun j hj => by cases hj; exact own_at hown'))
        clear hown' hgrow hnil HS HW hown r1 r2 BB BK OK
        go_wp2_with fail
        go_roundw
        case rel =>
          refine ⟨0 + 1, by omega, by go_num, ?_, ?_, B5⟩
          · rw [E.out, List.length_append, HQ.out]; exact ⟨_, _, rfl⟩
          · rw [E.out, List.length_append, HQ.out]; exact R1
        case measure => simp [intOf]; omega
      · obtain ⟨b2, o2, eB, _, c0⟩ := rd_i RR.out hy
        injection eB with eB; injection eB with e1 e2; subst e1 e2
        have t1 : (y == z) = false := by simpa using hne
        have i1 : ((k : Int) - 1) = ((k - 1 : Nat) : Int) := by omega
        have i2 : k ≠ 0 := by omega
        have i3 : ((k : Int) == 0) = false := by simpa using i2
        clear hE ST HC
        have hk0 : 0 < k := h0
        have hown := OK.out.alloc
        have HS := Lib.hid (own_base OK.out)
        have HW := Lib.hid BK.out.size
        clear hz hz3 hb1 RR hy
        go_wp2_with fail
        refine CK.out.mono ?_
        rintro e w' ⟨rfl, rfl⟩
        go_wp2_with (at_builtin; refine wpList_append_own _ rfl _ _ 31 rfl w.heap.size 35 i0 (.agg #[.int .i64 0, .int .i64 0]) 2 16 Try.underlying31 hi hz0 hz1 hz2 rfl (by decide) _ _ _ rfl (hown _) ⟨wr.heap.size, 0, none⟩ 1 1 [.int .i64 z, .int .i64 0] rfl rfl (by intro j u hj; match j, hj with | 0, hj => simp at hj; subst hj; simp [Addr.add] | 1, hj => simp at hj; subst hj; simp [Addr.add]) (by intro u hu; simp at hu; rcases hu with rfl | rfl <;> rfl) (by unfold maxLen; omega) (by omega) (by have := HW.out; simp; omega) ?_)
        intro v' w5 hown' hgrow hnil
        obtain ⟨g5, c5, rfl⟩ := own_mk hown'
        have BB := (BK.out.alloc BK.out.size _).grown hgrow (by have := HW.out; simp; omega) (fun j hj => HS.out j hj)
        have x1 := (hown'.cellAt (q * 2 + 1) (by omega)).trans (show (rls L ++ ([.int .i64 z, .int .i64 0] : List Value))[q * 2 + 1]? = some (.int .i64 0) by rw [rls_snoc, ← HQ.out]; exact rls_last L z 0)
        have x2 := hown'.frozenAt (q * 2 + 1)
        obtain ⟨r1, r2⟩ := hown'.stored (q * 2 + 1) (.int .i64 1)
        rw [← HQ.out, rls_push, HQ.out] at r1
        have R1 := Lib.hid r1
        have B5 := Lib.hid (BB.grown r2 BB.size (fun j hj => by cases hj; exact own_at hown'))
        clear hown' hgrow hnil HS HW hown r1 r2 BB BK OK
        go_wp2_with fail
        go_roundw
        case rel =>
          refine ⟨k + 1, by omega, by go_num, ?_, ?_, B5⟩
          · rw [E.out, List.length_append, HQ.out]; exact ⟨_, _, rfl⟩
          · rw [E.out, List.length_append, HQ.out]; exact R1
        case measure => simp [intOf]; omega
    · have E := Lib.hid hE2
      have EL := Lib.hid hE1
      have hcn := HC.out (z, cn) (by rw [hE1]; simp)
      obtain ⟨hc1, hc2⟩ := hcn
      simp only [] at hc1 hc2
      obtain ⟨p, hp⟩ : ∃ p, rs.length = p := ⟨_, rfl⟩
      have HPp := Lib.hid hp
      obtain rfl : q = p + 1 := by rw [← HQ.out, hE1, List.length_append, hp]; rfl
      obtain ⟨b2, o2, eB, _, c0⟩ := rd_i RR.out hy
      injection eB with eB; injection eB with e1 e2; subst e1 e2
      have i1 : ((k : Int) - 1) = ((k - 1 : Nat) : Int) := by omega
      have i2 : k ≠ 0 := by omega
      have i3 : ((k : Int) == 0) = false := by simpa using i2
      clear hE1 hE2 ST HC hp
      have hk0 : 0 < k := h0
      have x1 := (OK.out.cellAt (p * 2 + 1) (by omega)).trans (show (rls L)[p * 2 + 1]? = some (.int .i64 cn) by rw [EL.out, ← HPp.out]; exact rls_last rs z cn)
      have x2 := OK.out.frozenAt (p * 2 + 1)
      obtain ⟨r1, r2⟩ := OK.out.stored (p * 2 + 1) (.int .i64 (cn + 1))
      have RE := Lib.hid (show (rls L).set (p * 2 + 1) (.int .i64 (cn + 1)) = rls (rs ++ [(z, cn + 1)]) by rw [EL.out, ← HPp.out]; exact rls_set)
      rw [RE.out] at r1
      have R1 := Lib.hid r1
      have B5 := Lib.hid (BK.out.grown r2 BK.out.size (fun j hj => by cases hj; exact own_at OK.out))
      clear hz hz3 hb1 RR hy
      clear r1 r2 OK BK RE
      go_wp2_with fail
      refine CK.out.mono ?_
      rintro e w' ⟨rfl, rfl⟩
      go_wp2_with fail
      go_roundw
      case rel =>
        refine ⟨k + 1, by omega, by go_num, ?_, ?_, B5⟩
        · rw [E.out, List.length_append, HPp.out]; exact ⟨_, _, rfl⟩
        · rw [E.out, List.length_append, HPp.out]; exact R1
      case measure => simp [intOf]; omega
end Go.Proofs.Ytmbiomekbinplaa.Ro8
