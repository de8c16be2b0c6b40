/- Two winds joined, of the program and of the model. -/
import Derived.Test.YtknanaapaipoeaaWg
namespace Go.Proofs.Ytknanaapaipoeaa.Wh
open Go.RowKit Go.Proofs.Ytknanaapaipoeaa.Mem Go.Proofs.Ytknanaapaipoeaa.Rw Go.Proofs.Ytknanaapaipoeaa.Bk Go.Proofs.Ytknanaapaipoeaa.Cx Go.Proofs.Ytknanaapaipoeaa.Cm Go.Proofs.Ytknanaapaipoeaa.Jt Go.Proofs.Ytknanaapaipoeaa.Pl Go.Proofs.Ytknanaapaipoeaa.Str Go.Proofs.Ytknanaapaipoeaa.Pw Go.Proofs.Ytknanaapaipoeaa.P2 Go.Proofs.Ytknanaapaipoeaa.Gs Go.Proofs.Ytknanaapaipoeaa.Wm Go.Proofs.Ytknanaapaipoeaa.Wi Go.Proofs.Ytknanaapaipoeaa.Wa Go.Proofs.Ytknanaapaipoeaa.Wb Go.Proofs.Ytknanaapaipoeaa.Wc Go.Proofs.Ytknanaapaipoeaa.We Go.Proofs.Ytknanaapaipoeaa.Wg
set_option linter.unusedVariables false
set_option linter.unusedSimpArgs false

theorem pcs_set : ∀ (ps : List (Int × Int)) (k : Nat) (p : Int × Int), ((pcs ps).set (k * 2) (.int .i64 p.1)).set (k * 2 + 1) (.int .i64 p.2) = pcs (ps.set k p)
  | [], k, p => rfl
  | q :: ps, 0, p => rfl
  | q :: ps, k + 1, p => by
    have := pcs_set ps k p
    show (((.int .i64 q.1 :: .int .i64 q.2 :: pcs ps : List Value).set ((k + 1) * 2) (.int .i64 p.1)).set ((k + 1) * 2 + 1) (.int .i64 p.2)) = .int .i64 q.1 :: .int .i64 q.2 :: pcs (ps.set k p)
    rw [show (k + 1) * 2 = k * 2 + 1 + 1 by omega, List.set_cons_succ, List.set_cons_succ, List.set_cons_succ, List.set_cons_succ, this]

/-- The drifts of the one up to a tick, those of the other behind it. -/
def jl (a b : List G) (t : Nat) : List (Int × Int) := drs a 0 t ++ drs b t (65 - t)
theorem jl_len (a b : List G) {t : Nat} (h : t ≤ 65) : (jl a b t).length = 65 := by unfold jl; rw [List.length_append, drs_len, drs_len]; omega
theorem near_jl {a b : List G} (ha : wd a = true) (hb : wd b = true) (t : Nat) : Near 8 (jl a b t) := by
  intro p hp
  unfold jl at hp
  rcases List.mem_append.1 hp with h | h
  · exact near_drs ha _ _ p h
  · exact near_drs hb _ _ p h
def lk (a b : List G) (t k : Nat) : List (Int × Int) := drs a 0 t ++ drs b t (k - t) ++ (drs a 0 65).drop k
theorem lk_len (a b : List G) {t k : Nat} (h : t ≤ k) (hk : k ≤ 65) : (lk a b t k).length = 65 := by
  unfold lk; rw [List.length_append, List.length_append, drs_len, drs_len, List.length_drop, drs_len]; omega
theorem lk_start (a b : List G) {t : Nat} (h : t ≤ 65) : lk a b t t = drs a 0 65 := by
  unfold lk; rw [Nat.sub_self, ← drs_take (zs := a) (a := 0) h]; simp [drs]
theorem lk_end (a b : List G) (t : Nat) : lk a b t 65 = jl a b t := by
  unfold lk jl; rw [List.drop_of_length_le (by rw [drs_len]; exact Nat.le_refl _), List.append_nil]
theorem lk_set (a b : List G) {t k : Nat} (h : t ≤ k) (hk : k < 65) : (lk a b t k).set k (dr b (k : Int)) = lk a b t (k + 1) := by
  unfold lk
  have e : (drs a 0 t ++ drs b t (k - t)).length = k := by rw [List.length_append, drs_len, drs_len]; omega
  rw [List.set_append, if_neg (by omega), e, Nat.sub_self, List.drop_eq_getElem_cons (by rw [drs_len]; exact hk), List.set_cons_zero,
    show k + 1 - t = k - t + 1 by omega, drs_snoc b t (k - t), show t + (k - t) = k by omega]
  simp

def jB (a b : List G) (t : Int) : Bool := wd a && wd b && decide (0 ≤ t) && decide (t ≤ 64) && decide ((chg (jl a b t.toNat)).length ≤ 8)
def jR (a b : List G) (t : Int) : List G := if jB a b t = true then chg (jl a b t.toNat) else []
theorem jR_len (a b : List G) (t : Int) : (jR a b t).length ≤ 8 := by
  unfold jR jB; split
  · rename_i h; rw [Bool.and_eq_true, decide_eq_true_eq] at h; exact h.2
  · simp
theorem j_no {a b : List G} {t : Int} (h : wd a = false ∨ wd b = false ∨ t < 0 ∨ 64 < t) : jB a b t = false ∧ jR a b t = [] := by
  have : jB a b t = false := by
    unfold jB
    rcases h with h | h | h | h
    · rw [h]; rfl
    · rw [h]; simp
    · rw [decide_eq_false (p := 0 ≤ t) (by omega)]; simp
    · rw [decide_eq_false (p := t ≤ 64) (by omega)]; simp
  exact ⟨this, by unfold jR; rw [this]; rfl⟩
theorem j_yes {a b : List G} {k : Nat} (ha : wd a = true) (hb : wd b = true) (hk : k ≤ 64) : jB a b (k : Int) = decide ((chg (jl a b k)).length ≤ 8) ∧ jR a b (k : Int) = if (chg (jl a b k)).length ≤ 8 then chg (jl a b k) else [] := by
  have : jB a b (k : Int) = decide ((chg (jl a b k)).length ≤ 8) := by
    unfold jB
    rw [ha, hb, decide_eq_true (show (0 : Int) ≤ (k : Int) by omega), decide_eq_true (show (k : Int) ≤ 64 by omega)]; rfl
  refine ⟨this, ?_⟩
  unfold jR; rw [this]
  simp only [decide_eq_true_eq, Int.toNat_natCast]
theorem j_cases (a b : List G) (t : Int) : wd a = false ∨ wd a = true ∧ wd b = false ∨ wd a = true ∧ wd b = true ∧ t < 0 ∨ wd a = true ∧ wd b = true ∧ 0 ≤ t ∧ 64 < t ∨ wd a = true ∧ wd b = true ∧ ∃ k : Nat, t = (k : Int) ∧ k ≤ 64 := by
  cases wd a
  · exact Or.inl rfl
  cases wd b
  · exact Or.inr (Or.inl ⟨rfl, rfl⟩)
  by_cases h : t < 0
  · exact Or.inr (Or.inr (Or.inl ⟨rfl, rfl, h⟩))
  by_cases h2 : 64 < t
  · exact Or.inr (Or.inr (Or.inr (Or.inl ⟨rfl, rfl, by omega, h2⟩)))
  · exact Or.inr (Or.inr (Or.inr (Or.inr ⟨rfl, rfl, t.toNat, by omega, by omega⟩)))

/-- A row of one's own with these gusts, and whether there are such. -/
def RowB (w : World) (zs : List G) (r : Bool) (e : Ending) (w' : World) : Prop :=
  ∃ g c, e = .returned (.tuple #[.slice (some ⟨g, 0, none⟩) zs.length c, .bool r]) ∧ w'.ownsRow w.heap.size 57 3 (.slice (some ⟨g, 0, none⟩) zs.length c) zs.length (gls zs) ∧ Below w.heap.size w w'
theorem row_noneB {w u : World} (h : Below w.heap.size w u) : RowB w [] false (.returned (.tuple #[.slice (some ⟨u.heap.size, 0, none⟩) 0 0, .bool false])) (u.alloc (.cells #[] 57)) :=
  ⟨u.heap.size, 0, rfl, World.ownsRow_lit u #[] 0 h.size (Nat.zero_le _) rfl, h.alloc h.size _⟩
theorem row_yesB {w x : World} {l R : List G} {r : Bool} {q g c : Nat} (h1 : r = true) (h2 : R = l) (hq : l.length = q) (o : x.ownsRow w.heap.size 57 3 (.slice (some ⟨g, 0, none⟩) q c) q (gls l)) (b : Below w.heap.size w x) :
    RowB w R r (.returned (.tuple #[.slice (some ⟨g, 0, none⟩) q c, .bool true])) x := by
  subst h1 h2 hq; exact ⟨g, c, rfl, o, b⟩

set_option maxRecDepth 100000 in
set_option maxHeartbeats 2000000 in
theorem joinS (A B : Option Addr) (n c m d : Nat) (zs xs : List G) (H : Nat) (t : Int) (w : World) (hn : zs.length = n) (hm : xs.length = m) (hb : n ≤ 1048576) (hb2 : m ≤ 1048576) (hH : H ≤ w.heap.size) (hr : Rd w H A (gls zs)) (hs : Rd w H B (gls xs)) :
    Calls Try.prog 30 #[.slice A n c, .slice B m d, .int .i64 t] w (RowB w (jR zs xs t) (jB zs xs t)) := by
  have HR := Lib.hid hr
  have HS := Lib.hid hs
  rcases j_cases zs xs t with hw | ⟨hw, hx⟩ | ⟨hw, hx, ht⟩ | ⟨hw, hx, ht0, ht⟩ | ⟨hw, hx, k, rfl, hk⟩
  · obtain ⟨e1, e2⟩ := j_no (a := zs) (b := xs) (t := t) (Or.inl hw)
    rw [e1, e2]
    have C := Lib.hid (windS (A := A) (c := c) (H := H) hn hb hw)
    have HH := Lib.hid hH
    clear hw hr hs hn hm e1 e2 hH
    go_enter Try.func30, Try.ntmps30
    go_wp2_with fail
    refine (C.out _ HH.out HR.out).mono ?_
    rintro e u ⟨rfl, b1⟩
    have HS1 := Lib.hid (HS.out.below (b1.mono HH.out))
    have B1 := Lib.hid b1
    clear b1
    go_wp2_with fail
    (try simp only [Exit.inBlock, Exit.then])
    refine bodyPost_ret (v := .tuple #[.slice (some ⟨u.heap.size, 0, none⟩) 0 0, .bool false]) (by simp [results, Try.results30, go_sem]; try rfl) rfl ?_
    exact row_noneB B1.out
  · obtain ⟨e1, e2⟩ := j_no (a := zs) (b := xs) (t := t) (Or.inr (Or.inl hx))
    rw [e1, e2]
    have C := Lib.hid (windS (A := A) (c := c) (H := H) hn hb hw)
    have E := Lib.hid (windS (A := B) (c := d) (H := H) hm hb2 hx)
    have HH := Lib.hid hH
    clear hw hr hs hn hm e1 e2 hH hx
    go_enter Try.func30, Try.ntmps30
    go_wp2_with fail
    refine (C.out _ HH.out HR.out).mono ?_
    rintro e u ⟨rfl, b1⟩
    have HS1 := Lib.hid (HS.out.below (b1.mono HH.out))
    have B1 := Lib.hid b1
    clear b1
    go_wp2_with fail
    refine (E.out _ (Nat.le_trans HH.out B1.out.size) HS1.out).mono ?_
    rintro e v ⟨rfl, b2⟩
    have B2 := Lib.hid (below_in B1.out b2)
    clear b2
    go_wp2_with fail
    (try simp only [Exit.inBlock, Exit.then])
    refine bodyPost_ret (v := .tuple #[.slice (some ⟨v.heap.size, 0, none⟩) 0 0, .bool false]) (by simp [results, Try.results30, go_sem]; try rfl) rfl ?_
    exact row_noneB B2.out
  · obtain ⟨e1, e2⟩ := j_no (a := zs) (b := xs) (t := t) (Or.inr (Or.inr (Or.inl ht)))
    rw [e1, e2]
    have C := Lib.hid (windS (A := A) (c := c) (H := H) hn hb hw)
    have E := Lib.hid (windS (A := B) (c := d) (H := H) hm hb2 hx)
    have HH := Lib.hid hH
    clear hw hr hs hn hm e1 e2 hH hx
    go_enter Try.func30, Try.ntmps30
    go_wp2_with fail
    refine (C.out _ HH.out HR.out).mono ?_
    rintro e u ⟨rfl, b1⟩
    have HS1 := Lib.hid (HS.out.below (b1.mono HH.out))
    have B1 := Lib.hid b1
    clear b1
    go_wp2_with fail
    refine (E.out _ (Nat.le_trans HH.out B1.out.size) HS1.out).mono ?_
    rintro e v ⟨rfl, b2⟩
    have B2 := Lib.hid (below_in B1.out b2)
    clear b2
    go_wp2_with fail
    (try simp only [Exit.inBlock, Exit.then])
    refine bodyPost_ret (v := .tuple #[.slice (some ⟨v.heap.size, 0, none⟩) 0 0, .bool false]) (by simp [results, Try.results30, go_sem]; try rfl) rfl ?_
    exact row_noneB B2.out
  · obtain ⟨e1, e2⟩ := j_no (a := zs) (b := xs) (t := t) (Or.inr (Or.inr (Or.inr ht)))
    rw [e1, e2]
    have C := Lib.hid (windS (A := A) (c := c) (H := H) hn hb hw)
    have E := Lib.hid (windS (A := B) (c := d) (H := H) hm hb2 hx)
    have hnt : ¬ t < 0 := by omega
    have HH := Lib.hid hH
    clear hw hr hs hn hm e1 e2 hH hx
    go_enter Try.func30, Try.ntmps30
    go_wp2_with fail
    refine (C.out _ HH.out HR.out).mono ?_
    rintro e u ⟨rfl, b1⟩
    have HS1 := Lib.hid (HS.out.below (b1.mono HH.out))
    have B1 := Lib.hid b1
    clear b1
    go_wp2_with fail
    refine (E.out _ (Nat.le_trans HH.out B1.out.size) HS1.out).mono ?_
    rintro e v ⟨rfl, b2⟩
    have B2 := Lib.hid (below_in B1.out b2)
    clear b2
    go_wp2_with fail
    (try simp only [Exit.inBlock, Exit.then])
    refine bodyPost_ret (v := .tuple #[.slice (some ⟨v.heap.size, 0, none⟩) 0 0, .bool false]) (by simp [results, Try.results30, go_sem]; try rfl) rfl ?_
    exact row_noneB B2.out
  · have hmin : k ≤ 64 := hk
    obtain ⟨e1, e2⟩ := j_yes hw hx hk
    have E1 := Lib.hid e1
    have E2 := Lib.hid e2
    have C := Lib.hid (windS (A := A) (c := c) (H := H) hn hb hw)
    have E := Lib.hid (windS (A := B) (c := d) (H := H) hm hb2 hx)
    have L := Lib.hid (lists (A := A) (c := c) (zs := zs) (H := H) (a := 0) hn hb (by omega))
    have D := Lib.hid (fun (W : World) (j : Nat) h1 h2 => l4At B m d xs H (j : Int) W hm hb2 h1 h2)
    have HH := Lib.hid hH
    have h0 : ¬ (k : Int) < 0 := by omega
    have h64 : ¬ (64 : Int) < (k : Int) := by omega
    have HL0 := Lib.hid (lk_start zs xs (t := k) (by omega))
    clear hw hx hr hs hn hm e1 e2 hH
    go_enter Try.func30, Try.ntmps30
    go_wp2_with fail
    refine (C.out _ HH.out HR.out).mono ?_
    rintro e u ⟨rfl, b1⟩
    have HR1 := Lib.hid (HR.out.below (b1.mono HH.out))
    have HS1 := Lib.hid (HS.out.below (b1.mono HH.out))
    have B1 := Lib.hid b1
    clear b1
    go_wp2_with fail
    refine (E.out _ (Nat.le_trans HH.out B1.out.size) HS1.out).mono ?_
    rintro e v ⟨rfl, b2⟩
    have H1 := Lib.hid (Nat.le_trans HH.out B1.out.size)
    have HR2 := Lib.hid (HR1.out.below (b2.mono H1.out))
    have HS2 := Lib.hid (HS1.out.below (b2.mono H1.out))
    have H2 := Lib.hid (Nat.le_trans H1.out b2.size)
    have B2 := Lib.hid (below_in B1.out b2)
    clear b2
    go_wp2_with fail
    refine (L.out _ H2.out HR2.out).mono ?_
    rintro e x ⟨g, c2, rfl, o2, b2⟩
    rw [drs_len] at o2 ⊢
    have wg := Nat.le_trans B2.out.size (own_base o2 g rfl)
    have R0 := Lib.hid (show x.ownsRow w.heap.size 28 2 (.slice (some ⟨g, 0, none⟩) 65 c2) 65 (pcs (lk zs xs k k)) by rw [HL0.out]; exact owns_base o2 wg)
    have HS3 := Lib.hid (HS2.out.below (b2.mono H2.out))
    have B3 := Lib.hid (below_in B2.out b2)
    have HSW := HS
    clear b2 o2 B1 B2 HR HR1 HR2 HS HS1 HS2 L C E H1 H2
    go_wp2_with fail
    go_loopw [9] (fun i wr => ∃ j : Nat, k ≤ j ∧ j ≤ 65 ∧ i = .int .i64 j ∧ Hid (wr.ownsRow w.heap.size 28 2 (.slice (some ⟨g, 0, none⟩) 65 c2) 65 (pcs (lk zs xs k j))) ∧ Hid (Below w.heap.size w wr)) (fun i _ => 65 - (intOf i).toNat)
    case atStart => exact ⟨k, Nat.le_refl _, by omega, rfl, R0, B3⟩
    case round =>
      obtain ⟨j, hkj, hj, rfl, RK, BK⟩ := hrel
      have hbs := BK.out.size
      by_cases hlt : j ≤ 64
      · have hlt' : (j : Int) ≤ 64 := by omega
        have hj65 : (j : Int) < 65 := by omega
        have E := Lib.hid (lk_set zs xs hkj (by omega : j < 65))
        have D1 := Lib.hid (fun h2 => D.out wr j (Nat.le_trans HH.out hbs) h2)
        obtain ⟨⟨dx, dy⟩, hd⟩ : ∃ p, dr xs (j : Int) = p := ⟨_, rfl⟩
        rw [hd] at D1 E
        have HK := Lib.hid (show Rd wr H B (gls xs) from HSW.out.below (BK.out.mono HH.out))
        clear hd D R0
        go_wp2_with fail
        refine (D1.out HK.out).mono ?_
        rintro e u1 ⟨rfl, b1⟩
        have R1 := owns_below RK.out b1
        have B4 := below_in BK.out b1
        have e1 := R1.cellAt (j * 2) (by omega)
        have e2 := R1.cellAt (j * 2 + 1) (by omega)
        have ll : (pcs (lk zs xs k j)).length = 130 := by rw [pcs_len, lk_len zs xs hkj hj]
        have s1 : (u1.cell? ⟨g, j * 2, none⟩).isSome = true := by rw [e1, List.getElem?_eq_getElem (by omega)]; rfl
        have s2 : (u1.cell? ⟨g, j * 2 + 1, none⟩).isSome = true := by rw [e2, List.getElem?_eq_getElem (by omega)]; rfl
        obtain ⟨v1, z1⟩ := Option.isSome_iff_exists.1 s1
        obtain ⟨v2, z2⟩ := Option.isSome_iff_exists.1 s2
        have f1 := R1.frozenAt (j * 2)
        have f2 := R1.frozenAt (j * 2 + 1)
        obtain ⟨r1, g1⟩ := R1.stored (j * 2) (.int .i64 dx)
        obtain ⟨r2, g2⟩ := r1.stored (j * 2 + 1) (.int .i64 dy)
        rw [pcs_set (lk zs xs k j) j (dx, dy), E.out] at r2
        have RR := Lib.hid r2
        have BB := Lib.hid ((B4.grown g1 B4.size (fun q hq => by cases hq; exact wg)).grown g2 (Nat.le_trans B4.size g1.size) (fun q hq => by cases hq; exact wg))
        clear e1 e2 s1 s2 ll r1 r2 g1 g2 R1 B4 b1 RK BK HK D1
        go_wp2_with fail
        go_roundw
        case rel => exact ⟨j + 1, by omega, by omega, by go_num, RR, BB⟩
        case measure => simp [intOf]; omega
      · obtain rfl : j = 65 := by omega
        have O := RK.out
        rw [lk_end] at O
        have O2 := Lib.hid (Rd.own O)
        clear O RK R0
        go_wp2_with fail
        refine (l4From _ 65 c2 _ _ _ (jl_len zs xs (by omega)) (by omega) (Nat.le_refl _) O2.out).mono ?_
        rintro e x ⟨g3, c3, rfl, o3, b3⟩
        obtain ⟨q, hq⟩ : ∃ q, (chg (jl zs xs k)).length = q := ⟨_, rfl⟩
        rw [hq] at o3 ⊢
        have R3 := Lib.hid (owns_base o3 (Nat.le_trans BK.out.size (own_base o3 g3 rfl)))
        have B3 := Lib.hid (below_in BK.out b3)
        have HQ := Lib.hid hq
        clear o3 b3 hq
        by_cases h8 : q ≤ 8
        · have h8' : ¬ (8 : Int) < (q : Int) := by omega
          have h8'' : ¬ 8 < q := by omega
          have E3 := Lib.hid (show jB zs xs (k : Int) = true by rw [E1.out, HQ.out, decide_eq_true h8])
          have E4 := Lib.hid (show jR zs xs (k : Int) = chg (jl zs xs k) by rw [E2.out, HQ.out, if_pos h8])
          go_wp2_with fail
          (try simp only [Exit.inBlock, Exit.then])
          refine bodyPost_ret (v := .tuple #[.slice (some ⟨g3, 0, none⟩) q c3, .bool true]) (by simp [results, Try.results30, go_sem]; try rfl) rfl ?_
          exact row_yesB E3.out E4.out HQ.out R3.out B3.out
        · have h8' : (8 : Int) < (q : Int) := by omega
          have h8'' : 8 < q := by omega
          have E3 := Lib.hid (show jB zs xs (k : Int) = false by rw [E1.out, HQ.out, decide_eq_false h8])
          have E4 := Lib.hid (show jR zs xs (k : Int) = [] by rw [E2.out, HQ.out, if_neg h8])
          go_wp2_with fail
          (try simp only [Exit.inBlock, Exit.then])
          refine bodyPost_ret (v := .tuple #[.slice (some ⟨x.heap.size, 0, none⟩) 0 0, .bool false]) (by simp [results, Try.results30, go_sem]; try rfl) rfl ?_
          rw [E3.out, E4.out]; exact row_noneB B3.out

theorem infoCx : (Try.prog.info? 78).map (fun i => (i.zero, i.size, i.bytes)) = some (some (.complex .f32 0 0), 1, 8) := infoC
theorem rd_cells {w : World} {g o : Nat} {l : List (Int × Int)} (h : Rd w w.heap.size (some ⟨g, o, none⟩) (zs2 l)) (j : Nat) (u : Value) (hj : (zs2 l)[j]? = some u) : w.cell? (Addr.add ⟨g, o, none⟩ j) = some u := by
  obtain ⟨hl, _⟩ := List.getElem?_eq_some_iff.1 hj
  obtain ⟨b, o', e, _, hc⟩ := h.get hl
  injection e with e
  injection e with e1 e2
  subst e1 e2
  have := hc j u hj
  cases j with
  | zero => simpa [Addr.add] using this
  | succ j => simpa [Addr.add] using this
theorem one_zs2 (l : List (Int × Int)) : ∀ u ∈ zs2 l, u.oneCell' = true := by
  intro u hu
  obtain ⟨p, _, rfl⟩ := List.mem_map.1 hu
  rfl
theorem zs2_join (a b : List G) (t : Nat) : zs2 (drs a 0 t) ++ zs2 (drs b t (65 - t)) = zs2 (jl a b t) := by unfold jl zs2; rw [List.map_append]

set_option maxRecDepth 100000 in
set_option maxHeartbeats 2000000 in
theorem joinI (A B : Option Addr) (n c m d : Nat) (zs xs : List G) (H : Nat) (t : Int) (w : World) (hn : zs.length = n) (hm : xs.length = m) (hb : n ≤ 1048576) (hb2 : m ≤ 1048576) (hH : H ≤ w.heap.size) (hr : Rd w H A (gls zs)) (hs : Rd w H B (gls xs)) :
    Calls Try.prog 29 #[.slice A n c, .slice B m d, .int .i64 t] w (RowB w (jR zs xs t) (jB zs xs t)) := by
  have HR := Lib.hid hr
  have HS := Lib.hid hs
  rcases j_cases zs xs t with hw | ⟨hw, hx⟩ | ⟨hw, hx, ht⟩ | ⟨hw, hx, ht0, ht⟩ | ⟨hw, hx, k, rfl, hk⟩
  · obtain ⟨e1, e2⟩ := j_no (a := zs) (b := xs) (t := t) (Or.inl hw)
    rw [e1, e2]
    have C := Lib.hid (windI (A := A) (c := c) (H := H) hn hb hw)
    have HH := Lib.hid hH
    clear hw hr hs hn hm e1 e2 hH
    go_enter Try.func29, Try.ntmps29
    go_wp2_with fail
    refine (C.out _ HH.out HR.out).mono ?_
    rintro e u ⟨rfl, b1⟩
    have HS1 := Lib.hid (HS.out.below (b1.mono HH.out))
    have B1 := Lib.hid b1
    clear b1
    go_wp2_with fail
    (try simp only [Exit.inBlock, Exit.then])
    refine bodyPost_ret (v := .tuple #[.slice (some ⟨u.heap.size, 0, none⟩) 0 0, .bool false]) (by simp [results, Try.results29, go_sem]; try rfl) rfl ?_
    exact row_noneB B1.out
  · obtain ⟨e1, e2⟩ := j_no (a := zs) (b := xs) (t := t) (Or.inr (Or.inl hx))
    rw [e1, e2]
    have C := Lib.hid (windI (A := A) (c := c) (H := H) hn hb hw)
    have E := Lib.hid (windI (A := B) (c := d) (H := H) hm hb2 hx)
    have HH := Lib.hid hH
    clear hw hr hs hn hm e1 e2 hH hx
    go_enter Try.func29, Try.ntmps29
    go_wp2_with fail
    refine (C.out _ HH.out HR.out).mono ?_
    rintro e u ⟨rfl, b1⟩
    have HS1 := Lib.hid (HS.out.below (b1.mono HH.out))
    have B1 := Lib.hid b1
    clear b1
    go_wp2_with fail
    refine (E.out _ (Nat.le_trans HH.out B1.out.size) HS1.out).mono ?_
    rintro e v ⟨rfl, b2⟩
    have B2 := Lib.hid (below_in B1.out b2)
    clear b2
    go_wp2_with fail
    (try simp only [Exit.inBlock, Exit.then])
    refine bodyPost_ret (v := .tuple #[.slice (some ⟨v.heap.size, 0, none⟩) 0 0, .bool false]) (by simp [results, Try.results29, go_sem]; try rfl) rfl ?_
    exact row_noneB B2.out
  · obtain ⟨e1, e2⟩ := j_no (a := zs) (b := xs) (t := t) (Or.inr (Or.inr (Or.inl ht)))
    rw [e1, e2]
    have C := Lib.hid (windI (A := A) (c := c) (H := H) hn hb hw)
    have E := Lib.hid (windI (A := B) (c := d) (H := H) hm hb2 hx)
    have I := Lib.hid (isWithin_of (iw_no (x := t) (a := 0) (b := 64) (Or.inl ht)))
    have HH := Lib.hid hH
    clear hw hr hs hn hm e1 e2 hH hx ht
    go_enter Try.func29, Try.ntmps29
    go_wp2_with fail
    refine (C.out _ HH.out HR.out).mono ?_
    rintro e u ⟨rfl, b1⟩
    have HS1 := Lib.hid (HS.out.below (b1.mono HH.out))
    have B1 := Lib.hid b1
    clear b1
    go_wp2_with fail
    refine (E.out _ (Nat.le_trans HH.out B1.out.size) HS1.out).mono ?_
    rintro e v ⟨rfl, b2⟩
    have B2 := Lib.hid (below_in B1.out b2)
    clear b2
    go_wp2_with fail
    refine (I.out _).mono ?_
    rintro e v' ⟨rfl, rfl⟩
    go_wp2_with fail
    (try simp only [Exit.inBlock, Exit.then])
    refine bodyPost_ret (v := .tuple #[.slice (some ⟨v.heap.size, 0, none⟩) 0 0, .bool false]) (by simp [results, Try.results29, go_sem]; try rfl) rfl ?_
    exact row_noneB B2.out
  · obtain ⟨e1, e2⟩ := j_no (a := zs) (b := xs) (t := t) (Or.inr (Or.inr (Or.inr ht)))
    rw [e1, e2]
    have C := Lib.hid (windI (A := A) (c := c) (H := H) hn hb hw)
    have E := Lib.hid (windI (A := B) (c := d) (H := H) hm hb2 hx)
    have I := Lib.hid (isWithin_of (iw_no (x := t) (a := 0) (b := 64) (Or.inr ht)))
    have HH := Lib.hid hH
    clear hw hr hs hn hm e1 e2 hH hx ht
    go_enter Try.func29, Try.ntmps29
    go_wp2_with fail
    refine (C.out _ HH.out HR.out).mono ?_
    rintro e u ⟨rfl, b1⟩
    have HS1 := Lib.hid (HS.out.below (b1.mono HH.out))
    have B1 := Lib.hid b1
    clear b1
    go_wp2_with fail
    refine (E.out _ (Nat.le_trans HH.out B1.out.size) HS1.out).mono ?_
    rintro e v ⟨rfl, b2⟩
    have B2 := Lib.hid (below_in B1.out b2)
    clear b2
    go_wp2_with fail
    refine (I.out _).mono ?_
    rintro e v' ⟨rfl, rfl⟩
    go_wp2_with fail
    (try simp only [Exit.inBlock, Exit.then])
    refine bodyPost_ret (v := .tuple #[.slice (some ⟨v.heap.size, 0, none⟩) 0 0, .bool false]) (by simp [results, Try.results29, go_sem]; try rfl) rfl ?_
    exact row_noneB B2.out
  · have hmin : k ≤ 64 := hk
    obtain ⟨e1, e2⟩ := j_yes hw hx hk
    have E1 := Lib.hid e1
    have E2 := Lib.hid e2
    have C := Lib.hid (windI (A := A) (c := c) (H := H) hn hb hw)
    have E := Lib.hid (windI (A := B) (c := d) (H := H) hm hb2 hx)
    obtain ⟨i0, hi0, hz0, hz1, hz2⟩ := info_of infoCx
    have I := Lib.hid (isWithin_of (iw_yes (x := (k : Int)) (a := 0) (b := 64) ⟨by omega, by omega⟩))
    have D := Lib.hid (fun (W : World) h1 h2 => by have := driftsIn A n c zs H 0 k W hn hb h1 h2 hw (by omega); rw [show ((0 : Nat) : Int) + (k : Int) = (k : Int) by omega] at this; exact this)
    have F := Lib.hid (windows (A := B) (c := d) (zs := xs) (H := H) (a := k) hm hb2 hk hx)
    have N := Lib.hid (near_jl hw hx k)
    have HH := Lib.hid hH
    have hk1 : (65 - k) + 1 = 66 - k := by omega
    clear hw hx hr hs hn hm e1 e2 hH
    go_enter Try.func29, Try.ntmps29
    go_wp2_with fail
    refine (C.out _ HH.out HR.out).mono ?_
    rintro e u ⟨rfl, b1⟩
    have HR1 := Lib.hid (HR.out.below (b1.mono HH.out))
    have HS1 := Lib.hid (HS.out.below (b1.mono HH.out))
    have B1 := Lib.hid b1
    clear b1
    go_wp2_with fail
    refine (E.out _ (Nat.le_trans HH.out B1.out.size) HS1.out).mono ?_
    rintro e v ⟨rfl, b2⟩
    have H1 := Lib.hid (Nat.le_trans HH.out B1.out.size)
    have HR2 := Lib.hid (HR1.out.below (b2.mono H1.out))
    have HS2 := Lib.hid (HS1.out.below (b2.mono H1.out))
    have H2 := Lib.hid (Nat.le_trans H1.out b2.size)
    have B2 := Lib.hid (below_in B1.out b2)
    clear b2
    go_wp2_with fail
    refine (I.out _).mono ?_
    rintro e v' ⟨rfl, rfl⟩
    go_wp2_with fail
    refine (D.out _ H2.out HR2.out).mono ?_
    rintro e y ⟨g1, o1, rfl, r1, b3⟩
    rw [drs_len]
    have HS3 := Lib.hid (HS2.out.below (b3.mono H2.out))
    have H3 := Lib.hid (Nat.le_trans H2.out b3.size)
    have B3 := Lib.hid (below_in B2.out b3)
    have R1 := Lib.hid r1
    clear r1 b3
    go_wp2_with fail
    refine (F.out _ H3.out HS3.out).mono ?_
    rintro e z ⟨g2, o2, rfl, r2, b4⟩
    rw [drs_len]
    have R1' := Lib.hid ((R1.out.below b4).more b4.size)
    have R2 := Lib.hid r2
    have B4 := Lib.hid (below_in B3.out b4)
    clear r2 b4 B1 B2 B3 R1 HR HR1 HR2 HS HS1 HS2 HS3 C E D F I
    obtain ⟨mm, hmm⟩ : ∃ mm, mm = 65 - k := ⟨_, rfl⟩
    rw [← hmm] at R2 ⊢
    have HM := Lib.hid hmm
    have hm1 : 0 < mm := by omega
    have hm2 : k + mm ≤ 65 := by omega
    clear hmm hk1
    go_wp2_with (
      at_builtin
      refine wpList_append_grows _ rfl _ _ 80 rfl 78 i0 (.complex .f32 0 0) 1 8 Try.underlying80 hi0 hz0 hz1 hz2 rfl (by decide) (some ⟨g1, o1, none⟩) k k (zs2 (drs zs 0 k)) rfl (by intro h; cases h) (by rw [zs2_len, drs_len, Nat.mul_one]) (by intro b hb j u hj; cases hb; exact rd_cells R1'.out j u hj) ⟨g2, o2, none⟩ mm mm (zs2 (drs xs k mm)) rfl (by rw [zs2_len, drs_len, Nat.mul_one]) (rd_cells R2.out) (one_zs2 _) (by omega) (by unfold maxLen; omega) (by omega) ?_
      intro v9 w9 hown hgrow
      have hk65 : k + mm = 64 + 1 := by have := HM.out; omega
      rw [HM.out, zs2_join, ← HM.out, hk65] at hown
      obtain ⟨g5, c5, rfl⟩ := own_slice hown
      have B5 := Lib.hid (B4.out.grown hgrow B4.out.size (fun q hq => by cases hq))
      have O5 := Lib.hid (Rd.own hown)
      clear hown hgrow R1' R2 B4 hk65)
    go_wp2_with fail
    refine (changesOf _ 65 c5 _ _ _ (jl_len zs xs (by omega)) (by omega) (Nat.le_refl _) O5.out N.out).mono ?_
    rintro e x ⟨g3, c3, rfl, o3, b3⟩
    obtain ⟨q, hq⟩ : ∃ q, (chg (jl zs xs k)).length = q := ⟨_, rfl⟩
    rw [hq] at o3 ⊢
    have R3 := Lib.hid (owns_base o3 (Nat.le_trans B5.out.size (own_base o3 g3 rfl)))
    have B3 := Lib.hid (below_in B5.out b3)
    have HQ := Lib.hid hq
    clear o3 b3 hq
    by_cases h8 : q ≤ 8
    · have h8' : ¬ (8 : Int) < (q : Int) := by omega
      have h8'' : ¬ 8 < q := by omega
      have E3 := Lib.hid (show jB zs xs (k : Int) = true by rw [E1.out, HQ.out, decide_eq_true h8])
      have E4 := Lib.hid (show jR zs xs (k : Int) = chg (jl zs xs k) by rw [E2.out, HQ.out, if_pos h8])
      go_wp2_with fail
      (try simp only [Exit.inBlock, Exit.then])
      refine bodyPost_ret (v := .tuple #[.slice (some ⟨g3, 0, none⟩) q c3, .bool true]) (by simp [results, Try.results29, go_sem]; try rfl) rfl ?_
      exact row_yesB E3.out E4.out HQ.out R3.out B3.out
    · have h8' : (8 : Int) < (q : Int) := by omega
      have h8'' : 8 < q := by omega
      have E3 := Lib.hid (show jB zs xs (k : Int) = false by rw [E1.out, HQ.out, decide_eq_false h8])
      have E4 := Lib.hid (show jR zs xs (k : Int) = [] by rw [E2.out, HQ.out, if_neg h8])
      go_wp2_with fail
      (try simp only [Exit.inBlock, Exit.then])
      refine bodyPost_ret (v := .tuple #[.slice (some ⟨x.heap.size, 0, none⟩) 0 0, .bool false]) (by simp [results, Try.results29, go_sem]; try rfl) rfl ?_
      rw [E3.out, E4.out]; exact row_noneB B3.out

end Go.Proofs.Ytknanaapaipoeaa.Wh
