/- The worst drift of a rose, of the program and of the model. -/
import Derived.Test.YtokncfhpmjohdaaGreatM22
set_option linter.unusedVariables false
set_option linter.unusedSimpArgs false
namespace Go.Proofs.YtokncfhpmjohdaaGreat.Wz
open Go.RowKit Go.Proofs.YtokncfhpmjohdaaGreat.Flt Go.Proofs.YtokncfhpmjohdaaGreat.Meas Go.Proofs.YtokncfhpmjohdaaGreat.Mem Go.Proofs.YtokncfhpmjohdaaGreat.Rw Go.Proofs.YtokncfhpmjohdaaGreat.Bk Go.Proofs.YtokncfhpmjohdaaGreat.Cx Go.Proofs.YtokncfhpmjohdaaGreat.Cm Go.Proofs.YtokncfhpmjohdaaGreat.Jt Go.Proofs.YtokncfhpmjohdaaGreat.Pl Go.Proofs.YtokncfhpmjohdaaGreat.Str Go.Proofs.YtokncfhpmjohdaaGreat.Pw Go.Proofs.YtokncfhpmjohdaaGreat.P2 Go.Proofs.YtokncfhpmjohdaaGreat.Gs Go.Proofs.YtokncfhpmjohdaaGreat.Wm Go.Proofs.YtokncfhpmjohdaaGreat.Wi Go.Proofs.YtokncfhpmjohdaaGreat.Wa Go.Proofs.YtokncfhpmjohdaaGreat.Wb Go.Proofs.YtokncfhpmjohdaaGreat.Wc Go.Proofs.YtokncfhpmjohdaaGreat.We Go.Proofs.YtokncfhpmjohdaaGreat.Pls Go.Proofs.YtokncfhpmjohdaaGreat.Hd Go.Proofs.YtokncfhpmjohdaaGreat.Wr Go.Proofs.YtokncfhpmjohdaaGreat.Wx
set_option linter.unusedVariables false
set_option linter.unusedSimpArgs false

/-- How far a place lies in a direction. -/
def wv (h : Int) (p : Int × Int) : Int := tx ((-h) % 4).toNat p.1 p.2
def wstep (h : Int) (b p : Int × Int) : Int × Int := if wv h b < wv h p then p else b
def wor (h : Int) : List (Int × Int) → Int × Int
  | [] => (0, 0)
  | p :: ps => ps.foldl (wstep h) p
theorem wstep_self (h : Int) (p : Int × Int) : wstep h p p = p := by unfold wstep; rw [if_neg (by omega)]
theorem wor_take {h : Int} {ps : List (Int × Int)} {k : Nat} {p : Int × Int} (hp : ps[k]? = some p) : wor h (ps.take (k + 1)) = if k = 0 then p else wstep h (wor h (ps.take k)) p := by
  obtain ⟨hk, rfl⟩ := List.getElem?_eq_some_iff.1 hp
  rw [List.take_succ_eq_append_getElem hk]
  match k, ps with
  | 0, q :: ps => simp [wor]
  | k + 1, q :: ps =>
    have hk2 : k < ps.length := by simpa using hk
    have e2 : wor h ((q :: ps).take (k + 1)) = (ps.take k).foldl (wstep h) q := rfl
    have e3 : wor h ((q :: ps).take (k + 1) ++ [(q :: ps)[k + 1]]) = (ps.take k ++ [ps[k]]).foldl (wstep h) q := rfl
    rw [if_neg (by omega), e2, e3, List.foldl_append]; rfl
def wso (h : Int) (ps : List (Int × Int)) (p : Int × Int) (k : Nat) : Int × Int := if k = 0 then p else wor h (ps.take k)
theorem wso_next {h : Int} {ps : List (Int × Int)} {p z : Int × Int} {k : Nat} (h0 : ps[0]? = some p) (hz : ps[k]? = some z) : wso h ps p (k + 1) = wstep h (wso h ps p k) z := by
  have := wor_take (h := h) hz
  unfold wso
  rw [if_neg (by omega), this]
  by_cases e : k = 0
  · subst e
    rw [h0] at hz
    injection hz with hz
    subst hz
    rw [if_pos rfl, if_pos rfl, wstep_self]
  · rw [if_neg e, if_neg e]
theorem wor_ind {h : Int} (Q : Int × Int → Prop) (h0 : Q (0, 0)) {ps : List (Int × Int)} (hp : ∀ p ∈ ps, Q p) : Q (wor h ps) := by
  cases ps with
  | nil => exact h0
  | cons p ps =>
    have key : ∀ (ps : List (Int × Int)) (b : Int × Int), Q b → (∀ p ∈ ps, Q p) → Q (ps.foldl (wstep h) b) := by
      intro ps
      induction ps with
      | nil => intro b hb _; exact hb
      | cons r rs ih =>
        intro b hb hq
        rw [List.foldl_cons]
        refine ih _ ?_ (fun p hp' => hq p (List.mem_cons_of_mem _ hp'))
        unfold wstep
        split
        · exact hq r (List.mem_cons_self ..)
        · exact hb
    exact key ps p (hp p (List.mem_cons_self ..)) (fun q hq => hp q (List.mem_cons_of_mem _ hq))
theorem wor_near {h : Int} {ps : List (Int × Int)} (hp : Near 8 ps) (k : Nat) : (-8 ≤ (wor h (ps.take k)).1 ∧ (wor h (ps.take k)).1 ≤ 8) ∧ (-8 ≤ (wor h (ps.take k)).2 ∧ (wor h (ps.take k)).2 ≤ 8) :=
  wor_ind (fun p => (-8 ≤ p.1 ∧ p.1 ≤ 8) ∧ (-8 ≤ p.2 ∧ p.2 ≤ 8)) (by decide) (fun p h => hp p (List.mem_of_mem_take h))
theorem wso_near {h : Int} {ps : List (Int × Int)} (hp : Near 8 ps) {p : Int × Int} (h0 : ps[0]? = some p) (k : Nat) : (-8 ≤ (wso h ps p k).1 ∧ (wso h ps p k).1 ≤ 8) ∧ (-8 ≤ (wso h ps p k).2 ∧ (wso h ps p k).2 ≤ 8) := by
  unfold wso; split
  · exact hp.at h0
  · exact wor_near hp k
def wB (ps : List (Int × Int)) (h : Int) : Bool := rs ps && hd h
/-- The worst drift: none of what is no rose. -/
def wD (ps : List (Int × Int)) (h : Int) : Int × Int := if wB ps h = true then wor h ps else (0, 0)
theorem w_no {ps : List (Int × Int)} {h : Int} (e : rs ps = false ∨ hd h = false) : wD ps h = (0, 0) := by
  have : wB ps h = false := by unfold wB; rcases e with e | e <;> rw [e] <;> simp
  unfold wD; rw [this]; rfl
theorem w_yes {ps : List (Int × Int)} {h : Int} (e1 : rs ps = true) (e2 : hd h = true) : wD ps h = wor h ps := by
  unfold wD wB; rw [e1, e2]; rfl
theorem w_cases (ps : List (Int × Int)) (h : Int) : rs ps = false ∨ rs ps = true ∧ hd h = false ∨ rs ps = true ∧ hd h = true := by
  cases rs ps <;> cases hd h <;> simp
theorem wv_bound {h x y : Int} (hx : -8 ≤ x ∧ x ≤ 8) (hy : -8 ≤ y ∧ y ≤ 8) : -8 ≤ wv h (x, y) ∧ wv h (x, y) ≤ 8 := txle hx hy

theorem gt_is {V U : Int} {b : Bool} (hb : b = decide (U < V)) (hV : -8 ≤ V ∧ V ≤ 8) (hU : -8 ≤ U ∧ U ≤ 8) {r s : Nat} (h1 : I32 V r) (h2 : I32 U s) : (FloatKind.f32.format.order r s == some Ordering.gt) = b := by
  subst hb
  have : FloatKind.f32.format.order r s = some (compare V U) := order_is (s32 V (by omega)) (s32 U (by omega)) h1 h2
  rw [this]
  by_cases h : U < V
  · rw [decide_eq_true h]
    have e : compare V U = .gt := Meas.cmp_gt h
    rw [e]; rfl
  · rw [decide_eq_false h]
    rcases Int.lt_or_eq_of_le (Int.not_lt.1 h) with h | h
    · rw [Meas.cmp_lt h]; rfl
    · subst h; rw [Meas.cmp_eq rfl]; rfl

theorem u32_m0 : U32 0 2147483648 := ⟨true, by decide, by decide⟩

theorem units (w : World) : Calls Tryz.prog 134 #[] w fun e w' => e = .returned (.slice (some ⟨w.heap.size, 0, none⟩) 4 4) ∧ w' = w.alloc (.cells #[.complex .f32 1065353216 0, .complex .f32 0 1065353216, .complex .f32 3212836864 0, .complex .f32 0 3212836864] 82) := by
  go_enter Tryz.func134, Tryz.ntmps134
  go_wp2_with fail
  go_ret
  exact ⟨rfl, rfl⟩

set_option maxRecDepth 100000 in
set_option maxHeartbeats 2000000 in
theorem wayIn {x y h : Int} (hh : hd h = true) (hx : (-8 ≤ x ∧ x ≤ 8) ∧ (-8 ≤ y ∧ y ≤ 8)) (w : World) :
    Calls Tryz.prog 89 #[.complex .f32 (Meas.f32 x) (Meas.f32 y), .int .i64 h] w fun e w' => (∃ r, e = .returned (.float .f32 r) ∧ I32 (wv h (x, y)) r) ∧ Below w.heap.size w w' := by
  obtain ⟨h0, h3⟩ := hd_yes hh
  have U := Lib.hid units
  have n0 : ∀ W, (Op.unary .neg (.float .f32 0)).run Tryz.prog W = .ok (.float .f32 2147483648) W := fun W => by rfl
  have n1 : ∀ W, (Op.unary .neg (.float .f32 1065353216)).run Tryz.prog W = .ok (.float .f32 3212836864) W := fun W => by rfl
  have n2 : ∀ W, (Op.unary .neg (.float .f32 3212836864)).run Tryz.prog W = .ok (.float .f32 1065353216) W := fun W => by rfl
  obtain ⟨r0, i0, M0, j0, k0⟩ := cmul (P := Tryz.prog) (a := x) (b := y) (c := 1) (d := 0) (by omega) (by omega) (by decide) (by decide) (i32_f32 x) (i32_f32 y) u32_1 u32_m0
  obtain ⟨r1, i1, M1, j1, k1⟩ := cmul (P := Tryz.prog) (a := x) (b := y) (c := 0) (d := -1) (by omega) (by omega) (by decide) (by decide) (i32_f32 x) (i32_f32 y) u32_0 u32_m1
  obtain ⟨r2, i2, M2, j2, k2⟩ := cmul (P := Tryz.prog) (a := x) (b := y) (c := -1) (d := 0) (by omega) (by omega) (by decide) (by decide) (i32_f32 x) (i32_f32 y) u32_m1 u32_m0
  obtain ⟨r3, i3, M3, j3, k3⟩ := cmul (P := Tryz.prog) (a := x) (b := y) (c := 0) (d := 1) (by omega) (by omega) (by decide) (by decide) (i32_f32 x) (i32_f32 y) u32_0 u32_1
  have J0 := Lib.hid (show I32 (wv 0 (x, y)) r0 by show I32 x r0; rw [show x = x * 1 - y * 0 by omega]; exact j0)
  have J1 := Lib.hid (show I32 (wv 1 (x, y)) r1 by show I32 y r1; rw [show y = x * 0 - y * -1 by omega]; exact j1)
  have J2 := Lib.hid (show I32 (wv 2 (x, y)) r2 by show I32 (-x) r2; rw [show -x = x * -1 - y * 0 by omega]; exact j2)
  have J3 := Lib.hid (show I32 (wv 3 (x, y)) r3 by show I32 (-y) r3; rw [show -y = x * 0 - y * 1 by omega]; exact j3)
  clear j0 j1 j2 j3 k0 k1 k2 k3 hx hh
  have hc : h = 0 ∨ h = 1 ∨ h = 2 ∨ h = 3 := by omega
  clear h0 h3
  rcases hc with rfl | rfl | rfl | rfl
  · go_enter Tryz.func89, Tryz.ntmps89
    go_wp2_with fail
    refine (U.out _).mono ?_
    rintro e w' ⟨rfl, rfl⟩
    go_wp2_with fail
    go_ret
    exact ⟨⟨_, rfl, J0.out⟩, by go_grown⟩
  · go_enter Tryz.func89, Tryz.ntmps89
    go_wp2_with fail
    refine (U.out _).mono ?_
    rintro e w' ⟨rfl, rfl⟩
    go_wp2_with fail
    go_ret
    exact ⟨⟨_, rfl, J1.out⟩, by go_grown⟩
  · go_enter Tryz.func89, Tryz.ntmps89
    go_wp2_with fail
    refine (U.out _).mono ?_
    rintro e w' ⟨rfl, rfl⟩
    go_wp2_with fail
    go_ret
    exact ⟨⟨_, rfl, J2.out⟩, by go_grown⟩
  · go_enter Tryz.func89, Tryz.ntmps89
    go_wp2_with fail
    refine (U.out _).mono ?_
    rintro e w' ⟨rfl, rfl⟩
    go_wp2_with fail
    go_ret
    exact ⟨⟨_, rfl, J3.out⟩, by go_grown⟩

set_option maxRecDepth 100000 in
set_option maxHeartbeats 4000000 in
theorem worstI (A : Option Addr) (n c : Nat) (ps : List (Int × Int)) (h : Int) (w : World) (hn : ps.length = n) (hb : n ≤ 1048576) (hr : Rd w w.heap.size A (pls ps)) :
    Calls Tryz.prog 46 #[.slice A n c, .int .i64 h] w (fun e w' => e = .returned (pq (wD ps h)) ∧ Below w.heap.size w w') := by
  have HR := Lib.hid (rd_alloc (o := .cells (pc 0 0) 44) hr (Nat.le_refl _))
  have HR0 := Lib.hid hr
  have R0 := Bk.new w (pc 0 0) 44
  have hu : undef = Value.tuple #[] := rfl
  rcases w_cases ps h with hx | ⟨hx, ht⟩ | ⟨hx, ht⟩
  · rw [w_no (Or.inl hx)]
    have E := Lib.hid (roseI (A := A) (c := c) (H := w.heap.size) hn hb hx)
    clear hx hr hn
    go_enter Tryz.func46, Tryz.ntmps46
    go_wp2_with fail
    refine (E.out _ (by simp) HR.out).mono ?_
    rintro e v ⟨rfl, b1⟩
    have R := Lib.hid (R0.below b1)
    have B1 := Lib.hid (show Below w.heap.size w v from Below.trans (by go_grown) (b1.mono (by simp)))
    clear b1 R0
    have r0 := R.out.cell (i := 0) rfl
    have r1 := R.out.cell (i := 1) rfl
    have y0 := R.out.frozen 0
    have y1 := R.out.frozen 1
    have HS0 := Lib.hid (set2_0 (P := .int .i64 (0)) (Q := .int .i64 (0)) (by rw [r0]; rfl))
    have HS1 := Lib.hid (set2_1 (P := .int .i64 (0)) (Q := .int .i64 (0)) (by rw [r1]; rfl))
    go_wp2_with fail
    have s0 := HS0.out
    have s1 := HS1.out
    (try simp only [Exit.inBlock, Exit.then])
    refine bodyPost_ret (v := pq (0, 0)) (by simp [results, Tryz.results46, go_sem, s0, s1]; try rfl) rfl ?_
    exact ⟨rfl, B1.out.trans (by have h9 := B1.out.size; go_grown)⟩
  · rw [w_no (Or.inr ht)]
    have E := Lib.hid (roseI (A := A) (c := c) (H := w.heap.size) hn hb hx)
    have I := Lib.hid (isHeadingI_of ht)
    clear hx hr hn ht
    go_enter Tryz.func46, Tryz.ntmps46
    go_wp2_with fail
    refine (E.out _ (by simp) HR.out).mono ?_
    rintro e v ⟨rfl, b1⟩
    have R := Lib.hid (R0.below b1)
    have B1 := Lib.hid (show Below w.heap.size w v from Below.trans (by go_grown) (b1.mono (by simp)))
    clear b1 R0
    go_wp2_with fail
    refine (I.out _).mono ?_
    rintro e v' ⟨rfl, rfl⟩
    have r0 := R.out.cell (i := 0) rfl
    have r1 := R.out.cell (i := 1) rfl
    have y0 := R.out.frozen 0
    have y1 := R.out.frozen 1
    have HS0 := Lib.hid (set2_0 (P := .int .i64 (0)) (Q := .int .i64 (0)) (by rw [r0]; rfl))
    have HS1 := Lib.hid (set2_1 (P := .int .i64 (0)) (Q := .int .i64 (0)) (by rw [r1]; rfl))
    go_wp2_with fail
    have s0 := HS0.out
    have s1 := HS1.out
    (try simp only [Exit.inBlock, Exit.then])
    refine bodyPost_ret (v := pq (0, 0)) (by simp [results, Tryz.results46, go_sem, s0, s1]; try rfl) rfl ?_
    exact ⟨rfl, B1.out.trans (by have h9 := B1.out.size; go_grown)⟩
  · rw [w_yes hx ht]
    have E := Lib.hid (roseI (A := A) (c := c) (H := w.heap.size) hn hb hx)
    have I := Lib.hid (isHeadingI_of ht)
    have NR := Lib.hid (near_rs hx)
    have HN := Lib.hid hn
    have WI := Lib.hid (fun x y hxy => wayIn (x := x) (y := y) ht hxy)
    have hn0 : 0 < n := by have := (rs_len hx).1; omega
    have hn0' : (0 : Int) < (n : Int) := by omega
    have hl0 : 0 < (pls ps).length := by rw [pls_len]; omega
    obtain ⟨p0, hp0⟩ : ∃ p, ps[0]? = some p := ⟨_, List.getElem?_eq_getElem (by omega)⟩
    have HP := Lib.hid hp0
    obtain ⟨b, o, eA, hbl, _⟩ := HR.out.get hl0
    subst eA
    clear hx hr hn ht
    go_enter Tryz.func46, Tryz.ntmps46
    go_wp2_with fail
    refine (E.out _ (by simp) HR.out).mono ?_
    rintro e v ⟨rfl, b1⟩
    have R := Lib.hid (R0.below b1)
    have HR1 := Lib.hid (HR.out.below (b1.mono (by simp)))
    have B1 := Lib.hid (show Below w.heap.size w v from Below.trans (by go_grown) (b1.mono (by simp)))
    clear b1 R0
    go_wp2_with fail
    refine (I.out _).mono ?_
    rintro e v' ⟨rfl, rfl⟩
    obtain ⟨b', o', eA, _, hcell0⟩ := HR1.out.get hl0
    injection eA with eA
    injection eA with e1 e2
    subst e1 e2
    obtain ⟨z0, z1⟩ := pls_get hp0
    obtain ⟨x0, y0⟩ := p0
    have c0 : v.cell? ⟨b, o, none⟩ = some (.int .i64 x0) := hcell0 0 _ z0
    have c1 : v.cell? ⟨b, o + 1, none⟩ = some (.int .i64 y0) := hcell0 1 _ z1
    have P0 := Lib.hid (show Bk (v.alloc (.cells (pc x0 y0) 44)) v.heap.size (pc (wso h ps (x0, y0) 0).1 (wso h ps (x0, y0) 0).2) 44 from Bk.new v (pc x0 y0) _)
    have RA := Lib.hid (R.out.alloc (o := .cells (pc x0 y0) 44))
    have lv : b < v.heap.size := World.block_lt_of_cell? v _ c0
    have lw := R.out.lt
    have BA := Lib.hid (B1.out.alloc B1.out.size (.cells (pc x0 y0) 44))
    clear hcell0 hl0 hp0 z0 z1
    go_wp2_with fail
    clear c0 c1
    go_loopw [22] (fun i wr => ∃ k : Nat, k ≤ n ∧ i = .int .i64 k ∧ Hid (Bk wr v.heap.size (pc (wso h ps (x0, y0) k).1 (wso h ps (x0, y0) k).2) 44) ∧ Hid (Bk wr w.heap.size (pc 0 0) 44) ∧ Hid (Below w.heap.size w wr)) (fun i _ => n - (intOf i).toNat)
    case atStart => exact ⟨0, Nat.zero_le _, rfl, P0, RA, BA⟩
    case round =>
      obtain ⟨k, hk, rfl, PK, QK, BK⟩ := hrel
      have hbs := BK.out.size
      by_cases hlt : k < n
      · have hkz : k < ps.length := by rw [HN.out]; exact hlt
        have hl : k * 2 < (pls ps).length := by rw [pls_len]; omega
        obtain ⟨z, hz⟩ : ∃ z, ps[k]? = some z := ⟨_, List.getElem?_eq_getElem hkz⟩
        obtain ⟨b', o', eA, _, hcell⟩ := (HR0.out.below BK.out).get hl
        injection eA with eA
        injection eA with e1 e2
        subst e1 e2
        obtain ⟨z0, z1⟩ := pls_get hz
        have E2 := Lib.hid (wso_next (h := h) HP.out hz)
        have bz := NR.out.at hz
        have bw := wso_near (h := h) NR.out HP.out k
        obtain ⟨x, y⟩ := z
        have P1 := PK.out
        obtain ⟨⟨p, q⟩, hpq⟩ : ∃ p, wso h ps (x0, y0) k = p := ⟨_, rfl⟩
        rw [hpq] at P1 bw E2
        simp only at bz bw
        have C1 := Lib.hid (complexOf x y (by omega) (by omega))
        have C2 := Lib.hid (complexOf p q (by omega) (by omega))
        have W1 := Lib.hid (WI.out x y bz)
        have W2 := Lib.hid (WI.out p q bw)
        have V1 := Lib.hid (wv_bound (h := h) bz.1 bz.2)
        have V2 := Lib.hid (wv_bound (h := h) bw.1 bw.2)
        have ES := Lib.hid (show wso h ps (x0, y0) (k + 1) = if wv h (p, q) < wv h (x, y) then (x, y) else (p, q) from E2.out)
        obtain ⟨V, hV⟩ : ∃ V, wv h (x, y) = V := ⟨_, rfl⟩
        obtain ⟨U, hU⟩ : ∃ U, wv h (p, q) = U := ⟨_, rfl⟩
        rw [hV] at W1 V1 ES
        rw [hU] at W2 V2 ES
        have c1 : wr.cell? ⟨b, o + k * 2, none⟩ = some (.int .i64 x) := hcell _ _ z0
        have c2 : wr.cell? ⟨b, o + k * 2 + 1, none⟩ = some (.int .i64 y) := hcell _ _ z1
        have lb : b < wr.heap.size := World.block_lt_of_cell? wr _ c1
        have lb2 : ∀ j, b < wr.heap.size + j := fun j => by omega
        have P2 := Lib.hid P1
        have k0 := P1.cell (i := 0) rfl
        have k1 := P1.cell (i := 1) rfl
        have g0 := P1.frozen 0
        have g1 := P1.frozen 1
        have l1 := P1.lt
        have l2 : ∀ j, v.heap.size < wr.heap.size + j := fun j => by omega
        clear hcell hz hl hkz z0 z1 bz bw P1 PK hpq hV hU E2 P0 RA BA
        by_cases hlts : U < V
        all_goals
          go_wp2_with fail
          refine wp_region_noPanic ?_
          refine wp_region_held_drew (S := (fun w' => w'.cell? ⟨wr.heap.size, 0, none⟩ = some (.int .i64 x) ∧ w'.cell? ⟨wr.heap.size, 1, none⟩ = some (.int .i64 y) ∧ w'.cell? ⟨v.heap.size, 0, none⟩ = some (.int .i64 p) ∧ w'.cell? ⟨v.heap.size, 1, none⟩ = some (.int .i64 q))) (by kernel_rfl) ?_ (fun hH => ?_)
          · simp [go_sem, *]
          refine wpAnyH_take (i := 0) (oi := { dst := some 26, op := _, type := _, pos := _, after := _, guard := _ }) (v := ?_) rfl (by kernel_rfl) (by kernel_rfl) (by kernel_rfl) (fun _ _ _ h => h) (Or.inl ⟨by rfl, ?_⟩) hH ?_
          rotate_left 1
          · intro W hSw
            (try dsimp only at hSw)
            go_simp
            (try with_reducible rfl)
          try simp only [Act.put, List.setIfInBounds_toArray, List.set_cons_zero, List.set_cons_succ]
          refine wpAnyH_take (i := 2) (oi := { dst := some 28, op := _, type := _, pos := _, after := _, guard := _ }) (v := ?_) rfl (by kernel_rfl) (by kernel_rfl) (by kernel_rfl) (fun _ _ _ h => h) (Or.inl ⟨by rfl, ?_⟩) hH ?_
          rotate_left 1
          · intro W hSw
            (try dsimp only at hSw)
            go_simp
            (try with_reducible rfl)
          try simp only [Act.put, List.setIfInBounds_toArray, List.set_cons_zero, List.set_cons_succ]
          refine wpAnyH_take (i := 4) (oi := { dst := some 30, op := _, type := _, pos := _, after := _, guard := _ }) (v := ?_) rfl (by kernel_rfl) (by kernel_rfl) (by kernel_rfl) (fun _ _ _ h => h) (Or.inl ⟨by rfl, ?_⟩) hH ?_
          rotate_left 1
          · intro W hSw
            (try dsimp only at hSw)
            go_simp
            (try with_reducible rfl)
          try simp only [Act.put, List.setIfInBounds_toArray, List.set_cons_zero, List.set_cons_succ]
          refine wpAnyH_take (i := 6) (oi := { dst := some 32, op := _, type := _, pos := _, after := _, guard := _ }) (v := ?_) rfl (by kernel_rfl) (by kernel_rfl) (by kernel_rfl) (fun _ _ _ h => h) (Or.inl ⟨by rfl, ?_⟩) hH ?_
          rotate_left 1
          · intro W hSw
            (try dsimp only at hSw)
            go_simp
            (try with_reducible rfl)
          try simp only [Act.put, List.setIfInBounds_toArray, List.set_cons_zero, List.set_cons_succ]
          refine wpAnyH_ready (rs := [1]) (by kernel_rfl) (by simp) (AllReadyH.cons rfl (fun K hK => ?_) AllReadyH.nil)
          go_simp
          go_at_call 94; ((with_reducible refine (C1.out _).mono ?_); rintro e w' ⟨rfl, rfl⟩); go_wp2_with fail
          refine hK.out _ _ ?_ (fun hG => ?_)
          · exact ⟨cell_alloc hH.1, cell_alloc hH.2.1, cell_alloc hH.2.2.1, cell_alloc hH.2.2.2⟩
          replace hH := hG
          clear hK K hG
          try simp only [Act.put, List.setIfInBounds_toArray, List.set_cons_zero, List.set_cons_succ]
          refine wpAnyH_ready (rs := [3]) (by kernel_rfl) (by simp) (AllReadyH.cons rfl (fun K hK => ?_) AllReadyH.nil)
          go_simp
          go_at_call 89; ((with_reducible refine (W1.out _).mono ?_); rintro e u1 ⟨⟨q1, rfl, jj1⟩, hb1⟩); go_wp2_with fail
          refine hK.out _ _ ?_ (fun hG => ?_)
          · exact ⟨cell_below hb1 hH.1, cell_below hb1 hH.2.1, cell_below hb1 hH.2.2.1, cell_below hb1 hH.2.2.2⟩
          replace hH := hG
          clear hK K hG
          try simp only [Act.put, List.setIfInBounds_toArray, List.set_cons_zero, List.set_cons_succ]
          refine wpAnyH_ready (rs := [5]) (by kernel_rfl) (by simp) (AllReadyH.cons rfl (fun K hK => ?_) AllReadyH.nil)
          go_simp
          go_at_call 94; ((with_reducible refine (C2.out _).mono ?_); rintro e w' ⟨rfl, rfl⟩); go_wp2_with fail
          refine hK.out _ _ ?_ (fun hG => ?_)
          · exact ⟨cell_alloc hH.1, cell_alloc hH.2.1, cell_alloc hH.2.2.1, cell_alloc hH.2.2.2⟩
          replace hH := hG
          clear hK K hG
          try simp only [Act.put, List.setIfInBounds_toArray, List.set_cons_zero, List.set_cons_succ]
          refine wpAnyH_ready (rs := [7]) (by kernel_rfl) (by simp) (AllReadyH.cons rfl (fun K hK => ?_) AllReadyH.nil)
          go_simp
          go_at_call 89; ((with_reducible refine (W2.out _).mono ?_); rintro e u2 ⟨⟨q2, rfl, jj2⟩, hb2⟩); go_wp2_with fail
          have GG := gt_is (b := decide (U < V)) rfl V1.out V2.out jj1 jj2
          (try rw [decide_eq_true hlts] at GG)
          (try rw [decide_eq_false hlts] at GG)
          refine hK.out _ _ ?_ (fun hG => ?_)
          · exact ⟨cell_below hb2 hH.1, cell_below hb2 hH.2.1, cell_below hb2 hH.2.2.1, cell_below hb2 hH.2.2.2⟩
          replace hH := hG
          clear hK K hG
          try simp only [Act.put, List.setIfInBounds_toArray, List.set_cons_zero, List.set_cons_succ]
          refine wpAnyH_take (i := 8) (oi := { dst := some 34, op := _, type := _, pos := _, after := _, guard := _ }) (v := ?_) rfl (by kernel_rfl) (by kernel_rfl) (by kernel_rfl) (fun _ _ _ h => h) (Or.inl ⟨by rfl, ?_⟩) hH ?_
          rotate_left 1
          · intro W hSw
            (try dsimp only at hSw)
            go_simp
            (try with_reducible rfl)
          try simp only [Act.put, List.setIfInBounds_toArray, List.set_cons_zero, List.set_cons_succ]
          refine wpAnyH_done (by kernel_rfl) ?_ _
          refine NoPanic.normal ?_
          have HA : Below (wr.alloc (.cells (pc x y) 44)).heap.size (wr.alloc (.cells (pc x y) 44)) u1 := Below.trans (by first | exact below_drewN (by go_grown) _ | go_grown) (hb1.mono (by first | (simp; done) | (simp; omega)))
          have h9 := HA.size
          have HC : Below (wr.alloc (.cells (pc x y) 44)).heap.size (wr.alloc (.cells (pc x y) 44)) u2 := HA.trans (Below.trans (by first | exact below_drewN (by go_grown) _ | go_grown) (hb2.mono (by first | (simp; done) | (simp; omega) | (simp at h9 ⊢; omega))))
          have P3 := Lib.hid (P2.out.alloc.below HC)
          have T3 := Lib.hid ((Bk.new wr (pc x y) 44).below HC)
          have Q3 := Lib.hid (QK.out.alloc.below HC)
          have B3 := Lib.hid ((BK.out.alloc hbs (.cells (pc x y) 44)).trans (HC.mono (by simp; omega)))
          clear hb1 hb2 HA HC h9 hH k0 k1 g0 g1 l1 l2 c1 c2 lb lb2 P2 QK BK
        · have ESN := Lib.hid (show wso h ps (x0, y0) (k + 1) = (x, y) by rw [ES.out, if_pos (by omega)])
          have t0 := T3.out.cell (i := 0) rfl
          have t1 := T3.out.cell (i := 1) rfl
          have k0 := P3.out.cell (i := 0) rfl
          have k1 := P3.out.cell (i := 1) rfl
          have g0 := P3.out.frozen 0
          have g1 := P3.out.frozen 1
          have nf : v.heap.size ≠ w.heap.size := by omega
          have PN := Lib.hid (show Bk _ v.heap.size (pc (wso h ps (x0, y0) (k + 1)).1 (wso h ps (x0, y0) (k + 1)).2) 44 by rw [ESN.out]; exact (P3.out.set (i := 0) (v := .int .i64 x)).set (i := 1) (v := .int .i64 y))
          have QN := Lib.hid ((Q3.out.far (i := 0) (v := .int .i64 x) nf).far (i := 1) (v := .int .i64 y) nf)
          have BN := Lib.hid ((B3.out.grown (Bk.setG u2 v.heap.size 0 (.int .i64 x)) B3.out.size (fun q hq => by cases hq; omega)).grown (Bk.setG _ v.heap.size 1 (.int .i64 y)) (by simpa using B3.out.size) (fun q hq => by cases hq; omega))
          clear P3 T3 Q3 B3
          go_wp2_with fail
          go_roundw
          case rel => first | exact ⟨k + 1, by omega, by go_num, PN, QN, BN⟩ | ((repeat apply Exists.intro); exact ⟨⟨k + 1, by omega, by go_num, PN, QN, BN⟩, rfl⟩)
          case measure => simp [intOf]; omega
        · have ESN := Lib.hid (show wso h ps (x0, y0) (k + 1) = (p, q) by rw [ES.out, if_neg (by omega)])
          have PN := Lib.hid (show Bk u2 v.heap.size (pc (wso h ps (x0, y0) (k + 1)).1 (wso h ps (x0, y0) (k + 1)).2) 44 by rw [ESN.out]; exact P3.out)
          go_wp2_with fail
          go_roundw
          case rel => first | exact ⟨k + 1, by omega, by go_num, PN, Q3, B3⟩ | ((repeat apply Exists.intro); exact ⟨⟨k + 1, by omega, by go_num, PN, Q3, B3⟩, rfl⟩)
          case measure => simp [intOf]; omega
      · obtain rfl : k = n := by omega
        have FW := Lib.hid (show wso h ps (x0, y0) k = wor h ps by unfold wso; rw [if_neg (by omega), ← HN.out, List.take_length])
        have P1 := PK.out
        rw [FW.out] at P1
        obtain ⟨⟨dx, dy⟩, hd'⟩ : ∃ d, wor h ps = d := ⟨_, rfl⟩
        have HD := Lib.hid hd'
        rw [hd'] at P1
        have k0 := P1.cell (i := 0) rfl
        have k1 := P1.cell (i := 1) rfl
        clear hd' PK P1 P0 RA BA
        have r0 := QK.out.cell (i := 0) rfl
        have r1 := QK.out.cell (i := 1) rfl
        have y0 := QK.out.frozen 0
        have y1 := QK.out.frozen 1
        have HS0 := Lib.hid (set2_0 (P := .int .i64 (dx)) (Q := .int .i64 (dy)) (by rw [r0]; rfl))
        have HS1 := Lib.hid (set2_1 (P := .int .i64 (dx)) (Q := .int .i64 (dy)) (by rw [r1]; rfl))
        go_wp2_with fail
        have s0 := HS0.out
        have s1 := HS1.out
        (try simp only [Exit.inBlock, Exit.then])
        refine bodyPost_ret (v := pq (dx, dy)) (by simp [results, Tryz.results46, go_sem, s0, s1]; try rfl) rfl ?_
        exact ⟨by rw [HD.out], BK.out.trans (by have h9 := BK.out.size; go_grown)⟩

theorem fieldX (a b : Int) (W : World) : (Instr.field 44 (.agg #[.int .i64 a, .int .i64 b]) 0).run Tryz.prog W = .ok (.int .i64 a) W := by
  first | kernel_rfl | rfl | (simp [Instr.field, go_sem]; done)
theorem l2TurnB {x y : Int} (n : Int) (hx : x.natAbs < 4611686018427387904) (hy : y.natAbs < 4611686018427387904) (w : World) :
    Calls Tryz.prog 81 #[.agg #[.int .i64 x, .int .i64 y], .int .i64 n] w fun e w' => e = .returned (.agg #[.int .i64 (tx (n % 4).toNat x y), .int .i64 (ty (n % 4).toNat x y)]) ∧ Below w.heap.size w w' :=
  (l2Turn n hx hy w).mono fun _ _ k => ⟨k.1, by rw [k.2]; go_grown⟩

set_option maxRecDepth 100000 in
set_option maxHeartbeats 4000000 in
theorem worstS (A : Option Addr) (n c : Nat) (ps : List (Int × Int)) (h : Int) (w : World) (hn : ps.length = n) (hb : n ≤ 1048576) (hr : Rd w w.heap.size A (pls ps)) :
    Calls Tryz.prog 37 #[.slice A n c, .int .i64 h] w (fun e w' => e = .returned (pq (wD ps h)) ∧ Below w.heap.size w w') := by
  have HR := Lib.hid (rd_alloc (o := .cells (pc 0 0) 44) (rd_alloc (o := .cells (pc 0 0) 44) hr (Nat.le_refl _)) (by simp))
  have HR0 := Lib.hid hr
  have R0 := (Bk.new w (pc 0 0) 44).alloc (o := .cells (pc 0 0) 44)
  have Q0 : Bk ((w.alloc (.cells (pc 0 0) 44)).alloc (.cells (pc 0 0) 44)) (w.heap.size + 1) (pc 0 0) 44 := by simpa using Bk.new (w.alloc (.cells (pc 0 0) 44)) (pc 0 0) 44
  have hu : undef = Value.tuple #[] := rfl
  rcases w_cases ps h with hx | ⟨hx, ht⟩ | ⟨hx, ht⟩
  · rw [w_no (Or.inl hx)]
    have E := Lib.hid (roseS (A := A) (c := c) (H := w.heap.size) hn hb hx)
    clear hx hr hn
    go_enter Tryz.func37, Tryz.ntmps37
    go_wp2_with fail
    refine (E.out _ (by simp; omega) HR.out).mono ?_
    rintro e v ⟨rfl, b1⟩
    have R := Lib.hid (R0.below b1)
    have P := Lib.hid (Q0.below b1)
    have B1 := Lib.hid (show Below w.heap.size w v from Below.trans (by go_grown) (b1.mono (by first | (simp; done) | (simp; omega))))
    clear b1 R0 Q0
    have k0 := P.out.cell (i := 0) rfl
    have k1 := P.out.cell (i := 1) rfl
    have r0 := R.out.cell (i := 0) rfl
    have r1 := R.out.cell (i := 1) rfl
    have y0 := R.out.frozen 0
    have y1 := R.out.frozen 1
    have HS0 := Lib.hid (set2_0 (P := .int .i64 (0)) (Q := .int .i64 (0)) (by rw [r0]; rfl))
    have HS1 := Lib.hid (set2_1 (P := .int .i64 (0)) (Q := .int .i64 (0)) (by rw [r1]; rfl))
    go_wp2_with fail
    have s0 := HS0.out
    have s1 := HS1.out
    (try simp only [Exit.inBlock, Exit.then])
    refine bodyPost_ret (v := pq (0, 0)) (by simp [results, Tryz.results37, go_sem, s0, s1]; try rfl) rfl ?_
    exact ⟨rfl, B1.out.trans (by have h9 := B1.out.size; go_grown)⟩
  · rw [w_no (Or.inr ht)]
    have E := Lib.hid (roseS (A := A) (c := c) (H := w.heap.size) hn hb hx)
    have I := Lib.hid (isHeadingS_of ht)
    clear hx hr hn ht
    go_enter Tryz.func37, Tryz.ntmps37
    go_wp2_with fail
    refine (E.out _ (by simp; omega) HR.out).mono ?_
    rintro e v ⟨rfl, b1⟩
    have R := Lib.hid (R0.below b1)
    have P := Lib.hid (Q0.below b1)
    have B1 := Lib.hid (show Below w.heap.size w v from Below.trans (by go_grown) (b1.mono (by first | (simp; done) | (simp; omega))))
    clear b1 R0 Q0
    go_wp2_with fail
    refine (I.out _).mono ?_
    rintro e v' ⟨rfl, rfl⟩
    have k0 := P.out.cell (i := 0) rfl
    have k1 := P.out.cell (i := 1) rfl
    have r0 := R.out.cell (i := 0) rfl
    have r1 := R.out.cell (i := 1) rfl
    have y0 := R.out.frozen 0
    have y1 := R.out.frozen 1
    have HS0 := Lib.hid (set2_0 (P := .int .i64 (0)) (Q := .int .i64 (0)) (by rw [r0]; rfl))
    have HS1 := Lib.hid (set2_1 (P := .int .i64 (0)) (Q := .int .i64 (0)) (by rw [r1]; rfl))
    go_wp2_with fail
    have s0 := HS0.out
    have s1 := HS1.out
    (try simp only [Exit.inBlock, Exit.then])
    refine bodyPost_ret (v := pq (0, 0)) (by simp [results, Tryz.results37, go_sem, s0, s1]; try rfl) rfl ?_
    exact ⟨rfl, B1.out.trans (by have h9 := B1.out.size; go_grown)⟩
  · rw [w_yes hx ht]
    have E := Lib.hid (roseS (A := A) (c := c) (H := w.heap.size) hn hb hx)
    have I := Lib.hid (isHeadingS_of ht)
    have NR := Lib.hid (near_rs hx)
    have HN := Lib.hid hn
    obtain ⟨hh0, hh3⟩ := hd_yes ht
    have w1 : IntKind.i64.wrap (-h) = -h := IntWalk.i64_in _ (by omega)
    have w2 : wrap64 (-h) = -h := IntWalk.wrap64_in _ (by omega)
    have w3 : IntKind.i64.wrap (0 - h) = -h := by rw [Int.zero_sub]; exact w1
    have w4 : wrap64 (0 - h) = -h := by rw [Int.zero_sub]; exact w2
    clear hx hr hn ht
    go_enter Tryz.func37, Tryz.ntmps37
    go_wp2_with fail
    refine (E.out _ (by simp; omega) HR.out).mono ?_
    rintro e v ⟨rfl, b1⟩
    have R := Lib.hid (R0.below b1)
    have P := Lib.hid (Q0.below b1)
    have B1 := Lib.hid (show Below w.heap.size w v from Below.trans (by go_grown) (b1.mono (by first | (simp; done) | (simp; omega))))
    clear b1 R0 Q0
    go_wp2_with fail
    refine (I.out _).mono ?_
    rintro e v' ⟨rfl, rfl⟩
    have P0 := Lib.hid (show Bk v (w.heap.size + 1) (pc (wor h (ps.take 0)).1 (wor h (ps.take 0)).2) 44 from P.out)
    go_wp2_with fail
    go_loopw [20] (fun i wr => ∃ k : Nat, k ≤ n ∧ i = .int .i64 k ∧ Hid (Bk wr (w.heap.size + 1) (pc (wor h (ps.take k)).1 (wor h (ps.take k)).2) 44) ∧ Hid (Bk wr w.heap.size (pc 0 0) 44) ∧ Hid (Below w.heap.size w wr)) (fun i _ => n - (intOf i).toNat)
    case atStart => exact ⟨0, Nat.zero_le _, rfl, P0, R, B1⟩
    case round =>
      obtain ⟨k, hk, rfl, PK, QK, BK⟩ := hrel
      have hbs := BK.out.size
      by_cases hlt : k < n
      · have hkz : k < ps.length := by rw [HN.out]; exact hlt
        have hl : k * 2 < (pls ps).length := by rw [pls_len]; omega
        obtain ⟨z, hz⟩ : ∃ z, ps[k]? = some z := ⟨_, List.getElem?_eq_getElem hkz⟩
        obtain ⟨b, o, eA, _, hcell⟩ := (HR0.out.below BK.out).get hl
        obtain ⟨z0, z1⟩ := pls_get hz
        have E2 := Lib.hid (wor_take (h := h) hz)
        have bz := NR.out.at hz
        have bw := wor_near (h := h) NR.out k
        obtain ⟨x, y⟩ := z
        have P1 := PK.out
        obtain ⟨⟨p, q⟩, hpq⟩ : ∃ p, wor h (ps.take k) = p := ⟨_, rfl⟩
        rw [hpq] at P1 bw E2
        simp only at bz bw
        have c1 : wr.cell? ⟨b, o + k * 2, none⟩ = some (.int .i64 x) := hcell _ _ z0
        have c2 : wr.cell? ⟨b, o + k * 2 + 1, none⟩ = some (.int .i64 y) := hcell _ _ z1
        have lb : b < wr.heap.size := World.block_lt_of_cell? wr _ c1
        have lb2 : ∀ j, b < wr.heap.size + j := fun j => by omega
        have P2 := Lib.hid P1
        have k0 := P1.cell (i := 0) rfl
        have k1 := P1.cell (i := 1) rfl
        have g0 := P1.frozen 0
        have g1 := P1.frozen 1
        have l1 := P1.lt
        have l2 : ∀ j, w.heap.size + 1 < wr.heap.size + j := fun j => by omega
        have nf : w.heap.size + 1 ≠ w.heap.size := by omega
        have C1 := Lib.hid (l2TurnB (x := x) (y := y) (-h) (by omega) (by omega))
        have C2 := Lib.hid (l2TurnB (x := p) (y := q) (-h) (by omega) (by omega))
        clear hcell hz hl hkz z0 z1 bz bw P1 PK hpq P0
        subst eA
        by_cases hk0 : k = 0
        · have ESN := Lib.hid (show wor h (ps.take (k + 1)) = (x, y) by rw [E2.out, if_pos hk0])
          have t0 : ((k : Int) == 0) = true := by rw [hk0]; rfl
          have t1 : decide ((k : Int) = 0) = true := decide_eq_true (by omega)
          have t2 : decide (k = 0) = true := decide_eq_true hk0
          have t3 : (k == 0) = true := by rw [hk0]; rfl
          have PN := Lib.hid (show Bk _ (w.heap.size + 1) (pc (wor h (ps.take (k + 1))).1 (wor h (ps.take (k + 1))).2) 44 by rw [ESN.out]; exact ((P2.out.set (i := 0) (v := .int .i64 x)).set (i := 1) (v := .int .i64 y)).alloc (o := .cells (pc x y) 44))
          have QN := Lib.hid ((((QK.out.far (i := 0) (v := .int .i64 x) nf).far (i := 1) (v := .int .i64 y) nf)).alloc (o := .cells (pc x y) 44))
          clear hk0 C1 C2
          go_wp2_with fail
          refine wp_region_noPanic ?_
          refine wp_region_held_drew (S := (fun w' => w'.cell? ⟨wr.heap.size, 0, none⟩ = some (.int .i64 x) ∧ w'.cell? ⟨wr.heap.size, 1, none⟩ = some (.int .i64 y) ∧ w'.cell? ⟨w.heap.size + 1, 0, none⟩ = some (.int .i64 p) ∧ w'.cell? ⟨w.heap.size + 1, 1, none⟩ = some (.int .i64 q))) (by kernel_rfl) ?_ (fun hH => ?_)
          · simp [go_sem, *]
          refine wpAnyH_take (i := 0) (oi := { dst := some 25, op := _, type := _, pos := _, after := _, guard := _ }) (v := ?_) rfl (by kernel_rfl) (by kernel_rfl) (by kernel_rfl) (fun _ _ _ h => h) (Or.inl ⟨by rfl, ?_⟩) hH ?_
          rotate_left 1
          · intro W hSw
            (try dsimp only at hSw)
            go_simp
            (try with_reducible rfl)
          try simp only [Act.put, List.setIfInBounds_toArray, List.set_cons_zero, List.set_cons_succ]
          refine wpAnyH_take (i := 1) (oi := { dst := some 26, op := _, type := _, pos := _, after := _, guard := _ }) (v := ?_) rfl (by kernel_rfl) (by kernel_rfl) (by kernel_rfl) (fun _ _ _ h => h) (Or.inl ⟨by rfl, ?_⟩) hH ?_
          rotate_left 1
          · intro W hSw
            (try dsimp only at hSw)
            go_simp
            (try with_reducible rfl)
          try simp only [Act.put, List.setIfInBounds_toArray, List.set_cons_zero, List.set_cons_succ]
          refine wpAnyH_take (i := 2) (oi := { dst := some 27, op := _, type := _, pos := _, after := _, guard := _ }) (v := ?_) rfl (by kernel_rfl) (by kernel_rfl) (by kernel_rfl) (fun _ _ _ h => h) (Or.inl ⟨by rfl, ?_⟩) hH ?_
          rotate_left 1
          · intro W hSw
            (try dsimp only at hSw)
            go_simp
            (try with_reducible rfl)
          try simp only [Act.put, List.setIfInBounds_toArray, List.set_cons_zero, List.set_cons_succ]
          refine wpAnyH_take (i := 3) (oi := { dst := some 28, op := _, type := _, pos := _, after := _, guard := _ }) (v := undef) rfl (by kernel_rfl) (by kernel_rfl) (by kernel_rfl) (fun _ _ _ h => h) (Or.inr ⟨by simp [Region.wanted, yielded, hu, t0, t1, t2, t3], rfl⟩) hH ?_
          try simp only [Act.put, List.setIfInBounds_toArray, List.set_cons_zero, List.set_cons_succ]
          refine wpAnyH_take (i := 4) (oi := { dst := some 29, op := _, type := _, pos := _, after := _, guard := _ }) (v := undef) rfl (by kernel_rfl) (by kernel_rfl) (by kernel_rfl) (fun _ _ _ h => h) (Or.inr ⟨by simp [Region.wanted, yielded, hu, t0, t1, t2, t3], rfl⟩) hH ?_
          try simp only [Act.put, List.setIfInBounds_toArray, List.set_cons_zero, List.set_cons_succ]
          refine wpAnyH_take (i := 5) (oi := { dst := some 30, op := _, type := _, pos := _, after := _, guard := _ }) (v := undef) rfl (by kernel_rfl) (by kernel_rfl) (by kernel_rfl) (fun _ _ _ h => h) (Or.inr ⟨by simp [Region.wanted, yielded, hu, t0, t1, t2, t3], rfl⟩) hH ?_
          try simp only [Act.put, List.setIfInBounds_toArray, List.set_cons_zero, List.set_cons_succ]
          refine wpAnyH_take (i := 6) (oi := { dst := some 31, op := _, type := _, pos := _, after := _, guard := _ }) (v := undef) rfl (by kernel_rfl) (by kernel_rfl) (by kernel_rfl) (fun _ _ _ h => h) (Or.inr ⟨by simp [Region.wanted, yielded, hu, t0, t1, t2, t3], rfl⟩) hH ?_
          try simp only [Act.put, List.setIfInBounds_toArray, List.set_cons_zero, List.set_cons_succ]
          refine wpAnyH_take (i := 7) (oi := { dst := some 32, op := _, type := _, pos := _, after := _, guard := _ }) (v := undef) rfl (by kernel_rfl) (by kernel_rfl) (by kernel_rfl) (fun _ _ _ h => h) (Or.inr ⟨by simp [Region.wanted, yielded, hu, t0, t1, t2, t3], rfl⟩) hH ?_
          try simp only [Act.put, List.setIfInBounds_toArray, List.set_cons_zero, List.set_cons_succ]
          refine wpAnyH_take (i := 8) (oi := { dst := some 33, op := _, type := _, pos := _, after := _, guard := _ }) (v := undef) rfl (by kernel_rfl) (by kernel_rfl) (by kernel_rfl) (fun _ _ _ h => h) (Or.inr ⟨by simp [Region.wanted, yielded, hu, t0, t1, t2, t3], rfl⟩) hH ?_
          try simp only [Act.put, List.setIfInBounds_toArray, List.set_cons_zero, List.set_cons_succ]
          refine wpAnyH_take (i := 9) (oi := { dst := some 34, op := _, type := _, pos := _, after := _, guard := _ }) (v := undef) rfl (by kernel_rfl) (by kernel_rfl) (by kernel_rfl) (fun _ _ _ h => h) (Or.inr ⟨by simp [Region.wanted, yielded, hu, t0, t1, t2, t3], rfl⟩) hH ?_
          try simp only [Act.put, List.setIfInBounds_toArray, List.set_cons_zero, List.set_cons_succ]
          refine wpAnyH_take (i := 10) (oi := { dst := some 35, op := _, type := _, pos := _, after := _, guard := _ }) (v := undef) rfl (by kernel_rfl) (by kernel_rfl) (by kernel_rfl) (fun _ _ _ h => h) (Or.inr ⟨by simp [Region.wanted, yielded, hu, t0, t1, t2, t3], rfl⟩) hH ?_
          try simp only [Act.put, List.setIfInBounds_toArray, List.set_cons_zero, List.set_cons_succ]
          refine wpAnyH_take (i := 11) (oi := { dst := some 36, op := _, type := _, pos := _, after := _, guard := _ }) (v := undef) rfl (by kernel_rfl) (by kernel_rfl) (by kernel_rfl) (fun _ _ _ h => h) (Or.inr ⟨by simp [Region.wanted, yielded, hu, t0, t1, t2, t3], rfl⟩) hH ?_
          try simp only [Act.put, List.setIfInBounds_toArray, List.set_cons_zero, List.set_cons_succ]
          refine wpAnyH_take (i := 12) (oi := { dst := some 37, op := _, type := _, pos := _, after := _, guard := _ }) (v := undef) rfl (by kernel_rfl) (by kernel_rfl) (by kernel_rfl) (fun _ _ _ h => h) (Or.inr ⟨by simp [Region.wanted, yielded, hu, t0, t1, t2, t3], rfl⟩) hH ?_
          try simp only [Act.put, List.setIfInBounds_toArray, List.set_cons_zero, List.set_cons_succ]
          refine wpAnyH_take (i := 13) (oi := { dst := some 38, op := _, type := _, pos := _, after := _, guard := _ }) (v := undef) rfl (by kernel_rfl) (by kernel_rfl) (by kernel_rfl) (fun _ _ _ h => h) (Or.inr ⟨by simp [Region.wanted, yielded, hu, t0, t1, t2, t3], rfl⟩) hH ?_
          try simp only [Act.put, List.setIfInBounds_toArray, List.set_cons_zero, List.set_cons_succ]
          refine wpAnyH_take (i := 14) (oi := { dst := some 39, op := _, type := _, pos := _, after := _, guard := _ }) (v := ?_) rfl (by kernel_rfl) (by kernel_rfl) (by kernel_rfl) (fun _ _ _ h => h) (Or.inl ⟨by rfl, ?_⟩) hH ?_
          rotate_left 1
          · intro W hSw
            (try dsimp only at hSw)
            go_simp
            (try with_reducible rfl)
          try simp only [Act.put, List.setIfInBounds_toArray, List.set_cons_zero, List.set_cons_succ]
          refine wpAnyH_done (by kernel_rfl) ?_ _
          refine NoPanic.normal ?_
          clear hH
          go_wp2_with fail
          go_roundw
          case rel => first | exact ⟨k + 1, by omega, by go_num, PN, QN, Lib.hid (by have h7 := BK.out; have h8 := h7.size; go_grown)⟩ | ((repeat apply Exists.intro); exact ⟨⟨k + 1, by omega, by go_num, PN, QN, Lib.hid (by have h7 := BK.out; have h8 := h7.size; go_grown)⟩, rfl⟩)
          case measure => simp [intOf]; omega
        · have ES := Lib.hid (show wor h (ps.take (k + 1)) = if tx ((-h) % 4).toNat p q < tx ((-h) % 4).toNat x y then (x, y) else (p, q) by rw [E2.out, if_neg hk0]; rfl)
          have t0 : ((k : Int) == 0) = false := by simp; omega
          have t1 : decide ((k : Int) = 0) = false := decide_eq_false (by omega)
          have t2 : decide (k = 0) = false := decide_eq_false hk0
          have t3 : (k == 0) = false := by simp; omega
          have t4 : ¬ (k : Int) = 0 := by omega
          obtain ⟨V, hV⟩ : ∃ V, tx ((-h) % 4).toNat x y = V := ⟨_, rfl⟩
          obtain ⟨U, hU⟩ : ∃ U, tx ((-h) % 4).toNat p q = U := ⟨_, rfl⟩
          obtain ⟨V', hV'⟩ : ∃ V, ty ((-h) % 4).toNat x y = V := ⟨_, rfl⟩
          obtain ⟨U', hU'⟩ : ∃ U, ty ((-h) % 4).toNat p q = U := ⟨_, rfl⟩
          rw [hV, hV'] at C1
          rw [hU, hU'] at C2
          rw [hV, hU] at ES
          clear hV hU hV' hU' E2 hk0
          by_cases hlts : U < V
          all_goals
            have FX := fun (W : World) => fieldX V V' W
            have FY := fun (W : World) => fieldX U U' W
            go_wp2_with fail
            refine wp_region_noPanic ?_
            refine wp_region_held_drew (S := (fun w' => w'.cell? ⟨wr.heap.size, 0, none⟩ = some (.int .i64 x) ∧ w'.cell? ⟨wr.heap.size, 1, none⟩ = some (.int .i64 y) ∧ w'.cell? ⟨w.heap.size + 1, 0, none⟩ = some (.int .i64 p) ∧ w'.cell? ⟨w.heap.size + 1, 1, none⟩ = some (.int .i64 q))) (by kernel_rfl) ?_ (fun hH => ?_)
            · simp [go_sem, *]
            refine wpAnyH_take (i := 0) (oi := { dst := some 25, op := _, type := _, pos := _, after := _, guard := _ }) (v := ?_) rfl (by kernel_rfl) (by kernel_rfl) (by kernel_rfl) (fun _ _ _ h => h) (Or.inl ⟨by rfl, ?_⟩) hH ?_
            rotate_left 1
            · intro W hSw
              (try dsimp only at hSw)
              go_simp
              (try with_reducible rfl)
            try simp only [Act.put, List.setIfInBounds_toArray, List.set_cons_zero, List.set_cons_succ]
            refine wpAnyH_take (i := 1) (oi := { dst := some 26, op := _, type := _, pos := _, after := _, guard := _ }) (v := ?_) rfl (by kernel_rfl) (by kernel_rfl) (by kernel_rfl) (fun _ _ _ h => h) (Or.inl ⟨by rfl, ?_⟩) hH ?_
            rotate_left 1
            · intro W hSw
              (try dsimp only at hSw)
              go_simp
              (try with_reducible rfl)
            try simp only [Act.put, List.setIfInBounds_toArray, List.set_cons_zero, List.set_cons_succ]
            refine wpAnyH_take (i := 2) (oi := { dst := some 27, op := _, type := _, pos := _, after := _, guard := _ }) (v := ?_) rfl (by kernel_rfl) (by kernel_rfl) (by kernel_rfl) (fun _ _ _ h => h) (Or.inl ⟨by rfl, ?_⟩) hH ?_
            rotate_left 1
            · intro W hSw
              (try dsimp only at hSw)
              go_simp
              (try with_reducible rfl)
            try simp only [Act.put, List.setIfInBounds_toArray, List.set_cons_zero, List.set_cons_succ]
            refine wpAnyH_take (i := 3) (oi := { dst := some 28, op := _, type := _, pos := _, after := _, guard := _ }) (v := ?_) rfl (by kernel_rfl) (by kernel_rfl) (by kernel_rfl) (fun _ _ _ h => h) (Or.inl ⟨by rfl, ?_⟩) hH ?_
            rotate_left 1
            · intro W hSw
              (try dsimp only at hSw)
              go_simp
              (try with_reducible rfl)
            try simp only [Act.put, List.setIfInBounds_toArray, List.set_cons_zero, List.set_cons_succ]
            refine wpAnyH_take (i := 4) (oi := { dst := some 29, op := _, type := _, pos := _, after := _, guard := _ }) (v := ?_) rfl (by kernel_rfl) (by kernel_rfl) (by kernel_rfl) (fun _ _ _ h => h) (Or.inl ⟨by rfl, ?_⟩) hH ?_
            rotate_left 1
            · intro W hSw
              (try dsimp only at hSw)
              go_simp
              (try with_reducible rfl)
            try simp only [Act.put, List.setIfInBounds_toArray, List.set_cons_zero, List.set_cons_succ]
            refine wpAnyH_take (i := 5) (oi := { dst := some 30, op := _, type := _, pos := _, after := _, guard := _ }) (v := ?_) rfl (by kernel_rfl) (by kernel_rfl) (by kernel_rfl) (fun _ _ _ h => h) (Or.inl ⟨by rfl, ?_⟩) hH ?_
            rotate_left 1
            · intro W hSw
              (try dsimp only at hSw)
              go_simp
              (try with_reducible rfl)
            try simp only [Act.put, List.setIfInBounds_toArray, List.set_cons_zero, List.set_cons_succ]
            refine wpAnyH_take (i := 8) (oi := { dst := some 33, op := _, type := _, pos := _, after := _, guard := _ }) (v := ?_) rfl (by kernel_rfl) (by kernel_rfl) (by kernel_rfl) (fun _ _ _ h => h) (Or.inl ⟨by rfl, ?_⟩) hH ?_
            rotate_left 1
            · intro W hSw
              (try dsimp only at hSw)
              go_simp
              (try with_reducible rfl)
            try simp only [Act.put, List.setIfInBounds_toArray, List.set_cons_zero, List.set_cons_succ]
            refine wpAnyH_take (i := 9) (oi := { dst := some 34, op := _, type := _, pos := _, after := _, guard := _ }) (v := ?_) rfl (by kernel_rfl) (by kernel_rfl) (by kernel_rfl) (fun _ _ _ h => h) (Or.inl ⟨by rfl, ?_⟩) hH ?_
            rotate_left 1
            · intro W hSw
              (try dsimp only at hSw)
              go_simp
              (try with_reducible rfl)
            try simp only [Act.put, List.setIfInBounds_toArray, List.set_cons_zero, List.set_cons_succ]
            refine wpAnyH_take (i := 10) (oi := { dst := some 35, op := _, type := _, pos := _, after := _, guard := _ }) (v := ?_) rfl (by kernel_rfl) (by kernel_rfl) (by kernel_rfl) (fun _ _ _ h => h) (Or.inl ⟨by rfl, ?_⟩) hH ?_
            rotate_left 1
            · intro W hSw
              (try dsimp only at hSw)
              go_simp
              (try with_reducible rfl)
            try simp only [Act.put, List.setIfInBounds_toArray, List.set_cons_zero, List.set_cons_succ]
            refine wpAnyH_ready (rs := [6]) (by kernel_rfl) (by simp) (AllReadyH.cons rfl (fun K hK => ?_) AllReadyH.nil)
            go_simp
            go_at_call 81; ((with_reducible refine (C1.out _).mono ?_); rintro e u1 ⟨rfl, hb1⟩); go_wp2_with fail
            refine hK.out _ _ ?_ (fun hG => ?_)
            · exact ⟨cell_below hb1 hH.1, cell_below hb1 hH.2.1, cell_below hb1 hH.2.2.1, cell_below hb1 hH.2.2.2⟩
            replace hH := hG
            clear hK K hG
            try simp only [Act.put, List.setIfInBounds_toArray, List.set_cons_zero, List.set_cons_succ]
            refine wpAnyH_take (i := 7) (oi := { dst := some 32, op := _, type := _, pos := _, after := _, guard := _ }) (v := ?_) rfl (by kernel_rfl) (by kernel_rfl) (by kernel_rfl) (fun _ _ _ h => h) (Or.inl ⟨by rfl, ?_⟩) hH ?_
            rotate_left 1
            · intro W hSw
              (try dsimp only at hSw)
              go_simp
              (try with_reducible rfl)
            try simp only [Act.put, List.setIfInBounds_toArray, List.set_cons_zero, List.set_cons_succ]
            refine wpAnyH_ready (rs := [11]) (by kernel_rfl) (by simp) (AllReadyH.cons rfl (fun K hK => ?_) AllReadyH.nil)
            go_simp
            go_at_call 81; ((with_reducible refine (C2.out _).mono ?_); rintro e u2 ⟨rfl, hb2⟩); go_wp2_with fail
            refine hK.out _ _ ?_ (fun hG => ?_)
            · exact ⟨cell_below hb2 hH.1, cell_below hb2 hH.2.1, cell_below hb2 hH.2.2.1, cell_below hb2 hH.2.2.2⟩
            replace hH := hG
            clear hK K hG
            try simp only [Act.put, List.setIfInBounds_toArray, List.set_cons_zero, List.set_cons_succ]
            refine wpAnyH_take (i := 12) (oi := { dst := some 37, op := _, type := _, pos := _, after := _, guard := _ }) (v := ?_) rfl (by kernel_rfl) (by kernel_rfl) (by kernel_rfl) (fun _ _ _ h => h) (Or.inl ⟨by rfl, ?_⟩) hH ?_
            rotate_left 1
            · intro W hSw
              (try dsimp only at hSw)
              go_simp
              (try with_reducible rfl)
            try simp only [Act.put, List.setIfInBounds_toArray, List.set_cons_zero, List.set_cons_succ]
            refine wpAnyH_take (i := 13) (oi := { dst := some 38, op := _, type := _, pos := _, after := _, guard := _ }) (v := ?_) rfl (by kernel_rfl) (by kernel_rfl) (by kernel_rfl) (fun _ _ _ h => h) (Or.inl ⟨by rfl, ?_⟩) hH ?_
            rotate_left 1
            · intro W hSw
              (try dsimp only at hSw)
              go_simp
              (try with_reducible rfl)
            try simp only [Act.put, List.setIfInBounds_toArray, List.set_cons_zero, List.set_cons_succ]
            refine wpAnyH_take (i := 14) (oi := { dst := some 39, op := _, type := _, pos := _, after := _, guard := _ }) (v := ?_) rfl (by kernel_rfl) (by kernel_rfl) (by kernel_rfl) (fun _ _ _ h => h) (Or.inl ⟨by rfl, ?_⟩) hH ?_
            rotate_left 1
            · intro W hSw
              (try dsimp only at hSw)
              go_simp
              (try with_reducible rfl)
            try simp only [Act.put, List.setIfInBounds_toArray, List.set_cons_zero, List.set_cons_succ]
            refine wpAnyH_done (by kernel_rfl) ?_ _
            refine NoPanic.normal ?_
            have HA : Below (wr.alloc (.cells (pc x y) 44)).heap.size (wr.alloc (.cells (pc x y) 44)) u1 := Below.trans (by first | exact below_drewN (by go_grown) _ | go_grown) (hb1.mono (by first | (simp; done) | (simp; omega)))
            have h9 := HA.size
            have HC : Below (wr.alloc (.cells (pc x y) 44)).heap.size (wr.alloc (.cells (pc x y) 44)) u2 := HA.trans (Below.trans (by first | exact Below.refl _ _ | exact below_drewN (by go_grown) _ | go_grown) (hb2.mono (by first | (simp; done) | (simp; omega) | (simp at h9 ⊢; omega))))
            have P3 := Lib.hid (P2.out.alloc.below HC)
            have T3 := Lib.hid ((Bk.new wr (pc x y) 44).below HC)
            have Q3 := Lib.hid (QK.out.alloc.below HC)
            have B3 := Lib.hid ((BK.out.alloc hbs (.cells (pc x y) 44)).trans (HC.mono (by simp; omega)))
            clear hb1 hb2 HA HC h9 hH k0 k1 g0 g1 l1 l2 c1 c2 lb lb2 P2 QK BK
          · have ESN := Lib.hid (show wor h (ps.take (k + 1)) = (x, y) by rw [ES.out, if_pos (by omega)])
            have t0 := T3.out.cell (i := 0) rfl
            have t1 := T3.out.cell (i := 1) rfl
            have k0 := P3.out.cell (i := 0) rfl
            have k1 := P3.out.cell (i := 1) rfl
            have g0 := P3.out.frozen 0
            have g1 := P3.out.frozen 1
            have PN := Lib.hid (show Bk _ (w.heap.size + 1) (pc (wor h (ps.take (k + 1))).1 (wor h (ps.take (k + 1))).2) 44 by rw [ESN.out]; exact (P3.out.set (i := 0) (v := .int .i64 x)).set (i := 1) (v := .int .i64 y))
            have QN := Lib.hid ((Q3.out.far (i := 0) (v := .int .i64 x) nf).far (i := 1) (v := .int .i64 y) nf)
            have BN := Lib.hid ((B3.out.grown (Bk.setG u2 (w.heap.size + 1) 0 (.int .i64 x)) B3.out.size (fun q hq => by cases hq; omega)).grown (Bk.setG _ (w.heap.size + 1) 1 (.int .i64 y)) (by simpa using B3.out.size) (fun q hq => by cases hq; omega))
            clear P3 T3 Q3 B3
            go_wp2_with fail
            go_roundw
            case rel => first | exact ⟨k + 1, by omega, by go_num, PN, QN, BN⟩ | ((repeat apply Exists.intro); exact ⟨⟨k + 1, by omega, by go_num, PN, QN, BN⟩, rfl⟩)
            case measure => simp [intOf]; omega
          · have ESN := Lib.hid (show wor h (ps.take (k + 1)) = (p, q) by rw [ES.out, if_neg (by omega)])
            have PN := Lib.hid (show Bk u2 (w.heap.size + 1) (pc (wor h (ps.take (k + 1))).1 (wor h (ps.take (k + 1))).2) 44 by rw [ESN.out]; exact P3.out)
            go_wp2_with fail
            go_roundw
            case rel => first | exact ⟨k + 1, by omega, by go_num, PN, Q3, B3⟩ | ((repeat apply Exists.intro); exact ⟨⟨k + 1, by omega, by go_num, PN, Q3, B3⟩, rfl⟩)
            case measure => simp [intOf]; omega
      · obtain rfl : k = n := by omega
        have FW := Lib.hid (show ps.take k = ps by rw [← HN.out]; exact List.take_length)
        have P1 := PK.out
        rw [FW.out] at P1
        obtain ⟨⟨dx, dy⟩, hd'⟩ : ∃ d, wor h ps = d := ⟨_, rfl⟩
        have HD := Lib.hid hd'
        rw [hd'] at P1
        have k0 := P1.cell (i := 0) rfl
        have k1 := P1.cell (i := 1) rfl
        clear hd' PK P1 P0
        have r0 := QK.out.cell (i := 0) rfl
        have r1 := QK.out.cell (i := 1) rfl
        have y0 := QK.out.frozen 0
        have y1 := QK.out.frozen 1
        have HS0 := Lib.hid (set2_0 (P := .int .i64 (dx)) (Q := .int .i64 (dy)) (by rw [r0]; rfl))
        have HS1 := Lib.hid (set2_1 (P := .int .i64 (dx)) (Q := .int .i64 (dy)) (by rw [r1]; rfl))
        go_wp2_with fail
        have s0 := HS0.out
        have s1 := HS1.out
        (try simp only [Exit.inBlock, Exit.then])
        refine bodyPost_ret (v := pq (dx, dy)) (by simp [results, Tryz.results37, go_sem, s0, s1]; try rfl) rfl ?_
        exact ⟨by rw [HD.out], BK.out.trans (by have h9 := BK.out.size; go_grown)⟩

end Go.Proofs.YtokncfhpmjohdaaGreat.Wz
