/- Drifts at a tick and lists of them, of the model. -/
import Derived.Test.YtknanaapaipoeaaWi
import Derived.Test.YtknanaapaipoeaaBk
import Derived.Laws.AppendOwn
namespace Go.Proofs.Ytknanaapaipoeaa.Wa
open Go.RowKit Go.Proofs.Ytknanaapaipoeaa.Mem Go.Proofs.Ytknanaapaipoeaa.Rw Go.Proofs.Ytknanaapaipoeaa.Bk Go.Proofs.Ytknanaapaipoeaa.Jt Go.Proofs.Ytknanaapaipoeaa.Pw Go.Proofs.Ytknanaapaipoeaa.P2 Go.Proofs.Ytknanaapaipoeaa.Gs Go.Proofs.Ytknanaapaipoeaa.Wm Go.Proofs.Ytknanaapaipoeaa.Wi
set_option linter.unusedVariables false
set_option linter.unusedSimpArgs false

abbrev pq (p : Int × Int) : Value := .agg #[.int .i64 p.1, .int .i64 p.2]
abbrev pc (x y : Int) : Array Value := #[.int .i64 x, .int .i64 y]

set_option maxHeartbeats 1000000 in
theorem l4At (A : Option Addr) (n c : Nat) (zs : List G) (H : Nat) (t : Int) (w : World) (hn : zs.length = n) (hb : n ≤ 1048576) (hH : H ≤ w.heap.size) (hr : Rd w H A (gls zs)) :
    Calls Try.prog 70 #[.slice A n c, .int .i64 t] w fun e w' => e = .returned (pq (dr zs t)) ∧ Below w.heap.size w w' := by
  have HR := Lib.hid (hr.more hH)
  have HN := Lib.hid hn
  clear hr hn hH
  go_enter Try.func70, Try.ntmps70
  go_wp2_with fail
  go_loopw [11] (fun i wr => ∃ k : Nat, k ≤ n ∧ i = .int .i64 k ∧ Hid (Bk wr w.heap.size (pc 0 0) 28) ∧ Hid (Bk wr (w.heap.size + 1) (pc (dr (zs.take k) t).1 (dr (zs.take k) t).2) 28) ∧ Hid (Below w.heap.size w wr)) (fun i _ => n - (intOf i).toNat)
  case atStart => exact ⟨0, Nat.zero_le _, rfl, Lib.hid (Bk.new _ _ _).alloc, Lib.hid (show Bk _ (w.heap.size + 1) (pc 0 0) _ by simpa using Bk.new (w.alloc (.cells (pc 0 0) 28)) (pc 0 0) 28), Lib.hid (by go_grown)⟩
  case round =>
    obtain ⟨k, hk, rfl, RK, PK, BK⟩ := hrel
    have hbs := BK.out.size
    by_cases hlt : k < n
    · have hkz : k < zs.length := by rw [HN.out]; exact hlt
      have hl : k * 3 < (gls zs).length := by rw [gls_len]; omega
      obtain ⟨z, hz⟩ : ∃ z, zs[k]? = some z := ⟨_, List.getElem?_eq_getElem hkz⟩
      obtain ⟨b, o, eA, hbl, hcell⟩ := (HR.out.below BK.out).get hl
      obtain ⟨z0, z1, z2⟩ := gls_get hz
      have E := Lib.hid (dr_take hz t)
      obtain ⟨f, x, y⟩ := z
      have c1 : wr.cell? ⟨b, o + k * 3, none⟩ = some (.int .i64 f) := hcell _ _ z0
      have c2 : wr.cell? ⟨b, o + k * 3 + 1, none⟩ = some (.int .i64 x) := hcell _ _ z1
      have c3 : wr.cell? ⟨b, o + k * 3 + 2, none⟩ = some (.int .i64 y) := hcell _ _ z2
      have p1 : b < wr.heap.size := World.block_lt_of_cell? wr _ c1
      have p2 : ∀ j, b < wr.heap.size + j := fun j => by omega
      have q0 := PK.out.cell (i := 0) rfl
      have q1 := PK.out.cell (i := 1) rfl
      have f0 := PK.out.frozen 0
      have f1 := PK.out.frozen 1
      have l1 := PK.out.lt
      have l2 : ∀ j, w.heap.size + 1 < wr.heap.size + j := fun j => by omega
      have ne : wr.heap.size ≠ w.heap.size + 1 := by omega
      have nf : w.heap.size + 1 ≠ w.heap.size := by omega
      clear hcell hz hl hkz z0 z1 z2 hbl
      subst eA
      by_cases hft : f ≤ t
      · have R2 := Lib.hid (((RK.out.far (i := 0) (v := .int .i64 x) nf).far (i := 1) (v := .int .i64 y) nf).alloc (o := .cells #[.int .i64 f, .int .i64 x, .int .i64 y] 57))
        have P2 := Lib.hid (show Bk _ (w.heap.size + 1) (pc (dr (zs.take (k + 1)) t).1 (dr (zs.take (k + 1)) t).2) 28 by
          rw [E.out, if_pos hft]; exact ((PK.out.set (i := 0) (v := .int .i64 x)).set (i := 1) (v := .int .i64 y)).alloc (o := .cells #[.int .i64 f, .int .i64 x, .int .i64 y] 57))
        generalize dr (zs.take k) t = d at *
        obtain ⟨dx, dy⟩ := d
        clear RK PK
        go_wp2_with fail
        go_roundw
        case rel => exact ⟨k + 1, by omega, by go_num, R2, P2, Lib.hid (by have h7 := BK.out; have h8 := h7.size; go_grown)⟩
        case measure => simp [intOf]; omega
      · have R2 := Lib.hid (RK.out.alloc (o := .cells #[.int .i64 f, .int .i64 x, .int .i64 y] 57))
        have P2 := Lib.hid (show Bk _ (w.heap.size + 1) (pc (dr (zs.take (k + 1)) t).1 (dr (zs.take (k + 1)) t).2) 28 by
          rw [E.out, if_neg hft]; exact (PK.out.alloc (o := .cells #[.int .i64 f, .int .i64 x, .int .i64 y] 57)))
        generalize dr (zs.take k) t = d at *
        obtain ⟨dx, dy⟩ := d
        clear RK PK
        go_wp2_with fail
        go_roundw
        case rel => exact ⟨k + 1, by omega, by go_num, R2, P2, Lib.hid (by have h7 := BK.out; have h8 := h7.size; go_grown)⟩
        case measure => simp [intOf]; omega
    · obtain rfl : k = n := by omega
      have PK := Lib.hid (show Bk wr (w.heap.size + 1) (pc (dr zs t).1 (dr zs t).2) 28 by
        have := PK.out; rwa [← HN.out, List.take_length] at this)
      obtain ⟨⟨dx, dy⟩, hd⟩ : ∃ d, dr zs t = d := ⟨_, rfl⟩
      rw [hd] at PK
      have HD := Lib.hid hd
      clear hd
      have q0 := PK.out.cell (i := 0) rfl
      have q1 := PK.out.cell (i := 1) rfl
      have r0 := RK.out.cell (i := 0) rfl
      have r1 := RK.out.cell (i := 1) rfl
      have f0 := RK.out.frozen 0
      have f1 := RK.out.frozen 1
      have HS0 := Lib.hid (set2_0 (P := .int .i64 dx) (Q := .int .i64 dy) (by rw [r0]; rfl))
      have HS1 := Lib.hid (set2_1 (P := .int .i64 dx) (Q := .int .i64 dy) (by rw [r1]; rfl))
      go_wp2_with fail
      have r2 := HS0.out
      have r3 := HS1.out
      (try simp only [Exit.inBlock, Exit.then])
      refine bodyPost_ret (v := pq (dx, dy)) (by simp [results, Try.results70, go_sem, r2, r3]; try rfl) rfl ?_
      exact ⟨by rw [HD.out], by have h7 := BK.out; have h8 := h7.size; go_grown⟩

theorem infoPlace : (Try.prog.info? 28).map (fun i => (i.zero, i.size, i.bytes)) = some (some (.agg #[.int .i64 0, .int .i64 0]), 2, 16) := by kernel_rfl
/-- The cells of a list of places. -/
def pcs (ps : List (Int × Int)) : List Value := ps.flatMap fun p => [.int .i64 p.1, .int .i64 p.2]
theorem pcs_len (ps : List (Int × Int)) : (pcs ps).length = ps.length * 2 := flat_len (cells := fun p : Int × Int => [Value.int .i64 p.1, .int .i64 p.2]) (fun _ => rfl) ps
theorem pcs_snoc (ps : List (Int × Int)) (p : Int × Int) : pcs ps ++ [.int .i64 p.1, .int .i64 p.2] = pcs (ps ++ [p]) := by unfold pcs; simp
theorem pcs_get {ps : List (Int × Int)} {k : Nat} {p : Int × Int} (h : ps[k]? = some p) : (pcs ps)[k * 2]? = some (.int .i64 p.1) ∧ (pcs ps)[k * 2 + 1]? = some (.int .i64 p.2) :=
  ⟨(flat_get (K := 2) (cells := fun p : Int × Int => [Value.int .i64 p.1, .int .i64 p.2]) (fun _ => rfl) h 0 (by omega)).trans rfl, (flat_get (K := 2) (cells := fun p : Int × Int => [Value.int .i64 p.1, .int .i64 p.2]) (fun _ => rfl) h 1 (by omega)).trans rfl⟩

/-- A row of one's own with these places; what was there is as it was. -/
def Row2 (w : World) (ps : List (Int × Int)) (e : Ending) (w' : World) : Prop :=
  ∃ g c, e = .returned (.slice (some ⟨g, 0, none⟩) ps.length c) ∧ w'.ownsRow w.heap.size 28 2 (.slice (some ⟨g, 0, none⟩) ps.length c) ps.length (pcs ps) ∧ Below w.heap.size w w'
/-- A row of one's own with these gusts; what was there is as it was. -/
def Row3 (w : World) (zs : List G) (e : Ending) (w' : World) : Prop :=
  ∃ g c, e = .returned (.slice (some ⟨g, 0, none⟩) zs.length c) ∧ w'.ownsRow w.heap.size 57 3 (.slice (some ⟨g, 0, none⟩) zs.length c) zs.length (gls zs) ∧ Below w.heap.size w w'
theorem own_base {w : World} {base n : Nat} {e : TypeId} {s : Nat} {v : Value} {xs : List Value} (h : w.ownsRow base e s v n xs) : ∀ k, v.ownBlock = some k → base ≤ k := fun k e => (h.lt k e).1

set_option maxHeartbeats 2000000 in
theorem l4List (A : Option Addr) (n c : Nat) (zs : List G) (H : Nat) (a m : Nat) (w : World) (hn : zs.length = n) (hb : n ≤ 1048576) (hH : H ≤ w.heap.size) (hr : Rd w H A (gls zs)) (ha : a ≤ 1000) (hm : m ≤ 1000) (hm0 : 0 < m) :
    Calls Try.prog 65 #[.slice A n c, .int .i64 a, .int .i64 ((a : Int) + (m : Int) - 1)] w (Row2 w (drs zs a m)) := by
  obtain ⟨i0, hi, hz0, hz1, hz2⟩ := info_of infoPlace
  have HR := Lib.hid hr
  have HN := Lib.hid hn
  obtain ⟨q, hq⟩ : ∃ q : Int, q = (a : Int) + (m : Int) - 1 := ⟨_, rfl⟩
  rw [← hq]
  have HQ := Lib.hid hq
  have hq1 : q < 3000 := by omega
  have hq2 : 0 ≤ q := by omega
  clear hr hn hq
  go_enter Try.func65, Try.ntmps65
  go_wp2_with fail
  go_loopw [7, 8] (fun v i wr => ∃ k : Nat, k ≤ m ∧ i = .int .i64 ((a : Int) + (k : Int)) ∧ (∃ c' : Nat, ∃ g : Nat, v = .slice (some ⟨g, 0, none⟩) k c') ∧ Hid (wr.ownsRow w.heap.size 28 2 v k (pcs (drs zs a k))) ∧ Hid (Below w.heap.size w wr)) (fun _ i _ => (a + m) - (intOf i).toNat)
  case atStart => exact ⟨0, Nat.zero_le _, by simp, ⟨_, _, rfl⟩, Lib.hid (World.ownsRow_lit w #[] 0 (Nat.le_refl _) (Nat.zero_le _) rfl), Lib.hid ((Below.refl _ _).alloc (Nat.le_refl _) _)⟩
  case round =>
    obtain ⟨k, hk, rfl, ⟨c', g, rfl⟩, RK, BK⟩ := hrel
    obtain ⟨j, hj⟩ : ∃ j : Nat, j = a + k := ⟨_, rfl⟩
    rw [show (a : Int) + (k : Int) = (j : Int) by omega]
    have hj2 : j ≤ 2000 := by omega
    have hbs := BK.out.size
    by_cases hlt : k < m
    · have hjq : (j : Int) ≤ q := by have := HQ.out; omega
      have hg := own_base RK.out g rfl
      have C := Lib.hid (fun W h1 h2 => l4At A n c zs H (j : Int) W HN.out hb h1 h2)
      have SN := Lib.hid (show pcs (drs zs a k) ++ [.int .i64 (dr zs (j : Int)).1, .int .i64 (dr zs (j : Int)).2] = pcs (drs zs a (k + 1)) by rw [drs_snoc, ← pcs_snoc, hj])
      generalize dr zs (j : Int) = d at *
      obtain ⟨dx, dy⟩ := d
      have HJ := Lib.hid hj
      clear hj
      go_wp2_with fail
      refine (C.out _ (by omega) (HR.out.below (BK.out.mono hH))).mono ?_
      rintro e u ⟨rfl, hb1⟩
      have R1 := (owns_below RK.out hb1).alloc (.cells #[.int .i64 dx, .int .i64 dy] 28)
      have B1 := (below_in BK.out hb1)
      have hus := B1.size
      clear RK BK hb1
      go_wp2_with (at_builtin; refine wpList_append_own _ rfl _ _ 45 rfl w.heap.size 28 i0 (.agg #[.int .i64 0, .int .i64 0]) 2 16 Try.underlying45 hi hz0 hz1 hz2 rfl (by decide) _ _ _ rfl R1 ⟨u.heap.size, 0, none⟩ 1 1 [.int .i64 dx, .int .i64 dy] rfl rfl (by intro j x hj; match j, hj with | 0, hj => (simp at hj; subst hj; simp [Addr.add]) | 1, hj => (simp at hj; subst hj; simp [Addr.add])) (by intro x hx; simp at hx; rcases hx with rfl | rfl <;> rfl) (by unfold maxLen; omega) (by omega) (by simp; omega) ?_; intro v' w1 hown' hgrow hnil)
      have Q1 := Lib.hid hown'
      have B2 := Lib.hid ((B1.alloc hus _).grown hgrow (by simp; omega) (fun x hx => by cases hx; exact hg))
      obtain ⟨g', c2, rfl⟩ : ∃ g' c2, v' = .slice (some ⟨g', 0, none⟩) (k + 1) c2 := by
        rcases hown'.2 with ⟨_, e⟩ | ⟨g', cap, cur, e, _⟩
        · omega
        · exact ⟨g', cap, e⟩
      clear hown' hgrow hnil R1 B1
      go_wp2_with fail
      go_roundw
      case rel => exact ⟨k + 1, by omega, by rw [HJ.out]; first | rfl | (congr 1; omega), ⟨_, _, rfl⟩, by rw [SN.out] at Q1; exact Q1, B2⟩
      case measure => (have := HJ.out; simp [intOf]; omega)
    · obtain rfl : k = m := by omega
      have hjq : ¬ (j : Int) ≤ q := by have := HQ.out; omega
      clear hj
      go_wp2_with fail
      go_ret
      refine ⟨g, c', by rw [drs_len]; rfl, ?_, BK.out⟩
      rw [drs_len]; exact RK.out

end Go.Proofs.Ytknanaapaipoeaa.Wa
