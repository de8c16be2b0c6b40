/- What the model answers for a heading that is turned. -/
import Derived.Test.YtejeikfgmiadhaaGreatM9
import Derived.Test.YtejeikfgmiadhaaGreatIr
import Derived.Test.YtejeikfgmiadhaaGreatNd
import Derived.Test.YtejeikfgmiadhaaGreatIq
import Derived.BigRegion
namespace Go.Proofs.YtejeikfgmiadhaaGreat.Hd
open Go.RowKit Go.Proofs.YtejeikfgmiadhaaGreat.Cm Go.Proofs.YtejeikfgmiadhaaGreat.Pl
set_option linter.unusedVariables false

theorem turnHeadingS (h n : Int) (w : World) : Calls Tryz.prog 129 #[.int .i64 h, .int .i64 n] w fun e w' => e = .returned (.int .i64 (th h n)) ∧ w = w' := by
  cases c : hd h
  · have C := Lib.hid (isHeadingS_of c)
    go_enter Tryz.func129, Tryz.ntmps129
    go_wp2_with fail
    refine (C.out _).mono ?_
    rintro e w' ⟨rfl, rfl⟩
    go_wp2_with fail
    go_returns
    refine ⟨?_, rfl⟩
    unfold th; rw [c]; rfl
  · have C := Lib.hid (isHeadingS_of c)
    have ⟨h1, h2⟩ := hd_yes c
    have s : wrap64 (h + n % 4) = h + n % 4 := IntWalk.wrap64_in _ (by omega)
    have f : (h + n % 4) % 4 = th h n := by unfold th; rw [c]; simp
    generalize th h n = r at *
    have Q := Lib.hid (fun w => f ▸ l2Mod (h + n % 4) w)
    clear f c h1 h2
    go_enter Tryz.func129, Tryz.ntmps129
    go_wp2_with fail
    refine (C.out _).mono ?_
    rintro e w' ⟨rfl, rfl⟩
    go_wp2_with fail
    refine (l2Mod n _).mono ?_
    rintro e w' ⟨rfl, rfl⟩
    go_wp2_with fail
    refine (Q.out _).mono ?_
    rintro e w' ⟨rfl, rfl⟩
    go_wp2_with fail
    go_returns
    exact ⟨rfl, rfl⟩

end Go.Proofs.YtejeikfgmiadhaaGreat.Hd
namespace Go.Proofs.YtejeikfgmiadhaaGreat.Mo
open Go.RowKit Go.ChangeShapes Go.WideShapes Go.WideElems Go.Deep Go.Proofs.YtejeikfgmiadhaaGreat.Mem Go.Proofs.YtejeikfgmiadhaaGreat.Rw Go.Proofs.YtejeikfgmiadhaaGreat.Pw Go.Proofs.YtejeikfgmiadhaaGreat.P2 Go.Proofs.YtejeikfgmiadhaaGreat.Dd Go.Proofs.YtejeikfgmiadhaaGreat.Dv Go.Proofs.YtejeikfgmiadhaaGreat.Dl Go.Proofs.YtejeikfgmiadhaaGreat.Ds Go.Proofs.YtejeikfgmiadhaaGreat.Fd Go.Proofs.YtejeikfgmiadhaaGreat.Ch Go.Proofs.YtejeikfgmiadhaaGreat.Hn Go.Proofs.YtejeikfgmiadhaaGreat.Po
set_option linter.unusedVariables false
set_option linter.unusedSimpArgs false
open Go.Proofs.YtejeikfgmiadhaaGreat.Cm Go.Proofs.YtejeikfgmiadhaaGreat.Pl Go.Proofs.YtejeikfgmiadhaaGreat.Str Go.Proofs.YtejeikfgmiadhaaGreat.Hd Go.Proofs.YtejeikfgmiadhaaGreat.Jt Go.Proofs.YtejeikfgmiadhaaGreat.Ho Go.Proofs.YtejeikfgmiadhaaGreat.Pa Go.Proofs.YtejeikfgmiadhaaGreat.Di Go.Proofs.YtejeikfgmiadhaaGreat.Ig Go.Proofs.YtejeikfgmiadhaaGreat.Ir Go.Proofs.YtejeikfgmiadhaaGreat.IsName
open Go.Proofs.YtejeikfgmiadhaaGreat.Rw (owns_below owns_grown)

/-- A device that is turned and moved. -/
def mvD (n a b : Int) (d : D) : D := if d.kd = 1 then d else ⟨d.nm, d.kd, d.ln, tx (n % 4).toNat d.x d.y + a, ty (n % 4).toNat d.x d.y + b, if d.kd = 2 then th d.hd n else d.hd, d.tl, d.ms⟩
theorem mvD_1 {n a b : Int} {d : D} (h : d.kd = 1) : mvD n a b d = d := by unfold mvD; rw [if_pos h]
theorem mvD_o {n a b : Int} {d : D} (h : d.kd ≠ 1) : mvD n a b d = ⟨d.nm, d.kd, d.ln, tx (n % 4).toNat d.x d.y + a, ty (n % 4).toNat d.x d.y + b, if d.kd = 2 then th d.hd n else d.hd, d.tl, d.ms⟩ := by unfold mvD; rw [if_neg h]
def AllV (n a b : Int) (zs : List D) : Prop := ∀ (k : Nat) (d : D), zs[k]? = some d → dB (mvD n a b d) = true
noncomputable def mvB (n a b : Int) (zs : List D) : Bool := @decide (AllV n a b zs) (Classical.propDecidable _)
theorem mvB_yes {n a b : Int} {zs : List D} (h : AllV n a b zs) : mvB n a b zs = true := by unfold mvB; exact @decide_eq_true _ (Classical.propDecidable _) h
theorem mvB_no {n a b : Int} {zs : List D} (h : ¬ AllV n a b zs) : mvB n a b zs = false := by unfold mvB; exact @decide_eq_false _ (Classical.propDecidable _) h
noncomputable def mvL (n a b : Int) (zs : List D) : List D := if mvB n a b zs = true then zs.map (mvD n a b) else []
theorem mvL_len (n a b : Int) (zs : List D) : (mvL n a b zs).length ≤ zs.length := by unfold mvL; split <;> simp
/-- The places of a valid device that is no pump. -/
theorem dB_place {d : D} (h : dB d = true) (h1 : d.kd ≠ 1) : (-4096 ≤ d.x ∧ d.x ≤ 4096) ∧ (-4096 ≤ d.y ∧ d.y ≤ 4096) := by
  unfold dB devB at h
  rw [Bool.and_eq_true, if_neg h1] at h
  by_cases h2 : d.kd = 2
  · rw [if_pos h2] at h
    unfold nozB at h
    rw [Bool.and_eq_true, Bool.and_eq_true] at h
    have := jt_iff.1 h.2.2.1
    omega
  · rw [if_neg h2] at h
    by_cases h3 : d.kd = 3
    · rw [if_pos h3] at h
      unfold lampB at h
      rw [Bool.and_eq_true, Bool.and_eq_true] at h
      exact pl_yes h.2.2.1
    · rw [if_neg h3] at h; cases h.2
theorem dB_kinds {d : D} (h : dB d = true) : d.kd = 1 ∨ d.kd = 2 ∨ d.kd = 3 := by
  unfold dB devB at h
  rw [Bool.and_eq_true] at h
  by_cases h1 : d.kd = 1
  · exact Or.inl h1
  by_cases h2 : d.kd = 2
  · exact Or.inr (Or.inl h2)
  by_cases h3 : d.kd = 3
  · exact Or.inr (Or.inr h3)
  · rw [if_neg h1, if_neg h2, if_neg h3] at h; cases h.2
theorem th_in {h n : Int} (e : hd h = true) : hd (th h n) = true := by
  unfold th; rw [if_pos e]; exact hd_mk (by omega)
/-- A valid device that is turned is valid. -/
theorem dB_turned (n : Int) {d : D} (h : dB d = true) : dB (mvD n 0 0 d) = true := by
  by_cases h1 : d.kd = 1
  · rw [mvD_1 h1]; exact h
  · rw [mvD_o h1]
    unfold dB devB at h ⊢
    simp only [] at h ⊢
    rw [Bool.and_eq_true] at h ⊢
    refine ⟨h.1, ?_⟩
    have h := h.2
    rw [if_neg h1] at h ⊢
    by_cases h2 : d.kd = 2
    · rw [if_pos h2] at h ⊢
      unfold nozB at h ⊢
      rw [Bool.and_eq_true, Bool.and_eq_true] at h ⊢
      refine ⟨h.1, ?_, h.2.2⟩
      have hj := jt_iff.1 h.2.1
      have b1 := txle (k := (n % 4).toNat) hj.1 hj.2.1
      have b2 := tyle (k := (n % 4).toNat) hj.1 hj.2.1
      have b3 := hd_yes (th_in (n := n) (hd_mk hj.2.2.1))
      rw [if_pos h2]
      exact jt_iff.2 (by omega)
    · rw [if_neg h2] at h ⊢
      by_cases h3 : d.kd = 3
      · rw [if_pos h3] at h ⊢
        unfold lampB at h ⊢
        rw [Bool.and_eq_true, Bool.and_eq_true] at h ⊢
        have hp := pl_yes h.2.1
        have b1 := txle (k := (n % 4).toNat) hp.1 hp.2
        have b2 := tyle (k := (n % 4).toNat) hp.1 hp.2
        rw [if_neg h2]
        exact ⟨h.1, pl_mk (by omega) (by omega), h.2.2⟩
      · rw [if_neg h3] at h; cases h

/-- A list of the call's own that holds these devices. -/
def RowD (w : World) (ds : List D) (e : Ending) (w' : World) : Prop :=
  ∃ g c, e = .returned (.slice (some ⟨g, 0, none⟩) ds.length c) ∧ w'.ownsRow w.heap.size 117 8 (.slice (some ⟨g, 0, none⟩) ds.length c) ds.length (dls ds) ∧ Below w.heap.size w w'
/-- .. and whether it has all of them. -/
def RowB (w : World) (ds : List D) (r : Bool) (e : Ending) (w' : World) : Prop :=
  ∃ g c, e = .returned (.tuple #[.slice (some ⟨g, 0, none⟩) ds.length c, .bool r]) ∧ w'.ownsRow w.heap.size 117 8 (.slice (some ⟨g, 0, none⟩) ds.length c) ds.length (dls ds) ∧ Below w.heap.size w w'
theorem own_mk {w : World} {base n : Nat} {v : Value} {xs : List Value} (h : w.ownsRow base 117 8 v (n + 1) xs) : ∃ g c, v = .slice (some ⟨g, 0, none⟩) (n + 1) c := by
  rcases h.2 with ⟨_, e⟩ | ⟨g, cap, cur, e, _⟩
  · omega
  · exact ⟨g, cap, e⟩
theorem own_drew {w : World} {base n : Nat} {v : Value} {xs : List Value} (h : w.ownsRow base 117 8 v n xs) : w.drew.ownsRow base 117 8 v n xs := ⟨h.1, h.2⟩
theorem own_base {w : World} {base n : Nat} {v : Value} {xs : List Value} (h : w.ownsRow base 117 8 v n xs) : ∀ k, v.ownBlock = some k → base ≤ k := fun k e => (h.lt k e).1

set_option maxHeartbeats 8000000 in
set_option maxRecDepth 100000 in
theorem movedS (A : Option Addr) (n0 c9 : Nat) (zs : List D) (t9 a b : Int) (w : World) (hn : zs.length = n0) (hb : n0 ≤ 1048576) (hsz : ∀ z ∈ zs, z.nm.size ≤ 1048576 ∧ z.ln.size ≤ 1048576) (hr : Rd w w.heap.size A (dls zs)) (hv : ∀ (k : Nat) (d : D), zs[k]? = some d → dB d = true) (ha : -4096 ≤ a ∧ a ≤ 4096) (hb2 : -4096 ≤ b ∧ b ≤ 4096) :
    Calls Tryz.prog 93 #[.slice A n0 c9, .int .i64 t9, .agg #[.int .i64 a, .int .i64 b]] w (RowB w (mvL t9 a b zs) (mvB t9 a b zs)) := by
  have hu : undef = Value.tuple #[] := rfl
  have HR := Lib.hid hr
  have HN := Lib.hid hn
  have HS := Lib.hid hsz
  have HV := Lib.hid hv
  have HA := Lib.hid (And.intro ha hb2)
  have BW := Lib.hid (show Below w.heap.size w (w.alloc (.cells #[.int .i64 a, .int .i64 b] 47)) from by go_grown)
  have Y0 := Lib.hid (show (w.alloc (.cells #[.int .i64 a, .int .i64 b] 47)).cell? ⟨w.heap.size, 0, none⟩ = some (.int .i64 a) ∧ (w.alloc (.cells #[.int .i64 a, .int .i64 b] 47)).cell? ⟨w.heap.size, 1, none⟩ = some (.int .i64 b) from ⟨cell_here rfl, cell_here rfl⟩)
  have R0 := Lib.hid (World.ownsRow_lit (base := w.heap.size + 1) (e := 117) (size := 8) (w.alloc (.cells #[.int .i64 a, .int .i64 b] 47)) #[] 0 (by simp) (Nat.zero_le _) rfl)
  have B0 := Lib.hid (show Below (w.heap.size + 1) (w.alloc (.cells #[.int .i64 a, .int .i64 b] 47)) ((w.alloc (.cells #[.int .i64 a, .int .i64 b] 47)).alloc (.cells #[] 117)) from (Below.refl _ _).alloc (by simp) _)
  rw [show (w.alloc (.cells #[.int .i64 a, .int .i64 b] 47)).heap.size = w.heap.size + 1 by simp] at R0
  obtain ⟨i0, hi, hz0, hz1, hz2⟩ := info_of infoD
  clear hr hn hsz hv ha hb2
  go_enter Tryz.func93, Tryz.ntmps93
  go_wp2_with fail
  generalize hW0 : w.alloc (.cells #[.int .i64 a, .int .i64 b] 47) = W0 at *
  have hs0 : W0.heap.size = w.heap.size + 1 := by rw [← hW0]; simp
  have HS0 := Lib.hid hs0
  clear hW0 hs0
  go_loopw [8, 14] (fun v i wr => ∃ k : Nat, k ≤ n0 ∧ i = .int .i64 k ∧ (∃ g c, v = .slice (some ⟨g, 0, none⟩) k c) ∧ Hid (∀ (j : Nat) (d : D), j < k → zs[j]? = some d → dB (mvD t9 a b d) = true) ∧ Hid (wr.ownsRow (w.heap.size + 1) 117 8 v k (dls ((zs.take k).map (mvD t9 a b)))) ∧ Hid (Below (w.heap.size + 1) W0 wr)) (fun _ i _ => n0 - (intOf i).toNat)
  case atStart => exact ⟨0, Nat.zero_le _, rfl, ⟨_, _, rfl⟩, Lib.hid (fun j d h => by omega), R0, B0⟩
  case round =>
    obtain ⟨k, hk, rfl, ⟨gb, gc, rfl⟩, AK, RK, BK⟩ := hrel
    clear R0 B0
    have hsw : w.heap.size + 1 ≤ wr.heap.size := by have := BK.out.size; have := HS0.out; omega
    by_cases hlt : k < n0
    · obtain ⟨z, hz⟩ : ∃ z, zs[k]? = some z := ⟨_, List.getElem?_eq_getElem (by rw [HN.out]; exact hlt)⟩
      have HZ := Lib.hid hz
      have RW := Lib.hid ((HR.out.below BW.out).below (Below.mono BK.out (Nat.le_succ _)))
      obtain ⟨b9, o, eA, hbl, hcell⟩ := RW.out.get (k := k * 8) (by rw [dls_len, HN.out]; omega)
      have y0 : wr.cell? ⟨w.heap.size, 0, none⟩ = some (.int .i64 a) := (BK.out.cell (Nat.lt_succ_self _)).trans Y0.out.1
      have y1 : wr.cell? ⟨w.heap.size, 1, none⟩ = some (.int .i64 b) := (BK.out.cell (Nat.lt_succ_self _)).trans Y0.out.2
      have hdv := HV.out k z hz
      have hsz := HS.out z (mem_at hz)
      have hpl := dB_place hdv
      have TK := Lib.hid (show (zs.take (k + 1)).map (mvD t9 a b) = (zs.take k).map (mvD t9 a b) ++ [mvD t9 a b z] by
        obtain ⟨hk', rfl⟩ := List.getElem?_eq_some_iff.1 hz
        rw [List.take_succ_eq_append_getElem hk', List.map_append]; rfl)
      obtain ⟨bd, hbd⟩ : ∃ r, dB (mvD t9 a b z) = r := ⟨_, rfl⟩
      have HBD := Lib.hid hbd
      obtain ⟨n, q, l, x, y, h, t, m⟩ := z
      obtain ⟨z0, z1, z2, z3, z4, z5, z6, z7⟩ := dls_get hz
      have c0 := hcell (k * 8) _ z0
      have c1 := hcell (k * 8 + 1) _ z1
      rw [← Nat.add_assoc] at c1
      have c2 := hcell (k * 8 + 2) _ z2
      rw [← Nat.add_assoc] at c2
      have c3 := hcell (k * 8 + 3) _ z3
      rw [← Nat.add_assoc] at c3
      have c4 := hcell (k * 8 + 4) _ z4
      rw [← Nat.add_assoc] at c4
      have c5 := hcell (k * 8 + 5) _ z5
      rw [← Nat.add_assoc] at c5
      have c6 := hcell (k * 8 + 6) _ z6
      rw [← Nat.add_assoc] at c6
      have c7 := hcell (k * 8 + 7) _ z7
      rw [← Nat.add_assoc] at c7
      have hk3 := dB_kinds hdv
      simp only [] at hpl hk3 hsz
      clear hcell z0 z1 z2 z3 z4 z5 z6 z7 hz hdv
      subst eA
      by_cases q1 : q = 1
      · subst q1
        have HMV := Lib.hid (show (⟨n, 1, l, x, y, h, t, m⟩ : D) = mvD t9 a b ⟨n, 1, l, x, y, h, t, m⟩ from (mvD_1 rfl).symm)
        have CD := isDeviceS n 1 l x y h t m hsz.1 hsz.2
        rw [show devB n 1 l x y h t m = dB (mvD t9 a b ⟨n, 1, l, x, y, h, t, m⟩) by rw [← HMV.out]; rfl, hbd] at CD
        have CD := Lib.hid CD
        clear hbd hpl hsz hk3
        go_wp2_with fail
        refine (CD.out _).mono ?_
        rintro e w2 ⟨rfl, hb2⟩
        have p2 : wr.heap.size < w2.heap.size := by have := hb2.size; simp at this; omega
        have k0 : w2.cell? ⟨wr.heap.size, 0, none⟩ = some (.string n) := (hb2.cell (by first | (simp; done) | (simp; omega))).trans (by simp [go_sem])
        have k1 : w2.cell? ⟨wr.heap.size, 1, none⟩ = some (.int .i64 1) := (hb2.cell (by first | (simp; done) | (simp; omega))).trans (by simp [go_sem])
        have k2 : w2.cell? ⟨wr.heap.size, 2, none⟩ = some (.string l) := (hb2.cell (by first | (simp; done) | (simp; omega))).trans (by simp [go_sem])
        have k3 : w2.cell? ⟨wr.heap.size, 3, none⟩ = some (.int .i64 x) := (hb2.cell (by first | (simp; done) | (simp; omega))).trans (by simp [go_sem])
        have k4 : w2.cell? ⟨wr.heap.size, 4, none⟩ = some (.int .i64 y) := (hb2.cell (by first | (simp; done) | (simp; omega))).trans (by simp [go_sem])
        have k5 : w2.cell? ⟨wr.heap.size, 5, none⟩ = some (.int .i64 h) := (hb2.cell (by first | (simp; done) | (simp; omega))).trans (by simp [go_sem])
        have k6 : w2.cell? ⟨wr.heap.size, 6, none⟩ = some (.int .i64 t) := (hb2.cell (by first | (simp; done) | (simp; omega))).trans (by simp [go_sem])
        have k7 : w2.cell? ⟨wr.heap.size, 7, none⟩ = some (.int .i64 m) := (hb2.cell (by first | (simp; done) | (simp; omega))).trans (by simp [go_sem])
        have R2 : w2.ownsRow (w.heap.size + 1) 117 8 (.slice (some ⟨gb, 0, none⟩) k gc) k (dls ((zs.take k).map (mvD t9 a b))) := owns_below (by repeat (first | with_reducible exact RK.out | refine World.ownsRow.alloc ?_ _ | refine own_drew ?_)) hb2
        have B2 : Below (w.heap.size + 1) W0 w2 := Below.trans (by repeat (first | with_reducible exact BK.out | refine Below.alloc ?_ (by first | exact hsw | (simp; omega)) _ | refine Below.drew ?_)) (hb2.mono (by first | (simp; done) | (simp; omega)))
        have R2 := Lib.hid R2
        have B2 := Lib.hid B2
        have HW := Lib.hid (show w.heap.size + 1 ≤ w2.heap.size from by omega)
        clear hb2 RK BK
        cases bd
        · have HH := Lib.hid (show mvB t9 a b zs = false from mvB_no fun H => by have := H k _ HZ.out; rw [HBD.out] at this; cases this)
          have HL := Lib.hid (show mvL t9 a b zs = [] by unfold mvL; rw [HH.out]; rfl)
          go_wp2_with fail
          go_returns
          rw [HH.out, HL.out]
          exact ⟨_, _, rfl, World.ownsRow_lit (base := w.heap.size) (e := 117) (size := 8) w2 #[] 0 (by have := HW.out; omega) (Nat.zero_le _) rfl, (BW.out.trans (Below.mono B2.out (Nat.le_succ _))).alloc (by have := HW.out; omega) _⟩
        · have hown := R2.out.alloc
          go_wp2_with (at_builtin; refine wpList_append_own _ rfl _ _ 30 rfl (w.heap.size + 1) 117 i0 (.agg #[.string ⟨#[]⟩, .int .i64 0, .string ⟨#[]⟩, .int .i64 0, .int .i64 0, .int .i64 0, .int .i64 0, .int .i64 0]) 8 80 Tryz.underlying30 hi hz0 hz1 hz2 rfl (by decide) _ _ _ rfl (hown _) ⟨w2.heap.size, 0, none⟩ 1 1 [.string n, .int .i64 1, .string l, .int .i64 x, .int .i64 y, .int .i64 h, .int .i64 t, .int .i64 m] rfl rfl (by intro j u hj; match j, hj with | 0, hj => (simp at hj; subst hj; simp [Addr.add]) | 1, hj => (simp at hj; subst hj; simp [Addr.add]) | 2, hj => (simp at hj; subst hj; simp [Addr.add]) | 3, hj => (simp at hj; subst hj; simp [Addr.add]) | 4, hj => (simp at hj; subst hj; simp [Addr.add]) | 5, hj => (simp at hj; subst hj; simp [Addr.add]) | 6, hj => (simp at hj; subst hj; simp [Addr.add]) | 7, hj => (simp at hj; subst hj; simp [Addr.add])) (by intro u hu9; simp at hu9; rcases hu9 with rfl | rfl | rfl | rfl | rfl | rfl | rfl | rfl <;> rfl) (by unfold maxLen; omega) (by omega) (by have := HW.out; simp; omega) ?_; intro v' w5 hown' hgrow hnil)
          rw [show dls ((zs.take k).map (mvD t9 a b)) ++ [.string n, .int .i64 1, .string l, .int .i64 x, .int .i64 y, .int .i64 h, .int .i64 t, .int .i64 m] = dls ((zs.take (k + 1)).map (mvD t9 a b)) by rw [TK.out, ← HMV.out]; exact dls_snoc _ ⟨n, 1, l, x, y, h, t, m⟩] at hown'
          obtain ⟨g5, c5, rfl⟩ := own_mk hown'
          have R6 := Lib.hid hown'
          have B6 := Lib.hid ((B2.out.alloc (by have := HW.out; omega) _).grown hgrow (by have := HW.out; simp; omega) (fun j hj => own_base R2.out j hj))
          have A6 := Lib.hid (show ∀ (j : Nat) (d : D), j < k + 1 → zs[j]? = some d → dB (mvD t9 a b d) = true from fun j d hj hd => by
            by_cases e : j = k
            · subst e; rw [HZ.out] at hd; cases hd; exact HBD.out
            · exact AK.out j d (by omega) hd)
          clear hown' hgrow hnil hown R2 B2 HW k0 k1 k2 k3 k4 k5 k6 k7
          go_wp2_with fail
          go_roundw
          case rel => first | exact ⟨k + 1, by omega, by go_num, ⟨_, _, rfl⟩, A6, R6, B6⟩ | ((repeat apply Exists.intro); exact ⟨⟨k + 1, by omega, by go_num, ⟨_, _, rfl⟩, A6, R6, B6⟩, rfl⟩)
          case measure => simp [intOf]; omega
      by_cases q2 : q = 2
      · subst q2
        obtain ⟨⟨hx1, hx2⟩, hy1, hy2⟩ := hpl (by decide)
        obtain ⟨⟨ha1, ha2⟩, hb1, hb2⟩ := HA.out
        have CT := Lib.hid (l2Turn (x := x) (y := y) t9 (by omega) (by omega))
        have t1 := txle (k := (t9 % 4).toNat) ⟨hx1, hx2⟩ ⟨hy1, hy2⟩
        have t2 := tyle (k := (t9 % 4).toNat) ⟨hx1, hx2⟩ ⟨hy1, hy2⟩
        obtain ⟨hh, hhh⟩ : ∃ v, (if (2 : Int) = 2 then th h t9 else h) = v := ⟨_, rfl⟩
        have HMV := Lib.hid (show (⟨n, 2, l, tx (t9 % 4).toNat x y + a, ty (t9 % 4).toNat x y + b, hh, t, m⟩ : D) = mvD t9 a b ⟨n, 2, l, x, y, h, t, m⟩ from by rw [mvD_o (by show (2 : Int) ≠ 1; decide), ← hhh])
        obtain ⟨X, hX⟩ : ∃ v, tx (t9 % 4).toNat x y = v := ⟨_, rfl⟩
        obtain ⟨Y, hY⟩ : ∃ v, ty (t9 % 4).toNat x y = v := ⟨_, rfl⟩
        rw [hX] at t1 CT HMV
        rw [hY] at t2 CT HMV
        have CA := Lib.hid (l2Add X Y a b (IntWalk.wrap64_in _ (by omega)) (IntWalk.wrap64_in _ (by omega)))
        obtain ⟨X1, hX1⟩ : ∃ v, X + a = v := ⟨_, rfl⟩
        obtain ⟨Y1, hY1⟩ : ∃ v, Y + b = v := ⟨_, rfl⟩
        rw [hX1, hY1] at CA HMV
        have CD := isDeviceS n 2 l X1 Y1 hh t m hsz.1 hsz.2
        rw [show devB n 2 l X1 Y1 hh t m = dB (mvD t9 a b ⟨n, 2, l, x, y, h, t, m⟩) by rw [← HMV.out]; rfl, hbd] at CD
        have CD := Lib.hid CD
        have CH := turnHeadingS h t9
        rw [show th h t9 = hh by rw [← hhh]; rfl] at CH
        have CH := Lib.hid CH
        have hne : w.heap.size ≠ wr.heap.size := by omega
        clear hx1 hx2 hy1 hy2 ha1 ha2 hb1 hb2 t1 t2 hX hY hX1 hY1 hbd hpl hsz hk3
        go_wp2_with fail
        refine wp_region_noPanic ?_
        refine wp_region_held_drew (S := (fun w' => w'.cell? ⟨w.heap.size, 0, none⟩ = some (.int .i64 a) ∧ w'.cell? ⟨w.heap.size, 1, none⟩ = some (.int .i64 b))) (by kernel_rfl) ?_ (fun hH => ?_)
        · exact ⟨by simp only [World.cell?_drew]; exact cell_alloc y0, by simp only [World.cell?_drew]; exact cell_alloc y1⟩
        refine wpAnyH_take (i := 0) (oi := { dst := some 21, op := _, type := _, pos := _, after := _, guard := _ }) (v := ?_) rfl (by kernel_rfl) (by kernel_rfl) (by kernel_rfl) (fun _ _ _ h => h) (Or.inl ⟨by rfl, ?_⟩) hH ?_
        rotate_left 1
        · intro W hSw
          (try dsimp only at hSw)
          go_simp
          (try with_reducible rfl)
        try simp only [Act.put, List.setIfInBounds_toArray, List.set_cons_zero, List.set_cons_succ]
        refine wpAnyH_take (i := 2) (oi := { dst := some 23, op := _, type := _, pos := _, after := _, guard := _ }) (v := ?_) rfl (by kernel_rfl) (by kernel_rfl) (by kernel_rfl) (fun _ _ _ h => h) (Or.inl ⟨by rfl, ?_⟩) hH ?_
        rotate_left 1
        · intro W hSw
          (try dsimp only at hSw)
          go_simp
          (try with_reducible rfl)
        try simp only [Act.put, List.setIfInBounds_toArray, List.set_cons_zero, List.set_cons_succ]
        refine wpAnyH_take (i := 4) (oi := { dst := some 25, op := _, type := _, pos := _, after := _, guard := _ }) (v := ?_) rfl (by kernel_rfl) (by kernel_rfl) (by kernel_rfl) (fun _ _ _ h => h) (Or.inl ⟨by rfl, ?_⟩) hH ?_
        rotate_left 1
        · intro W hSw
          (try dsimp only at hSw)
          go_simp
          (try with_reducible rfl)
        try simp only [Act.put, List.setIfInBounds_toArray, List.set_cons_zero, List.set_cons_succ]
        refine wpAnyH_ready (rs := [1]) (by kernel_rfl) (by simp) (AllReadyH.cons rfl (fun K hK => ?_) AllReadyH.nil)
        go_simp
        refine hK.out _ _ ?_ (fun hG => ?_)
        · exact hH
        replace hH := hG
        clear hK K hG
        try simp only [Act.put, List.setIfInBounds_toArray, List.set_cons_zero, List.set_cons_succ]
        refine wpAnyH_ready (rs := [3]) (by kernel_rfl) (by simp) (AllReadyH.cons rfl (fun K hK => ?_) AllReadyH.nil)
        go_simp
        go_at_call 113; ((with_reducible refine (CT.out _).mono ?_); rintro e w' ⟨rfl, rfl⟩); go_wp2_with fail
        refine hK.out _ _ ?_ (fun hG => ?_)
        · exact ⟨(by (try simp only [World.cell?_drew]); repeat (first | with_reducible exact y0 | refine cell_alloc ?_)), (by (try simp only [World.cell?_drew]); repeat (first | with_reducible exact y1 | refine cell_alloc ?_))⟩
        replace hH := hG
        clear hK K hG
        try simp only [Act.put, List.setIfInBounds_toArray, List.set_cons_zero, List.set_cons_succ]
        refine wpAnyH_ready (rs := [5]) (by kernel_rfl) (by simp) (AllReadyH.cons rfl (fun K hK => ?_) AllReadyH.nil)
        go_simp
        go_at_call 75; ((with_reducible refine (CA.out _).mono ?_); rintro e w' ⟨rfl, rfl⟩); go_wp2_with fail
        refine hK.out _ _ ?_ (fun hG => ?_)
        · exact ⟨(by (try simp only [World.cell?_drew]); repeat (first | with_reducible exact y0 | refine cell_alloc ?_)), (by (try simp only [World.cell?_drew]); repeat (first | with_reducible exact y1 | refine cell_alloc ?_))⟩
        replace hH := hG
        clear hK K hG
        try simp only [Act.put, List.setIfInBounds_toArray, List.set_cons_zero, List.set_cons_succ]
        refine wpAnyH_take (i := 6) (oi := { dst := some 27, op := _, type := _, pos := _, after := _, guard := _ }) (v := ?_) rfl (by kernel_rfl) (by kernel_rfl) (by kernel_rfl) (fun _ _ _ h => h) (Or.inl ⟨by rfl, ?_⟩) hH ?_
        rotate_left 1
        · intro W hSw
          (try dsimp only at hSw)
          go_simp
          (try with_reducible rfl)
        try simp only [Act.put, List.setIfInBounds_toArray, List.set_cons_zero, List.set_cons_succ]
        refine wpAnyH_ready (rs := [7]) (by kernel_rfl) (by simp) (AllReadyH.cons rfl (fun K hK => ?_) AllReadyH.nil)
        go_simp
        refine hK.out _ _ ?_ (fun hG => ?_)
        · exact ⟨(by (try simp only [World.cell?_drew]); repeat (first | with_reducible exact y0 | refine cell_alloc ?_)), (by (try simp only [World.cell?_drew]); repeat (first | with_reducible exact y1 | refine cell_alloc ?_))⟩
        replace hH := hG
        clear hK K hG
        try simp only [Act.put, List.setIfInBounds_toArray, List.set_cons_zero, List.set_cons_succ]
        refine wpAnyH_done (by kernel_rfl) ?_ _
        refine NoPanic.normal ?_
        clear hH CT CA y0 y1 c0 c1 c2 c3 c4 c5 c6 c7 hhh
        go_wp2_with fail
        refine (CH.out _).mono ?_
        rintro e w' ⟨rfl, rfl⟩
        go_wp2_with fail
        refine (CD.out _).mono ?_
        rintro e w2 ⟨rfl, hb2⟩
        have p2 : wr.heap.size < w2.heap.size := by have := hb2.size; simp at this; omega
        have k0 : w2.cell? ⟨wr.heap.size, 0, none⟩ = some (.string n) := (hb2.cell (by first | (simp; done) | (simp; omega))).trans (by simp [go_sem])
        have k1 : w2.cell? ⟨wr.heap.size, 1, none⟩ = some (.int .i64 2) := (hb2.cell (by first | (simp; done) | (simp; omega))).trans (by simp [go_sem])
        have k2 : w2.cell? ⟨wr.heap.size, 2, none⟩ = some (.string l) := (hb2.cell (by first | (simp; done) | (simp; omega))).trans (by simp [go_sem])
        have k3 : w2.cell? ⟨wr.heap.size, 3, none⟩ = some (.int .i64 X1) := (hb2.cell (by first | (simp; done) | (simp; omega))).trans (by simp [go_sem])
        have k4 : w2.cell? ⟨wr.heap.size, 4, none⟩ = some (.int .i64 Y1) := (hb2.cell (by first | (simp; done) | (simp; omega))).trans (by simp [go_sem])
        have k5 : w2.cell? ⟨wr.heap.size, 5, none⟩ = some (.int .i64 hh) := (hb2.cell (by first | (simp; done) | (simp; omega))).trans (by simp [go_sem])
        have k6 : w2.cell? ⟨wr.heap.size, 6, none⟩ = some (.int .i64 t) := (hb2.cell (by first | (simp; done) | (simp; omega))).trans (by simp [go_sem])
        have k7 : w2.cell? ⟨wr.heap.size, 7, none⟩ = some (.int .i64 m) := (hb2.cell (by first | (simp; done) | (simp; omega))).trans (by simp [go_sem])
        have R2 : w2.ownsRow (w.heap.size + 1) 117 8 (.slice (some ⟨gb, 0, none⟩) k gc) k (dls ((zs.take k).map (mvD t9 a b))) := owns_below (by repeat (first | with_reducible exact RK.out | refine World.ownsRow.alloc ?_ _ | refine own_drew ?_)) hb2
        have B2 : Below (w.heap.size + 1) W0 w2 := Below.trans (by repeat (first | with_reducible exact BK.out | refine Below.alloc ?_ (by first | exact hsw | (simp; omega)) _ | refine Below.drew ?_)) (hb2.mono (by first | (simp; done) | (simp; omega)))
        have R2 := Lib.hid R2
        have B2 := Lib.hid B2
        have HW := Lib.hid (show w.heap.size + 1 ≤ w2.heap.size from by omega)
        clear hb2 RK BK
        cases bd
        · have HH := Lib.hid (show mvB t9 a b zs = false from mvB_no fun H => by have := H k _ HZ.out; rw [HBD.out] at this; cases this)
          have HL := Lib.hid (show mvL t9 a b zs = [] by unfold mvL; rw [HH.out]; rfl)
          go_wp2_with fail
          go_returns
          rw [HH.out, HL.out]
          exact ⟨_, _, rfl, World.ownsRow_lit (base := w.heap.size) (e := 117) (size := 8) w2 #[] 0 (by have := HW.out; omega) (Nat.zero_le _) rfl, (BW.out.trans (Below.mono B2.out (Nat.le_succ _))).alloc (by have := HW.out; omega) _⟩
        · have hown := R2.out.alloc
          go_wp2_with (at_builtin; refine wpList_append_own _ rfl _ _ 30 rfl (w.heap.size + 1) 117 i0 (.agg #[.string ⟨#[]⟩, .int .i64 0, .string ⟨#[]⟩, .int .i64 0, .int .i64 0, .int .i64 0, .int .i64 0, .int .i64 0]) 8 80 Tryz.underlying30 hi hz0 hz1 hz2 rfl (by decide) _ _ _ rfl (hown _) ⟨w2.heap.size, 0, none⟩ 1 1 [.string n, .int .i64 2, .string l, .int .i64 X1, .int .i64 Y1, .int .i64 hh, .int .i64 t, .int .i64 m] rfl rfl (by intro j u hj; match j, hj with | 0, hj => (simp at hj; subst hj; simp [Addr.add]) | 1, hj => (simp at hj; subst hj; simp [Addr.add]) | 2, hj => (simp at hj; subst hj; simp [Addr.add]) | 3, hj => (simp at hj; subst hj; simp [Addr.add]) | 4, hj => (simp at hj; subst hj; simp [Addr.add]) | 5, hj => (simp at hj; subst hj; simp [Addr.add]) | 6, hj => (simp at hj; subst hj; simp [Addr.add]) | 7, hj => (simp at hj; subst hj; simp [Addr.add])) (by intro u hu9; simp at hu9; rcases hu9 with rfl | rfl | rfl | rfl | rfl | rfl | rfl | rfl <;> rfl) (by unfold maxLen; omega) (by omega) (by have := HW.out; simp; omega) ?_; intro v' w5 hown' hgrow hnil)
          rw [show dls ((zs.take k).map (mvD t9 a b)) ++ [.string n, .int .i64 2, .string l, .int .i64 X1, .int .i64 Y1, .int .i64 hh, .int .i64 t, .int .i64 m] = dls ((zs.take (k + 1)).map (mvD t9 a b)) by rw [TK.out, ← HMV.out]; exact dls_snoc _ ⟨n, 2, l, X1, Y1, hh, t, m⟩] at hown'
          obtain ⟨g5, c5, rfl⟩ := own_mk hown'
          have R6 := Lib.hid hown'
          have B6 := Lib.hid ((B2.out.alloc (by have := HW.out; omega) _).grown hgrow (by have := HW.out; simp; omega) (fun j hj => own_base R2.out j hj))
          have A6 := Lib.hid (show ∀ (j : Nat) (d : D), j < k + 1 → zs[j]? = some d → dB (mvD t9 a b d) = true from fun j d hj hd => by
            by_cases e : j = k
            · subst e; rw [HZ.out] at hd; cases hd; exact HBD.out
            · exact AK.out j d (by omega) hd)
          clear hown' hgrow hnil hown R2 B2 HW k0 k1 k2 k3 k4 k5 k6 k7
          go_wp2_with fail
          go_roundw
          case rel => first | exact ⟨k + 1, by omega, by go_num, ⟨_, _, rfl⟩, A6, R6, B6⟩ | ((repeat apply Exists.intro); exact ⟨⟨k + 1, by omega, by go_num, ⟨_, _, rfl⟩, A6, R6, B6⟩, rfl⟩)
          case measure => simp [intOf]; omega
      by_cases q3 : q = 3
      · subst q3
        obtain ⟨⟨hx1, hx2⟩, hy1, hy2⟩ := hpl (by decide)
        obtain ⟨⟨ha1, ha2⟩, hb1, hb2⟩ := HA.out
        have CT := Lib.hid (l2Turn (x := x) (y := y) t9 (by omega) (by omega))
        have t1 := txle (k := (t9 % 4).toNat) ⟨hx1, hx2⟩ ⟨hy1, hy2⟩
        have t2 := tyle (k := (t9 % 4).toNat) ⟨hx1, hx2⟩ ⟨hy1, hy2⟩
        obtain ⟨hh, hhh⟩ : ∃ v, (if (3 : Int) = 2 then th h t9 else h) = v := ⟨_, rfl⟩
        have HMV := Lib.hid (show (⟨n, 3, l, tx (t9 % 4).toNat x y + a, ty (t9 % 4).toNat x y + b, hh, t, m⟩ : D) = mvD t9 a b ⟨n, 3, l, x, y, h, t, m⟩ from by rw [mvD_o (by show (3 : Int) ≠ 1; decide), ← hhh])
        obtain ⟨X, hX⟩ : ∃ v, tx (t9 % 4).toNat x y = v := ⟨_, rfl⟩
        obtain ⟨Y, hY⟩ : ∃ v, ty (t9 % 4).toNat x y = v := ⟨_, rfl⟩
        rw [hX] at t1 CT HMV
        rw [hY] at t2 CT HMV
        have CA := Lib.hid (l2Add X Y a b (IntWalk.wrap64_in _ (by omega)) (IntWalk.wrap64_in _ (by omega)))
        obtain ⟨X1, hX1⟩ : ∃ v, X + a = v := ⟨_, rfl⟩
        obtain ⟨Y1, hY1⟩ : ∃ v, Y + b = v := ⟨_, rfl⟩
        rw [hX1, hY1] at CA HMV
        have CD := isDeviceS n 3 l X1 Y1 hh t m hsz.1 hsz.2
        rw [show devB n 3 l X1 Y1 hh t m = dB (mvD t9 a b ⟨n, 3, l, x, y, h, t, m⟩) by rw [← HMV.out]; rfl, hbd] at CD
        have CD := Lib.hid CD
        have CH := turnHeadingS h t9
        obtain rfl : h = hh := by rw [← hhh]; rfl
        have CH := Lib.hid CH
        have hne : w.heap.size ≠ wr.heap.size := by omega
        clear hx1 hx2 hy1 hy2 ha1 ha2 hb1 hb2 t1 t2 hX hY hX1 hY1 hbd hpl hsz hk3
        go_wp2_with fail
        refine wp_region_noPanic ?_
        refine wp_region_held_drew (S := (fun w' => w'.cell? ⟨w.heap.size, 0, none⟩ = some (.int .i64 a) ∧ w'.cell? ⟨w.heap.size, 1, none⟩ = some (.int .i64 b))) (by kernel_rfl) ?_ (fun hH => ?_)
        · exact ⟨by simp only [World.cell?_drew]; exact cell_alloc y0, by simp only [World.cell?_drew]; exact cell_alloc y1⟩
        refine wpAnyH_take (i := 0) (oi := { dst := some 21, op := _, type := _, pos := _, after := _, guard := _ }) (v := ?_) rfl (by kernel_rfl) (by kernel_rfl) (by kernel_rfl) (fun _ _ _ h => h) (Or.inl ⟨by rfl, ?_⟩) hH ?_
        rotate_left 1
        · intro W hSw
          (try dsimp only at hSw)
          go_simp
          (try with_reducible rfl)
        try simp only [Act.put, List.setIfInBounds_toArray, List.set_cons_zero, List.set_cons_succ]
        refine wpAnyH_take (i := 2) (oi := { dst := some 23, op := _, type := _, pos := _, after := _, guard := _ }) (v := ?_) rfl (by kernel_rfl) (by kernel_rfl) (by kernel_rfl) (fun _ _ _ h => h) (Or.inl ⟨by rfl, ?_⟩) hH ?_
        rotate_left 1
        · intro W hSw
          (try dsimp only at hSw)
          go_simp
          (try with_reducible rfl)
        try simp only [Act.put, List.setIfInBounds_toArray, List.set_cons_zero, List.set_cons_succ]
        refine wpAnyH_take (i := 4) (oi := { dst := some 25, op := _, type := _, pos := _, after := _, guard := _ }) (v := ?_) rfl (by kernel_rfl) (by kernel_rfl) (by kernel_rfl) (fun _ _ _ h => h) (Or.inl ⟨by rfl, ?_⟩) hH ?_
        rotate_left 1
        · intro W hSw
          (try dsimp only at hSw)
          go_simp
          (try with_reducible rfl)
        try simp only [Act.put, List.setIfInBounds_toArray, List.set_cons_zero, List.set_cons_succ]
        refine wpAnyH_ready (rs := [1]) (by kernel_rfl) (by simp) (AllReadyH.cons rfl (fun K hK => ?_) AllReadyH.nil)
        go_simp
        refine hK.out _ _ ?_ (fun hG => ?_)
        · exact hH
        replace hH := hG
        clear hK K hG
        try simp only [Act.put, List.setIfInBounds_toArray, List.set_cons_zero, List.set_cons_succ]
        refine wpAnyH_ready (rs := [3]) (by kernel_rfl) (by simp) (AllReadyH.cons rfl (fun K hK => ?_) AllReadyH.nil)
        go_simp
        go_at_call 113; ((with_reducible refine (CT.out _).mono ?_); rintro e w' ⟨rfl, rfl⟩); go_wp2_with fail
        refine hK.out _ _ ?_ (fun hG => ?_)
        · exact ⟨(by (try simp only [World.cell?_drew]); repeat (first | with_reducible exact y0 | refine cell_alloc ?_)), (by (try simp only [World.cell?_drew]); repeat (first | with_reducible exact y1 | refine cell_alloc ?_))⟩
        replace hH := hG
        clear hK K hG
        try simp only [Act.put, List.setIfInBounds_toArray, List.set_cons_zero, List.set_cons_succ]
        refine wpAnyH_ready (rs := [5]) (by kernel_rfl) (by simp) (AllReadyH.cons rfl (fun K hK => ?_) AllReadyH.nil)
        go_simp
        go_at_call 75; ((with_reducible refine (CA.out _).mono ?_); rintro e w' ⟨rfl, rfl⟩); go_wp2_with fail
        refine hK.out _ _ ?_ (fun hG => ?_)
        · exact ⟨(by (try simp only [World.cell?_drew]); repeat (first | with_reducible exact y0 | refine cell_alloc ?_)), (by (try simp only [World.cell?_drew]); repeat (first | with_reducible exact y1 | refine cell_alloc ?_))⟩
        replace hH := hG
        clear hK K hG
        try simp only [Act.put, List.setIfInBounds_toArray, List.set_cons_zero, List.set_cons_succ]
        refine wpAnyH_take (i := 6) (oi := { dst := some 27, op := _, type := _, pos := _, after := _, guard := _ }) (v := ?_) rfl (by kernel_rfl) (by kernel_rfl) (by kernel_rfl) (fun _ _ _ h => h) (Or.inl ⟨by rfl, ?_⟩) hH ?_
        rotate_left 1
        · intro W hSw
          (try dsimp only at hSw)
          go_simp
          (try with_reducible rfl)
        try simp only [Act.put, List.setIfInBounds_toArray, List.set_cons_zero, List.set_cons_succ]
        refine wpAnyH_ready (rs := [7]) (by kernel_rfl) (by simp) (AllReadyH.cons rfl (fun K hK => ?_) AllReadyH.nil)
        go_simp
        refine hK.out _ _ ?_ (fun hG => ?_)
        · exact ⟨(by (try simp only [World.cell?_drew]); repeat (first | with_reducible exact y0 | refine cell_alloc ?_)), (by (try simp only [World.cell?_drew]); repeat (first | with_reducible exact y1 | refine cell_alloc ?_))⟩
        replace hH := hG
        clear hK K hG
        try simp only [Act.put, List.setIfInBounds_toArray, List.set_cons_zero, List.set_cons_succ]
        refine wpAnyH_done (by kernel_rfl) ?_ _
        refine NoPanic.normal ?_
        clear hH CT CA y0 y1 c0 c1 c2 c3 c4 c5 c6 c7 hhh
        go_wp2_with fail
        refine (CD.out _).mono ?_
        rintro e w2 ⟨rfl, hb2⟩
        have p2 : wr.heap.size < w2.heap.size := by have := hb2.size; simp at this; omega
        have k0 : w2.cell? ⟨wr.heap.size, 0, none⟩ = some (.string n) := (hb2.cell (by first | (simp; done) | (simp; omega))).trans (by simp [go_sem])
        have k1 : w2.cell? ⟨wr.heap.size, 1, none⟩ = some (.int .i64 3) := (hb2.cell (by first | (simp; done) | (simp; omega))).trans (by simp [go_sem])
        have k2 : w2.cell? ⟨wr.heap.size, 2, none⟩ = some (.string l) := (hb2.cell (by first | (simp; done) | (simp; omega))).trans (by simp [go_sem])
        have k3 : w2.cell? ⟨wr.heap.size, 3, none⟩ = some (.int .i64 X1) := (hb2.cell (by first | (simp; done) | (simp; omega))).trans (by simp [go_sem])
        have k4 : w2.cell? ⟨wr.heap.size, 4, none⟩ = some (.int .i64 Y1) := (hb2.cell (by first | (simp; done) | (simp; omega))).trans (by simp [go_sem])
        have k5 : w2.cell? ⟨wr.heap.size, 5, none⟩ = some (.int .i64 h) := (hb2.cell (by first | (simp; done) | (simp; omega))).trans (by simp [go_sem])
        have k6 : w2.cell? ⟨wr.heap.size, 6, none⟩ = some (.int .i64 t) := (hb2.cell (by first | (simp; done) | (simp; omega))).trans (by simp [go_sem])
        have k7 : w2.cell? ⟨wr.heap.size, 7, none⟩ = some (.int .i64 m) := (hb2.cell (by first | (simp; done) | (simp; omega))).trans (by simp [go_sem])
        have R2 : w2.ownsRow (w.heap.size + 1) 117 8 (.slice (some ⟨gb, 0, none⟩) k gc) k (dls ((zs.take k).map (mvD t9 a b))) := owns_below (by repeat (first | with_reducible exact RK.out | refine World.ownsRow.alloc ?_ _ | refine own_drew ?_)) hb2
        have B2 : Below (w.heap.size + 1) W0 w2 := Below.trans (by repeat (first | with_reducible exact BK.out | refine Below.alloc ?_ (by first | exact hsw | (simp; omega)) _ | refine Below.drew ?_)) (hb2.mono (by first | (simp; done) | (simp; omega)))
        have R2 := Lib.hid R2
        have B2 := Lib.hid B2
        have HW := Lib.hid (show w.heap.size + 1 ≤ w2.heap.size from by omega)
        clear hb2 RK BK
        cases bd
        · have HH := Lib.hid (show mvB t9 a b zs = false from mvB_no fun H => by have := H k _ HZ.out; rw [HBD.out] at this; cases this)
          have HL := Lib.hid (show mvL t9 a b zs = [] by unfold mvL; rw [HH.out]; rfl)
          go_wp2_with fail
          go_returns
          rw [HH.out, HL.out]
          exact ⟨_, _, rfl, World.ownsRow_lit (base := w.heap.size) (e := 117) (size := 8) w2 #[] 0 (by have := HW.out; omega) (Nat.zero_le _) rfl, (BW.out.trans (Below.mono B2.out (Nat.le_succ _))).alloc (by have := HW.out; omega) _⟩
        · have hown := R2.out.alloc
          go_wp2_with (at_builtin; refine wpList_append_own _ rfl _ _ 30 rfl (w.heap.size + 1) 117 i0 (.agg #[.string ⟨#[]⟩, .int .i64 0, .string ⟨#[]⟩, .int .i64 0, .int .i64 0, .int .i64 0, .int .i64 0, .int .i64 0]) 8 80 Tryz.underlying30 hi hz0 hz1 hz2 rfl (by decide) _ _ _ rfl (hown _) ⟨w2.heap.size, 0, none⟩ 1 1 [.string n, .int .i64 3, .string l, .int .i64 X1, .int .i64 Y1, .int .i64 h, .int .i64 t, .int .i64 m] rfl rfl (by intro j u hj; match j, hj with | 0, hj => (simp at hj; subst hj; simp [Addr.add]) | 1, hj => (simp at hj; subst hj; simp [Addr.add]) | 2, hj => (simp at hj; subst hj; simp [Addr.add]) | 3, hj => (simp at hj; subst hj; simp [Addr.add]) | 4, hj => (simp at hj; subst hj; simp [Addr.add]) | 5, hj => (simp at hj; subst hj; simp [Addr.add]) | 6, hj => (simp at hj; subst hj; simp [Addr.add]) | 7, hj => (simp at hj; subst hj; simp [Addr.add])) (by intro u hu9; simp at hu9; rcases hu9 with rfl | rfl | rfl | rfl | rfl | rfl | rfl | rfl <;> rfl) (by unfold maxLen; omega) (by omega) (by have := HW.out; simp; omega) ?_; intro v' w5 hown' hgrow hnil)
          rw [show dls ((zs.take k).map (mvD t9 a b)) ++ [.string n, .int .i64 3, .string l, .int .i64 X1, .int .i64 Y1, .int .i64 h, .int .i64 t, .int .i64 m] = dls ((zs.take (k + 1)).map (mvD t9 a b)) by rw [TK.out, ← HMV.out]; exact dls_snoc _ ⟨n, 3, l, X1, Y1, h, t, m⟩] at hown'
          obtain ⟨g5, c5, rfl⟩ := own_mk hown'
          have R6 := Lib.hid hown'
          have B6 := Lib.hid ((B2.out.alloc (by have := HW.out; omega) _).grown hgrow (by have := HW.out; simp; omega) (fun j hj => own_base R2.out j hj))
          have A6 := Lib.hid (show ∀ (j : Nat) (d : D), j < k + 1 → zs[j]? = some d → dB (mvD t9 a b d) = true from fun j d hj hd => by
            by_cases e : j = k
            · subst e; rw [HZ.out] at hd; cases hd; exact HBD.out
            · exact AK.out j d (by omega) hd)
          clear hown' hgrow hnil hown R2 B2 HW k0 k1 k2 k3 k4 k5 k6 k7
          go_wp2_with fail
          go_roundw
          case rel => first | exact ⟨k + 1, by omega, by go_num, ⟨_, _, rfl⟩, A6, R6, B6⟩ | ((repeat apply Exists.intro); exact ⟨⟨k + 1, by omega, by go_num, ⟨_, _, rfl⟩, A6, R6, B6⟩, rfl⟩)
          case measure => simp [intOf]; omega
      omega
    · obtain rfl : k = n0 := by omega
      have HH := Lib.hid (show mvB t9 a b zs = true from mvB_yes fun j d hd => AK.out j d (by have := (List.getElem?_eq_some_iff.1 hd).1; rw [HN.out] at this; exact this) hd)
      have HL := Lib.hid (show mvL t9 a b zs = zs.map (mvD t9 a b) by unfold mvL; rw [HH.out]; rfl)
      have F9 := Lib.hid (show wr.ownsRow (w.heap.size + 1) 117 8 (.slice (some ⟨gb, 0, none⟩) k gc) k (dls (zs.map (mvD t9 a b))) by
        have := RK.out; rw [List.take_of_length_le (by rw [HN.out]; exact Nat.le_refl _)] at this; exact this)
      have Q9 := Lib.hid (show (zs.map (mvD t9 a b)).length = k by rw [List.length_map, HN.out])
      go_wp2_with fail
      go_returns
      rw [HH.out, HL.out]
      exact ⟨gb, gc, by rw [Q9.out]; rfl, by rw [Q9.out]; exact ⟨F9.out.1, F9.out.2.imp id fun ⟨g, cap, cur, e1, e2, e3, e4⟩ => ⟨g, cap, cur, e1, Nat.le_trans (Nat.le_succ _) e2, e3, e4⟩⟩, BW.out.trans (Below.mono BK.out (Nat.le_succ _))⟩

end Go.Proofs.YtejeikfgmiadhaaGreat.Mo
namespace Go.Proofs.YtejeikfgmiadhaaGreat.Dr4
open Go.RowKit Go.Proofs.YtejeikfgmiadhaaGreat.Cm Go.Proofs.YtejeikfgmiadhaaGreat.Pl Go.Proofs.YtejeikfgmiadhaaGreat.Str Go.Proofs.YtejeikfgmiadhaaGreat.Pw Go.Proofs.YtejeikfgmiadhaaGreat.P2 Go.Proofs.YtejeikfgmiadhaaGreat.Hd Go.Proofs.YtejeikfgmiadhaaGreat.Jt Go.Proofs.YtejeikfgmiadhaaGreat.Dp
set_option linter.unusedVariables false
set_option linter.unusedSimpArgs false

/-- Block b is a jet of the call's own. -/
def JB (w : World) (b : Nat) (x y h t l : Int) : Prop := w.heap[b]? = some (.cells (jc x y h t l) 65 (0, 0))
section
variable {w w' : World} {b b' : Nat} {x y h t l u : Int}
theorem JB.c (k : JB w b x y h t l) : J5 w b x y h t l := by
  have e : w.heap[b]? = _ := k
  refine ⟨?_, ?_, ?_, ?_, ?_⟩ <;> simp [World.cell?, e]
theorem JB.f (k : JB w b x y h t l) (i : Nat) (hi : i < 5 := by omega) : w.frozen? ⟨b, i, none⟩ = false := by simp [World.frozen?, show w.heap[b]? = _ from k]
theorem JB.lt (k : JB w b x y h t l) : b < w.heap.size := (Array.getElem?_eq_some_iff.1 k).1
theorem JB.new (w : World) (x y h t l : Int) : JB (w.alloc (.cells (jc x y h t l) 65)) w.heap.size x y h t l := heap_alloc_new w _
theorem JB.alloc (k : JB w b x y h t l) (o : Obj) : JB (w.alloc o) b x y h t l := (Below.heap_alloc _ _ _ k.lt).trans k
theorem JB.below (k : JB w b x y h t l) (hb : Below w.heap.size w w') : JB w' b x y h t l := (hb.block b k.lt).trans k
theorem JB.drew (k : JB w b x y h t l) : JB w.drew b x y h t l := k
theorem JB.grown {r : Option Nat} (k : JB w b x y h t l) (g : w.grownBy w' r) (hr : some b ≠ r) : JB w' b x y h t l := (g.block b k.lt hr).trans k
theorem JB.other (k : JB w b x y h t l) (j : Nat) (v : Value) (hne : b ≠ b') : JB (w.setCell ⟨b', j, none⟩ v) b x y h t l := (Below.heap_setCell _ _ _ _ hne).trans k
theorem JB.set0 (u : Int) (k : JB w b x y h t l) : JB (w.setCell ⟨b, 0, none⟩ (.int .i64 u)) b u y h t l := by
  obtain ⟨hlt, hk⟩ := Array.getElem?_eq_some_iff.1 k
  show (w.heap.modify b _)[b]? = _
  rw [Array.getElem?_eq_getElem (by rw [Array.size_modify]; exact hlt), Array.getElem_modify_self, hk]
  rfl
theorem JB.set1 (u : Int) (k : JB w b x y h t l) : JB (w.setCell ⟨b, 1, none⟩ (.int .i64 u)) b x u h t l := by
  obtain ⟨hlt, hk⟩ := Array.getElem?_eq_some_iff.1 k
  show (w.heap.modify b _)[b]? = _
  rw [Array.getElem?_eq_getElem (by rw [Array.size_modify]; exact hlt), Array.getElem_modify_self, hk]
  rfl
theorem JB.set2 (u : Int) (k : JB w b x y h t l) : JB (w.setCell ⟨b, 2, none⟩ (.int .i64 u)) b x y u t l := by
  obtain ⟨hlt, hk⟩ := Array.getElem?_eq_some_iff.1 k
  show (w.heap.modify b _)[b]? = _
  rw [Array.getElem?_eq_getElem (by rw [Array.size_modify]; exact hlt), Array.getElem_modify_self, hk]
  rfl
theorem JB.set3 (u : Int) (k : JB w b x y h t l) : JB (w.setCell ⟨b, 3, none⟩ (.int .i64 u)) b x y h u l := by
  obtain ⟨hlt, hk⟩ := Array.getElem?_eq_some_iff.1 k
  show (w.heap.modify b _)[b]? = _
  rw [Array.getElem?_eq_getElem (by rw [Array.size_modify]; exact hlt), Array.getElem_modify_self, hk]
  rfl
theorem JB.set4 (u : Int) (k : JB w b x y h t l) : JB (w.setCell ⟨b, 4, none⟩ (.int .i64 u)) b x y h t u := by
  obtain ⟨hlt, hk⟩ := Array.getElem?_eq_some_iff.1 k
  show (w.heap.modify b _)[b]? = _
  rw [Array.getElem?_eq_getElem (by rw [Array.size_modify]; exact hlt), Array.getElem_modify_self, hk]
  rfl
theorem JB.set (k : JB w b x y h t l) (x' y' h' t' l' : Int) : JB (((((w.setCell ⟨b, 0, none⟩ (.int .i64 x')).setCell ⟨b, 1, none⟩ (.int .i64 y')).setCell ⟨b, 2, none⟩ (.int .i64 h')).setCell ⟨b, 3, none⟩ (.int .i64 t')).setCell ⟨b, 4, none⟩ (.int .i64 l')) b x' y' h' t' l' :=
  ((((k.set0 x').set1 y').set2 h').set3 t').set4 l'
end

end Go.Proofs.YtejeikfgmiadhaaGreat.Dr4
namespace Go.Proofs.YtejeikfgmiadhaaGreat.Tp
open Go.RowKit Go.Proofs.YtejeikfgmiadhaaGreat.Cm Go.Proofs.YtejeikfgmiadhaaGreat.Pl Go.Proofs.YtejeikfgmiadhaaGreat.Str Go.Proofs.YtejeikfgmiadhaaGreat.Pw Go.Proofs.YtejeikfgmiadhaaGreat.P2
set_option linter.unusedVariables false

theorem placeI {x y : Int} {b : Bool} (h : (ms x && ms y) = b) (w : World) : Calls Tryz.prog 97 #[.agg #[.int .i64 x, .int .i64 y]] w fun e w' => e = .returned (.bool b) ∧ Below w.heap.size w w' :=
  (isPlaceI_of h w).mono fun e w' k => ⟨k.1, by rw [k.2]; go_grown⟩
theorem placeS {x y : Int} {b : Bool} (h : (ms x && ms y) = b) (w : World) : Calls Tryz.prog 92 #[.agg #[.int .i64 x, .int .i64 y]] w fun e w' => e = .returned (.bool b) ∧ Below w.heap.size w w' :=
  (isPlaceS_of h w).mono fun e w' k => ⟨k.1, by rw [k.2]; go_grown⟩

/-- Turned back. -/
theorem back_tx (n x y : Int) : tx ((4 - n.tmod 4) % 4).toNat (tx (n % 4).toNat x y) (ty (n % 4).toNat x y) = x ∧ ty ((4 - n.tmod 4) % 4).toNat (tx (n % 4).toNat x y) (ty (n % 4).toNat x y) = y := by
  have t := tmod4 n
  have e : (4 - n.tmod 4) % 4 = (4 - n % 4) % 4 := by split at t <;> omega
  rw [e]
  rcases mod4_cases n with h | h | h | h <;> rw [h] <;> simp [tx, ty]

theorem tmod_range (n : Int) : -3 ≤ n.tmod 4 ∧ n.tmod 4 ≤ 3 := by
  have t := tmod4 n
  split at t <;> omega

/-- Block b's first two cells hold the place x, y. -/
def CB (w : World) (b : Nat) (x y : Int) : Prop := w.cell? ⟨b, 0, none⟩ = some (.int .i64 x) ∧ w.cell? ⟨b, 1, none⟩ = some (.int .i64 y)
theorem CB.c0 {w : World} {b : Nat} {x y : Int} (h : CB w b x y) : w.cell? ⟨b, 0, none⟩ = some (.int .i64 x) := h.1
theorem CB.c1 {w : World} {b : Nat} {x y : Int} (h : CB w b x y) : w.cell? ⟨b, 1, none⟩ = some (.int .i64 y) := h.2
theorem CB.lt {w : World} {b : Nat} {x y : Int} (h : CB w b x y) : b < w.heap.size := World.block_lt_of_cell? w _ h.1
theorem CB.alloc {w : World} {b : Nat} {x y : Int} (h : CB w b x y) (o : Obj) : CB (w.alloc o) b x y := ⟨cell_alloc h.1, cell_alloc h.2⟩
theorem CB.below {w w' : World} {b : Nat} {x y : Int} (h : CB w b x y) (hb : Below w.heap.size w w') : CB w' b x y := ⟨cell_below hb h.1, cell_below hb h.2⟩
theorem CB.new (w : World) (x y : Int) : CB (w.alloc (.cells #[.int .i64 x, .int .i64 y] 47)) w.heap.size x y := ⟨cell_here rfl, cell_here rfl⟩
theorem CB.lay {W wx : World} {k : Nat} {x y : Int} (h : Lay W wx k x y) : CB wx k x y := ⟨h.c0, h.c1⟩

end Go.Proofs.YtejeikfgmiadhaaGreat.Tp
namespace Go.Proofs.YtejeikfgmiadhaaGreat.Dr4
open Go.RowKit Go.Proofs.YtejeikfgmiadhaaGreat.Cx Go.Proofs.YtejeikfgmiadhaaGreat.Cm Go.Proofs.YtejeikfgmiadhaaGreat.Pl Go.Proofs.YtejeikfgmiadhaaGreat.Str Go.Proofs.YtejeikfgmiadhaaGreat.Pw Go.Proofs.YtejeikfgmiadhaaGreat.P2 Go.Proofs.YtejeikfgmiadhaaGreat.Hd Go.Proofs.YtejeikfgmiadhaaGreat.Jt Go.Proofs.YtejeikfgmiadhaaGreat.Dp
set_option linter.unusedVariables false
set_option linter.unusedSimpArgs false

/-- A jet behind n quarter turns. -/
def turnV (x y h t l n : Int) : Value := if jt x y h t l then jv (tx (n % 4).toNat x y) (ty (n % 4).toNat x y) (th h n) t l else jv 0 0 0 0 0
theorem turnV_no {x y h t l n : Int} (hj : jt x y h t l = false) : turnV x y h t l n = jv 0 0 0 0 0 := by unfold turnV; rw [hj]; rfl
theorem turnV_yes {x y h t l n : Int} (hj : jt x y h t l = true) : turnV x y h t l n = jv (tx (n % 4).toNat x y) (ty (n % 4).toNat x y) (th h n) t l := by unfold turnV; rw [hj]; rfl
theorem pl_of {x y h t l : Int} (hj : jt x y h t l = true) : (ms x && ms y) = true := by
  obtain ⟨hx, hy, _⟩ := jt_iff.1 hj
  exact pl_mk (by omega) (by omega)

end Go.Proofs.YtejeikfgmiadhaaGreat.Dr4
namespace Go.Proofs.YtejeikfgmiadhaaGreat.Tr
open Go.RowKit Go.ChangeShapes Go.WideShapes Go.WideElems Go.Deep Go.Proofs.YtejeikfgmiadhaaGreat.Mem Go.Proofs.YtejeikfgmiadhaaGreat.Rw Go.Proofs.YtejeikfgmiadhaaGreat.Pw Go.Proofs.YtejeikfgmiadhaaGreat.P2 Go.Proofs.YtejeikfgmiadhaaGreat.Dd Go.Proofs.YtejeikfgmiadhaaGreat.Dv Go.Proofs.YtejeikfgmiadhaaGreat.Dl Go.Proofs.YtejeikfgmiadhaaGreat.Ds Go.Proofs.YtejeikfgmiadhaaGreat.Fd Go.Proofs.YtejeikfgmiadhaaGreat.Ch Go.Proofs.YtejeikfgmiadhaaGreat.Hn Go.Proofs.YtejeikfgmiadhaaGreat.Po
set_option linter.unusedVariables false
set_option linter.unusedSimpArgs false
open Go.Proofs.YtejeikfgmiadhaaGreat.Cm Go.Proofs.YtejeikfgmiadhaaGreat.Pl Go.Proofs.YtejeikfgmiadhaaGreat.Str Go.Proofs.YtejeikfgmiadhaaGreat.Hd Go.Proofs.YtejeikfgmiadhaaGreat.Jt Go.Proofs.YtejeikfgmiadhaaGreat.Ho Go.Proofs.YtejeikfgmiadhaaGreat.Pa Go.Proofs.YtejeikfgmiadhaaGreat.Di Go.Proofs.YtejeikfgmiadhaaGreat.Ig Go.Proofs.YtejeikfgmiadhaaGreat.Ir Go.Proofs.YtejeikfgmiadhaaGreat.Iq Go.Proofs.YtejeikfgmiadhaaGreat.IsName Go.Proofs.YtejeikfgmiadhaaGreat.Mo
open Go.Proofs.YtejeikfgmiadhaaGreat.Dr4 (turnV_yes)
open Go.Proofs.YtejeikfgmiadhaaGreat.Rw (owns_below owns_grown)

/-- A rig that is turned. -/
noncomputable def trV (zs : List D) (n : Int) : List D := if rig zs = true then zs.map (mvD n 0 0) else []
theorem trV_len (zs : List D) (n : Int) : (trV zs n).length ≤ zs.length := by unfold trV; split <;> simp

theorem set8 {W : World} {b : Nat} {v0 v1 v2 v3 v4 v5 v6 v7 : Value} (h : ∀ j, j < 8 → (W.cell? ⟨b, j, none⟩).isSome = true) : ((((((((W.setCell ⟨b, 0, none⟩ v0).setCell ⟨b, 1, none⟩ v1).setCell ⟨b, 2, none⟩ v2).setCell ⟨b, 3, none⟩ v3).setCell ⟨b, 4, none⟩ v4).setCell ⟨b, 5, none⟩ v5).setCell ⟨b, 6, none⟩ v6).setCell ⟨b, 7, none⟩ v7).cell? ⟨b, 0, none⟩ = some v0 ∧ ((((((((W.setCell ⟨b, 0, none⟩ v0).setCell ⟨b, 1, none⟩ v1).setCell ⟨b, 2, none⟩ v2).setCell ⟨b, 3, none⟩ v3).setCell ⟨b, 4, none⟩ v4).setCell ⟨b, 5, none⟩ v5).setCell ⟨b, 6, none⟩ v6).setCell ⟨b, 7, none⟩ v7).cell? ⟨b, 1, none⟩ = some v1 ∧ ((((((((W.setCell ⟨b, 0, none⟩ v0).setCell ⟨b, 1, none⟩ v1).setCell ⟨b, 2, none⟩ v2).setCell ⟨b, 3, none⟩ v3).setCell ⟨b, 4, none⟩ v4).setCell ⟨b, 5, none⟩ v5).setCell ⟨b, 6, none⟩ v6).setCell ⟨b, 7, none⟩ v7).cell? ⟨b, 2, none⟩ = some v2 ∧ ((((((((W.setCell ⟨b, 0, none⟩ v0).setCell ⟨b, 1, none⟩ v1).setCell ⟨b, 2, none⟩ v2).setCell ⟨b, 3, none⟩ v3).setCell ⟨b, 4, none⟩ v4).setCell ⟨b, 5, none⟩ v5).setCell ⟨b, 6, none⟩ v6).setCell ⟨b, 7, none⟩ v7).cell? ⟨b, 3, none⟩ = some v3 ∧ ((((((((W.setCell ⟨b, 0, none⟩ v0).setCell ⟨b, 1, none⟩ v1).setCell ⟨b, 2, none⟩ v2).setCell ⟨b, 3, none⟩ v3).setCell ⟨b, 4, none⟩ v4).setCell ⟨b, 5, none⟩ v5).setCell ⟨b, 6, none⟩ v6).setCell ⟨b, 7, none⟩ v7).cell? ⟨b, 4, none⟩ = some v4 ∧ ((((((((W.setCell ⟨b, 0, none⟩ v0).setCell ⟨b, 1, none⟩ v1).setCell ⟨b, 2, none⟩ v2).setCell ⟨b, 3, none⟩ v3).setCell ⟨b, 4, none⟩ v4).setCell ⟨b, 5, none⟩ v5).setCell ⟨b, 6, none⟩ v6).setCell ⟨b, 7, none⟩ v7).cell? ⟨b, 5, none⟩ = some v5 ∧ ((((((((W.setCell ⟨b, 0, none⟩ v0).setCell ⟨b, 1, none⟩ v1).setCell ⟨b, 2, none⟩ v2).setCell ⟨b, 3, none⟩ v3).setCell ⟨b, 4, none⟩ v4).setCell ⟨b, 5, none⟩ v5).setCell ⟨b, 6, none⟩ v6).setCell ⟨b, 7, none⟩ v7).cell? ⟨b, 6, none⟩ = some v6 ∧ ((((((((W.setCell ⟨b, 0, none⟩ v0).setCell ⟨b, 1, none⟩ v1).setCell ⟨b, 2, none⟩ v2).setCell ⟨b, 3, none⟩ v3).setCell ⟨b, 4, none⟩ v4).setCell ⟨b, 5, none⟩ v5).setCell ⟨b, 6, none⟩ v6).setCell ⟨b, 7, none⟩ v7).cell? ⟨b, 7, none⟩ = some v7 := by
  refine ⟨?_, ?_, ?_, ?_, ?_, ?_, ?_, ?_⟩
  · rw [World.cell?_setCell_other _ _ _ _ (by simp), World.cell?_setCell_other _ _ _ _ (by simp), World.cell?_setCell_other _ _ _ _ (by simp), World.cell?_setCell_other _ _ _ _ (by simp), World.cell?_setCell_other _ _ _ _ (by simp), World.cell?_setCell_other _ _ _ _ (by simp), World.cell?_setCell_other _ _ _ _ (by simp)]; refine World.cell?_setCell_same' _ _ _ ?_; exact h 0 (by omega)
  · rw [World.cell?_setCell_other _ _ _ _ (by simp), World.cell?_setCell_other _ _ _ _ (by simp), World.cell?_setCell_other _ _ _ _ (by simp), World.cell?_setCell_other _ _ _ _ (by simp), World.cell?_setCell_other _ _ _ _ (by simp), World.cell?_setCell_other _ _ _ _ (by simp)]; refine World.cell?_setCell_same' _ _ _ ?_; rw [World.cell?_setCell_other _ _ _ _ (by simp)]; exact h 1 (by omega)
  · rw [World.cell?_setCell_other _ _ _ _ (by simp), World.cell?_setCell_other _ _ _ _ (by simp), World.cell?_setCell_other _ _ _ _ (by simp), World.cell?_setCell_other _ _ _ _ (by simp), World.cell?_setCell_other _ _ _ _ (by simp)]; refine World.cell?_setCell_same' _ _ _ ?_; rw [World.cell?_setCell_other _ _ _ _ (by simp), World.cell?_setCell_other _ _ _ _ (by simp)]; exact h 2 (by omega)
  · rw [World.cell?_setCell_other _ _ _ _ (by simp), World.cell?_setCell_other _ _ _ _ (by simp), World.cell?_setCell_other _ _ _ _ (by simp), World.cell?_setCell_other _ _ _ _ (by simp)]; refine World.cell?_setCell_same' _ _ _ ?_; rw [World.cell?_setCell_other _ _ _ _ (by simp), World.cell?_setCell_other _ _ _ _ (by simp), World.cell?_setCell_other _ _ _ _ (by simp)]; exact h 3 (by omega)
  · rw [World.cell?_setCell_other _ _ _ _ (by simp), World.cell?_setCell_other _ _ _ _ (by simp), World.cell?_setCell_other _ _ _ _ (by simp)]; refine World.cell?_setCell_same' _ _ _ ?_; rw [World.cell?_setCell_other _ _ _ _ (by simp), World.cell?_setCell_other _ _ _ _ (by simp), World.cell?_setCell_other _ _ _ _ (by simp), World.cell?_setCell_other _ _ _ _ (by simp)]; exact h 4 (by omega)
  · rw [World.cell?_setCell_other _ _ _ _ (by simp), World.cell?_setCell_other _ _ _ _ (by simp)]; refine World.cell?_setCell_same' _ _ _ ?_; rw [World.cell?_setCell_other _ _ _ _ (by simp), World.cell?_setCell_other _ _ _ _ (by simp), World.cell?_setCell_other _ _ _ _ (by simp), World.cell?_setCell_other _ _ _ _ (by simp), World.cell?_setCell_other _ _ _ _ (by simp)]; exact h 5 (by omega)
  · rw [World.cell?_setCell_other _ _ _ _ (by simp)]; refine World.cell?_setCell_same' _ _ _ ?_; rw [World.cell?_setCell_other _ _ _ _ (by simp), World.cell?_setCell_other _ _ _ _ (by simp), World.cell?_setCell_other _ _ _ _ (by simp), World.cell?_setCell_other _ _ _ _ (by simp), World.cell?_setCell_other _ _ _ _ (by simp), World.cell?_setCell_other _ _ _ _ (by simp)]; exact h 6 (by omega)
  · refine World.cell?_setCell_same' _ _ _ ?_; rw [World.cell?_setCell_other _ _ _ _ (by simp), World.cell?_setCell_other _ _ _ _ (by simp), World.cell?_setCell_other _ _ _ _ (by simp), World.cell?_setCell_other _ _ _ _ (by simp), World.cell?_setCell_other _ _ _ _ (by simp), World.cell?_setCell_other _ _ _ _ (by simp), World.cell?_setCell_other _ _ _ _ (by simp)]; exact h 7 (by omega)

end Go.Proofs.YtejeikfgmiadhaaGreat.Tr
