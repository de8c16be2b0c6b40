/- Of a rig: the pump of a device, and what is on one line. -/
import Derived.Test.YtgcheplneolonaaRz
import Derived.Test.YtgcheplneolonaaOl
import Derived.Test.YtgcheplneolonaaTq
import Derived.Test.YtgcheplneolonaaSk
import Derived.Test.YtgcheplneolonaaDs
import Derived.Test.YtgcheplneolonaaDl
import Derived.Test.YtgcheplneolonaaPu
import Derived.BigQuiet
import Derived.Test.YtgcheplneolonaaZ3
namespace Go.Proofs.Ytgcheplneolonaa.Lm6
open Go.RowKit Go.ChangeShapes Go.WideShapes Go.WideElems Go.Deep Go.Proofs.Ytgcheplneolonaa.Mem Go.Proofs.Ytgcheplneolonaa.Rw Go.Proofs.Ytgcheplneolonaa.Pw Go.Proofs.Ytgcheplneolonaa.P2 Go.Proofs.Ytgcheplneolonaa.Dd Go.Proofs.Ytgcheplneolonaa.Dv Go.Proofs.Ytgcheplneolonaa.Dl Go.Proofs.Ytgcheplneolonaa.Ds Go.Proofs.Ytgcheplneolonaa.Fd Go.Proofs.Ytgcheplneolonaa.Ch Go.Proofs.Ytgcheplneolonaa.Hn Go.Proofs.Ytgcheplneolonaa.Po
set_option linter.unusedVariables false
set_option linter.unusedSimpArgs false
open Go.Proofs.Ytgcheplneolonaa.Ho Go.Proofs.Ytgcheplneolonaa.Ig Go.Proofs.Ytgcheplneolonaa.Ir Go.Proofs.Ytgcheplneolonaa.Iq Go.Proofs.Ytgcheplneolonaa.Pu Go.Proofs.Ytgcheplneolonaa.Sl Go.Proofs.Ytgcheplneolonaa.Ol Go.Proofs.Ytgcheplneolonaa.Rz

theorem sb_iff {a b : ByteArray} : sb a b = true ↔ a = b := ⟨fun h => Sl.toList_inj (by unfold sb at h; simpa using h), fun h => by subst h; unfold sb; simp⟩
theorem rig_ord {zs : List D} (H : Rig zs) : Ord zs := (rig_set.1 H).2.1
/-- A device is found by its name. -/
theorem fd_at {zs : List D} (H : Rig zs) {j : Nat} {d : D} (hd : zs[j]? = some d) : fd zs d.nm = (j : Int) := by
  rcases fd_cases zs d.nm with e | ⟨j2, e, hj, d2, hd2, hs⟩
  · have := fd_none.1 (show fd zs d.nm < 0 by rw [e]; decide) d (List.mem_of_getElem? hd)
    rw [sb_iff.2 rfl] at this; cases this
  · rw [e]
    obtain ⟨h1, e1⟩ := List.getElem?_eq_some_iff.1 hd
    obtain ⟨h2, e2⟩ := List.getElem?_eq_some_iff.1 hd2
    have hn := sb_iff.1 hs
    rcases Nat.lt_trichotomy j2 j with c | c | c
    · have := List.pairwise_iff_getElem.1 (rig_ord H) j2 j h2 h1 c
      rw [e1, e2, hn, lt_irrefl] at this; cases this
    · rw [c]
    · have := List.pairwise_iff_getElem.1 (rig_ord H) j j2 h1 h2 c
      rw [e1, e2, hn, lt_irrefl] at this; cases this
theorem fd_name {zs : List D} {s : ByteArray} {q : Nat} {e : D} (h : fd zs s = (q : Int)) (he : zs[q]? = some e) : e.nm = s := by
  rcases fd_cases zs s with f | ⟨j, f, _, d, hd, hs⟩
  · rw [f] at h; omega
  · have : j = q := by omega
    subst this
    rw [he] at hd; cases hd
    exact sb_iff.1 hs
/-- Where the chase ends. -/
theorem chase {zs : List D} (H : Rig zs) {r : ByteArray} {j : Nat} {d : D} (h : At zs r j d) : ∃ (q : Nat) (e : D), zs[q]? = some e ∧ e.kd = 1 ∧ e.nm = r ∧ (d.kd = 1 → q = j) ∧ (d.kd = 2 → e.nm = d.ln) := by
  have one : ∀ {j : Nat} {d : D}, At zs r j d → d.kd = 1 → ∃ (q : Nat) (e : D), zs[q]? = some e ∧ e.kd = 1 ∧ e.nm = r ∧ (d.kd = 1 → q = j) ∧ (d.kd = 2 → e.nm = d.ln) := fun {j d} h k =>
    ⟨j, d, h.1, k, at_pump h k, fun _ => rfl, fun k2 => by omega⟩
  have two : ∀ {j : Nat} {d : D}, At zs r j d → d.kd = 2 → ∃ (q : Nat) (e : D), zs[q]? = some e ∧ e.kd = 1 ∧ e.nm = r ∧ (d.kd = 1 → q = j) ∧ (d.kd = 2 → e.nm = d.ln) := fun {j d} h k => by
    obtain ⟨q, e, hf, ha, hk⟩ := at_next H h (by omega)
    have k1 : e.kd = 1 := by have := ha.2.1; omega
    exact ⟨q, e, ha.1, k1, at_pump ha k1, fun k2 => by omega, fun _ => fd_name hf ha.1⟩
  rcases h.2.1 with k | k | k
  · exact one h k
  · exact two h k
  · obtain ⟨q, e, hf, ha, hk⟩ := at_next H h (by omega)
    have : e.kd = 1 ∨ e.kd = 2 := by have := ha.2.1; omega
    rcases this with k1 | k1
    · obtain ⟨q2, e2, a, b, c, _⟩ := one ha k1
      exact ⟨q2, e2, a, b, c, fun x => by omega, fun x => by omega⟩
    · obtain ⟨q2, e2, a, b, c, _⟩ := two ha k1
      exact ⟨q2, e2, a, b, c, fun x => by omega, fun x => by omega⟩
/-- The pump of a device of a rig. -/
theorem pump_of {zs : List D} (H : Rig zs) {i : Nat} {d : D} (hd : zs[i]? = some d) : ∃ (q : Nat) (e : D), fd zs (pumpV zs d.nm) = (q : Int) ∧ zs[q]? = some e ∧ e.kd = 1 ∧ (d.kd = 1 → q = i) ∧ (d.kd = 2 → e.nm = d.ln) := by
  obtain ⟨q, e, he, k, hn, h1, h2⟩ := chase H (at_first H (fd_at H hd) hd)
  exact ⟨q, e, by rw [← hn]; exact fd_at H he, he, k, h1, h2⟩
theorem ln_of {zs : List D} (H : Rig zs) {i : Nat} {d : D} (hd : zs[i]? = some d) : lnOf zs d.nm = d.ln := lnOf_at (fd_at H hd) hd
theorem bq {a b : ByteArray} : (a.toList == b.toList) = sb a b := rfl
/-- Whether two devices of a rig are on one line. -/
theorem same_of {zs : List D} (H : Rig zs) {i k : Nat} {d e : D} (hd : zs[i]? = some d) (he : zs[k]? = some e) : sameV zs d.nm e.nm = (!(d.ln.toList == []) && sb d.ln e.ln) := by
  unfold sameV
  rw [ln_of H hd, ln_of H he, rig_yes H, Bool.true_and, bq]
theorem same_sym {zs : List D} (H : Rig zs) {i k : Nat} {d e : D} (hd : zs[i]? = some d) (he : zs[k]? = some e) : sameV zs d.nm e.nm = sameV zs e.nm d.nm := by
  rw [same_of H hd he, same_of H he hd]
  by_cases c : d.ln = e.ln
  · rw [c]
  · have a : sb d.ln e.ln = false := by cases x : sb d.ln e.ln; rfl; exact absurd (sb_iff.1 x) c
    have b : sb e.ln d.ln = false := by cases x : sb e.ln d.ln; rfl; exact absurd (sb_iff.1 x).symm c
    rw [a, b, Bool.and_false, Bool.and_false]
theorem same_pump {zs : List D} (H : Rig zs) {i k : Nat} {d e : D} (hd : zs[i]? = some d) (he : zs[k]? = some e) (h : sameV zs d.nm e.nm = true) : pumpV zs d.nm = pumpV zs e.nm := by
  rw [same_of H hd he, Bool.and_eq_true] at h
  have hl : d.ln = e.ln := sb_iff.1 h.2
  have hne : (d.ln.toList == []) = false := by simpa using h.1
  rcases kinds H hd with ⟨_, k1⟩ | ⟨ka, _, q, x, hf, hx, hk⟩
  · rw [hne] at k1; cases k1
  rcases kinds H he with ⟨_, k1⟩ | ⟨kb, _, q2, x2, hf2, hx2, hk2⟩
  · rw [← hl, hne] at k1; cases k1
  rw [← hl, hf] at hf2
  have : q2 = q := by omega
  subst this
  rw [hx] at hx2; cases hx2
  have hkk : d.kd = e.kd := by omega
  have p1 := (at_first H (fd_at H hd) hd).2.2
  have p2 := (at_first H (fd_at H he) he).2.2
  rw [← p1, ← p2, ← hkk, show (d.kd - 1).toNat = (d.kd - 2).toNat + 1 by omega]
  unfold pmp
  rw [← hl]
  simp only [hf, Int.toNat_natCast, hx]
/-- Who is on the line of a device. -/
theorem on_of {zs : List D} (H : Rig zs) {i k : Nat} {d e : D} (hd : zs[i]? = some d) (he : zs[k]? = some e) (hne : (d.ln.toList == []) = false) : e.nm ∈ olV zs d.ln zs ↔ sb d.ln e.ln = true := by
  unfold olV
  rw [List.mem_map]
  constructor
  · rintro ⟨x, hx, hn⟩
    obtain ⟨hm, ht⟩ := List.mem_filter.1 hx
    have : x = e := ord_one (rig_ord H) hm (List.mem_of_getElem? he) (by rw [hn])
    subst this
    unfold tB at ht
    rw [Bool.and_eq_true, Bool.and_eq_true] at ht
    exact sb_iff.2 (sb_iff.1 ht.2.2).symm
  · intro h
    refine ⟨e, List.mem_filter.2 ⟨List.mem_of_getElem? he, ?_⟩, rfl⟩
    unfold tB
    rw [rig_yes H, hne, sb_iff.2 (sb_iff.1 h).symm]; rfl
end Go.Proofs.Ytgcheplneolonaa.Lm6
namespace Go.Proofs.Ytgcheplneolonaa.Mr6
open Go.RowKit Go.ChangeShapes Go.WideShapes Go.WideElems Go.Deep Go.Proofs.Ytgcheplneolonaa.Mem Go.Proofs.Ytgcheplneolonaa.Rw Go.Proofs.Ytgcheplneolonaa.Pw Go.Proofs.Ytgcheplneolonaa.P2 Go.Proofs.Ytgcheplneolonaa.Dd Go.Proofs.Ytgcheplneolonaa.Dv Go.Proofs.Ytgcheplneolonaa.Dl Go.Proofs.Ytgcheplneolonaa.Ds Go.Proofs.Ytgcheplneolonaa.Fd Go.Proofs.Ytgcheplneolonaa.Ch Go.Proofs.Ytgcheplneolonaa.Hn Go.Proofs.Ytgcheplneolonaa.Po
set_option linter.unusedVariables false
set_option linter.unusedSimpArgs false
open Go.Proofs.Ytgcheplneolonaa.Cm Go.Proofs.Ytgcheplneolonaa.Pl Go.Proofs.Ytgcheplneolonaa.Hd Go.Proofs.Ytgcheplneolonaa.Jt Go.Proofs.Ytgcheplneolonaa.Ho Go.Proofs.Ytgcheplneolonaa.Ig Go.Proofs.Ytgcheplneolonaa.Ir Go.Proofs.Ytgcheplneolonaa.Iq Go.Proofs.Ytgcheplneolonaa.Pu Go.Proofs.Ytgcheplneolonaa.Rz Go.Proofs.Ytgcheplneolonaa.Mo Go.Proofs.Ytgcheplneolonaa.Tr Go.Proofs.Ytgcheplneolonaa.Sk Go.Proofs.Ytgcheplneolonaa.Tp Go.Proofs.Ytgcheplneolonaa.Lm6

/-- A change of devices that leaves name, kind and line. -/
def Same (f : D → D) : Prop := ∀ d, (f d).nm = d.nm ∧ (f d).kd = d.kd ∧ (f d).ln = d.ln
theorem mv_same (n a b : Int) : Same (mvD n a b) := fun d => by
  by_cases h : d.kd = 1
  · rw [mvD_1 h]; exact ⟨rfl, rfl, rfl⟩
  · rw [mvD_o h]; exact ⟨rfl, rfl, rfl⟩
theorem map_rig {zs : List D} {f : D → D} (hf : Same f) (H : Rig zs) (hv : ∀ d ∈ zs, dB (f d) = true) : Rig (zs.map f) := by
  obtain ⟨h1, h2, h3⟩ := rig_set.1 H
  refine rig_set.2 ⟨by rw [List.length_map]; exact h1, ?_, fun e he => ?_⟩
  · refine List.pairwise_map.2 (h2.imp fun {a b} h => ?_)
    rw [(hf a).1, (hf b).1]; exact h
  · obtain ⟨d, hd, rfl⟩ := List.mem_map.1 he
    obtain ⟨_, a2, a3⟩ := h3 d hd
    refine ⟨hv d hd, fun k => ?_, fun k => ?_⟩
    · rw [(hf d).2.1] at k
      obtain ⟨x, hx, hs, hk⟩ := a2 k
      exact ⟨f x, List.mem_map_of_mem hx, by rw [(hf x).1, (hf d).2.2]; exact hs, by rw [(hf x).2.1]; exact hk⟩
    · rw [(hf d).2.1] at k
      obtain ⟨x, hx, hs, hk⟩ := a3 k
      exact ⟨f x, List.mem_map_of_mem hx, by rw [(hf x).1, (hf d).2.2]; exact hs, by rw [(hf x).2.1]; exact hk⟩
theorem map_fdN {f : D → D} (hf : Same f) (s : ByteArray) : ∀ (zs : List D) (i : Nat), fdN (zs.map f) s i = fdN zs s i
  | [], _ => rfl
  | d :: r, i => by rw [List.map_cons, fdN, fdN, (hf d).1, map_fdN hf s r]
theorem map_fd {f : D → D} (hf : Same f) (zs : List D) (s : ByteArray) : fd (zs.map f) s = fd zs s := map_fdN hf s zs 0
theorem map_pmp {f : D → D} (hf : Same f) (zs : List D) : ∀ (k : Nat) (d : D), pmp (zs.map f) k (f d) = pmp zs k d
  | 0, d => (hf d).1
  | k + 1, d => by
    unfold pmp
    rw [(hf d).2.2, map_fd hf, List.getElem?_map]
    cases zs[(fd zs d.ln).toNat]? with
    | none => exact (hf d).1
    | some e => exact map_pmp hf zs k e
theorem map_pump {f : D → D} (hf : Same f) {zs : List D} (H : Rig zs) (H2 : Rig (zs.map f)) (s : ByteArray) : pumpV (zs.map f) s = pumpV zs s := by
  unfold pumpV
  rw [if_pos (rig_yes H), if_pos (rig_yes H2), map_fd hf, List.getElem?_map]
  by_cases c : fd zs s < 0
  · rw [if_pos c, if_pos c]
  · rw [if_neg c, if_neg c]
    cases zs[(fd zs s).toNat]? with
    | none => rfl
    | some e => show pmp (zs.map f) ((f e).kd - 1).toNat (f e) = _; rw [(hf e).2.1]; exact map_pmp hf zs _ e
theorem noz_head {d : D} (h : dB d = true) (h2 : d.kd = 2) : 0 ≤ d.hd ∧ d.hd ≤ 3 := by
  unfold dB devB at h
  rw [Bool.and_eq_true, if_neg (by omega), if_pos h2] at h
  unfold nozB at h
  rw [Bool.and_eq_true, Bool.and_eq_true] at h
  have := jt_iff.1 h.2.2.1
  omega
/-- Turned, and turned back. -/
theorem turn_back {d : D} (n : Int) (h : dB d = true) : mvD (4 - n.tmod 4) 0 0 (mvD n 0 0 d) = d := by
  by_cases h1 : d.kd = 1
  · rw [mvD_1 h1, mvD_1 h1]
  · have k : (mvD n 0 0 d).kd ≠ 1 := by rw [(mv_same n 0 0 d).2.1]; exact h1
    rw [mvD_o k]
    obtain ⟨nm, kd, ln, x, y, hh, tl, ms⟩ := d
    rw [mvD_o h1]
    simp only [Int.add_zero]
    obtain ⟨e1, e2⟩ := back_tx n x y
    rw [e1, e2]
    by_cases h2 : kd = 2
    · have hn := noz_head h h2
      simp only [] at hn
      rw [if_pos h2, if_pos h2]
      have : th (th hh n) (4 - n.tmod 4) = hh := by
        unfold th
        rw [if_pos (hd_mk hn), if_pos (hd_mk (by omega))]
        have t := tmod4 n
        split at t <;> omega
      rw [this]
    · rw [if_neg h2, if_neg h2]
/-- Moved, and moved back. -/
theorem shift_back {d : D} (a b : Int) (h : dB d = true) : mvD 0 (-a) (-b) (mvD 0 a b d) = d := by
  by_cases h1 : d.kd = 1
  · rw [mvD_1 h1, mvD_1 h1]
  · have k : (mvD 0 a b d).kd ≠ 1 := by rw [(mv_same 0 a b d).2.1]; exact h1
    rw [mvD_o k]
    obtain ⟨nm, kd, ln, x, y, hh, tl, ms⟩ := d
    rw [mvD_o h1]
    have e1 : tx ((0 : Int) % 4).toNat (tx ((0 : Int) % 4).toNat x y + a) (ty ((0 : Int) % 4).toNat x y + b) + -a = x := by simp [tx, ty]; omega
    have e2 : ty ((0 : Int) % 4).toNat (tx ((0 : Int) % 4).toNat x y + a) (ty ((0 : Int) % 4).toNat x y + b) + -b = y := by simp [tx, ty]; omega
    simp only []
    rw [e1, e2]
    by_cases h2 : kd = 2
    · have hn := noz_head h h2
      simp only [] at hn
      rw [if_pos h2, if_pos h2]
      have : th (th hh 0) 0 = hh := by
        unfold th
        rw [if_pos (hd_mk hn), if_pos (hd_mk (by omega))]
        omega
      rw [this]
    · rw [if_neg h2, if_neg h2]
theorem all_of {zs : List D} (H : Rig zs) {d : D} (h : d ∈ zs) : dB d = true := ((rig_set.1 H).2.2 d h).1
theorem map_id {zs : List D} {f : D → D} (h : ∀ d ∈ zs, f d = d) : zs.map f = zs := by
  have := List.map_congr_left (f := f) (g := id) h
  rw [this, List.map_id]
/-- What turning a rig, and turning it back, makes. -/
theorem turned_rig {zs : List D} (H : Rig zs) (n : Int) : trV zs n = zs.map (mvD n 0 0) ∧ Rig (zs.map (mvD n 0 0)) ∧ trV (zs.map (mvD n 0 0)) (4 - n.tmod 4) = zs := by
  have h2 : Rig (zs.map (mvD n 0 0)) := map_rig (mv_same n 0 0) H fun d hd => dB_turned n (all_of H hd)
  refine ⟨by unfold trV; rw [if_pos (rig_yes H)], h2, ?_⟩
  unfold trV
  rw [if_pos (rig_yes h2), List.map_map]
  exact map_id fun d hd => turn_back n (all_of H hd)
/-- What moving a rig, and moving it back, makes. -/
theorem moved_rig {zs : List D} (H : Rig zs) {a b : Int} (ha : -4096 ≤ a ∧ a ≤ 4096) (hb : -4096 ≤ b ∧ b ≤ 4096) :
    (shR zs a b = false ∧ shZ zs a b = []) ∨ (shR zs a b = true ∧ shZ zs a b = zs.map (mvD 0 a b) ∧ Rig (zs.map (mvD 0 a b)) ∧ shR (zs.map (mvD 0 a b)) (-a) (-b) = true ∧ shZ (zs.map (mvD 0 a b)) (-a) (-b) = zs) := by
  have g : shG zs a b = true := by unfold shG; rw [rig_yes H]; show (ms a && ms b) = true; exact pl_mk ha hb
  by_cases c : AllV 0 a b zs
  · have m := mvB_yes c
    have h2 : Rig (zs.map (mvD 0 a b)) := map_rig (mv_same 0 a b) H fun d hd => by
      obtain ⟨k, hk, e⟩ := List.getElem_of_mem hd
      exact c k d (by rw [List.getElem?_eq_getElem hk, e])
    have g2 : shG (zs.map (mvD 0 a b)) (-a) (-b) = true := by unfold shG; rw [rig_yes h2]; show (ms (-a) && ms (-b)) = true; exact pl_mk (by omega) (by omega)
    have bk : (zs.map (mvD 0 a b)).map (mvD 0 (-a) (-b)) = zs := by
      rw [List.map_map]; exact map_id fun d hd => shift_back a b (all_of H hd)
    have m2 : mvB 0 (-a) (-b) (zs.map (mvD 0 a b)) = true := mvB_yes fun k d hd => by
      rw [List.getElem?_map] at hd
      cases e : zs[k]? with
      | none => rw [e] at hd; cases hd
      | some x =>
        rw [e] at hd
        have hd : mvD 0 a b x = d := Option.some.inj hd
        subst hd
        rw [shift_back a b (all_of H (List.mem_of_getElem? e))]
        exact all_of H (List.mem_of_getElem? e)
    refine Or.inr ⟨by unfold shR; rw [g, m]; rfl, by unfold shZ mvL; rw [if_pos g, if_pos m], h2, by unfold shR; rw [g2, m2]; rfl, ?_⟩
    unfold shZ mvL
    rw [if_pos g2, if_pos m2, bk]
  · have m := mvB_no c
    refine Or.inl ⟨by unfold shR; rw [m, Bool.and_false], ?_⟩
    unfold shZ mvL
    rw [if_pos g, m]; rfl
end Go.Proofs.Ytgcheplneolonaa.Mr6
namespace Go.Proofs.Ytgcheplneolonaa.Rg
open Go.RowKit Go.ChangeShapes Go.WideShapes Go.WideElems Go.Deep Go.Proofs.Ytgcheplneolonaa.Mem Go.Proofs.Ytgcheplneolonaa.Rw Go.Proofs.Ytgcheplneolonaa.Dd Go.Proofs.Ytgcheplneolonaa.Dl Go.Proofs.Ytgcheplneolonaa.Ds
set_option linter.unusedVariables false
set_option linter.unusedSimpArgs false

theorem neq_same (n : ByteArray) (k : Int) (l : ByteArray) (x y h t m : Int) (w : World) :
    (binOp .neq 31 (va n k l x y h t m) (va n k l x y h t m)).run Try.prog w = .ok (.bool false) w := by
  rw [run_neq_struct]
  have e : (Op.equalIn 10000 31 (va n k l x y h t m) (va n k l x y h t m)).run Try.prog w = .ok true w := by
    go_simp
  rw [e]; rfl
/-- The eight cells of a device of a list. -/
theorem cells8 {W : World} {B : Nat} {b o : Nat} {zs : List D} {A : Option Addr} (h : Rd W B A (dls zs)) (eA : A = some ⟨b, o, none⟩) {j : Nat} {n : ByteArray} {q : Int} {l : ByteArray} {x y hh t m : Int} (hd : zs[j]? = some ⟨n, q, l, x, y, hh, t, m⟩) :
    W.cell? ⟨b, o + j * 8, none⟩ = some (.string n) ∧ W.cell? ⟨b, o + j * 8 + 1, none⟩ = some (.int .i64 q) ∧ W.cell? ⟨b, o + j * 8 + 2, none⟩ = some (.string l) ∧ W.cell? ⟨b, o + j * 8 + 3, none⟩ = some (.int .i64 x) ∧ W.cell? ⟨b, o + j * 8 + 4, none⟩ = some (.int .i64 y) ∧ W.cell? ⟨b, o + j * 8 + 5, none⟩ = some (.int .i64 hh) ∧ W.cell? ⟨b, o + j * 8 + 6, none⟩ = some (.int .i64 t) ∧ W.cell? ⟨b, o + j * 8 + 7, none⟩ = some (.int .i64 m) := by
  obtain ⟨b', o', e, _, hc⟩ := h.get (k := j * 8) (by rw [dls_len]; have := (List.getElem?_eq_some_iff.1 hd).1; omega)
  rw [eA] at e
  injection e with e
  injection e with e1 e2
  subst e1 e2
  obtain ⟨z0, z1, z2, z3, z4, z5, z6, z7⟩ := dls_get hd
  exact ⟨hc _ _ z0, by rw [Nat.add_assoc]; exact hc _ _ z1, by rw [Nat.add_assoc]; exact hc _ _ z2, by rw [Nat.add_assoc]; exact hc _ _ z3, by rw [Nat.add_assoc]; exact hc _ _ z4, by rw [Nat.add_assoc]; exact hc _ _ z5, by rw [Nat.add_assoc]; exact hc _ _ z6, by rw [Nat.add_assoc]; exact hc _ _ z7⟩

set_option maxHeartbeats 4000000 in
set_option maxRecDepth 100000 in
theorem rigsL (g1 o1 c1 g2 o2 c2 n : Nat) (zs : List D) (w : World) (hn : zs.length = n) (hb : n ≤ 1048576) (hr : Rd w w.heap.size (some ⟨g1, o1, none⟩) (dls zs)) (hs : Rd w w.heap.size (some ⟨g2, o2, none⟩) (dls zs)) :
    Calls Try.prog 15 #[.slice (some ⟨g1, o1, none⟩) n c1, .slice (some ⟨g2, o2, none⟩) n c2] w fun e w' => e = .returned (.bool true) ∧ Below w.heap.size w w' := by
  have HR := Lib.hid hr
  have HS := Lib.hid hs
  have HN := Lib.hid hn
  have hnn : ((n : Int) == (n : Int)) = true := by simp
  clear hr hs hn
  go_enter Try.func15, Try.ntmps15
  go_wp2_with fail
  go_loopw [5] (fun i wr => ∃ k m : Nat, k ≤ n ∧ i = .int .i64 k ∧ wr = w.drewN m) (fun i _ => n - (intOf i).toNat)
  case atStart => exact ⟨0, 0, Nat.zero_le _, rfl, rfl⟩
  case round =>
    obtain ⟨k, m9, hk, rfl, rfl⟩ := hrel
    by_cases hlt : k < n
    · obtain ⟨z, hz⟩ : ∃ z, zs[k]? = some z := ⟨_, List.getElem?_eq_getElem (by rw [HN.out]; exact hlt)⟩
      obtain ⟨n2, q, l, x, y, h, t, m⟩ := z
      obtain ⟨a0, a1, a2, a3, a4, a5, a6, a7⟩ := cells8 HR.out rfl hz
      obtain ⟨b0, b1, b2, b3, b4, b5, b6, b7⟩ := cells8 HS.out rfl hz
      have EQ := neq_same n2 q l x y h t m
      have hki : (k : Int) < (n : Int) := by omega
      clear hz
      go_wp2_with fail
      go_quiet (fail)
      go_wp2_with fail
      go_roundw
      case rel => exact ⟨k + 1, _, by omega, by go_num, rfl⟩
      case measure => simp [intOf]; omega
    · obtain rfl : k = n := by omega
      go_wp2_with fail
      go_ret
      exact ⟨rfl, below_drewN (Below.refl _ _) _⟩
end Go.Proofs.Ytgcheplneolonaa.Rg
namespace Go.Proofs.Ytgcheplneolonaa.Ha
open Go.RowKit Go.ChangeShapes Go.WideShapes Go.WideElems Go.Deep Go.Proofs.Ytgcheplneolonaa.Mem Go.Proofs.Ytgcheplneolonaa.Rw Go.Proofs.Ytgcheplneolonaa.Dd Go.Proofs.Ytgcheplneolonaa.Dl Go.Proofs.Ytgcheplneolonaa.Strs
set_option linter.unusedVariables false
set_option linter.unusedSimpArgs false

theorem bl_eq {a b : ByteArray} : (a.toList == b.toList) = true ↔ a = b := ⟨fun h => Sl.toList_inj (by simpa using h), fun h => by simp [h]⟩
theorem bl_ne {a b : ByteArray} (h : a ≠ b) : (a.toList == b.toList) = false := by
  cases c : a.toList == b.toList
  · rfl
  · exact absurd (bl_eq.1 c) h
noncomputable def hasN (ss : List ByteArray) (s : ByteArray) : Bool := @decide (s ∈ ss) (Classical.propDecidable _)
theorem hasN_yes {ss : List ByteArray} {s : ByteArray} (h : s ∈ ss) : hasN ss s = true := by unfold hasN; exact @decide_eq_true _ (Classical.propDecidable _) h
theorem hasN_no {ss : List ByteArray} {s : ByteArray} (h : ¬ s ∈ ss) : hasN ss s = false := by unfold hasN; exact @decide_eq_false _ (Classical.propDecidable _) h
def Not (ss : List ByteArray) (s : ByteArray) (k : Nat) : Prop := ∀ j, j < k → ss[j]? ≠ some s
theorem Not.all {ss : List ByteArray} {s : ByteArray} {k : Nat} (h : Not ss s k) (hk : ss.length = k) : ¬ s ∈ ss := fun hp => by
  obtain ⟨j, hj, e⟩ := List.mem_iff_getElem.1 hp
  exact h j (by omega) (by rw [List.getElem?_eq_getElem hj, e])

set_option maxHeartbeats 2000000 in
theorem hasL (A : Option Addr) (n c : Nat) (ss : List ByteArray) (s : ByteArray) (w : World) (hn : ss.length = n) (hb : n ≤ 1048576) (hr : Rd w w.heap.size A (strs ss)) :
    Calls Try.prog 10 #[.slice A n c, .string s] w fun e w' => e = .returned (.bool (hasN ss s)) ∧ Below w.heap.size w w' := by
  have HR := Lib.hid hr
  have HN := Lib.hid hn
  clear hr hn
  go_enter Try.func10, Try.ntmps10
  go_wp2_with fail
  go_loop [5] (fun i => ∃ k : Nat, k ≤ n ∧ i = .int .i64 k ∧ Hid (Not ss s k)) (fun i => n - (intOf i).toNat)
  case atStart => exact ⟨0, Nat.zero_le _, rfl, Lib.hid (fun j h => by omega)⟩
  case round =>
    obtain ⟨k, hk, rfl, NK⟩ := hrel
    by_cases hlt : k < n
    · have hkz : k < ss.length := by rw [HN.out]; exact hlt
      obtain ⟨p, hp⟩ : ∃ p, ss[k]? = some p := ⟨_, List.getElem?_eq_getElem hkz⟩
      obtain ⟨b, o, eA, hbl, hcell⟩ := HR.out.get (k := k) (by rw [strs_len]; exact hkz)
      have c1 : w.cell? ⟨b, o + k, none⟩ = some (.string p) := hcell _ _ (strs_get hp)
      by_cases he : p = s
      · have EQ : (p.toList == s.toList) = true := bl_eq.2 he
        have F := Lib.hid (show hasN ss s = true from hasN_yes (he ▸ List.mem_of_getElem? hp))
        clear hcell hp hkz hbl he
        subst eA
        go_wp2_with fail
        go_ret
        exact ⟨by rw [F.out]; rfl, Below.refl _ _⟩
      · have EQ : (p.toList == s.toList) = false := bl_ne he
        have NK2 := Lib.hid (show Not ss s (k + 1) from fun j hj e => by
          by_cases c : j = k
          · subst c; rw [hp] at e; cases e; exact he rfl
          · exact NK.out j (by omega) e)
        clear hcell hp hkz hbl he
        subst eA
        go_wp2_with fail
        go_round
        case rel => exact ⟨k + 1, by omega, by go_num, NK2⟩
        case measure => simp [intOf]; omega
    · obtain rfl : k = n := by omega
      have F := Lib.hid (show hasN ss s = false from hasN_no (NK.out.all HN.out))
      go_wp2_with fail
      go_ret
      exact ⟨by rw [F.out]; rfl, Below.refl _ _⟩

/-- What the draw of a rig for a law leaves. -/
def DrawnV (w : World) (e : Ending) (w' : World) : Prop :=
  ∃ (zs : List D) (q gr oz cc : Nat), zs.length = q ∧ Dr6.Rn zs ∧ e = .returned (.slice (some ⟨gr, oz, none⟩) q cc) ∧ Rd w' w'.heap.size (some ⟨gr, oz, none⟩) (dls zs) ∧ Below w.heap.size w w'
theorem drawV (w : World) (A : Option Addr) (n c : Nat) (bs : List UInt8) (hn : bs.length = n) (hb : n ≤ 4096) (hr : Rd w w.heap.size A (Draw.u8s bs)) :
    Calls Try.prog 6 #[.slice A n c] w (DrawnV w) :=
  (Dr6.drawR w A n c bs hn hb hr).mono fun e w' ⟨zs, q, gr, cc, h1, _, h2, h3, h4, h5⟩ => ⟨zs, q, gr, 0, cc, h1, h2, h3, Rd.own h4, h5⟩
end Go.Proofs.Ytgcheplneolonaa.Ha
