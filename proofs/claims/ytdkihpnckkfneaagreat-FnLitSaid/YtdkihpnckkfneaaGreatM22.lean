/- Of a rig: the pump of a device, and what is on one line. -/
import Derived.Test.YtdkihpnckkfneaaGreatM10
import Derived.Test.YtdkihpnckkfneaaGreatM12
import Derived.Test.YtdkihpnckkfneaaGreatDr6b
import Derived.Test.YtdkihpnckkfneaaGreatLt9
namespace Go.Proofs.YtdkihpnckkfneaaGreat.Lm6
open Go.RowKit Go.ChangeShapes Go.WideShapes Go.WideElems Go.Deep Go.Proofs.YtdkihpnckkfneaaGreat.Mem Go.Proofs.YtdkihpnckkfneaaGreat.Rw Go.Proofs.YtdkihpnckkfneaaGreat.Pw Go.Proofs.YtdkihpnckkfneaaGreat.P2 Go.Proofs.YtdkihpnckkfneaaGreat.Dd Go.Proofs.YtdkihpnckkfneaaGreat.Dv Go.Proofs.YtdkihpnckkfneaaGreat.Dl Go.Proofs.YtdkihpnckkfneaaGreat.Ds Go.Proofs.YtdkihpnckkfneaaGreat.Fd Go.Proofs.YtdkihpnckkfneaaGreat.Ch Go.Proofs.YtdkihpnckkfneaaGreat.Hn Go.Proofs.YtdkihpnckkfneaaGreat.Po
set_option linter.unusedVariables false
set_option linter.unusedSimpArgs false
open Go.Proofs.YtdkihpnckkfneaaGreat.Ho Go.Proofs.YtdkihpnckkfneaaGreat.Ig Go.Proofs.YtdkihpnckkfneaaGreat.Ir Go.Proofs.YtdkihpnckkfneaaGreat.Iq Go.Proofs.YtdkihpnckkfneaaGreat.Pu Go.Proofs.YtdkihpnckkfneaaGreat.Sl Go.Proofs.YtdkihpnckkfneaaGreat.Ol Go.Proofs.YtdkihpnckkfneaaGreat.Rz

theorem sb_iff {a b : ByteArray} : sb a b = true ↔ a = b := ⟨fun h => Sl.toList_inj (by unfold sb at h; simpa using h), fun h => by subst h; unfold sb; simp⟩
theorem rig_ord {zs : List D} (H : Rig zs) : Ord zs := (rig_set.1 H).2.1
/-- A device is found by its name. -/
theorem fd_at {zs : List D} (H : Rig zs) {j : Nat} {d : D} (hd : zs[j]? = some d) : fd zs d.nm = (j : Int) := by
  rcases fd_cases zs d.nm with e | ⟨j2, e, hj, d2, hd2, hs⟩
  · have := fd_none.1 (show fd zs d.nm < 0 by rw [e]; decide) d (List.mem_of_getElem? hd)
    rw [sb_iff.2 rfl] at this; cases this
  · rw [e]
    obtain ⟨h1, e1⟩ := List.getElem?_eq_some_iff.1 hd
    obtain ⟨h2, e2⟩ := List.getElem?_eq_some_iff.1 hd2
    have hn := sb_iff.1 hs
    rcases Nat.lt_trichotomy j2 j with c | c | c
    · have := List.pairwise_iff_getElem.1 (rig_ord H) j2 j h2 h1 c
      rw [e1, e2, hn, lt_irrefl] at this; cases this
    · rw [c]
    · have := List.pairwise_iff_getElem.1 (rig_ord H) j j2 h1 h2 c
      rw [e1, e2, hn, lt_irrefl] at this; cases this
theorem fd_name {zs : List D} {s : ByteArray} {q : Nat} {e : D} (h : fd zs s = (q : Int)) (he : zs[q]? = some e) : e.nm = s := by
  rcases fd_cases zs s with f | ⟨j, f, _, d, hd, hs⟩
  · rw [f] at h; omega
  · have : j = q := by omega
    subst this
    rw [he] at hd; cases hd
    exact sb_iff.1 hs
/-- Where the chase ends. -/
theorem chase {zs : List D} (H : Rig zs) {r : ByteArray} {j : Nat} {d : D} (h : At zs r j d) : ∃ (q : Nat) (e : D), zs[q]? = some e ∧ e.kd = 1 ∧ e.nm = r ∧ (d.kd = 1 → q = j) ∧ (d.kd = 2 → e.nm = d.ln) := by
  have one : ∀ {j : Nat} {d : D}, At zs r j d → d.kd = 1 → ∃ (q : Nat) (e : D), zs[q]? = some e ∧ e.kd = 1 ∧ e.nm = r ∧ (d.kd = 1 → q = j) ∧ (d.kd = 2 → e.nm = d.ln) := fun {j d} h k =>
    ⟨j, d, h.1, k, at_pump h k, fun _ => rfl, fun k2 => by omega⟩
  have two : ∀ {j : Nat} {d : D}, At zs r j d → d.kd = 2 → ∃ (q : Nat) (e : D), zs[q]? = some e ∧ e.kd = 1 ∧ e.nm = r ∧ (d.kd = 1 → q = j) ∧ (d.kd = 2 → e.nm = d.ln) := fun {j d} h k => by
    obtain ⟨q, e, hf, ha, hk⟩ := at_next H h (by omega)
    have k1 : e.kd = 1 := by have := ha.2.1; omega
    exact ⟨q, e, ha.1, k1, at_pump ha k1, fun k2 => by omega, fun _ => fd_name hf ha.1⟩
  rcases h.2.1 with k | k | k
  · exact one h k
  · exact two h k
  · obtain ⟨q, e, hf, ha, hk⟩ := at_next H h (by omega)
    have : e.kd = 1 ∨ e.kd = 2 := by have := ha.2.1; omega
    rcases this with k1 | k1
    · obtain ⟨q2, e2, a, b, c, _⟩ := one ha k1
      exact ⟨q2, e2, a, b, c, fun x => by omega, fun x => by omega⟩
    · obtain ⟨q2, e2, a, b, c, _⟩ := two ha k1
      exact ⟨q2, e2, a, b, c, fun x => by omega, fun x => by omega⟩
/-- The pump of a device of a rig. -/
theorem pump_of {zs : List D} (H : Rig zs) {i : Nat} {d : D} (hd : zs[i]? = some d) : ∃ (q : Nat) (e : D), fd zs (pumpV zs d.nm) = (q : Int) ∧ zs[q]? = some e ∧ e.kd = 1 ∧ (d.kd = 1 → q = i) ∧ (d.kd = 2 → e.nm = d.ln) := by
  obtain ⟨q, e, he, k, hn, h1, h2⟩ := chase H (at_first H (fd_at H hd) hd)
  exact ⟨q, e, by rw [← hn]; exact fd_at H he, he, k, h1, h2⟩
theorem ln_of {zs : List D} (H : Rig zs) {i : Nat} {d : D} (hd : zs[i]? = some d) : lnOf zs d.nm = d.ln := lnOf_at (fd_at H hd) hd
theorem bq {a b : ByteArray} : (a.toList == b.toList) = sb a b := rfl
/-- Whether two devices of a rig are on one line. -/
theorem same_of {zs : List D} (H : Rig zs) {i k : Nat} {d e : D} (hd : zs[i]? = some d) (he : zs[k]? = some e) : sameV zs d.nm e.nm = (!(d.ln.toList == []) && sb d.ln e.ln) := by
  unfold sameV
  rw [ln_of H hd, ln_of H he, rig_yes H, Bool.true_and, bq]
theorem same_sym {zs : List D} (H : Rig zs) {i k : Nat} {d e : D} (hd : zs[i]? = some d) (he : zs[k]? = some e) : sameV zs d.nm e.nm = sameV zs e.nm d.nm := by
  rw [same_of H hd he, same_of H he hd]
  by_cases c : d.ln = e.ln
  · rw [c]
  · have a : sb d.ln e.ln = false := by cases x : sb d.ln e.ln; rfl; exact absurd (sb_iff.1 x) c
    have b : sb e.ln d.ln = false := by cases x : sb e.ln d.ln; rfl; exact absurd (sb_iff.1 x).symm c
    rw [a, b, Bool.and_false, Bool.and_false]
theorem same_pump {zs : List D} (H : Rig zs) {i k : Nat} {d e : D} (hd : zs[i]? = some d) (he : zs[k]? = some e) (h : sameV zs d.nm e.nm = true) : pumpV zs d.nm = pumpV zs e.nm := by
  rw [same_of H hd he, Bool.and_eq_true] at h
  have hl : d.ln = e.ln := sb_iff.1 h.2
  have hne : (d.ln.toList == []) = false := by simpa using h.1
  rcases kinds H hd with ⟨_, k1⟩ | ⟨ka, _, q, x, hf, hx, hk⟩
  · rw [hne] at k1; cases k1
  rcases kinds H he with ⟨_, k1⟩ | ⟨kb, _, q2, x2, hf2, hx2, hk2⟩
  · rw [← hl, hne] at k1; cases k1
  rw [← hl, hf] at hf2
  have : q2 = q := by omega
  subst this
  rw [hx] at hx2; cases hx2
  have hkk : d.kd = e.kd := by omega
  have p1 := (at_first H (fd_at H hd) hd).2.2
  have p2 := (at_first H (fd_at H he) he).2.2
  rw [← p1, ← p2, ← hkk, show (d.kd - 1).toNat = (d.kd - 2).toNat + 1 by omega]
  unfold pmp
  rw [← hl]
  simp only [hf, Int.toNat_natCast, hx]
/-- Who is on the line of a device. -/
theorem on_of {zs : List D} (H : Rig zs) {i k : Nat} {d e : D} (hd : zs[i]? = some d) (he : zs[k]? = some e) (hne : (d.ln.toList == []) = false) : e.nm ∈ olV zs d.ln zs ↔ sb d.ln e.ln = true := by
  unfold olV
  rw [List.mem_map]
  constructor
  · rintro ⟨x, hx, hn⟩
    obtain ⟨hm, ht⟩ := List.mem_filter.1 hx
    have : x = e := ord_one (rig_ord H) hm (List.mem_of_getElem? he) (by rw [hn])
    subst this
    unfold tB at ht
    rw [Bool.and_eq_true, Bool.and_eq_true] at ht
    exact sb_iff.2 (sb_iff.1 ht.2.2).symm
  · intro h
    refine ⟨e, List.mem_filter.2 ⟨List.mem_of_getElem? he, ?_⟩, rfl⟩
    unfold tB
    rw [rig_yes H, hne, sb_iff.2 (sb_iff.1 h).symm]; rfl
end Go.Proofs.YtdkihpnckkfneaaGreat.Lm6
namespace Go.Proofs.YtdkihpnckkfneaaGreat.Ha
open Go.RowKit Go.ChangeShapes Go.WideShapes Go.WideElems Go.Deep Go.Proofs.YtdkihpnckkfneaaGreat.Mem Go.Proofs.YtdkihpnckkfneaaGreat.Rw Go.Proofs.YtdkihpnckkfneaaGreat.Dd Go.Proofs.YtdkihpnckkfneaaGreat.Dl Go.Proofs.YtdkihpnckkfneaaGreat.Strs
set_option linter.unusedVariables false
set_option linter.unusedSimpArgs false

theorem bl_eq {a b : ByteArray} : (a.toList == b.toList) = true ↔ a = b := ⟨fun h => Sl.toList_inj (by simpa using h), fun h => by simp [h]⟩
theorem bl_ne {a b : ByteArray} (h : a ≠ b) : (a.toList == b.toList) = false := by
  cases c : a.toList == b.toList
  · rfl
  · exact absurd (bl_eq.1 c) h
noncomputable def hasN (ss : List ByteArray) (s : ByteArray) : Bool := @decide (s ∈ ss) (Classical.propDecidable _)
theorem hasN_yes {ss : List ByteArray} {s : ByteArray} (h : s ∈ ss) : hasN ss s = true := by unfold hasN; exact @decide_eq_true _ (Classical.propDecidable _) h
theorem hasN_no {ss : List ByteArray} {s : ByteArray} (h : ¬ s ∈ ss) : hasN ss s = false := by unfold hasN; exact @decide_eq_false _ (Classical.propDecidable _) h
def Not (ss : List ByteArray) (s : ByteArray) (k : Nat) : Prop := ∀ j, j < k → ss[j]? ≠ some s
theorem Not.all {ss : List ByteArray} {s : ByteArray} {k : Nat} (h : Not ss s k) (hk : ss.length = k) : ¬ s ∈ ss := fun hp => by
  obtain ⟨j, hj, e⟩ := List.mem_iff_getElem.1 hp
  exact h j (by omega) (by rw [List.getElem?_eq_getElem hj, e])

set_option maxHeartbeats 2000000 in
theorem hasL (A : Option Addr) (n c : Nat) (ss : List ByteArray) (s : ByteArray) (w : World) (hn : ss.length = n) (hb : n ≤ 1048576) (hr : Rd w w.heap.size A (strs ss)) :
    Calls Tryz.prog 14 #[.slice A n c, .string s] w fun e w' => e = .returned (.bool (hasN ss s)) ∧ Below w.heap.size w w' := by
  have HR := Lib.hid hr
  have HN := Lib.hid hn
  clear hr hn
  go_enter Tryz.func14, Tryz.ntmps14
  go_wp2_with fail
  go_loop [5] (fun i => ∃ k : Nat, k ≤ n ∧ i = .int .i64 k ∧ Hid (Not ss s k)) (fun i => n - (intOf i).toNat)
  case atStart => exact ⟨0, Nat.zero_le _, rfl, Lib.hid (fun j h => by omega)⟩
  case round =>
    obtain ⟨k, hk, rfl, NK⟩ := hrel
    by_cases hlt : k < n
    · have hkz : k < ss.length := by rw [HN.out]; exact hlt
      obtain ⟨p, hp⟩ : ∃ p, ss[k]? = some p := ⟨_, List.getElem?_eq_getElem hkz⟩
      obtain ⟨b, o, eA, hbl, hcell⟩ := HR.out.get (k := k) (by rw [strs_len]; exact hkz)
      have c1 : w.cell? ⟨b, o + k, none⟩ = some (.string p) := hcell _ _ (strs_get hp)
      by_cases he : p = s
      · have EQ : (p.toList == s.toList) = true := bl_eq.2 he
        have F := Lib.hid (show hasN ss s = true from hasN_yes (he ▸ List.mem_of_getElem? hp))
        clear hcell hp hkz hbl he
        subst eA
        go_wp2_with fail
        go_ret
        exact ⟨by rw [F.out]; rfl, Below.refl _ _⟩
      · have EQ : (p.toList == s.toList) = false := bl_ne he
        have NK2 := Lib.hid (show Not ss s (k + 1) from fun j hj e => by
          by_cases c : j = k
          · subst c; rw [hp] at e; cases e; exact he rfl
          · exact NK.out j (by omega) e)
        clear hcell hp hkz hbl he
        subst eA
        go_wp2_with fail
        go_round
        case rel => exact ⟨k + 1, by omega, by go_num, NK2⟩
        case measure => simp [intOf]; omega
    · obtain rfl : k = n := by omega
      have F := Lib.hid (show hasN ss s = false from hasN_no (NK.out.all HN.out))
      go_wp2_with fail
      go_ret
      exact ⟨by rw [F.out]; rfl, Below.refl _ _⟩

/-- What the draw of a rig for a law leaves. -/
def DrawnV (w : World) (e : Ending) (w' : World) : Prop :=
  ∃ (zs : List D) (q gr oz cc : Nat), zs.length = q ∧ Dr6.Rn zs ∧ e = .returned (.slice (some ⟨gr, oz, none⟩) q cc) ∧ Rd w' w'.heap.size (some ⟨gr, oz, none⟩) (dls zs) ∧ Below w.heap.size w w'
end Go.Proofs.YtdkihpnckkfneaaGreat.Ha
namespace Go.Proofs.YtdkihpnckkfneaaGreat.Nl9
open Go.Proofs.YtdkihpnckkfneaaGreat.Sv Go.Proofs.YtdkihpnckkfneaaGreat.Lt9 Go.Proofs.YtdkihpnckkfneaaGreat.Ha
open Go.Proofs.YtdkihpnckkfneaaGreat.Ds (sb)
set_option linter.unusedVariables false
set_option linter.unusedSimpArgs false

/-- A device's name is among the lit ones just if it is lit. -/
theorem lit_has {ds : List D} {cs : List C} {gs : List G} {T t : Int} (h : show9 ds cs gs T = true) {k : Nat} {d : D} (hd : ds[k]? = some d) :
    hasN (litV ds cs gs T t ds) d.nm = litB ds cs gs T t d := by
  have hr := (show_iff.1 h).1
  obtain ⟨_, ho, _⟩ := Rz.rig_set.1 (Ig.rig_of hr)
  have hm := List.mem_of_getElem? hd
  cases hl : litB ds cs gs T t d
  · refine hasN_no fun hp => ?_
    unfold litV at hp
    obtain ⟨e, he, hn⟩ := List.mem_map.1 hp
    obtain ⟨he1, he2⟩ := List.mem_filter.1 he
    have := Rz.ord_one ho he1 hm (by rw [hn])
    rw [this, hl] at he2
    cases he2
  · refine hasN_yes ?_
    unfold litV
    exact List.mem_map.2 ⟨d, List.mem_filter.2 ⟨hm, hl⟩, rfl⟩
/-- .. and only lamps are. -/
theorem lit_kind {ds : List D} {cs : List C} {gs : List G} {T t : Int} (h : show9 ds cs gs T = true) {k : Nat} {d : D} (hd : ds[k]? = some d) :
    (decide (d.kd = 3) && litB ds cs gs T t d) = litB ds cs gs T t d := by
  by_cases c : d.kd = 3
  · rw [decide_eq_true c, Bool.true_and]
  · rw [lit_other h (List.mem_of_getElem? hd) c, Bool.and_false]
/-- A show that was drawn is a show. -/
theorem drawn_show {ds : List D} {cs : List C} {gs : List G} {T : Int} (h1 : Sd.score cs = true) (h2 : Ig.Rig ds) (h3 : Wm.wd gs = true) (h4 : 0 ≤ T) (h5 : T ≤ 13) : show9 ds cs gs T = true :=
  show_iff.2 ⟨Ig.rig_yes h2, h1, h3, h4, by omega⟩
end Go.Proofs.YtdkihpnckkfneaaGreat.Nl9
