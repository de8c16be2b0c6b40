/- Lists of devices: how much of what is left one takes, the laws' copy of one, and their comparison. -/
import Derived.Test.YtokncfhpmjohdaeM3
import Derived.Deep.RegionHeld3
import Derived.Handy
import Derived.StillTailTactics
import Derived.Deep.SlicePairs
import Derived.Test.YtokncfhpmjohdaeM1
import Derived.Deep.DeepCutAuto
import Derived.Laws.BytesArg
import Derived.Lib.ItoaNum
import Derived.Lib.Strings
import Derived.Laws.Concat
import Derived.WalkSmall
import Derived.Lib.LaidTab
set_option linter.unusedVariables false
set_option linter.unusedSimpArgs false
namespace Go.Proofs.Ytokncfhpmjohdae.Dl
open Go.RowKit Go.ChangeShapes Go.WideShapes Go.WideElems Go.Deep Go.Proofs.Ytokncfhpmjohdae.Mem Go.Proofs.Ytokncfhpmjohdae.Rw Go.Proofs.Ytokncfhpmjohdae.Pw Go.Proofs.Ytokncfhpmjohdae.P2 Go.Proofs.Ytokncfhpmjohdae.Dd Go.Proofs.Ytokncfhpmjohdae.Dv
set_option linter.unusedVariables false
set_option linter.unusedSimpArgs false

/-- How long the texts of these devices are. -/
def bulk : List D → Nat
  | [] => 0
  | d :: r => d.nm.size + d.ln.size + bulk r
theorem bulk_app : ∀ (a b : List D), bulk (a ++ b) = bulk a + bulk b
  | [], b => by simp [bulk]
  | d :: r, b => by simp only [List.cons_append, bulk, bulk_app r b]; omega
theorem bulk_take {zs : List D} {k : Nat} {d : D} (h : zs[k]? = some d) : bulk (zs.take (k + 1)) = bulk (zs.take k) + (d.nm.size + d.ln.size) := by
  obtain ⟨hk, rfl⟩ := List.getElem?_eq_some_iff.1 h
  rw [List.take_succ_eq_append_getElem hk, bulk_app]; simp [bulk]
theorem bulk_le (zs : List D) (k : Nat) : bulk (zs.take k) ≤ bulk zs := by
  have := bulk_app (zs.take k) (zs.drop k)
  rw [List.take_append_drop] at this
  omega
theorem mem_at {α : Type} {zs : List α} {k : Nat} {d : α} (h : zs[k]? = some d) : d ∈ zs := List.mem_of_getElem? h
/-- How much is left behind these. -/
def szV (n : Nat) (zs : List D) : Int := if (1048576 : Int) - n - bulk zs < 0 then -1 else 1048576 - n - bulk zs

/-- The first k of one list, then the other one's. -/
def mixed (xs ys : List Value) (k : Nat) : List Value := xs.take k ++ ys.drop k
theorem mixed_zero (xs ys : List Value) : mixed xs ys 0 = ys := by simp [mixed]
theorem mixed_all {xs ys : List Value} (h : ys.length = xs.length) : mixed xs ys xs.length = xs := by
  unfold mixed; rw [List.take_of_length_le (Nat.le_refl _), List.drop_of_length_le (by omega), List.append_nil]
theorem mixed_at {xs ys : List Value} {k j : Nat} {v : Value} (h : ys.length = xs.length) (hk : k ≤ j) (hv : ys[j]? = some v) : (mixed xs ys k)[j]? = some v := by
  have hj := (List.getElem?_eq_some_iff.1 hv).1
  unfold mixed
  rw [List.getElem?_append_right (by rw [List.length_take]; omega), List.length_take, Nat.min_eq_left (by omega), List.getElem?_drop, show k + (j - k) = j by omega]
  exact hv
theorem mixed_put {xs ys : List Value} {k : Nat} {v : Value} (h : ys.length = xs.length) (hv : xs[k]? = some v) : (mixed xs ys k).set k v = mixed xs ys (k + 1) := by
  obtain ⟨hk, rfl⟩ := List.getElem?_eq_some_iff.1 hv
  unfold mixed
  rw [List.set_append_right _ _ (by rw [List.length_take]; omega), List.length_take, Nat.min_eq_left (by omega), Nat.sub_self, List.drop_eq_getElem_cons (by omega), List.set_cons_zero, List.take_succ_eq_append_getElem hk, List.append_assoc]
  rfl
/-- A device of nothing. -/
def d0 : D := ⟨⟨#[]⟩, 0, ⟨#[]⟩, 0, 0, 0, 0, 0⟩
theorem dls_made (n : Nat) : (madeCells #[.string ⟨#[]⟩, .int .i64 0, .string ⟨#[]⟩, .int .i64 0, .int .i64 0, .int .i64 0, .int .i64 0, .int .i64 0] (n * 8)).toList = dls (List.replicate n d0) := by
  apply List.ext_getElem?
  intro j
  by_cases h : j < n * 8
  · have hm : j % 8 < 8 := Nat.mod_lt _ (by omega)
    have hd : j / 8 < n := by omega
    have hg := flat_get dc_len (zs := List.replicate n d0) (k := j / 8) (z := d0) (by rw [List.getElem?_replicate, if_pos hd]) (j % 8) hm
    rw [show j / 8 * 8 + j % 8 = j by omega] at hg
    unfold dls
    rw [hg, Array.getElem?_toList]
    simp only [madeCells]
    simp [h]
    generalize j % 8 = r at hm
    match r, hm with
    | 0, _ => rfl
    | 1, _ => rfl
    | 2, _ => rfl
    | 3, _ => rfl
    | 4, _ => rfl
    | 5, _ => rfl
    | 6, _ => rfl
    | 7, _ => rfl
  · rw [List.getElem?_eq_none (l := dls _) (by rw [dls_len, List.length_replicate]; omega), Array.getElem?_toList]
    simp [madeCells, h]

theorem infoD : (Try.prog.info? 27).map (fun i => (i.zero, i.size, i.bytes)) = some (some (.agg #[.string ⟨#[]⟩, .int .i64 0, .string ⟨#[]⟩, .int .i64 0, .int .i64 0, .int .i64 0, .int .i64 0, .int .i64 0]), 8, 80) := by kernel_rfl

/-- What the copy leaves: a row of its own with these devices; what was there is as it was. -/
def Copied (w : World) (n : Nat) (zs : List D) (e : Ending) (w' : World) : Prop :=
  ∃ g, e = .returned (.slice (some ⟨g, 0, none⟩) n n) ∧ w.heap.size ≤ g ∧ w'.ownsRow w.heap.size 27 8 (.slice (some ⟨g, 0, none⟩) n n) n (dls zs) ∧ Below w.heap.size w w'

set_option maxHeartbeats 4000000 in
theorem eqDeviceS (A B : Option Addr) (n c d : Nat) (zs : List D) (H : Nat) (w : World) (hn : zs.length = n) (hb : n ≤ 1048576) (hH : H ≤ w.heap.size) (hr : Rd w H A (dls zs)) (hs : Rd w H B (dls zs)) :
    Calls Try.prog 76 #[.slice A n c, .slice B n d] w fun e w' => e = .returned (.bool true) ∧ Below w.heap.size w w' := by
  have HR := Lib.hid (hr.more hH)
  have HS := Lib.hid (hs.more hH)
  have HN := Lib.hid hn
  clear hr hs hn hH
  go_enter Try.func76, Try.ntmps76
  go_wp2
  go_loopw [5] (fun i wr => ∃ k : Nat, k ≤ n ∧ i = .int .i64 k ∧ Hid (Below w.heap.size w wr)) (fun i _ => n - (intOf i).toNat)
  case atStart => exact ⟨0, Nat.zero_le _, rfl, Lib.hid (Below.refl _ _)⟩
  case round =>
    obtain ⟨k, hk, rfl, BK⟩ := hrel
    by_cases hlt : k < n
    · have hl : k * 8 < (dls zs).length := by rw [dls_len, HN.out]; omega
      obtain ⟨z, hz⟩ : ∃ z, zs[k]? = some z := ⟨_, List.getElem?_eq_getElem (by rw [HN.out]; exact hlt)⟩
      obtain ⟨n_, q, l, x, y, h, t, m⟩ := z
      obtain ⟨z0, z1, z2, z3, z4, z5, z6, z7⟩ := dls_get hz
      obtain ⟨b1, o1, eA, _, g1⟩ := (HR.out.below BK.out).get hl
      obtain ⟨b2, o2, eB, _, g2⟩ := (HS.out.below BK.out).get hl
      have c0 : wr.cell? ⟨b1, o1 + k * 8, none⟩ = some (.string n_) := g1 _ _ z0
      have c1 : wr.cell? ⟨b1, o1 + k * 8 + 1, none⟩ = some (.int .i64 q) := g1 _ _ z1
      have c2 : wr.cell? ⟨b1, o1 + k * 8 + 2, none⟩ = some (.string l) := g1 _ _ z2
      have c3 : wr.cell? ⟨b1, o1 + k * 8 + 3, none⟩ = some (.int .i64 x) := g1 _ _ z3
      have c4 : wr.cell? ⟨b1, o1 + k * 8 + 4, none⟩ = some (.int .i64 y) := g1 _ _ z4
      have c5 : wr.cell? ⟨b1, o1 + k * 8 + 5, none⟩ = some (.int .i64 h) := g1 _ _ z5
      have c6 : wr.cell? ⟨b1, o1 + k * 8 + 6, none⟩ = some (.int .i64 t) := g1 _ _ z6
      have c7 : wr.cell? ⟨b1, o1 + k * 8 + 7, none⟩ = some (.int .i64 m) := g1 _ _ z7
      have e0 : wr.cell? ⟨b2, o2 + k * 8, none⟩ = some (.string n_) := g2 _ _ z0
      have e1 : wr.cell? ⟨b2, o2 + k * 8 + 1, none⟩ = some (.int .i64 q) := g2 _ _ z1
      have e2 : wr.cell? ⟨b2, o2 + k * 8 + 2, none⟩ = some (.string l) := g2 _ _ z2
      have e3 : wr.cell? ⟨b2, o2 + k * 8 + 3, none⟩ = some (.int .i64 x) := g2 _ _ z3
      have e4 : wr.cell? ⟨b2, o2 + k * 8 + 4, none⟩ = some (.int .i64 y) := g2 _ _ z4
      have e5 : wr.cell? ⟨b2, o2 + k * 8 + 5, none⟩ = some (.int .i64 h) := g2 _ _ z5
      have e6 : wr.cell? ⟨b2, o2 + k * 8 + 6, none⟩ = some (.int .i64 t) := g2 _ _ z6
      have e7 : wr.cell? ⟨b2, o2 + k * 8 + 7, none⟩ = some (.int .i64 m) := g2 _ _ z7
      clear g1 g2 hz hl z0 z1 z2 z3 z4 z5 z6 z7
      subst eA eB
      have hlt' : (k : Int) < (n : Int) := by omega
      have hk0 : (0 : Int) ≤ (k : Int) := by omega
      have p1 : b1 < wr.heap.size := World.block_lt_of_cell? wr _ c1
      have p2 : ∀ j, b1 < wr.heap.size + j := fun j => by omega
      have p3 : b2 < wr.heap.size := World.block_lt_of_cell? wr _ e1
      have p4 : ∀ j, b2 < wr.heap.size + j := fun j => by omega
      go_wp2_with fail
      go_region_held3 (fun w' => w'.cell? ⟨b1, o1 + k * 8, none⟩ = some (.string n_) ∧ w'.cell? ⟨b1, o1 + k * 8 + 1, none⟩ = some (.int .i64 q) ∧ w'.cell? ⟨b1, o1 + k * 8 + 2, none⟩ = some (.string l) ∧ w'.cell? ⟨b1, o1 + k * 8 + 3, none⟩ = some (.int .i64 x) ∧ w'.cell? ⟨b1, o1 + k * 8 + 4, none⟩ = some (.int .i64 y) ∧ w'.cell? ⟨b1, o1 + k * 8 + 5, none⟩ = some (.int .i64 h) ∧ w'.cell? ⟨b1, o1 + k * 8 + 6, none⟩ = some (.int .i64 t) ∧ w'.cell? ⟨b1, o1 + k * 8 + 7, none⟩ = some (.int .i64 m) ∧ w'.cell? ⟨b2, o2 + k * 8, none⟩ = some (.string n_) ∧ w'.cell? ⟨b2, o2 + k * 8 + 1, none⟩ = some (.int .i64 q) ∧ w'.cell? ⟨b2, o2 + k * 8 + 2, none⟩ = some (.string l) ∧ w'.cell? ⟨b2, o2 + k * 8 + 3, none⟩ = some (.int .i64 x) ∧ w'.cell? ⟨b2, o2 + k * 8 + 4, none⟩ = some (.int .i64 y) ∧ w'.cell? ⟨b2, o2 + k * 8 + 5, none⟩ = some (.int .i64 h) ∧ w'.cell? ⟨b2, o2 + k * 8 + 6, none⟩ = some (.int .i64 t) ∧ w'.cell? ⟨b2, o2 + k * 8 + 7, none⟩ = some (.int .i64 m)) (simp [go_sem, *])
        (first | (go_at_call 100; ((with_reducible refine (eqDevice _ _ _ _ _ _ _ _ _).mono ?_); rintro e w' ⟨rfl, rfl⟩)))
      all_goals go_wp2_with fail
      all_goals go_roundw
      case rel => exact ⟨k + 1, by omega, by go_num, Lib.hid (BK.out.trans (Below.mono (by go_grown) BK.out.size))⟩
      case measure => simp [intOf]; omega
    · obtain rfl : k = n := by omega
      go_wp2
      go_ret
      exact ⟨rfl, BK.out⟩

end Go.Proofs.Ytokncfhpmjohdae.Dl

namespace Go.Proofs.Ytokncfhpmjohdae.Cv
open Go.RowKit Go.Proofs.Ytokncfhpmjohdae.Cd
set_option linter.unusedVariables false
set_option linter.unusedSimpArgs false

set_option maxHeartbeats 1000000 in
theorem eqCue (t : Int) (n : ByteArray) (l r : Int) (w : World) : Calls Try.prog 101 #[va t n l r, va t n l r] w fun e w' => e = .returned (.bool true) ∧ w' = (w.alloc (.cells (ca t n l r) 134)).alloc (.cells (ca t n l r) 134) := by
  have h1 : (n.toList == n.toList) = true := by simp
  go_enter Try.func101, Try.ntmps101
  go_wp2_with fail
  all_goals go_returns
  all_goals exact ⟨rfl, rfl⟩

end Go.Proofs.Ytokncfhpmjohdae.Cv
namespace Go.Proofs.Ytokncfhpmjohdae.Cl
open Go.RowKit Go.ChangeShapes Go.WideShapes Go.WideElems Go.Deep Go.Proofs.Ytokncfhpmjohdae.Mem Go.Proofs.Ytokncfhpmjohdae.Rw Go.Proofs.Ytokncfhpmjohdae.P2 Go.Proofs.Ytokncfhpmjohdae.Cd Go.Proofs.Ytokncfhpmjohdae.Cv
set_option linter.unusedVariables false
set_option linter.unusedSimpArgs false

/-- How long the texts of these cues are. -/
def bulk : List C → Nat
  | [] => 0
  | d :: r => d.nm.size + bulk r
theorem bulk_app : ∀ (a b : List C), bulk (a ++ b) = bulk a + bulk b
  | [], b => by simp [bulk]
  | d :: r, b => by simp only [List.cons_append, bulk, bulk_app r b]; omega
theorem bulk_take {zs : List C} {k : Nat} {d : C} (h : zs[k]? = some d) : bulk (zs.take (k + 1)) = bulk (zs.take k) + d.nm.size := by
  obtain ⟨hk, rfl⟩ := List.getElem?_eq_some_iff.1 h
  rw [List.take_succ_eq_append_getElem hk, bulk_app]; simp [bulk]
theorem bulk_le (zs : List C) (k : Nat) : bulk (zs.take k) ≤ bulk zs := by
  have := bulk_app (zs.take k) (zs.drop k)
  rw [List.take_append_drop] at this
  omega
theorem mem_at {α : Type} {zs : List α} {k : Nat} {d : α} (h : zs[k]? = some d) : d ∈ zs := List.mem_of_getElem? h
/-- How much is left behind these, of so much. -/
def szW (L : Int) (n : Nat) (zs : List C) : Int := if L - n - bulk zs < 0 then -1 else L - n - bulk zs
/-- How much is left behind these. -/
def szV (n : Nat) (zs : List C) : Int := szW 1048576 n zs

/-- The first k of one list, then the other one's. -/
def mixed (xs ys : List Value) (k : Nat) : List Value := xs.take k ++ ys.drop k
theorem mixed_zero (xs ys : List Value) : mixed xs ys 0 = ys := by simp [mixed]
theorem mixed_all {xs ys : List Value} (h : ys.length = xs.length) : mixed xs ys xs.length = xs := by
  unfold mixed; rw [List.take_of_length_le (Nat.le_refl _), List.drop_of_length_le (by omega), List.append_nil]
theorem mixed_at {xs ys : List Value} {k j : Nat} {v : Value} (h : ys.length = xs.length) (hk : k ≤ j) (hv : ys[j]? = some v) : (mixed xs ys k)[j]? = some v := by
  have hj := (List.getElem?_eq_some_iff.1 hv).1
  unfold mixed
  rw [List.getElem?_append_right (by rw [List.length_take]; omega), List.length_take, Nat.min_eq_left (by omega), List.getElem?_drop, show k + (j - k) = j by omega]
  exact hv
theorem mixed_put {xs ys : List Value} {k : Nat} {v : Value} (h : ys.length = xs.length) (hv : xs[k]? = some v) : (mixed xs ys k).set k v = mixed xs ys (k + 1) := by
  obtain ⟨hk, rfl⟩ := List.getElem?_eq_some_iff.1 hv
  unfold mixed
  rw [List.set_append_right _ _ (by rw [List.length_take]; omega), List.length_take, Nat.min_eq_left (by omega), Nat.sub_self, List.drop_eq_getElem_cons (by omega), List.set_cons_zero, List.take_succ_eq_append_getElem hk, List.append_assoc]
  rfl
/-- A cue of nothing. -/
def d0 : C := ⟨0, ⟨#[]⟩, 0, 0⟩
theorem dls_made (n : Nat) : (madeCells #[.int .i64 0, .string ⟨#[]⟩, .int .i64 0, .int .i64 0] (n * 4)).toList = dls (List.replicate n d0) := by
  apply List.ext_getElem?
  intro j
  by_cases h : j < n * 4
  · have hm : j % 4 < 4 := Nat.mod_lt _ (by omega)
    have hd : j / 4 < n := by omega
    have hg := flat_get dc_len (zs := List.replicate n d0) (k := j / 4) (z := d0) (by rw [List.getElem?_replicate, if_pos hd]) (j % 4) hm
    rw [show j / 4 * 4 + j % 4 = j by omega] at hg
    unfold dls
    rw [hg, Array.getElem?_toList]
    simp only [madeCells]
    simp [h]
    generalize j % 4 = r at hm
    match r, hm with
    | 0, _ => rfl
    | 1, _ => rfl
    | 2, _ => rfl
    | 3, _ => rfl
  · rw [List.getElem?_eq_none (l := dls _) (by rw [dls_len, List.length_replicate]; omega), Array.getElem?_toList]
    simp [madeCells, h]

theorem infoD : (Try.prog.info? 134).map (fun i => (i.zero, i.size, i.bytes)) = some (some (.agg #[.int .i64 0, .string ⟨#[]⟩, .int .i64 0, .int .i64 0]), 4, 40) := by kernel_rfl

/-- What the copy leaves: a row of its own with these cues; what was there is as it was. -/
def Copied (w : World) (n : Nat) (zs : List C) (e : Ending) (w' : World) : Prop :=
  ∃ g, e = .returned (.slice (some ⟨g, 0, none⟩) n n) ∧ w.heap.size ≤ g ∧ w'.ownsRow w.heap.size 134 4 (.slice (some ⟨g, 0, none⟩) n n) n (dls zs) ∧ Below w.heap.size w w'

set_option maxHeartbeats 4000000 in
theorem eqCueS (A B : Option Addr) (n c d : Nat) (zs : List C) (H : Nat) (w : World) (hn : zs.length = n) (hb : n ≤ 1048576) (hH : H ≤ w.heap.size) (hr : Rd w H A (dls zs)) (hs : Rd w H B (dls zs)) :
    Calls Try.prog 77 #[.slice A n c, .slice B n d] w fun e w' => e = .returned (.bool true) ∧ Below w.heap.size w w' := by
  have HR := Lib.hid (hr.more hH)
  have HS := Lib.hid (hs.more hH)
  have HN := Lib.hid hn
  clear hr hs hn hH
  go_enter Try.func77, Try.ntmps77
  go_wp2
  go_loopw [5] (fun i wr => ∃ k : Nat, k ≤ n ∧ i = .int .i64 k ∧ Hid (Below w.heap.size w wr)) (fun i _ => n - (intOf i).toNat)
  case atStart => exact ⟨0, Nat.zero_le _, rfl, Lib.hid (Below.refl _ _)⟩
  case round =>
    obtain ⟨k, hk, rfl, BK⟩ := hrel
    by_cases hlt : k < n
    · have hl : k * 4 < (dls zs).length := by rw [dls_len, HN.out]; omega
      obtain ⟨z, hz⟩ : ∃ z, zs[k]? = some z := ⟨_, List.getElem?_eq_getElem (by rw [HN.out]; exact hlt)⟩
      obtain ⟨t_, n_, l_, r_⟩ := z
      obtain ⟨z0, z1, z2, z3⟩ := dls_get hz
      obtain ⟨b1, o1, eA, _, g1⟩ := (HR.out.below BK.out).get hl
      obtain ⟨b2, o2, eB, _, g2⟩ := (HS.out.below BK.out).get hl
      have c0 : wr.cell? ⟨b1, o1 + k * 4, none⟩ = some (.int .i64 t_) := g1 _ _ z0
      have c1 : wr.cell? ⟨b1, o1 + k * 4 + 1, none⟩ = some (.string n_) := g1 _ _ z1
      have c2 : wr.cell? ⟨b1, o1 + k * 4 + 2, none⟩ = some (.int .i64 l_) := g1 _ _ z2
      have c3 : wr.cell? ⟨b1, o1 + k * 4 + 3, none⟩ = some (.int .i64 r_) := g1 _ _ z3
      have e0 : wr.cell? ⟨b2, o2 + k * 4, none⟩ = some (.int .i64 t_) := g2 _ _ z0
      have e1 : wr.cell? ⟨b2, o2 + k * 4 + 1, none⟩ = some (.string n_) := g2 _ _ z1
      have e2 : wr.cell? ⟨b2, o2 + k * 4 + 2, none⟩ = some (.int .i64 l_) := g2 _ _ z2
      have e3 : wr.cell? ⟨b2, o2 + k * 4 + 3, none⟩ = some (.int .i64 r_) := g2 _ _ z3
      clear g1 g2 hz hl z0 z1 z2 z3
      subst eA eB
      have hlt' : (k : Int) < (n : Int) := by omega
      have hk0 : (0 : Int) ≤ (k : Int) := by omega
      have p1 : b1 < wr.heap.size := World.block_lt_of_cell? wr _ c1
      have p2 : ∀ j, b1 < wr.heap.size + j := fun j => by omega
      have p3 : b2 < wr.heap.size := World.block_lt_of_cell? wr _ e1
      have p4 : ∀ j, b2 < wr.heap.size + j := fun j => by omega
      go_wp2_with fail
      go_region_held3 (fun w' => w'.cell? ⟨b1, o1 + k * 4, none⟩ = some (.int .i64 t_) ∧ w'.cell? ⟨b1, o1 + k * 4 + 1, none⟩ = some (.string n_) ∧ w'.cell? ⟨b1, o1 + k * 4 + 2, none⟩ = some (.int .i64 l_) ∧ w'.cell? ⟨b1, o1 + k * 4 + 3, none⟩ = some (.int .i64 r_) ∧ w'.cell? ⟨b2, o2 + k * 4, none⟩ = some (.int .i64 t_) ∧ w'.cell? ⟨b2, o2 + k * 4 + 1, none⟩ = some (.string n_) ∧ w'.cell? ⟨b2, o2 + k * 4 + 2, none⟩ = some (.int .i64 l_) ∧ w'.cell? ⟨b2, o2 + k * 4 + 3, none⟩ = some (.int .i64 r_)) (simp [go_sem, *])
        (first | (go_at_call 101; ((with_reducible refine (eqCue _ _ _ _ _).mono ?_); rintro e w' ⟨rfl, rfl⟩)))
      all_goals go_wp2_with fail
      all_goals go_roundw
      case rel => exact ⟨k + 1, by omega, by go_num, Lib.hid (BK.out.trans (Below.mono (by go_grown) BK.out.size))⟩
      case measure => simp [intOf]; omega
    · obtain rfl : k = n := by omega
      go_wp2
      go_ret
      exact ⟨rfl, BK.out⟩

end Go.Proofs.Ytokncfhpmjohdae.Cl
namespace Go.Proofs.Ytokncfhpmjohdae.SzG
open Go.RowKit
set_option linter.unusedVariables false
set_option linter.unusedSimpArgs false

end Go.Proofs.Ytokncfhpmjohdae.SzG
namespace Go.Proofs.Ytokncfhpmjohdae.Bk
open Go.RowKit Go.Proofs.Ytokncfhpmjohdae.Mem Go.Proofs.Ytokncfhpmjohdae.P2
set_option linter.unusedVariables false

/-- Block b holds these cells. -/
def Bk (w : World) (b : Nat) (c : Array Value) (T : TypeId) : Prop := w.heap[b]? = some (.cells c T (0, 0))
section
variable {w w' : World} {b b' i : Nat} {c : Array Value} {T : TypeId} {v : Value}
theorem Bk.cell (k : Bk w b c T) (h : c[i]? = some v) : w.cell? ⟨b, i, none⟩ = some v := by simp [World.cell?, show w.heap[b]? = _ from k, h]
theorem Bk.frozen (k : Bk w b c T) (i : Nat) : w.frozen? ⟨b, i, none⟩ = false := by simp [World.frozen?, show w.heap[b]? = _ from k]
theorem Bk.lt (k : Bk w b c T) : b < w.heap.size := (Array.getElem?_eq_some_iff.1 k).1
theorem Bk.drew (k : Bk w b c T) : Bk w.drew b c T := k
theorem Bk.drewN (k : Bk w b c T) : ∀ n, Bk (w.drewN n) b c T
  | 0 => k
  | n + 1 => Bk.drewN k n
theorem Bk.new (w : World) (c : Array Value) (T : TypeId) : Bk (w.alloc (.cells c T)) w.heap.size c T := heap_alloc_new w _
theorem Bk.below (k : Bk w b c T) (hb : Below w.heap.size w w') : Bk w' b c T := (hb.block b k.lt).trans k
theorem Bk.alloc {o : Obj} (k : Bk w b c T) : Bk (w.alloc o) b c T := k.below ((Below.refl _ _).alloc (Nat.le_refl _) _)
theorem Bk.grown {r : Option Nat} (k : Bk w b c T) (g : w.grownBy w' r) (hr : r ≠ some b) : Bk w' b c T := (g.block b k.lt (fun e => hr e.symm)).trans k
theorem Bk.set (k : Bk w b c T) : Bk (w.setCell ⟨b, i, none⟩ v) b (c.setIfInBounds i v) T := by
  obtain ⟨hlt, hk⟩ := Array.getElem?_eq_some_iff.1 k
  show (w.heap.modify b _)[b]? = _
  rw [Array.getElem?_eq_getElem (by rw [Array.size_modify]; exact hlt), Array.getElem_modify_self, hk]
  rfl
theorem Bk.far (e : b' ≠ b) (k : Bk w b c T) : Bk (w.setCell ⟨b', i, none⟩ v) b c T := by
  show (w.heap.modify b' _)[b]? = _
  rw [Array.getElem?_modify, if_neg e]; exact k
end

theorem Bk.setG (w : World) (b i : Nat) (v : Value) : w.grownBy (w.setCell ⟨b, i, none⟩ v) (some b) :=
  ⟨rfl, rfl, rfl, by simp [World.setCell], fun k _ hr => Below.heap_setCell _ _ _ _ (by show k ≠ b; exact fun e => hr (by rw [e]))⟩
theorem rd_drew {w : World} {B : Nat} {A : Option Addr} {xs : List Value} (h : Rd w B A xs) : Rd w.drew B A xs := h
theorem rd_alloc {w : World} {B : Nat} {A : Option Addr} {xs : List Value} {o : Obj} (h : Rd w B A xs) (hB : B ≤ w.heap.size) : Rd (w.alloc o) B A xs := h.below ((Below.refl _ _).alloc hB _)
/-- A call's own memory, left to the caller. -/
theorem below_in {w a b : World} (h : Below w.heap.size w a) (k : Below a.heap.size a b) : Below w.heap.size w b := h.trans (k.mono h.size)

/-- A row of one's own is no block of another type. -/
theorem own_ne {w : World} {base g n c : Nat} {e T : TypeId} {s : Nat} {xs : List Value} {b : Nat} {cs : Array Value} (h : w.ownsRow base e s (.slice (some ⟨g, 0, none⟩) n c) n xs) (k : Bk w b cs T) (hT : e ≠ T) : (Value.slice (some ⟨g, 0, none⟩) n c).ownBlock ≠ some b := by
  intro hb
  have hb : g = b := by injection hb
  subst hb
  rcases h.2 with ⟨e1, _⟩ | ⟨g', cap, cur, e1, _, e3, _⟩
  · cases e1
  · injection e1 with e1; injection e1 with e1; injection e1 with e1
    subst e1
    rw [show w.heap[g]? = some (.cells cs T (0, 0)) from k] at e3
    injection e3 with e3
    injection e3 with _ e3
    exact hT e3.symm
theorem own_slice {w : World} {base n : Nat} {e : TypeId} {s : Nat} {v : Value} {xs : List Value} (h : w.ownsRow base e s v (n + 1) xs) : ∃ g c, v = .slice (some ⟨g, 0, none⟩) (n + 1) c := by
  rcases h.2 with ⟨_, e⟩ | ⟨g, cap, cur, e, _⟩
  · omega
  · exact ⟨g, cap, e⟩

end Go.Proofs.Ytokncfhpmjohdae.Bk
namespace Go.Proofs.Ytokncfhpmjohdae.Sq
open Go.RowKit Go.ChangeShapes Go.WideShapes Go.WideElems Go.Deep Go.Proofs.Ytokncfhpmjohdae.Mem Go.Proofs.Ytokncfhpmjohdae.Rw Go.Proofs.Ytokncfhpmjohdae.P2 Go.Proofs.Ytokncfhpmjohdae.Bk Go.Proofs.Ytokncfhpmjohdae.Sp
set_option linter.unusedVariables false
set_option linter.unusedSimpArgs false
abbrev D := Dd.D
abbrev C := Cd.C
abbrev G := Int × Int × Int

/-- A show in memory: its three lists can be read. -/
def SR (w : World) (A0 A1 A2 : Option Addr) (ds : List D) (cs : List C) (gs : List G) : Prop := Rd w w.heap.size A0 (Dd.dls ds) ∧ Rd w w.heap.size A1 (Cd.dls cs) ∧ Rd w w.heap.size A2 (Gs.gls gs)
theorem SR.below {w w' : World} {A0 A1 A2 : Option Addr} {ds : List D} {cs : List C} {gs : List G} (h : SR w A0 A1 A2 ds cs gs) (hb : Below w.heap.size w w') : SR w' A0 A1 A2 ds cs gs :=
  ⟨(h.1.below hb).more hb.size, (h.2.1.below hb).more hb.size, (h.2.2.below hb).more hb.size⟩
section
variable {w w' : World} {A0 A1 A2 : Option Addr} {ds : List D} {cs : List C} {gs : List G}
theorem SR.r0 (h : SR w A0 A1 A2 ds cs gs) : Rd w w.heap.size A0 (Dd.dls ds) := h.1
theorem SR.r1 (h : SR w A0 A1 A2 ds cs gs) : Rd w w.heap.size A1 (Cd.dls cs) := h.2.1
theorem SR.r2 (h : SR w A0 A1 A2 ds cs gs) : Rd w w.heap.size A2 (Gs.gls gs) := h.2.2
theorem SR.at (h : SR w A0 A1 A2 ds cs gs) {B : Nat} (hB : w.heap.size ≤ B) (hb : Below w.heap.size w w') (hB2 : B ≤ w'.heap.size) : SR w' A0 A1 A2 ds cs gs := h.below hb
end
theorem SR.own {w : World} {base g0 g1 g2 n0 n1 n2 c0 c1 c2 : Nat} {ds : List D} {cs : List C} {gs : List G} {e0 e1 e2 : TypeId} {s0 s1 s2 : Nat}
    (h0 : w.ownsRow base e0 s0 (.slice (some ⟨g0, 0, none⟩) n0 c0) n0 (Dd.dls ds)) (h1 : w.ownsRow base e1 s1 (.slice (some ⟨g1, 0, none⟩) n1 c1) n1 (Cd.dls cs)) (h2 : w.ownsRow base e2 s2 (.slice (some ⟨g2, 0, none⟩) n2 c2) n2 (Gs.gls gs)) :
    SR w (some ⟨g0, 0, none⟩) (some ⟨g1, 0, none⟩) (some ⟨g2, 0, none⟩) ds cs gs := ⟨Rd.own h0, Rd.own h1, Rd.own h2⟩
/-- How many there are of each. -/
def Fit (n0 n1 n2 : Nat) (ds : List D) (cs : List C) (gs : List G) : Prop := (ds.length = n0 ∧ n0 ≤ 1048576) ∧ (cs.length = n1 ∧ n1 ≤ 1048576) ∧ (gs.length = n2 ∧ n2 ≤ 1048576)

theorem ret_int {a b : Int} (h : a = b) : Ending.returned (.int .i64 a) = .returned (.int .i64 b) := by rw [h]
/-- What is left behind a show. -/
def szA (n0 : Nat) (ds : List D) (n1 : Nat) (cs : List C) (n2 : Nat) : Int :=
  if Dl.szV n0 ds < 0 then -1 else if Cl.szW (Dl.szV n0 ds) n1 cs < 0 then -1 else if Cl.szW (Dl.szV n0 ds) n1 cs - (n2 : Int) < 0 then -1 else Cl.szW (Dl.szV n0 ds) n1 cs - (n2 : Int)
theorem szV_le (n : Nat) (zs : List D) : Dl.szV n zs ≤ 1048576 - n - Dl.bulk zs ∨ Dl.szV n zs = -1 := by
  unfold Dl.szV; split
  · exact Or.inr rfl
  · exact Or.inl (Int.le_refl _)
theorem szW_le (L : Int) (n : Nat) (zs : List C) : Cl.szW L n zs = L - n - Cl.bulk zs ∨ Cl.szW L n zs = -1 := by
  unfold Cl.szW; split
  · exact Or.inr rfl
  · exact Or.inl rfl
/-- What is known where enough is left. -/
theorem sz_fit {n0 : Nat} {ds : List D} {n1 : Nat} {cs : List C} {n2 : Nat} (h : ¬ szA n0 ds n1 cs n2 < 0) : n0 + n1 + n2 ≤ 1048576 ∧ Dl.bulk ds ≤ 1048576 ∧ Cl.bulk cs ≤ 1048576 := by
  unfold szA at h
  split at h
  · exact absurd (by decide) h
  split at h
  · exact absurd (by decide) h
  split at h
  · exact absurd (by decide) h
  have a := szV_le n0 ds
  have b := szW_le (Dl.szV n0 ds) n1 cs
  omega

set_option maxRecDepth 100000 in
set_option maxHeartbeats 2000000 in
theorem eqShow (A0 : Option Addr) (n0 c0 : Nat) (A1 : Option Addr) (n1 c1 : Nat) (A2 : Option Addr) (n2 c2 : Nat) (T : Int) (B0 : Option Addr) (d0 : Nat) (B1 : Option Addr) (d1 : Nat) (B2 : Option Addr) (d2 : Nat)
    (ds : List D) (cs : List C) (gs : List G) (w : World) (hf : Fit n0 n1 n2 ds cs gs) (hr : SR w A0 A1 A2 ds cs gs) (hs : SR w B0 B1 B2 ds cs gs) :
    Calls Try.prog 41 #[sv A0 n0 c0 A1 n1 c1 A2 n2 c2 T, sv B0 n0 d0 B1 n1 d1 B2 n2 d2 T] w fun e w' => e = .returned (.bool true) ∧ Below w.heap.size w w' := by
  obtain ⟨⟨hn0, hb0⟩, ⟨hn1, hb1⟩, hn2, hb2⟩ := hf
  have BA := (Below.refl w.heap.size w).alloc (Nat.le_refl _) (.cells (sc A0 n0 c0 A1 n1 c1 A2 n2 c2 T) 46)
  have BV := BA.alloc BA.size (.cells (sc B0 n0 d0 B1 n1 d1 B2 n2 d2 T) 46)
  have KA := Lib.hid ((Bk.new w (sc A0 n0 c0 A1 n1 c1 A2 n2 c2 T) 46).alloc (o := .cells (sc B0 n0 d0 B1 n1 d1 B2 n2 d2 T) 46))
  have KB := Lib.hid (Bk.new (w.alloc (.cells (sc A0 n0 c0 A1 n1 c1 A2 n2 c2 T) 46)) (sc B0 n0 d0 B1 n1 d1 B2 n2 d2 T) 46)
  have RA := Lib.hid (hr.below BV)
  have RB := Lib.hid (hs.below BV)
  have BB := Lib.hid BV
  have hz : (w.alloc (.cells (sc A0 n0 c0 A1 n1 c1 A2 n2 c2 T) 46)).heap.size = w.heap.size + 1 := by simp [go_sem]
  clear BA BV hr hs
  go_enter Try.func41, Try.ntmps41
  go_wp2_with fail
  refine (Dl.eqDeviceS A0 B0 n0 c0 d0 ds _ _ hn0 hb0 (Nat.le_refl _) RA.out.1 RB.out.1).mono ?_
  rintro e w1 ⟨rfl, hb⟩
  have KA1 := Lib.hid (KA.out.below hb)
  have KB1 := Lib.hid (KB.out.below hb)
  have RA1 := Lib.hid (RA.out.below hb)
  have RB1 := Lib.hid (RB.out.below hb)
  have BB1 := Lib.hid (BB.out.trans (hb.mono BB.out.size))
  have y1 := KA1.out.cell (i := 1) rfl
  have z1 := KB1.out.cell (i := 1) rfl
  rw [hz] at z1
  clear hb KA KB RA RB BB
  go_wp2_with fail
  refine (Cl.eqCueS A1 B1 n1 c1 d1 cs _ _ hn1 hb1 (Nat.le_refl _) RA1.out.2.1 RB1.out.2.1).mono ?_
  rintro e w2 ⟨rfl, hb⟩
  have KA2 := Lib.hid (KA1.out.below hb)
  have KB2 := Lib.hid (KB1.out.below hb)
  have RA2 := Lib.hid (RA1.out.below hb)
  have RB2 := Lib.hid (RB1.out.below hb)
  have BB2 := Lib.hid (BB1.out.trans (hb.mono BB1.out.size))
  have y2 := KA2.out.cell (i := 2) rfl
  have z2 := KB2.out.cell (i := 2) rfl
  rw [hz] at z2
  clear hb KA1 KB1 RA1 RB1 BB1 y1 z1
  go_wp2_with fail
  refine (Gs.eqGustS A2 B2 n2 c2 d2 gs _ _ hn2 hb2 (Nat.le_refl _) RA2.out.2.2 RB2.out.2.2).mono ?_
  rintro e w3 ⟨rfl, hb⟩
  have y3 := (KA2.out.below hb).cell (i := 3) rfl
  have z3 := (KB2.out.below hb).cell (i := 3) rfl
  rw [hz] at z3
  have BB3 := Lib.hid (BB2.out.trans (hb.mono BB2.out.size))
  clear hb KA2 KB2 RA2 RB2 BB2 y2 z2
  go_wp2_with fail
  go_ret
  exact ⟨rfl, BB3.out⟩
end Go.Proofs.Ytokncfhpmjohdae.Sq
namespace Go.Proofs.Ytokncfhpmjohdae.St9
open Go.RowKit Go.ChangeShapes Go.WideShapes Go.WideElems Go.Deep Go.Proofs.Ytokncfhpmjohdae.Mem Go.Proofs.Ytokncfhpmjohdae.Rw Go.Proofs.Ytokncfhpmjohdae.P2 Go.Proofs.Ytokncfhpmjohdae.Bk Go.Proofs.Ytokncfhpmjohdae.Sp Go.Proofs.Ytokncfhpmjohdae.Sq
set_option linter.unusedVariables false
set_option linter.unusedSimpArgs false

/-- What the copy leaves: three rows of its own. -/
def Copied (w : World) (n0 n1 n2 : Nat) (T : Int) (ds : List D) (cs : List C) (gs : List G) (e : Ending) (w' : World) : Prop :=
  ∃ g0 g1 g2, e = .returned (sv (some ⟨g0, 0, none⟩) n0 n0 (some ⟨g1, 0, none⟩) n1 n1 (some ⟨g2, 0, none⟩) n2 n2 T) ∧
    w'.ownsRow w.heap.size 27 8 (.slice (some ⟨g0, 0, none⟩) n0 n0) n0 (Dd.dls ds) ∧ w'.ownsRow w.heap.size 134 4 (.slice (some ⟨g1, 0, none⟩) n1 n1) n1 (Cd.dls cs) ∧
    w'.ownsRow w.heap.size 137 3 (.slice (some ⟨g2, 0, none⟩) n2 n2) n2 (Gs.gls gs) ∧ g0 < g1 ∧ g1 < g2 ∧ Below w.heap.size w w'
abbrev zc : Array Value := #[.slice none 0 0, .slice none 0 0, .slice none 0 0, .int .i64 0]
theorem own_at {w : World} {base : Nat} {e : TypeId} {size g n c : Nat} {xs : List Value} (h : w.ownsRow base e size (.slice (some ⟨g, 0, none⟩) n c) n xs) : base ≤ g := (h.lt g rfl).1
theorem own_lt {w : World} {base : Nat} {e : TypeId} {size g n c : Nat} {xs : List Value} (h : w.ownsRow base e size (.slice (some ⟨g, 0, none⟩) n c) n xs) : g < w.heap.size := (h.lt g rfl).2

end Go.Proofs.Ytokncfhpmjohdae.St9
namespace Go.Proofs.Ytokncfhpmjohdae.Fmt
open Go.RowKit Go.Proofs.Ytokncfhpmjohdae.Mem

/-- The text of a list of bytes. -/
def txt (l : List UInt8) : ByteArray := ⟨l.toArray⟩
theorem txt_append (a b : List UInt8) : txt a ++ txt b = txt (a ++ b) := by
  unfold txt
  apply ByteArray.ext
  simp
def itoaT (n : Int) : ByteArray := txt (Lib.itoa n)

def Wrote (s : ByteArray) (w : World) (e : Ending) (w' : World) : Prop := e = .returned (.string s) ∧ Below w.heap.size w w'

theorem digits_step (u : Nat) (h : ¬ u < 10) : Lib.decDigits u = Lib.decDigits (u / 10) ++ [UInt8.ofNat (48 + u % 10)] := by rw [Lib.decDigits, dif_neg h]
theorem digits_one (u : Nat) (h : u < 10) : Lib.decDigits u = [UInt8.ofNat (48 + u)] := by rw [Lib.decDigits, dif_pos h]
theorem digits_len : ∀ (k u : Nat), u < 10 ^ (k + 1) → (Lib.decDigits u).length ≤ k + 1
  | 0, u, h => by rw [digits_one u (by simpa using h)]; exact Nat.le_refl _
  | k + 1, u, h => by
    by_cases h1 : u < 10
    · rw [digits_one u h1]; simp
    · rw [digits_step u h1, List.length_append]
      have := digits_len k (u / 10) (by
        rw [Nat.div_lt_iff_lt_mul (by decide)]
        rw [Nat.pow_succ] at h
        exact h)
      simp only [List.length_cons, List.length_nil]
      omega

/-- One digit, as the model makes it. -/
theorem digit_conv (w : World) (d : Nat) (hd : d < 10) :
    (convert 22 9 (.slice (some ⟨w.heap.size, 0, none⟩) 1 1)).run Try.prog (w.alloc (.cells #[.int .u8 (48 + (d : Int))] 5)) = .ok (.string (txt [UInt8.ofNat (48 + d)])) (w.alloc (.cells #[.int .u8 (48 + (d : Int))] 5)) := by
  have h := run_convert_bytes_arg (P := Try.prog) (w.alloc (.cells #[.int .u8 (48 + (d : Int))] 5)) 22 5 Try.underlying22 Try.underlying5 w.heap.size 0 1 1 [48 + (d : Int)] rfl (by
    intro i hi
    obtain rfl : i = 0 := by omega
    rw [cell_of_row _ w.heap.size 0 _ _ _ (heap_alloc_new w _)]
    rfl) 9 Try.underlying9
  rw [h]
  congr 2

end Go.Proofs.Ytokncfhpmjohdae.Fmt
namespace Go.Proofs.Ytokncfhpmjohdae.Strs
open Go.RowKit Go.Proofs.Ytokncfhpmjohdae.Mem

theorem infoStr : (Try.prog.info? 9).map (fun i => (i.zero, i.size, i.bytes)) = some (some (.string ByteArray.empty), 1, 16) := by kernel_rfl
def strs (ss : List ByteArray) : List Value := ss.map Value.string
theorem strs_len (ss : List ByteArray) : (strs ss).length = ss.length := List.length_map ..
theorem strs_get {ss : List ByteArray} {k : Nat} {s : ByteArray} (h : ss[k]? = some s) : (strs ss)[k]? = some (.string s) := by
  unfold strs; rw [List.getElem?_map, h]; rfl

theorem made_strs (n : Nat) : (madeCells (Value.string ByteArray.empty).cells (n * 1)).toList = List.replicate n (.string ByteArray.empty) := by
  rw [Nat.mul_one]; exact toList_madeCells_one _ _

/-- What the copy leaves: a row of its own with these strings; what was there is as it was. -/
def Copied (w : World) (n : Nat) (ss : List ByteArray) (e : Ending) (w' : World) : Prop :=
  ∃ g, e = .returned (.slice (some ⟨g, 0, none⟩) n n) ∧ w.heap.size ≤ g ∧ w'.ownsRow w.heap.size 9 1 (.slice (some ⟨g, 0, none⟩) n n) n (strs ss) ∧ Below w.heap.size w w'

/-- Found equal: only draws were made. -/
def Same (b : Bool) (w : World) (e : Ending) (w' : World) : Prop := e = .returned (.bool b) ∧ ∃ m, w' = w.drewN m

/-- All lengths together. -/
def byteSum : List ByteArray → Nat
  | [] => 0
  | s :: ss => s.size + byteSum ss
theorem byteSum_append (a b : List ByteArray) : byteSum (a ++ b) = byteSum a + byteSum b := by
  induction a with
  | nil => simp [byteSum]
  | cons z a ih => simp only [List.cons_append, byteSum, ih]; omega
theorem byteSum_take {ss : List ByteArray} {k : Nat} {s : ByteArray} (h : ss[k]? = some s) : byteSum (ss.take (k + 1)) = byteSum (ss.take k) + s.size := by
  obtain ⟨hk, rfl⟩ := List.getElem?_eq_some_iff.1 h
  rw [List.take_succ_eq_append_getElem hk, byteSum_append]; simp [byteSum]
theorem byteSum_take_le (ss : List ByteArray) (k : Nat) : byteSum (ss.take k) ≤ byteSum ss := by
  have := byteSum_append (ss.take k) (ss.drop k)
  rw [List.take_append_drop] at this
  omega
def left (ss : List ByteArray) : Int := if ss.length + byteSum ss ≤ 1048576 then 1048576 - (ss.length : Int) - byteSum ss else -1
theorem left_no {ss : List ByteArray} (h : 1048576 < ss.length + byteSum ss) : left ss = -1 := if_neg (by omega)
theorem left_yes {ss : List ByteArray} (h : ss.length + byteSum ss ≤ 1048576) : left ss = 1048576 - (ss.length : Int) - byteSum ss := if_pos h
theorem ret_int {a b : Int} (h : a = b) : Ending.returned (.int .i64 a) = .returned (.int .i64 b) := by rw [h]

end Go.Proofs.Ytokncfhpmjohdae.Strs
