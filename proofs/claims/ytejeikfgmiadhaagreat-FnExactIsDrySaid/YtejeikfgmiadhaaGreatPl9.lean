/- Drops as they are told, in memory: their cells, and how the laws compare lists of them. -/
import Derived.Test.YtejeikfgmiadhaaGreatM20
import Derived.Test.YtejeikfgmiadhaaGreatM1
import Derived.Test.YtejeikfgmiadhaaGreatM2
import Derived.Deep.RegionHeld3
namespace Go.Proofs.YtejeikfgmiadhaaGreat.Pl9
open Go.RowKit Go.ChangeShapes Go.WideShapes Go.WideElems Go.Deep Go.Proofs.YtejeikfgmiadhaaGreat.Mem Go.Proofs.YtejeikfgmiadhaaGreat.Rw Go.Proofs.YtejeikfgmiadhaaGreat.P2 Go.Proofs.YtejeikfgmiadhaaGreat.Pw
open Go.Proofs.YtejeikfgmiadhaaGreat.Pd9 (P)
set_option linter.unusedVariables false
set_option linter.unusedSimpArgs false

abbrev ca (n : ByteArray) (b x y h : Int) : Array Value := #[.string n, .int .i64 b, .int .i64 x, .int .i64 y, .int .i64 h]
abbrev va (n : ByteArray) (b x y h : Int) : Value := .agg #[.string n, .int .i64 b, .int .i64 x, .int .i64 y, .int .i64 h]
def dc (d : P) : List Value := [.string d.nm, .int .i64 d.b, .int .i64 d.x, .int .i64 d.y, .int .i64 d.h]
theorem dc_len (d : P) : (dc d).length = 5 := rfl
def pls (zs : List P) : List Value := zs.flatMap dc
theorem pls_len (zs : List P) : (pls zs).length = zs.length * 5 := flat_len dc_len zs
theorem pls_get {zs : List P} {k : Nat} {n : ByteArray} {b x y h : Int} (hz : zs[k]? = some ⟨n, b, x, y, h⟩) :
    (pls zs)[k * 5]? = some (.string n) ∧ (pls zs)[k * 5 + 1]? = some (.int .i64 b) ∧ (pls zs)[k * 5 + 2]? = some (.int .i64 x) ∧ (pls zs)[k * 5 + 3]? = some (.int .i64 y) ∧ (pls zs)[k * 5 + 4]? = some (.int .i64 h) :=
  ⟨(flat_get dc_len hz 0 (by omega)).trans rfl, (flat_get dc_len hz 1 (by omega)).trans rfl, (flat_get dc_len hz 2 (by omega)).trans rfl, (flat_get dc_len hz 3 (by omega)).trans rfl, (flat_get dc_len hz 4 (by omega)).trans rfl⟩
theorem pls_snoc (zs : List P) (z : P) : pls zs ++ dc z = pls (zs ++ [z]) := (flat_snoc zs z).symm
theorem infoP : (Tryz.prog.info? 69).map (fun i => (i.zero, i.size, i.bytes)) = some (some (.agg #[.string ⟨#[]⟩, .int .i64 0, .int .i64 0, .int .i64 0, .int .i64 0]), 5, 48) := by kernel_rfl
/-- A list of its own of these drops. -/
def RowP (w : World) (zs : List P) (e : Ending) (w' : World) : Prop :=
  ∃ g c, e = .returned (.slice (some ⟨g, 0, none⟩) zs.length c) ∧ w'.ownsRow w.heap.size 69 5 (.slice (some ⟨g, 0, none⟩) zs.length c) zs.length (pls zs) ∧ Below w.heap.size w w'

/-- The first k of one list, then the other one's. -/
def mixed (xs ys : List Value) (k : Nat) : List Value := xs.take k ++ ys.drop k
theorem mixed_zero (xs ys : List Value) : mixed xs ys 0 = ys := by simp [mixed]
theorem mixed_all {xs ys : List Value} (h : ys.length = xs.length) : mixed xs ys xs.length = xs := by
  unfold mixed; rw [List.take_of_length_le (Nat.le_refl _), List.drop_of_length_le (by omega), List.append_nil]
theorem mixed_at {xs ys : List Value} {k j : Nat} {v : Value} (h : ys.length = xs.length) (hk : k ≤ j) (hv : ys[j]? = some v) : (mixed xs ys k)[j]? = some v := by
  have hj := (List.getElem?_eq_some_iff.1 hv).1
  unfold mixed
  rw [List.getElem?_append_right (by rw [List.length_take]; omega), List.length_take, Nat.min_eq_left (by omega), List.getElem?_drop, show k + (j - k) = j by omega]
  exact hv
theorem mixed_put {xs ys : List Value} {k : Nat} {v : Value} (h : ys.length = xs.length) (hv : xs[k]? = some v) : (mixed xs ys k).set k v = mixed xs ys (k + 1) := by
  obtain ⟨hk, rfl⟩ := List.getElem?_eq_some_iff.1 hv
  unfold mixed
  rw [List.set_append_right _ _ (by rw [List.length_take]; omega), List.length_take, Nat.min_eq_left (by omega), Nat.sub_self, List.drop_eq_getElem_cons (by omega), List.set_cons_zero, List.take_succ_eq_append_getElem hk, List.append_assoc]
  rfl
/-- A drop of nothing. -/
def d0 : P := ⟨⟨#[]⟩, 0, 0, 0, 0⟩
theorem pls_made (n : Nat) : (madeCells #[.string ⟨#[]⟩, .int .i64 0, .int .i64 0, .int .i64 0, .int .i64 0] (n * 5)).toList = pls (List.replicate n d0) := by
  apply List.ext_getElem?
  intro j
  by_cases h : j < n * 5
  · have hm : j % 5 < 5 := Nat.mod_lt _ (by omega)
    have hd : j / 5 < n := by omega
    have hg := flat_get dc_len (zs := List.replicate n d0) (k := j / 5) (z := d0) (by rw [List.getElem?_replicate, if_pos hd]) (j % 5) hm
    rw [show j / 5 * 5 + j % 5 = j by omega] at hg
    unfold pls
    rw [hg, Array.getElem?_toList]
    simp only [madeCells]
    simp [h]
    generalize j % 5 = r at hm
    match r, hm with
    | 0, _ => rfl
    | 1, _ => rfl
    | 2, _ => rfl
    | 3, _ => rfl
    | 4, _ => rfl
  · rw [List.getElem?_eq_none (l := pls _) (by rw [pls_len, List.length_replicate]; omega), Array.getElem?_toList]
    simp [madeCells, h]

set_option maxHeartbeats 1000000 in
theorem eqDrop (n : ByteArray) (b x y h : Int) (w : World) : Calls Tryz.prog 40 #[va n b x y h, va n b x y h] w fun e w' => e = .returned (.bool true) ∧ Below w.heap.size w w' := by
  have h1 : (n.toList == n.toList) = true := by simp
  go_enter Tryz.func40, Tryz.ntmps40
  go_wp2_with (go_at_call 87; ((with_reducible refine (eqPlace _ _ _).mono ?_); rintro e w' ⟨rfl, rfl⟩))
  all_goals go_returns
  all_goals exact ⟨rfl, by go_grown⟩

set_option maxHeartbeats 4000000 in
set_option maxRecDepth 100000 in
theorem eqDropS (A B : Option Addr) (n c d : Nat) (zs : List P) (H : Nat) (w : World) (hn : zs.length = n) (hb : n ≤ 1048576) (hH : H ≤ w.heap.size) (hr : Rd w H A (pls zs)) (hs : Rd w H B (pls zs)) :
    Calls Tryz.prog 12 #[.slice A n c, .slice B n d] w fun e w' => e = .returned (.bool true) ∧ Below w.heap.size w w' := by
  have HR := Lib.hid (hr.more hH)
  have HS := Lib.hid (hs.more hH)
  have HN := Lib.hid hn
  clear hr hs hn hH
  go_enter Tryz.func12, Tryz.ntmps12
  go_wp2
  go_loopw [5] (fun i wr => ∃ k : Nat, k ≤ n ∧ i = .int .i64 k ∧ Hid (Below w.heap.size w wr)) (fun i _ => n - (intOf i).toNat)
  case atStart => exact ⟨0, Nat.zero_le _, rfl, Lib.hid (Below.refl _ _)⟩
  case round =>
    obtain ⟨k, hk, rfl, BK⟩ := hrel
    by_cases hlt : k < n
    · have hl : k * 5 < (pls zs).length := by rw [pls_len, HN.out]; omega
      obtain ⟨z, hz⟩ : ∃ z, zs[k]? = some z := ⟨_, List.getElem?_eq_getElem (by rw [HN.out]; exact hlt)⟩
      obtain ⟨n_, b_, x_, y_, h_⟩ := z
      obtain ⟨z0, z1, z2, z3, z4⟩ := pls_get hz
      obtain ⟨b1, o1, eA, _, g1⟩ := (HR.out.below BK.out).get hl
      obtain ⟨b2, o2, eB, _, g2⟩ := (HS.out.below BK.out).get hl
      have c0 : wr.cell? ⟨b1, o1 + k * 5, none⟩ = some (.string n_) := g1 _ _ z0
      have c1 : wr.cell? ⟨b1, o1 + k * 5 + 1, none⟩ = some (.int .i64 b_) := g1 _ _ z1
      have c2 : wr.cell? ⟨b1, o1 + k * 5 + 2, none⟩ = some (.int .i64 x_) := g1 _ _ z2
      have c3 : wr.cell? ⟨b1, o1 + k * 5 + 3, none⟩ = some (.int .i64 y_) := g1 _ _ z3
      have c4 : wr.cell? ⟨b1, o1 + k * 5 + 4, none⟩ = some (.int .i64 h_) := g1 _ _ z4
      have e0 : wr.cell? ⟨b2, o2 + k * 5, none⟩ = some (.string n_) := g2 _ _ z0
      have e1 : wr.cell? ⟨b2, o2 + k * 5 + 1, none⟩ = some (.int .i64 b_) := g2 _ _ z1
      have e2 : wr.cell? ⟨b2, o2 + k * 5 + 2, none⟩ = some (.int .i64 x_) := g2 _ _ z2
      have e3 : wr.cell? ⟨b2, o2 + k * 5 + 3, none⟩ = some (.int .i64 y_) := g2 _ _ z3
      have e4 : wr.cell? ⟨b2, o2 + k * 5 + 4, none⟩ = some (.int .i64 h_) := g2 _ _ z4
      clear g1 g2 hz hl z0 z1 z2 z3 z4
      subst eA eB
      have hlt' : (k : Int) < (n : Int) := by omega
      have hk0 : (0 : Int) ≤ (k : Int) := by omega
      have hu : undef = Value.tuple #[] := rfl
      go_wp2_with fail
      refine wp_region_noPanic ?_
      refine wp_region_held_drew (S := (fun w' => w'.cell? ⟨b1, o1 + k * 5, none⟩ = some (.string n_) ∧ w'.cell? ⟨b1, o1 + k * 5 + 1, none⟩ = some (.int .i64 b_) ∧ w'.cell? ⟨b1, o1 + k * 5 + 2, none⟩ = some (.int .i64 x_) ∧ w'.cell? ⟨b1, o1 + k * 5 + 3, none⟩ = some (.int .i64 y_) ∧ w'.cell? ⟨b1, o1 + k * 5 + 4, none⟩ = some (.int .i64 h_) ∧ w'.cell? ⟨b2, o2 + k * 5, none⟩ = some (.string n_) ∧ w'.cell? ⟨b2, o2 + k * 5 + 1, none⟩ = some (.int .i64 b_) ∧ w'.cell? ⟨b2, o2 + k * 5 + 2, none⟩ = some (.int .i64 x_) ∧ w'.cell? ⟨b2, o2 + k * 5 + 3, none⟩ = some (.int .i64 y_) ∧ w'.cell? ⟨b2, o2 + k * 5 + 4, none⟩ = some (.int .i64 h_) ∧ Below wr.heap.size wr w')) (by kernel_rfl) ?_ (fun hH => ?_)
      · exact ⟨c0, c1, c2, c3, c4, e0, e1, e2, e3, e4, (Below.refl _ _).drew⟩
      refine wpAnyH_take (i := 0) (oi := { dst := some 17, op := _, type := _, pos := _, after := _, guard := _ }) (v := ?_) rfl (by kernel_rfl) (by kernel_rfl) (by kernel_rfl) (fun _ _ _ h => h) (Or.inl ⟨by rfl, ?_⟩) hH ?_
      rotate_left 1
      · intro W hSw
        (try dsimp only at hSw)
        go_simp
        (try with_reducible rfl)
      try simp only [Act.put, List.setIfInBounds_toArray, List.set_cons_zero, List.set_cons_succ]
      refine wpAnyH_take (i := 1) (oi := { dst := some 18, op := _, type := _, pos := _, after := _, guard := _ }) (v := ?_) rfl (by kernel_rfl) (by kernel_rfl) (by kernel_rfl) (fun _ _ _ h => h) (Or.inl ⟨by rfl, ?_⟩) hH ?_
      rotate_left 1
      · intro W hSw
        (try dsimp only at hSw)
        go_simp
        (try with_reducible rfl)
      try simp only [Act.put, List.setIfInBounds_toArray, List.set_cons_zero, List.set_cons_succ]
      refine wpAnyH_take (i := 2) (oi := { dst := some 19, op := _, type := _, pos := _, after := _, guard := _ }) (v := ?_) rfl (by kernel_rfl) (by kernel_rfl) (by kernel_rfl) (fun _ _ _ h => h) (Or.inl ⟨by rfl, ?_⟩) hH ?_
      rotate_left 1
      · intro W hSw
        (try dsimp only at hSw)
        go_simp
        (try with_reducible rfl)
      try simp only [Act.put, List.setIfInBounds_toArray, List.set_cons_zero, List.set_cons_succ]
      refine wpAnyH_take (i := 3) (oi := { dst := some 20, op := _, type := _, pos := _, after := _, guard := _ }) (v := ?_) rfl (by kernel_rfl) (by kernel_rfl) (by kernel_rfl) (fun _ _ _ h => h) (Or.inl ⟨by rfl, ?_⟩) hH ?_
      rotate_left 1
      · intro W hSw
        (try dsimp only at hSw)
        go_simp
        (try with_reducible rfl)
      try simp only [Act.put, List.setIfInBounds_toArray, List.set_cons_zero, List.set_cons_succ]
      refine wpAnyH_take (i := 4) (oi := { dst := some 21, op := _, type := _, pos := _, after := _, guard := _ }) (v := ?_) rfl (by kernel_rfl) (by kernel_rfl) (by kernel_rfl) (fun _ _ _ h => h) (Or.inl ⟨by rfl, ?_⟩) hH ?_
      rotate_left 1
      · intro W hSw
        (try dsimp only at hSw)
        go_simp
        (try with_reducible rfl)
      try simp only [Act.put, List.setIfInBounds_toArray, List.set_cons_zero, List.set_cons_succ]
      refine wpAnyH_take (i := 5) (oi := { dst := some 22, op := _, type := _, pos := _, after := _, guard := _ }) (v := ?_) rfl (by kernel_rfl) (by kernel_rfl) (by kernel_rfl) (fun _ _ _ h => h) (Or.inl ⟨by rfl, ?_⟩) hH ?_
      rotate_left 1
      · intro W hSw
        (try dsimp only at hSw)
        go_simp
        (try with_reducible rfl)
      try simp only [Act.put, List.setIfInBounds_toArray, List.set_cons_zero, List.set_cons_succ]
      refine wpAnyH_take (i := 6) (oi := { dst := some 23, op := _, type := _, pos := _, after := _, guard := _ }) (v := ?_) rfl (by kernel_rfl) (by kernel_rfl) (by kernel_rfl) (fun _ _ _ h => h) (Or.inl ⟨by rfl, ?_⟩) hH ?_
      rotate_left 1
      · intro W hSw
        (try dsimp only at hSw)
        go_simp
        (try with_reducible rfl)
      try simp only [Act.put, List.setIfInBounds_toArray, List.set_cons_zero, List.set_cons_succ]
      refine wpAnyH_take (i := 7) (oi := { dst := some 24, op := _, type := _, pos := _, after := _, guard := _ }) (v := ?_) rfl (by kernel_rfl) (by kernel_rfl) (by kernel_rfl) (fun _ _ _ h => h) (Or.inl ⟨by rfl, ?_⟩) hH ?_
      rotate_left 1
      · intro W hSw
        (try dsimp only at hSw)
        go_simp
        (try with_reducible rfl)
      try simp only [Act.put, List.setIfInBounds_toArray, List.set_cons_zero, List.set_cons_succ]
      refine wpAnyH_ready (rs := [8]) (by kernel_rfl) (by simp) (AllReadyH.cons rfl (fun K hK => ?_) AllReadyH.nil)
      go_simp
      go_at_call 40; ((with_reducible refine (eqDrop _ _ _ _ _ _).mono ?_); rintro e r1 ⟨rfl, hb9⟩); go_wp2_with fail
      refine hK.out _ _ ?_ (fun hG => ?_)
      · exact ⟨cell_below hb9 hH.1, cell_below hb9 hH.2.1, cell_below hb9 hH.2.2.1, cell_below hb9 hH.2.2.2.1, cell_below hb9 hH.2.2.2.2.1, cell_below hb9 hH.2.2.2.2.2.1, cell_below hb9 hH.2.2.2.2.2.2.1, cell_below hb9 hH.2.2.2.2.2.2.2.1, cell_below hb9 hH.2.2.2.2.2.2.2.2.1, cell_below hb9 hH.2.2.2.2.2.2.2.2.2.1, Below.trans hH.2.2.2.2.2.2.2.2.2.2 (hb9.mono hH.2.2.2.2.2.2.2.2.2.2.size)⟩
      replace hH := hG
      clear hK K hG
      try simp only [Act.put, List.setIfInBounds_toArray, List.set_cons_zero, List.set_cons_succ]
      refine wpAnyH_take (i := 9) (oi := { dst := some 26, op := _, type := _, pos := _, after := _, guard := _ }) (v := ?_) rfl (by kernel_rfl) (by kernel_rfl) (by kernel_rfl) (fun _ _ _ h => h) (Or.inl ⟨by rfl, ?_⟩) hH ?_
      rotate_left 1
      · intro W hSw
        (try dsimp only at hSw)
        go_simp
        (try with_reducible rfl)
      try simp only [Act.put, List.setIfInBounds_toArray, List.set_cons_zero, List.set_cons_succ]
      refine wpAnyH_done (by kernel_rfl) ?_ _
      refine NoPanic.normal ?_
      have B1 := Lib.hid (BK.out.trans (hH.2.2.2.2.2.2.2.2.2.2.mono BK.out.size))
      clear hH c0 c1 c2 c3 c4 e0 e1 e2 e3 e4 BK
      go_wp2_with fail
      go_roundw
      case rel => first | exact ⟨k + 1, by omega, by go_num, B1⟩ | ((repeat apply Exists.intro); exact ⟨⟨k + 1, by omega, by go_num, B1⟩, rfl⟩)
      case measure => simp [intOf]; omega
    · obtain rfl : k = n := by omega
      go_wp2
      go_ret
      exact ⟨rfl, BK.out⟩
end Go.Proofs.YtejeikfgmiadhaaGreat.Pl9
