/- slices.DeleteFunc at drops that are told. -/
import Derived.Test.YtejeikfgmiadhaaGreatPl9
import Derived.Test.YtejeikfgmiadhaaGreatLy
import Derived.Lib.SliceRun
import Derived.Deep.RegionLaw
import Derived.Deep.DeepCutAuto
import Derived.Deep.RegionHeld3
import Derived.Deep.MidRow
namespace Go.Proofs.YtejeikfgmiadhaaGreat.Dg9
open Go.RowKit Go.ChangeShapes Go.WideShapes Go.WideElems Go.Deep Go.Proofs.YtejeikfgmiadhaaGreat.Mem Go.Proofs.YtejeikfgmiadhaaGreat.Rw Go.Proofs.YtejeikfgmiadhaaGreat.P2 Go.Proofs.YtejeikfgmiadhaaGreat.Bk
open Go.Proofs.YtejeikfgmiadhaaGreat.Ly (layL layL_len layL_get owns_lay owns_fewer owns_cap)
open Go.Proofs.YtejeikfgmiadhaaGreat.Pd9 (P)
open Go.Proofs.YtejeikfgmiadhaaGreat.Pl9 (dc pls pls_len dc_len)
set_option linter.unusedVariables false
set_option linter.unusedSimpArgs false

abbrev va (u : P) : Value := .agg #[.string u.nm, .int .i64 u.b, .int .i64 u.x, .int .i64 u.y, .int .i64 u.h]
abbrev ca (u : P) : Array Value := #[.string u.nm, .int .i64 u.b, .int .i64 u.x, .int .i64 u.y, .int .i64 u.h]
theorem cO {w : World} {base g n c k : Nat} {us : List P} {u : P} (o : w.ownsRow base 69 5 (.slice (some ⟨g, 0, none⟩) n c) n (pls us)) (h : us[k]? = some u) (hk : k < n) :
    w.cell? ⟨g, k * 5, none⟩ = some (.string u.nm) ∧ w.cell? ⟨g, k * 5 + 1, none⟩ = some (.int .i64 u.b) ∧ w.cell? ⟨g, k * 5 + 2, none⟩ = some (.int .i64 u.x) ∧ w.cell? ⟨g, k * 5 + 3, none⟩ = some (.int .i64 u.y) ∧ w.cell? ⟨g, k * 5 + 4, none⟩ = some (.int .i64 u.h) :=
  ⟨(o.cellAt (k * 5) (by omega)).trans ((flat_get dc_len h 0 (by omega)).trans rfl), (o.cellAt (k * 5 + 1) (by omega)).trans ((flat_get dc_len h 1 (by omega)).trans rfl), (o.cellAt (k * 5 + 2) (by omega)).trans ((flat_get dc_len h 2 (by omega)).trans rfl), (o.cellAt (k * 5 + 3) (by omega)).trans ((flat_get dc_len h 3 (by omega)).trans rfl), (o.cellAt (k * 5 + 4) (by omega)).trans ((flat_get dc_len h 4 (by omega)).trans rfl)⟩
theorem ls_app (xs ys : List P) : pls (xs ++ ys) = pls xs ++ pls ys := by unfold pls; rw [List.flatMap_append]
theorem ls_part {zs : List P} {k : Nat} (h : k ≤ zs.length) : pls (zs.take k) = (pls zs).take (k * 5) ∧ pls (zs.drop k) = (pls zs).drop (k * 5) := by
  have e : pls zs = pls (zs.take k) ++ pls (zs.drop k) := by rw [← ls_app, List.take_append_drop]
  have l : (pls (zs.take k)).length = k * 5 := by rw [pls_len, List.length_take]; omega
  rw [e, ← l]
  exact ⟨(List.take_left).symm, (List.drop_left).symm⟩
theorem lay_set {zs : List P} {k : Nat} {u : P} (h : k < zs.length) : layL (pls zs) (k * 5) (dc u) = pls (zs.set k u) := by
  have l0 := pls_len zs
  have l2 : (pls (zs.take k)).length = k * 5 := by rw [pls_len, List.length_take]; omega
  have lu : (dc u).length = 5 := rfl
  rw [List.set_eq_take_append_cons_drop, if_pos h, ls_app]
  show _ = pls (zs.take k) ++ (dc u ++ pls (zs.drop (k + 1)))
  apply List.ext_getElem?
  intro t
  rw [layL_get _ _ _ (by rw [lu, l0]; omega)]
  by_cases c1 : t < k * 5
  · rw [if_pos c1, List.getElem?_append_left (by omega), (ls_part (by omega)).1, List.getElem?_take, if_pos c1]
  · rw [if_neg c1, List.getElem?_append_right (by omega), l2]
    by_cases c2 : t < k * 5 + 5
    · rw [if_pos (by rw [lu]; exact c2), List.getElem?_append_left (by rw [lu]; omega)]
    · rw [if_neg (by rw [lu]; exact c2), List.getElem?_append_right (by rw [lu]; omega), lu, (ls_part (by omega)).2, List.getElem?_drop]
      congr 1; omega
theorem take_set {α : Type} {zs : List α} {i : Nat} {v : α} (h : i < zs.length) : (zs.set i v).take (i + 1) = zs.take i ++ [v] := by
  rw [List.take_succ_eq_append_getElem (by rw [List.length_set]; exact h), List.getElem_set_self, List.take_set, List.set_eq_of_length_le (by rw [List.length_take]; omega)]
theorem drop_next {α : Type} {zs ts : List α} {j : Nat} (h : zs.drop j = ts.drop j) : zs.drop (j + 1) = ts.drop (j + 1) := by
  rw [← List.drop_drop, ← List.drop_drop, h]
theorem keep_yes {α : Type} {zs ts : List α} {i j : Nat} {v : α} {p : α → Bool} (hi : i < zs.length) (h1 : zs.take i = (ts.take j).filter p) (h2 : zs.drop j = ts.drop j) (hij : i < j) (hv : ts[j]? = some v) (hp : p v = true) :
    (zs.set i v).take (i + 1) = (ts.take (j + 1)).filter p ∧ (zs.set i v).drop (j + 1) = ts.drop (j + 1) := by
  obtain ⟨hj, rfl⟩ := List.getElem?_eq_some_iff.1 hv
  refine ⟨?_, ?_⟩
  · rw [take_set hi, h1, List.take_succ_eq_append_getElem hj, List.filter_append]
    simp [hp]
  · rw [List.drop_set_of_lt (by omega)]; exact drop_next h2
theorem keep_no {α : Type} {zs ts : List α} {i j : Nat} {v : α} {p : α → Bool} (h1 : zs.take i = (ts.take j).filter p) (h2 : zs.drop j = ts.drop j) (hv : ts[j]? = some v) (hp : p v = false) :
    zs.take i = (ts.take (j + 1)).filter p ∧ zs.drop (j + 1) = ts.drop (j + 1) := by
  obtain ⟨hj, rfl⟩ := List.getElem?_eq_some_iff.1 hv
  refine ⟨?_, drop_next h2⟩
  rw [h1, List.take_succ_eq_append_getElem hj, List.filter_append]
  simp [hp]
theorem at_of {α : Type} {zs ts : List α} {j : Nat} {v : α} (h : zs.drop j = ts.drop j) (hv : ts[j]? = some v) : zs[j]? = some v := by
  have h1 := congrArg (fun l => l[0]?) h
  simp only [List.getElem?_drop, Nat.add_zero] at h1
  rw [h1]; exact hv
theorem first_none {α : Type} {ts : List α} {p : α → Bool} (h : ∀ v ∈ ts, p v = false) : ts.filter (fun v => !p v) = ts := List.filter_eq_self.2 fun v hv => by rw [h v hv]; rfl
theorem first_some {α : Type} {ts : List α} {p : α → Bool} {k : Nat} {u : α} (hu : ts[k]? = some u) (hp : p u = true) (h : ∀ j v, j < k → ts[j]? = some v → p v = false) : ts.take k = (ts.take (k + 1)).filter (fun v => !p v) := by
  obtain ⟨hk, rfl⟩ := List.getElem?_eq_some_iff.1 hu
  rw [List.take_succ_eq_append_getElem hk, List.filter_append]
  rw [first_none (ts := ts.take k) (fun v hv => by
    obtain ⟨j, hj, rfl⟩ := List.getElem_of_mem hv
    rw [List.length_take] at hj
    exact h j _ (by omega) (by rw [List.getElem_take]; exact List.getElem?_eq_getElem (by omega)))]
  simp [hp]
theorem there_row {w : World} {base g n c : Nat} {xs : List Value} (o : w.ownsRow base 69 5 (.slice (some ⟨g, 0, none⟩) n c) n xs) {k : Nat} (hk : k < n) : w.there g (k * 5) 5 := by
  intro j hj
  refine ⟨?_, o.frozenAt _⟩
  have hl := o.1
  rw [o.cellAt _ (by omega), List.getElem?_eq_getElem (by rw [hl]; omega)]; rfl
theorem store_here {ops : Array Oper} {rest : List Oper} {a : Act} {w : World} {Q : Exit → Act → World → Prop} {x y : Operand} {t : TypeId} {pos : String} {aft : Array Edge} (g i : Nat) (cells : Array Value) (hx : a.eval x = .pointer (some ⟨g, i, none⟩)) (hy : a.eval y = .agg cells)
    (ht : w.there g i cells.size) (hi : (Tryz.prog.info? 69).map (·.size) = some cells.size) (h1 : cells.all (·.oneCell') = true) (h : wpList Tryz.prog ops Q rest (a.put none undef) (w.setCells g i cells.toList)) :
    wpList Tryz.prog ops Q ({ dst := none, op := .store 69 x y, type := t, pos := pos, after := aft, guard := none } :: rest) a w :=
  wpList_store_mid rfl 69 x y rfl g i cells hx hy ht hi h1 h

set_option maxRecDepth 100000 in
set_option maxHeartbeats 4000000 in
theorem index (p : P → Bool) (pb base g n c : Nat) (ts : List P) (w : World) (hn : ts.length = n) (hb : n ≤ 1048576) (hB : base ≤ w.heap.size) (ho : w.ownsRow base 69 5 (.slice (some ⟨g, 0, none⟩) n c) n (pls ts))
    (hcl : ∀ (W : World) (u : P), Below base w W → u ∈ ts → Calls Tryz.prog 64 #[va u, .pointer (some ⟨pb, 0, none⟩)] W fun e w' => e = .returned (.bool (p u)) ∧ Below W.heap.size W w') :
    Calls Tryz.prog 103 #[.slice (some ⟨g, 0, none⟩) n c, .func (.func 64) #[] #[.pointer (some ⟨pb, 0, none⟩)]] w fun e w' => ∃ r : Int, e = .returned (.int .i64 r) ∧ ((r = -1 ∧ ∀ u ∈ ts, p u = false) ∨ ∃ (k : Nat) (u : P), r = (k : Int) ∧ ts[k]? = some u ∧ p u = true ∧ ∀ j v, j < k → ts[j]? = some v → p v = false) ∧ Below w.heap.size w w' := by
  have HN := Lib.hid hn
  have HO := Lib.hid ho
  have HC := Lib.hid hcl
  have L0 := Lib.hid (show ∀ j v, j < 0 → ts[j]? = some v → p v = false from fun j v h => by omega)
  clear hn ho hcl
  go_enter Tryz.func103, Tryz.ntmps103
  go_wp2_with fail
  go_loopw [8] (fun i wr => ∃ k : Nat, k ≤ n ∧ i = .int .i64 k ∧ Hid (∀ j v, j < k → ts[j]? = some v → p v = false) ∧ Hid (Below w.heap.size w wr)) (fun i _ => n - (intOf i).toNat)
  case atStart => exact ⟨0, Nat.zero_le _, rfl, L0, Lib.hid (Below.refl _ _)⟩
  case round =>
    obtain ⟨k, hk, rfl, LK, BK⟩ := hrel
    clear L0
    by_cases hlt : k < n
    · obtain ⟨u, hu⟩ : ∃ u, ts[k]? = some u := ⟨_, List.getElem?_eq_getElem (by rw [HN.out]; exact hlt)⟩
      obtain ⟨x0, x1, x2, x3, x4⟩ := cO (owns_below HO.out BK.out) hu hlt
      have HU := Lib.hid hu
      obtain ⟨b, hb9⟩ : ∃ b, p u = b := ⟨_, rfl⟩
      have CC := Lib.hid (HC.out wr u (BK.out.mono hB) (List.mem_of_getElem? hu))
      rw [hb9] at CC
      have HP := Lib.hid hb9
      clear hu hb9
      go_wp2_with fail
      refine CC.out.mono ?_
      rintro e w1 ⟨rfl, hb1⟩
      have B1 := Lib.hid (BK.out.trans (hb1.mono BK.out.size))
      clear hb1 CC BK x0 x1 x2 x3 x4
      cases b
      · have LN := Lib.hid (show ∀ j v, j < k + 1 → ts[j]? = some v → p v = false from fun j v hj hv => by
          by_cases e : j = k
          · subst e; rw [HU.out] at hv; cases hv; exact HP.out
          · exact LK.out j v (by omega) hv)
        clear LK HU HP
        go_wp2_with fail
        go_roundw
        case rel => exact ⟨k + 1, by omega, by go_num, LN, B1⟩
        case measure => simp [intOf]; omega
      · go_wp2_with fail
        go_ret
        exact ⟨_, rfl, Or.inr ⟨k, u, rfl, HU.out, HP.out, LK.out⟩, B1.out⟩
    · obtain rfl : n = k := by omega
      go_wp2_with fail
      go_ret
      refine ⟨_, rfl, Or.inl ⟨rfl, fun u hu => ?_⟩, BK.out⟩
      obtain ⟨j, hj, rfl⟩ := List.getElem_of_mem hu
      exact LK.out j _ (by rw [← HN.out]; exact hj) (List.getElem?_eq_getElem hj)

set_option maxRecDepth 100000 in
set_option maxHeartbeats 4000000 in
theorem delete (p : P → Bool) (pb base g n c : Nat) (ts : List P) (w : World) (hn : ts.length = n) (hb : n ≤ 1048576) (hB : base ≤ w.heap.size) (ho : w.ownsRow base 69 5 (.slice (some ⟨g, 0, none⟩) n c) n (pls ts))
    (hcl : ∀ (W : World) (u : P), Below base w W → u ∈ ts → Calls Tryz.prog 64 #[va u, .pointer (some ⟨pb, 0, none⟩)] W fun e w' => e = .returned (.bool (p u)) ∧ Below W.heap.size W w') :
    Calls Tryz.prog 63 #[.slice (some ⟨g, 0, none⟩) n c, .func (.func 64) #[] #[.pointer (some ⟨pb, 0, none⟩)]] w fun e w' => ∃ q c' : Nat, e = .returned (.slice (some ⟨g, 0, none⟩) q c') ∧ (ts.filter (fun v => !p v)).length = q ∧ w'.ownsRow base 69 5 (.slice (some ⟨g, 0, none⟩) q c') q (pls (ts.filter (fun v => !p v))) ∧ Below base w w' := by
  obtain ⟨hc1, hc2⟩ := owns_cap ho
  unfold maxLen at hc2
  have hgb : base ≤ g := (ho.lt g rfl).1
  have HN := Lib.hid hn
  have HO := Lib.hid ho
  have HC := Lib.hid hcl
  have CI := Lib.hid (index p pb base g n c ts w hn hb hB ho hcl)
  clear hn ho hcl
  go_enter Tryz.func63, Tryz.ntmps63
  go_wp2_with fail
  refine CI.out.mono ?_
  rintro e w1 ⟨r, rfl, hr, hb1⟩
  have B1 := Lib.hid (hb1.mono hB)
  have O1 := Lib.hid (owns_below HO.out hb1)
  have hs1 : base ≤ w1.heap.size := Nat.le_trans hB hb1.size
  clear hb1 CI HO
  rcases hr with ⟨rfl, hall⟩ | ⟨k0, u0, rfl, hu0, hp0, hbef⟩
  · have HE := Lib.hid (first_none hall)
    clear hall
    go_wp2_with fail
    go_ret
    exact ⟨n, c, rfl, by rw [HE.out]; exact HN.out, by rw [HE.out]; exact O1.out, B1.out⟩
  have hk0 : k0 < n := by have := (List.getElem?_eq_some_iff.1 hu0).1; have := HN.out; omega
  have T1 := Lib.hid (first_some hu0 hp0 hbef)
  have hm1 : ¬ ((k0 : Int) = -1) := by omega
  clear hu0 hp0 hbef
  go_wp2_with fail
  go_loopw [5, 6] (fun iv jv wr => ∃ (i j : Nat) (ys : List P), i < j ∧ j ≤ n ∧ iv = .int .i64 i ∧ jv = .int .i64 j ∧ Hid (ys.length = n ∧ ys.take i = (ts.take j).filter (fun v => !p v) ∧ ys.drop j = ts.drop j) ∧ Hid (wr.ownsRow base 69 5 (.slice (some ⟨g, 0, none⟩) n c) n (pls ys)) ∧ Hid (Below base w wr)) (fun _ jv _ => n - (intOf jv).toNat)
  case atStart => exact ⟨k0, k0 + 1, ts, by omega, by omega, rfl, by go_num, Lib.hid ⟨HN.out, T1.out, rfl⟩, O1, B1⟩
  case round =>
    obtain ⟨i, j, ys, hij, hj, rfl, rfl, HY, OK, BK⟩ := hrel
    clear T1 O1 B1 hk0 hm1
    by_cases hlt : j < n
    · obtain ⟨v, hv⟩ : ∃ v, ts[j]? = some v := ⟨_, List.getElem?_eq_getElem (by rw [HN.out]; exact hlt)⟩
      obtain ⟨x0, x1, x2, x3, x4⟩ := cO OK.out (at_of HY.out.2.2 hv) hlt
      have HV := Lib.hid hv
      obtain ⟨b, hb9⟩ : ∃ b, p v = b := ⟨_, rfl⟩
      have CC := Lib.hid (fun (W : World) (h : Below base w W) => HC.out W v h (List.mem_of_getElem? hv))
      rw [hb9] at CC
      have HP := Lib.hid hb9
      have hws : base ≤ wr.heap.size := Nat.le_trans hB BK.out.size
      have B2 := Lib.hid (BK.out.alloc hws (.cells (ca v) 69))
      have O2 := Lib.hid (OK.out.alloc (.cells (ca v) 69))
      have KU := Lib.hid (Bk.new wr (ca v) 69)
      have hgw : g < wr.heap.size := (OK.out.lt g rfl).2
      clear hv hb9 OK BK
      go_wp2_with fail
      refine (CC.out _ B2.out).mono ?_
      rintro e w2 ⟨rfl, hb2⟩
      have B3 := Lib.hid (B2.out.trans (hb2.mono (Nat.le_trans hB B2.out.size)))
      have O3 := Lib.hid (owns_below O2.out hb2)
      have KV := Lib.hid (KU.out.below hb2)
      clear hb2 B2 O2 KU CC hws x0 x1 x2 x3 x4
      cases b
      · have y0 := KV.out.cell (i := 0) rfl
        have y1 := KV.out.cell (i := 1) rfl
        have y2 := KV.out.cell (i := 2) rfl
        have y3 := KV.out.cell (i := 3) rfl
        have y4 := KV.out.cell (i := 4) rfl
        have TH := there_row O3.out (k := i) (by omega)
        have HI : (Tryz.prog.info? 69).map (·.size) = some 5 := by kernel_rfl
        have KN := Lib.hid (keep_yes (p := fun v => !p v) (by rw [HY.out.1]; omega) HY.out.2.1 HY.out.2.2 hij HV.out (by rw [HP.out]; rfl))
        have HL := HY.out.1
        obtain ⟨o4, g4⟩ := owns_lay (dc v) (i * 5) _ _ O3.out
        rw [lay_set (by omega)] at o4
        have O4 := Lib.hid o4
        have B4 := Lib.hid (B3.out.grown g4 (Nat.le_trans hB B3.out.size) (fun k hk => by have hk := Option.some.inj hk; omega))
        have KL := Lib.hid (show (ys.set i v).length = n by rw [List.length_set]; exact HY.out.1)
        have hii : (i : Int) < (n : Int) := by omega
        clear HL o4 g4 O3 B3 KV HP HV
        go_wp2_with (refine store_here g (i * 5) (ca v) ?_ ?_ ?_ ?_ ?_ ?_)
        · rfl
        · rfl
        · exact TH
        · exact HI
        · simp [ca, Value.oneCell']
        go_roundw
        case rel => first | exact ⟨i + 1, j + 1, ys.set i v, by omega, by omega, by go_num, by go_num, Lib.hid ⟨KL.out, KN.out.1, KN.out.2⟩, O4, B4⟩ | ((repeat apply Exists.intro); exact ⟨⟨i + 1, j + 1, ys.set i v, by omega, by omega, by go_num, by go_num, Lib.hid ⟨KL.out, KN.out.1, KN.out.2⟩, O4, B4⟩, rfl⟩)
        case measure => simp [intOf]; omega
      · have KN := Lib.hid (keep_no (p := fun v => !p v) HY.out.2.1 HY.out.2.2 HV.out (by rw [HP.out]; rfl))
        have KL := Lib.hid HY.out.1
        clear HY HP HV KV
        go_wp2_with fail
        go_roundw
        case rel => first | exact ⟨i, j + 1, ys, by omega, by omega, rfl, by go_num, Lib.hid ⟨KL.out, KN.out.1, KN.out.2⟩, O3, B3⟩ | ((repeat apply Exists.intro); exact ⟨⟨i, j + 1, ys, by omega, by omega, rfl, by go_num, Lib.hid ⟨KL.out, KN.out.1, KN.out.2⟩, O3, B3⟩, rfl⟩)
        case measure => simp [intOf]; omega
    · obtain rfl : n = j := by omega
      have HF := Lib.hid (show ys.take i = ts.filter (fun v => !p v) by have := HY.out.2.1; rw [List.take_of_length_le (l := ts) (by rw [HN.out]; exact Nat.le_refl _)] at this; exact this)
      have hyl := HY.out.1
      obtain ⟨zl, hzl⟩ : ∃ zl, (Builtin.zeroCells (#[.string ⟨#[]⟩, .int .i64 0, .int .i64 0, .int .i64 0, .int .i64 0] : Array Value) (n - i)).toList = zl := ⟨_, rfl⟩
      have hzn : zl.length = (n - i) * 5 := by rw [← hzl]; simp [Builtin.zeroCells]
      have hz1 : ∀ u ∈ zl, u.oneCell' = true := by
        intro u hu
        rw [← hzl] at hu
        simp only [Builtin.zeroCells, Array.toList_map, List.mem_map] at hu
        obtain ⟨a, _, rfl⟩ := hu
        have ha : a % 5 < 5 := Nat.mod_lt _ (by omega)
        show ((#[.string ⟨#[]⟩, .int .i64 0, .int .i64 0, .int .i64 0, .int .i64 0] : Array Value)[a % 5]!).oneCell' = true
        generalize a % 5 = q at ha
        match q, ha with
        | 0, _ => rfl
        | 1, _ => rfl
        | 2, _ => rfl
        | 3, _ => rfl
        | 4, _ => rfl
      have hcl : ∀ ty, (Builtin.clear_ #[28] ty #[.slice (some ⟨g, i * 5, none⟩) (n - i) (c - i)]).run Tryz.prog wr = .ok (.tuple #[]) (wr.setCells g (i * 5) zl) := by
        intro ty
        have hst := run_storeCells_cells (P := Tryz.prog) g (i * 5) zl 0 wr (fun k hk => by rw [hzn] at hk; rw [Nat.add_zero, OK.out.cellAt _ (by omega), List.getElem?_eq_getElem (by rw [pls_len]; omega)]; rfl) (fun k hk => OK.out.frozenAt _) hz1
        have hzv : ∀ w, (zeroValue 69).run Tryz.prog w = .ok (.agg (#[.string ⟨#[]⟩, .int .i64 0, .int .i64 0, .int .i64 0, .int .i64 0] : Array Value)) w := by
          intro w
          have h30 : Tryz.t69.zero = some (.agg (#[.string ⟨#[]⟩, .int .i64 0, .int .i64 0, .int .i64 0, .int .i64 0] : Array Value)) := by kernel_rfl
          simp [zeroValue, h30]
        obtain ⟨d, hd⟩ : ∃ d, n - i = d + 1 := ⟨n - i - 1, by omega⟩
        simp only [Nat.add_zero] at hst
        rw [hd] at hzl ⊢
        simp [Builtin.clear_, run_underlying Tryz.underlying28, hzv, Value.cells, hzl, hst]
      obtain ⟨o5, g5⟩ := owns_lay zl (i * 5) _ _ OK.out
      have o6 := owns_fewer o5 (m := i) (by omega)
      rw [show (layL (pls ys) (i * 5) zl).take (i * 5) = pls (ts.filter (fun v => !p v)) from by
        rw [← HF.out, (ls_part (by omega)).1]
        apply List.ext_getElem?
        intro t
        rw [List.getElem?_take, List.getElem?_take]
        by_cases c : t < i * 5
        · rw [if_pos c, if_pos c, layL_get _ _ _ (by rw [hzn, pls_len]; omega), if_pos c]
        · rw [if_neg c, if_neg c]] at o6
      have O6 := Lib.hid o6
      have B6 := Lib.hid (BK.out.grown g5 (Nat.le_trans hB BK.out.size) (fun k hk => by have hk := Option.some.inj hk; omega))
      have QL := Lib.hid (show (ts.filter (fun v => !p v)).length = i by rw [← HF.out, List.length_take]; omega)
      have hii : (i : Int) ≤ (n : Int) := by omega
      have hic : i ≤ c := by omega
      have hnc : (n : Int) ≤ c := by omega
      have hne : ¬ c = i := by omega
      have hii2 : i ≤ n := by omega
      clear o5 g5 o6 hzl hzn hz1 HY HF OK BK hyl
      go_wp2_with (at_builtin; rw [hcl])
      go_ret
      exact ⟨i, c, rfl, QL.out, O6.out, B6.out⟩
end Go.Proofs.YtejeikfgmiadhaaGreat.Dg9
