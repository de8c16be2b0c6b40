/- The model's sorted places. -/
import Derived.Test.YtknanaapaipoeaaSm
import Derived.Test.YtknanaapaipoeaaPls4
import Derived.Test.YtknanaapaipoeaaBk
import Derived.Laws.AppendOwn
import Derived.Deep.DeepCutAuto
import Derived.Deep.CutBlock
namespace Go.Proofs.Ytknanaapaipoeaa.So
open Go.RowKit Go.WideElems Go.Proofs.Ytknanaapaipoeaa.Mem Go.Proofs.Ytknanaapaipoeaa.Rw Go.Proofs.Ytknanaapaipoeaa.Bk Go.Proofs.Ytknanaapaipoeaa.Pw Go.Proofs.Ytknanaapaipoeaa.P2 Go.Proofs.Ytknanaapaipoeaa.Pls Go.Proofs.Ytknanaapaipoeaa.Sm Go.Proofs.Ytknanaapaipoeaa.Cp
set_option linter.unusedVariables false
set_option linter.unusedSimpArgs false

abbrev pc (x y : Int) : Array Value := #[.int .i64 x, .int .i64 y]
theorem pls_app : ∀ a b : List (Int × Int), pls (a ++ b) = pls a ++ pls b
  | [], b => rfl
  | p :: a, b => by rw [List.cons_append, pls_cons, pls_cons, pls_app a b]; rfl
theorem pls_take : ∀ (zs : List (Int × Int)) (m : Nat), (pls zs).take (m * 2) = pls (zs.take m)
  | [], m => by simp [pls]
  | p :: zs, 0 => by simp [pls]
  | p :: zs, m + 1 => by rw [List.take_succ_cons, pls_cons, pls_cons, show (m + 1) * 2 = m * 2 + 1 + 1 by omega, List.take_succ_cons, List.take_succ_cons, pls_take zs m]
theorem pls_drop : ∀ (zs : List (Int × Int)) (m : Nat), (pls zs).drop (m * 2) = pls (zs.drop m)
  | [], m => by simp [pls]
  | p :: zs, 0 => by simp
  | p :: zs, m + 1 => by rw [List.drop_succ_cons, pls_cons, show (m + 1) * 2 = m * 2 + 1 + 1 by omega, List.drop_succ_cons, List.drop_succ_cons, pls_drop zs m]
theorem pls_one {u : Value} {zs : List (Int × Int)} (h : u ∈ pls zs) : u.oneCell' = true := by
  unfold pls at h
  obtain ⟨p, _, h⟩ := List.mem_flatMap.1 h
  simp at h
  rcases h with rfl | rfl <;> rfl
/-- What a list of places of the call's own is. -/
def Row2 (w : World) (zs : List (Int × Int)) (e : Ending) (w' : World) : Prop :=
  ∃ g c, e = .returned (.slice (some ⟨g, 0, none⟩) zs.length c) ∧ w'.ownsRow w.heap.size 28 2 (.slice (some ⟨g, 0, none⟩) zs.length c) zs.length (pls zs) ∧ Below w.heap.size w w'
theorem addp (b off i : Nat) : (⟨b, off, none⟩ : Addr).add i = ⟨b, off + i, none⟩ := by
  unfold Addr.add
  split <;> simp_all
theorem own_mk2 {w : World} {base n : Nat} {e : TypeId} {s : Nat} {v : Value} {xs : List Value} (h : w.ownsRow base e s v n xs) (hn : 0 < n) : ∃ g c, v = .slice (some ⟨g, 0, none⟩) n c := by
  rcases h.2 with ⟨_, e⟩ | ⟨g, cap, cur, e, _⟩
  · omega
  · exact ⟨g, cap, e⟩
theorem own_base2 {w : World} {base n : Nat} {e : TypeId} {s : Nat} {v : Value} {xs : List Value} (h : w.ownsRow base e s v n xs) : ∀ k, v.ownBlock = some k → base ≤ k := fun k e => (h.lt k e).1
theorem own_capl {w : World} {base g n c : Nat} {e : TypeId} {s : Nat} {xs : List Value} (h : w.ownsRow base e s (.slice (some ⟨g, 0, none⟩) n c) n xs) : n ≤ c ∧ c ≤ maxLen := by
  rcases h.2 with ⟨e1, _⟩ | ⟨g', cap, cur, e1, _, _, e2, e3, _⟩
  · cases e1
  · injection e1 with e1 e4 e5; subst e5; exact ⟨e2, e3⟩

set_option maxRecDepth 100000 in
set_option maxHeartbeats 4000000 in
theorem sortS (A : Option Addr) (n c : Nat) (zs : List (Int × Int)) (w : World) (hn : zs.length = n) (hb : n ≤ 1048576) (hr : Rd w w.heap.size A (pls zs)) :
    Calls Try.prog 103 #[.slice A n c] w (Row2 w (srt zs)) := by
  obtain ⟨i0, hi, hz0, hz1, hz2⟩ := info_parts2 infoPlace
  have HR := Lib.hid hr
  have HN := Lib.hid hn
  have hu : undef = Value.tuple #[] := rfl
  have O1 := Lib.hid (World.ownsRow_lit (base := w.heap.size) (e := 28) (size := 2) w #[] 0 (Nat.le_refl _) (Nat.zero_le _) rfl)
  have B1 := Lib.hid (show Below w.heap.size w (w.alloc (.cells #[] 28)) from (Below.refl _ _).alloc (Nat.le_refl _) _)
  clear hr hn
  go_enter Try.func103, Try.ntmps103
  go_wp2_with fail
  go_loopw [3, 11] (fun v i wr => ∃ k q : Nat, k ≤ n ∧ i = .int .i64 k ∧ q ≤ n ∧ (∃ b d, v = .slice (some ⟨b, 0, none⟩) q d) ∧ Hid ((srt (zs.take k)).length = q) ∧ Hid (wr.ownsRow w.heap.size 28 2 v q (pls (srt (zs.take k)))) ∧ Hid (Below w.heap.size w wr)) (fun _ i _ => n - (intOf i).toNat)
  case atStart => exact ⟨0, 0, Nat.zero_le _, rfl, Nat.zero_le _, ⟨_, _, rfl⟩, Lib.hid rfl, O1, B1⟩
  case round =>
    clear O1 B1
    obtain ⟨k, q, hk, rfl, hqn, ⟨gr, cc, rfl⟩, QL, OK, BK⟩ := hrel
    by_cases hlt : k < n
    · obtain ⟨p, hp⟩ : ∃ p, zs[k]? = some p := ⟨_, List.getElem?_eq_getElem (by rw [HN.out]; exact hlt)⟩
      obtain ⟨p0, p1⟩ := pls_get hp
      obtain ⟨b1, o1, eA, hb1, g1⟩ := HR.out.get (k := k * 2) (by rw [pls_len, HN.out]; omega)
      have c1 : wr.cell? ⟨b1, o1 + k * 2, none⟩ = some (.int .i64 p.1) := (BK.out.cell (p := ⟨b1, o1 + k * 2, none⟩) hb1).trans (g1 _ _ p0)
      have c2 : wr.cell? ⟨b1, o1 + k * 2 + 1, none⟩ = some (.int .i64 p.2) := (BK.out.cell (p := ⟨b1, o1 + k * 2 + 1, none⟩) hb1).trans (g1 _ _ p1)
      have SN := Lib.hid (srt_take hp)
      have SL := Lib.hid (srt_len_take zs (k + 1))
      rw [SN.out, HN.out] at SL
      obtain ⟨ss, hss⟩ : ∃ ss, srt (zs.take k) = ss := ⟨_, rfl⟩
      rw [hss] at QL OK SN SL
      obtain ⟨x, y⟩ := p
      clear g1 hb1 p0 p1 hp hss
      subst eA
      have D1 := Lib.hid (Bk.new wr (pc x y) 28)
      have O2 := Lib.hid (OK.out.alloc (.cells (pc x y) 28))
      have B2 := Lib.hid (BK.out.alloc BK.out.size (.cells (pc x y) 28))
      have hgr : gr < wr.heap.size := (OK.out.lt gr rfl).2
      clear OK BK
      go_upto_block 2 with fail
      obtain ⟨wo, rfl⟩ : ∃ wo, wo = wr := ⟨_, rfl⟩
      go_cut [6] (fun v wx => ∃ a : Nat, v = .int .i64 a ∧ a ≤ q ∧ Hid (∀ (j : Nat) (r : Int × Int), j < a → ss[j]? = some r → lt2 r (x, y) = true) ∧ Hid (∀ r : Int × Int, ss[a]? = some r → lt2 r (x, y) = false) ∧ Hid (Bk wx wo.heap.size (pc x y) 28) ∧ Hid (wx.ownsRow w.heap.size 28 2 (.slice (some ⟨gr, 0, none⟩) q cc) q (pls ss)) ∧ Hid (Below w.heap.size w wx))
      case first =>
        go_wp2_with fail
        go_loopw [6] (fun v wr => ∃ a : Nat, v = .int .i64 a ∧ a ≤ q ∧ Hid (∀ (j : Nat) (r : Int × Int), j < a → ss[j]? = some r → lt2 r (x, y) = true) ∧ Hid (Bk wr wo.heap.size (pc x y) 28) ∧ Hid (wr.ownsRow w.heap.size 28 2 (.slice (some ⟨gr, 0, none⟩) q cc) q (pls ss)) ∧ Hid (Below w.heap.size w wr)) (fun v _ => q - (intOf v).toNat)
        case atStart => exact ⟨0, rfl, Nat.zero_le _, Lib.hid (fun _ _ h => absurd h (Nat.not_lt_zero _)), D1, O2, B2⟩
        case round =>
          clear D1 O2 B2
          obtain ⟨a, rfl, haq, LT, D, O, B⟩ := hrel
          by_cases hal : a < q
          · obtain ⟨⟨rx, ry⟩, hr⟩ : ∃ r, ss[a]? = some r := ⟨_, List.getElem?_eq_getElem (by rw [QL.out]; exact hal)⟩
            obtain ⟨r0, r1⟩ := pls_get hr
            have c3 : wr.cell? ⟨gr, a * 2, none⟩ = some (.int .i64 rx) := (O.out.cellAt (a * 2) (by omega)).trans r0
            have c4 : wr.cell? ⟨gr, a * 2 + 1, none⟩ = some (.int .i64 ry) := (O.out.cellAt (a * 2 + 1) (by omega)).trans r1
            have c5 := D.out.cell (i := 0) rfl
            have c6 := D.out.cell (i := 1) rfl
            have HR2 := Lib.hid hr
            clear hr r0 r1
            have C := Lib.hid (show ∀ (W : World) (m0 : W.cell? ⟨gr, a * 2, none⟩ = some (.int .i64 rx)) (m1 : W.cell? ⟨gr, a * 2 + 1, none⟩ = some (.int .i64 ry)) (m2 : W.cell? ⟨wo.heap.size, 0, none⟩ = some (.int .i64 x)) (m3 : W.cell? ⟨wo.heap.size, 1, none⟩ = some (.int .i64 y)), Calls Try.prog 109 #[.agg #[.int .i64 rx, .int .i64 ry], .agg #[.int .i64 x, .int .i64 y]] W (fun e w9 => e = .returned (.int .i64 (cpv rx ry x y)) ∧ Below W.heap.size W w9 ∧ w9.cell? ⟨gr, a * 2, none⟩ = some (.int .i64 rx) ∧ w9.cell? ⟨gr, a * 2 + 1, none⟩ = some (.int .i64 ry) ∧ w9.cell? ⟨wo.heap.size, 0, none⟩ = some (.int .i64 x) ∧ w9.cell? ⟨wo.heap.size, 1, none⟩ = some (.int .i64 y)) from fun W m0 m1 m2 m3 => (cmpS rx ry x y W).mono fun e w9 ⟨he, hb⟩ => ⟨he, hb, cell_below hb m0, cell_below hb m1, cell_below hb m2, cell_below hb m3⟩)
            have k0 : (0 : Int) ≤ (a : Int) := by omega
            have k1 : (a : Int) < (q : Int) := by omega
            have kd : decide ((a : Int) < (q : Int)) = true := decide_eq_true k1
            have l1 : gr < wr.heap.size := (O.out.lt gr rfl).2
            have l2 := D.out.lt
            have l3 : ∀ j, gr < wr.heap.size + j := fun j => by omega
            have l4 : ∀ j, wo.heap.size < wr.heap.size + j := fun j => by omega
            obtain ⟨cmp, hcmp⟩ : ∃ c, cpv rx ry x y = c := ⟨_, rfl⟩
            rw [hcmp] at C
            have HC := Lib.hid (show lt2 (rx, ry) (x, y) = decide (cmp < 0) by unfold lt2; rw [hcmp])
            clear hcmp
            by_cases hneg : cmp < 0
            · have t1 : decide (cmp < 0) = true := decide_eq_true hneg
              have LT2 := Lib.hid (show ∀ (j : Nat) (r : Int × Int), j < a + 1 → ss[j]? = some r → lt2 r (x, y) = true from fun j r hj hr => by
                by_cases e : j = a
                · subst e; rw [HR2.out] at hr; cases hr; rw [HC.out]; exact t1
                · exact LT.out j r (by omega) hr)
              clear hneg LT
              go_wp2_with fail
              go_region_held3 (fun w' => w'.cell? ⟨gr, a * 2, none⟩ = some (.int .i64 rx) ∧ w'.cell? ⟨gr, a * 2 + 1, none⟩ = some (.int .i64 ry) ∧ w'.cell? ⟨wo.heap.size, 0, none⟩ = some (.int .i64 x) ∧ w'.cell? ⟨wo.heap.size, 1, none⟩ = some (.int .i64 y)) (simp [go_sem, *])
                (first | (go_at_call 109; ((with_reducible refine (C.out _ ?_ ?_ ?_ ?_).mono ?_); (simp [*]); (simp [*]); (simp [*]); (simp [*]); rintro e u4 ⟨rfl, hb4, m4, m5, m6, m7⟩)))
              have hb : Below wr.heap.size wr u4 := (Below.refl wr.heap.size wr).drew.trans hb4
              have D3 := Lib.hid (D.out.below hb)
              have O3 := Lib.hid (Rw.owns_below O.out hb)
              have B3 := Lib.hid (B.out.trans (hb.mono B.out.size))
              clear hb hb4 m4 m5 m6 m7 D O B c3 c4 c5 c6 C l1 l2 l3 l4
              go_wp2_with fail
              go_roundw
              case rel => exact ⟨a + 1, by go_num, by omega, LT2, D3, O3, B3⟩
              case measure => simp [intOf]; omega
            · have t1 : decide (cmp < 0) = false := decide_eq_false hneg
              have GE := Lib.hid (show ∀ r : Int × Int, ss[a]? = some r → lt2 r (x, y) = false from fun r hr => by rw [HR2.out] at hr; cases hr; rw [HC.out]; exact t1)
              clear hneg
              go_wp2_with fail
              go_region_held3 (fun w' => w'.cell? ⟨gr, a * 2, none⟩ = some (.int .i64 rx) ∧ w'.cell? ⟨gr, a * 2 + 1, none⟩ = some (.int .i64 ry) ∧ w'.cell? ⟨wo.heap.size, 0, none⟩ = some (.int .i64 x) ∧ w'.cell? ⟨wo.heap.size, 1, none⟩ = some (.int .i64 y)) (simp [go_sem, *])
                (first | (go_at_call 109; ((with_reducible refine (C.out _ ?_ ?_ ?_ ?_).mono ?_); (simp [*]); (simp [*]); (simp [*]); (simp [*]); rintro e u4 ⟨rfl, hb4, m4, m5, m6, m7⟩)))
              have hb : Below wr.heap.size wr u4 := (Below.refl wr.heap.size wr).drew.trans hb4
              have D3 := Lib.hid (D.out.below hb)
              have O3 := Lib.hid (Rw.owns_below O.out hb)
              have B3 := Lib.hid (B.out.trans (hb.mono B.out.size))
              clear hb hb4 m4 m5 m6 m7 D O B c3 c4 c5 c6 C l1 l2 l3 l4
              go_wp2_with fail
              go_meet
              exact ⟨a, rfl, haq, LT, GE, D3, O3, B3⟩
          · obtain rfl : a = q := by omega
            have kd : decide ((a : Int) < (a : Int)) = false := decide_eq_false (by omega)
            have GE := Lib.hid (show ∀ r : Int × Int, ss[a]? = some r → lt2 r (x, y) = false from fun r hr => by rw [List.getElem?_eq_none (by rw [QL.out]; exact Nat.le_refl _)] at hr; cases hr)
            clear hal
            go_wp2_with fail
            go_quiet (fail)
            have D3 := Lib.hid (D.out.drewN nq)
            have O3 := Lib.hid (Rw.owns_below O.out (Mem.below_drewN (Below.refl _ _) nq))
            have B3 := Lib.hid (Mem.below_drewN B.out nq)
            go_wp2_with fail
            go_meet
            exact ⟨a, rfl, haq, LT, GE, D3, O3, B3⟩
      case rest =>
        clear D1 O2 B2 hgr
        obtain ⟨a, rfl, haq, LT, GE, D, O, B⟩ := hcut
        obtain ⟨wk, rfl⟩ : ∃ wk, wk = wc := ⟨_, rfl⟩
        have IN := Lib.hid (ins_at (p := (x, y)) (by rw [QL.out]; exact haq) LT.out GE.out)
        clear LT GE
        obtain ⟨cmp, hcmp⟩ : ∃ b : Bool, b = !decide (ss[a]? = some (x, y)) := ⟨_, rfl⟩
        have HC := Lib.hid hcmp
        clear hcmp
        go_upto_region 8 with fail
        go_cut [41] (fun v wx => v = .bool cmp ∧ ∃ m, wx = wk.drewN m)
        case first =>
          have c5 := D.out.cell (i := 0) rfl
          have c6 := D.out.cell (i := 1) rfl
          by_cases hal : a < q
          · obtain ⟨⟨rx, ry⟩, hr⟩ : ∃ r, ss[a]? = some r := ⟨_, List.getElem?_eq_getElem (by rw [QL.out]; exact hal)⟩
            obtain ⟨r0, r1⟩ := pls_get hr
            have c3 : wk.cell? ⟨gr, a * 2, none⟩ = some (.int .i64 rx) := (O.out.cellAt (a * 2) (by omega)).trans r0
            have c4 : wk.cell? ⟨gr, a * 2 + 1, none⟩ = some (.int .i64 ry) := (O.out.cellAt (a * 2 + 1) (by omega)).trans r1
            have kd : ((a : Int) == (q : Int)) = false := by simp; omega
            have k0 : (0 : Int) ≤ (a : Int) := by omega
            have k1 : (a : Int) < (q : Int) := by omega
            have he := HC.out
            rw [hr] at he
            by_cases e1 : rx = x
            · by_cases e2 : ry = y
              · subst e1 e2
                obtain rfl : cmp = false := by rw [he]; simp
                have t1 : (rx == rx) = true := by simp
                have t2 : (ry == ry) = true := by simp
                clear he hr r0 r1 hal
                go_wp2_with fail
                go_quiet (fail)
                go_wp2_with fail
                go_meet
                exact ⟨rfl, _, rfl⟩
              · obtain rfl : cmp = true := by rw [he]; simp [e2]
                subst e1
                have t1 : (rx == rx) = true := by simp
                have t2 : (ry == y) = false := by simpa using e2
                clear he hr r0 r1 hal e2
                go_wp2_with fail
                go_quiet (fail)
                go_wp2_with fail
                go_meet
                exact ⟨rfl, _, rfl⟩
            · obtain rfl : cmp = true := by rw [he]; simp [e1]
              have t1 : (rx == x) = false := by simpa using e1
              clear he hr r0 r1 hal e1
              go_wp2_with fail
              go_quiet (fail)
              go_wp2_with fail
              go_meet
              exact ⟨rfl, _, rfl⟩
          · obtain rfl : a = q := by omega
            have he := HC.out
            rw [List.getElem?_eq_none (by rw [QL.out]; exact Nat.le_refl _)] at he
            obtain rfl : cmp = true := by rw [he]; simp
            have kd : ((a : Int) == (a : Int)) = true := by simp
            clear he hal
            go_wp2_with fail
            go_quiet (fail)
            go_wp2_with fail
            go_meet
            exact ⟨rfl, _, rfl⟩
        case rest =>
          obtain ⟨rfl, m9, hm9⟩ := hcut
          have hb9 : Below wk.heap.size wk wc := hm9.symm ▸ Mem.below_drewN (Below.refl wk.heap.size wk) m9
          have D9 := Lib.hid (D.out.below hb9)
          have O9 := Lib.hid (Rw.owns_below O.out hb9)
          have B9 := Lib.hid (B.out.trans (hb9.mono B.out.size))
          clear hb9 hm9 D O B
          obtain ⟨wi, rfl⟩ : ∃ wi, wi = wc := ⟨_, rfl⟩
          cases cmp
          · have he := HC.out
            have IE := Lib.hid (show ins ss (x, y) = ss by rw [IN.out, if_pos (by simpa using he)])
            rw [IE.out] at SN
            rw [← SN.out] at O9 QL
            clear he IN IE HC D9
            go_wp2_with fail
            go_roundw
            case rel => exact ⟨k + 1, q, by omega, by go_num, hqn, ⟨_, _, rfl⟩, QL, O9, B9⟩
            case measure => simp [intOf]; omega
          · have he := HC.out
            have IE := Lib.hid (show ins ss (x, y) = ss.take a ++ (x, y) :: ss.drop a by rw [IN.out, if_neg (by simpa using he)])
            rw [IE.out] at SN SL
            have hcap := own_capl O9.out
            have hcc := hcap.1
            have hcm := hcap.2
            unfold maxLen at hcm
            have hgr := Lib.hid (O9.out.lt gr rfl).2
            have hdl := Lib.hid D9.out.lt
            have hql : q + 1 ≤ n := by
              have := SL.out
              rw [List.length_append, List.length_cons, List.length_take, List.length_drop, QL.out] at this
              omega
            have E0 := World.ownsRow_lit (base := wi.heap.size) (e := 28) (size := 2) wi #[] 0 (Nat.le_refl _) (Nat.zero_le _) rfl
            have N1 := Lib.hid (show ∀ (j : Nat) (u : Value), (pls (ss.take a))[j]? = some u → (wi.alloc (.cells #[] 28)).cell? ((⟨gr, 0, none⟩ : Addr).add j) = some u from fun j u hu => by
              have hj := (List.getElem?_eq_some_iff.1 hu).1
              rw [← pls_take, List.getElem?_take_of_lt (by rw [pls_len, List.length_take, QL.out] at hj; omega)] at hu
              rw [addp, Nat.zero_add]
              exact (O9.out.alloc (.cells #[] 28)).cellAt j (by rw [pls_len, List.length_take, QL.out] at hj; omega) |>.trans hu)
            clear he IN HC hcap
            go_wp2_with (at_builtin; refine wpList_append_own _ rfl _ _ 45 rfl wi.heap.size 28 i0 (.agg #[.int .i64 0, .int .i64 0]) 2 16 Try.underlying45 hi hz0 hz1 hz2 rfl (by decide) _ _ _ rfl E0 ⟨gr, 0, none⟩ a cc (pls (ss.take a)) rfl (by rw [pls_len, List.length_take, QL.out]; omega) N1.out (fun u hu => pls_one hu) (by unfold maxLen; omega) (by omega) (by simp) ?_)
            intro v7 w7 h7 hgrow hnil
            have h7 : w7.ownsRow wi.heap.size 28 2 v7 a (pls (ss.take a)) := by
              first
              | exact h7
              | (have h8 := h7; rw [Nat.zero_add] at h8; exact h8)
            have hgrow : (wi.alloc (.cells #[] 28)).grownBy w7 (some wi.heap.size) := hgrow
            have hs7 : wi.heap.size ≤ w7.heap.size := by have := hgrow.size; simp at this; omega
            have D7 := Lib.hid (Bk.grown (Bk.alloc D9.out (o := .cells #[] 28)) hgrow (by intro e; injection e with e; have := hdl.out; omega))
            have O7 := Lib.hid (owns_grown (O9.out.alloc (.cells #[] 28)) hgrow (fun k hk => by cases hk; intro e; have e : wi.heap.size = gr := Option.some.inj e; have := hgr.out; omega))
            have B7 := Lib.hid ((B9.out.alloc B9.out.size (.cells #[] 28)).grown hgrow (by have := B9.out.size; simp; omega) (fun j hj => by cases hj; exact B9.out.size))
            have H7 := Lib.hid h7
            have hown := h7.alloc
            have c5 : w7.cell? { block := wo.heap.size, off := 0 } = some (.int .i64 x) := D7.out.cell (i := 0) rfl
            have c6 : w7.cell? { block := wo.heap.size, off := 1 } = some (.int .i64 y) := D7.out.cell (i := 1) rfl
            clear hgrow hnil D9 O9 N1 E0 h7
            go_wp2_with (at_builtin; refine wpList_append_own _ rfl _ _ 45 rfl wi.heap.size 28 i0 (.agg #[.int .i64 0, .int .i64 0]) 2 16 Try.underlying45 hi hz0 hz1 hz2 rfl (by decide) _ _ _ rfl (hown _) ⟨w7.heap.size, 0, none⟩ 1 1 [.int .i64 x, .int .i64 y] rfl rfl (by intro j u hj; match j, hj with | 0, hj => (simp at hj; subst hj; simp [Addr.add]) | 1, hj => (simp at hj; subst hj; simp [Addr.add])) (by intro u hu; simp at hu; rcases hu with rfl | rfl <;> rfl) (by unfold maxLen; omega) (by omega) (by simp; omega) ?_)
            intro v8 w8 h8 hgrow hnil
            have NB := own_base2 H7.out
            have hs8 : wi.heap.size ≤ w8.heap.size := by have := hgrow.size; simp at this; omega
            have D8 := Lib.hid (Bk.grown (Bk.alloc D7.out (o := .cells #[.int .i64 x, .int .i64 y] 28)) hgrow (by intro e; have := NB _ e; have := hdl.out; omega))
            have O8 := Lib.hid (owns_grown (O7.out.alloc (.cells #[.int .i64 x, .int .i64 y] 28)) hgrow (fun k hk => by cases hk; intro e; have e := NB _ e; have e : wi.heap.size ≤ gr := e; have := hgr.out; omega))
            have B8 := Lib.hid ((B7.out.alloc B7.out.size (.cells #[.int .i64 x, .int .i64 y] 28)).grown hgrow (by have := B7.out.size; simp; omega) (fun j hj => Nat.le_trans B9.out.size (NB j hj)))
            have N2 := Lib.hid (show ∀ (j : Nat) (u : Value), (pls (ss.drop a))[j]? = some u → w8.cell? ((⟨gr, a * 2, none⟩ : Addr).add j) = some u from fun j u hu => by
              have hj := (List.getElem?_eq_some_iff.1 hu).1
              rw [← pls_drop, List.getElem?_drop] at hu
              rw [addp]
              exact O8.out.cellAt (a * 2 + j) (by rw [pls_len, List.length_drop, QL.out] at hj; omega) |>.trans hu)
            have H8 := Lib.hid h8
            clear hgrow hnil hown D7 O7 B7 H7 h8 c5 c6 NB
            have N3 := Lib.hid (show cc = a → pls (ss.drop a) = [] from fun e => List.eq_nil_of_length_eq_zero (by rw [pls_len, List.length_drop, QL.out]; omega))
            rcases Decidable.em (cc = a) with hac | hac
            case' inl =>
              have hac2 : a = cc := hac.symm
              subst hac2
              clear hac
              have hqa : q - a = 0 := by omega
              clear hcc
              go_wp2_with (at_builtin; refine wpList_append_own _ rfl _ _ 45 rfl wi.heap.size 28 i0 (.agg #[.int .i64 0, .int .i64 0]) 2 16 Try.underlying45 hi hz0 hz1 hz2 rfl (by decide) _ _ _ rfl H8.out ⟨gr, 0, none⟩ _ _ [] rfl (by simp) (fun j u hu => by simp at hu) (fun u hu => by simp at hu) (by unfold maxLen; omega) (by omega) hs8 ?_)
            case' inr => go_wp2_with (at_builtin; refine wpList_append_own _ rfl _ _ 45 rfl wi.heap.size 28 i0 (.agg #[.int .i64 0, .int .i64 0]) 2 16 Try.underlying45 hi hz0 hz1 hz2 rfl (by decide) _ _ _ rfl H8.out ⟨gr, a * 2, none⟩ (q - a) _ (pls (ss.drop a)) rfl (by rw [pls_len, List.length_drop, QL.out]) N2.out (fun u hu => pls_one hu) (by unfold maxLen; omega) (by omega) hs8 ?_)
            all_goals (
              intro v9 w9 h9 hgrow hnil
              have NB := own_base2 H8.out
              have B10 := Lib.hid (B8.out.grown hgrow B8.out.size (fun j hj => Nat.le_trans B9.out.size (NB j hj)))
              have el : pls (ss.take a) ++ [.int .i64 x, .int .i64 y] ++ pls (ss.drop a) = pls (ss.take a ++ (x, y) :: ss.drop a) := by rw [pls_app, pls_cons, List.append_assoc]; rfl
              replace h9 : w9.ownsRow wi.heap.size 28 2 v9 (q + 1) (pls (srt (zs.take (k + 1)))) := by
                rw [SN.out, ← el, show q + 1 = a + 1 + (q - a) by omega]
                first
                | exact h9
                | (simp only [List.append_assoc, List.cons_append, List.nil_append] at h9 ⊢; exact h9)
                | (rw [N3.out (by first | rfl | trivial), show q - a = 0 by omega]; simp only [List.append_assoc, List.cons_append, List.nil_append, List.append_nil, Nat.add_zero] at h9 ⊢; exact h9)
              have hbb := Lib.hid B9.out.size
              obtain ⟨g5, c5, rfl⟩ := own_mk2 h9 (by omega)
              have O10 := Lib.hid (owns_base h9 (Nat.le_trans hbb.out (own_base2 h9 g5 rfl)))
              have QN := Lib.hid (show (srt (zs.take (k + 1))).length = q + 1 by
                rw [SN.out, List.length_append, List.length_cons, List.length_take, List.length_drop, QL.out]; omega)
              clear hgrow hnil D8 O8 B8 H8 h9 NB N2 N3 el B9 QL SN IE SL
              go_wp2_with fail
              go_roundw
              case rel => exact ⟨k + 1, q + 1, by omega, by go_num, hql, ⟨_, _, rfl⟩, QN, O10, B10⟩
              case measure => simp [intOf]; omega)
    · obtain rfl : k = n := by omega
      have F := Lib.hid (show srt (zs.take k) = srt zs by rw [← HN.out, List.take_length])
      rw [F.out] at QL OK
      go_wp2_with fail
      go_ret
      refine ⟨gr, cc, ?_, ?_, BK.out⟩
      · rw [QL.out]; rfl
      · rw [QL.out]; exact OK.out

end Go.Proofs.Ytknanaapaipoeaa.So
